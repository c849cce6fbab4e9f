import Derived.Test.YtfmbifocgljieaaGreatDoorJ13
import Derived.Test.YtfmbifocgljieaaGreatDoorJ8
import Derived.Test.YtfmbifocgljieaaGreatDoorJ9
import Derived.Test.YtfmbifocgljieaaGreatDoorJ11
import Derived.Test.YtfmbifocgljieaaGreatDoorJ10
import Derived.Test.YtfmbifocgljieaaGreatDoorJ12
import Derived.Laws.Cover1
import Derived.Deep.RegionLaw
import Derived.Deep.LoopGhost
namespace Go.Proofs.YtfmbifocgljieaaGreatDoor
open Go.RowKit Go.Shelf
set_option maxRecDepth 20000
set_option maxHeartbeats 0
theorem clsof_32 (b : Nat) (hb : b < 2 * 2147483648) (w : World) :
    Calls Tryz.prog 18 #[.int .i64 32, U b] w fun en w' => en = .returned (.tuple #[.int .i64 (clsN 8388608 2139095040 (b % 2147483648)), .int .i64 0]) ∧ Below w.heap.size w w' := by
  have hbw : Below w.heap.size w w := Below.refl _ _
  obtain ⟨z, hz⟩ : ∃ z : Nat, z = b % 2147483648 := ⟨_, rfl⟩
  obtain ⟨s, hs⟩ : ∃ s, s = decide (2147483648 ≤ b) := ⟨_, rfl⟩
  obtain ⟨c, hc⟩ : ∃ c, c = clsN 8388608 2139095040 z := ⟨_, rfl⟩
  have HPT : Hid (∀ w, Calls Tryz.prog 41 #[.int .i64 32, U b] w fun e w' => e = .returned (.tuple #[PV 32 24 (-149) s z, .int .i64 0]) ∧ Below w.heap.size w w') := by rw [hz, hs]; exact fun w => fm_32.pat b w hb
  rw [← hz, ← hc]
  have HC : Hid (clsN 8388608 2139095040 z = c) := hc.symm
  clear hz hs hc hb
  go_enter Tryz.func18, Tryz.ntmps18
  go_wp2_with fail
  refine (HPT.out _).mono ?_
  rintro e v1 ⟨rfl, hb1⟩
  replace hbw := Below.on hbw hb1
  clear hb1
  go_wp2_with fail
  have Xp0 : Hid (B5q (v1.alloc (.cells #[.int .i64 32, .int .i64 24, .int .i64 (-149), .bool s, U z] 78)) v1.heap.size (.int .i64 32) (.int .i64 24) (.int .i64 (-149)) (.bool s) (U z)) := B5q.new v1 _ _ _ _ _ _
  have hbn : Below v1.heap.size v1 (v1.alloc (.cells #[.int .i64 32, .int .i64 24, .int .i64 (-149), .bool s, U z] 78)) := below1 v1 _
  generalize v1.alloc (.cells #[.int .i64 32, .int .i64 24, .int .i64 (-149), .bool s, U z] 78) = Wp at *
  have HGp : Hid (w.heap.size ≤ v1.heap.size) := hbw.size
  replace hbw := Below.on hbw hbn
  clear hbn
  generalize v1.heap.size = gp at *
  have Xp := Xp0
  clear Xp0
  refine (class_32 rfl s z _).mono ?_
  rintro e2 v2 ⟨rfl, hb2⟩
  rw [HC.out]
  replace Xp : Hid _ := Xp.out.below hb2
  replace hbw := Below.on hbw hb2
  clear hb2
  go_wp2_with fail
  go_ret2
  exact ⟨rfl, hbw⟩
theorem clsof_64 (b : Nat) (hb : b < 2 * 9223372036854775808) (w : World) :
    Calls Tryz.prog 18 #[.int .i64 64, U b] w fun en w' => en = .returned (.tuple #[.int .i64 (clsN 4503599627370496 9218868437227405312 (b % 9223372036854775808)), .int .i64 0]) ∧ Below w.heap.size w w' := by
  have hbw : Below w.heap.size w w := Below.refl _ _
  obtain ⟨z, hz⟩ : ∃ z : Nat, z = b % 9223372036854775808 := ⟨_, rfl⟩
  obtain ⟨s, hs⟩ : ∃ s, s = decide (9223372036854775808 ≤ b) := ⟨_, rfl⟩
  obtain ⟨c, hc⟩ : ∃ c, c = clsN 4503599627370496 9218868437227405312 z := ⟨_, rfl⟩
  have HPT : Hid (∀ w, Calls Tryz.prog 41 #[.int .i64 64, U b] w fun e w' => e = .returned (.tuple #[PV 64 53 (-1074) s z, .int .i64 0]) ∧ Below w.heap.size w w') := by rw [hz, hs]; exact fun w => fm_64.pat b w hb
  rw [← hz, ← hc]
  have HC : Hid (clsN 4503599627370496 9218868437227405312 z = c) := hc.symm
  clear hz hs hc hb
  go_enter Tryz.func18, Tryz.ntmps18
  go_wp2_with fail
  refine (HPT.out _).mono ?_
  rintro e v1 ⟨rfl, hb1⟩
  replace hbw := Below.on hbw hb1
  clear hb1
  go_wp2_with fail
  have Xp0 : Hid (B5q (v1.alloc (.cells #[.int .i64 64, .int .i64 53, .int .i64 (-1074), .bool s, U z] 78)) v1.heap.size (.int .i64 64) (.int .i64 53) (.int .i64 (-1074)) (.bool s) (U z)) := B5q.new v1 _ _ _ _ _ _
  have hbn : Below v1.heap.size v1 (v1.alloc (.cells #[.int .i64 64, .int .i64 53, .int .i64 (-1074), .bool s, U z] 78)) := below1 v1 _
  generalize v1.alloc (.cells #[.int .i64 64, .int .i64 53, .int .i64 (-1074), .bool s, U z] 78) = Wp at *
  have HGp : Hid (w.heap.size ≤ v1.heap.size) := hbw.size
  replace hbw := Below.on hbw hbn
  clear hbn
  generalize v1.heap.size = gp at *
  have Xp := Xp0
  clear Xp0
  refine (class_64 rfl s z _).mono ?_
  rintro e2 v2 ⟨rfl, hb2⟩
  rw [HC.out]
  replace Xp : Hid _ := Xp.out.below hb2
  replace hbw := Below.on hbw hb2
  clear hb2
  go_wp2_with fail
  go_ret2
  exact ⟨rfl, hbw⟩
theorem vs_next {H : Nat} (hH : 0 < H) (s : Nat) : vs H (s + 1) = vs H s + 2 ^ (s / H - 1) := by
  have h1 := Nat.div_add_mod s H
  have h2 := Nat.mod_lt s hH
  have h3 := Nat.div_add_mod (s + 1) H
  have h4 := Nat.mod_lt (s + 1) hH
  have h5 : s / H ≤ (s + 1) / H := Nat.div_le_div_right (by omega)
  have h6 : (s + 1) / H ≤ s / H + 1 := by
    have : (s + 1) / H ≤ (s + H) / H := Nat.div_le_div_right (by omega)
    rw [Nat.add_div_right _ hH] at this
    exact this
  unfold vs
  by_cases h7 : (s + 1) / H = s / H
  · rw [h7]
    have hq : (s / H - 1) * H ≤ s := by
      rw [Nat.sub_mul, Nat.mul_comm]; omega
    rw [show s + 1 - (s / H - 1) * H = s - (s / H - 1) * H + 1 from by omega, Nat.add_mul, Nat.one_mul]
  · have h8 : (s + 1) / H = s / H + 1 := by omega
    rw [h8, Nat.add_sub_cancel]
    rw [h8, Nat.mul_add, Nat.mul_one] at h3
    obtain ⟨k, hk⟩ : ∃ k, k = s / H := ⟨_, rfl⟩
    rw [← hk] at h1 h3 ⊢
    obtain ⟨y, hy⟩ : ∃ y, y = H * k := ⟨_, rfl⟩
    rw [← hy] at h1 h3
    rw [Nat.mul_comm k H, ← hy]
    by_cases h9 : k = 0
    · subst h9
      have : y = 0 := by rw [hy]; simp
      simp
      omega
    · obtain ⟨j, rfl⟩ : ∃ j, k = j + 1 := ⟨k - 1, by omega⟩
      rw [Nat.add_sub_cancel, Nat.pow_succ]
      have hj : j * H + H = y := by rw [hy, Nat.mul_comm H, Nat.add_mul, Nat.one_mul]
      have e1 : s + 1 - y = H := by omega
      have e2 : s - j * H = 2 * H - 1 := by omega
      rw [e1, e2, Nat.mul_comm (2 ^ j) 2, ← Nat.mul_assoc, Nat.sub_mul, Nat.one_mul, Nat.mul_comm H 2]
      have : 1 * 2 ^ j ≤ 2 * H * 2 ^ j := Nat.mul_le_mul_right _ (by omega)
      omega
theorem mid_ok {f p m l : Int} {S I H : Nat} (F : Pm f p m l S I H) (b mn : Nat) (ex : Int) (hb : b < 2 * S) (hr : b % S < I) (hmn : mn = 2 * (b % S - (b % S / H - 1) * H) + 1) (hex : ex = l + ((b % S / H - 1 : Nat) : Int) - 1) (w : World) (hT : Tab w) :
    Calls Tryz.prog 25 #[.int .i64 f, U b] w fun en w' => MakeP w.heap.size w' en (iv (decide (S ≤ b)) mn) ex ∧ Below w.heap.size w w' := by
  have HF : Hid (Pm f p m l S I H) := F
  have TB : Hid (Tab w) := hT
  have HR : Hid (b < 2 * S ∧ b % S < I) := ⟨hb, hr⟩
  have hst := F.st _ hr
  have hlo := F.lo
  have h9 := F.h9
  have hp := F.hp
  obtain ⟨q, hq⟩ : ∃ q, q = b % S / H - 1 := ⟨_, rfl⟩
  have hmn2 : b % S - q * H < 2 * H := by
    have h1 := Nat.div_add_mod (b % S) H
    have h2 := Nat.mod_lt (b % S) hp
    rw [Nat.mul_comm] at h1
    by_cases h3 : b % S / H = 0
    · rw [h3] at h1; omega
    · rw [hq, Nat.sub_mul]; omega
  obtain ⟨man, hman⟩ : ∃ man, man = b % S - q * H := ⟨_, rfl⟩
  obtain ⟨e0, he0⟩ : ∃ e0 : Int, e0 = l + (q : Int) := ⟨_, rfl⟩
  obtain ⟨s, hs⟩ : ∃ s, s = decide (S ≤ b) := ⟨_, rfl⟩
  rw [← hq, ← hman] at hmn
  rw [← hq, ← he0] at hex
  rw [← hman] at hmn2
  rw [← hs]
  have HX : Hid (b % S - (b % S / H - 1) * H = man ∧ (l + ((b % S / H - 1 : Nat) : Int)) = e0 ∧ decide (S ≤ b) = s) := ⟨by rw [← hq]; exact hman.symm, by rw [← hq]; exact he0.symm, hs.symm⟩
  have HM : Hid (mn < B64 ∧ (-3145728 ≤ ex ∧ ex ≤ 3145728) ∧ 0 < mn) := ⟨by rw [B64_eq]; omega, by omega, by omega⟩
  obtain ⟨dm, hdm⟩ : ∃ dm : Nat, dm = 2 * man := ⟨_, rfl⟩
  have k1 : IntKind.u64.wrap (2 * (man : Int)) = (dm : Int) := by rw [IntKind.wrap_u64]; omega
  have k2 : IntKind.u64.wrap ((dm : Int) + 1) = (mn : Int) := by rw [IntKind.wrap_u64]; omega
  have k3 : IntKind.i64.wrap (e0 - 1) = ex := by rw [hex]; simp [IntKind.wrap, IntKind.signed, IntKind.bits]; omega
  have k4 : wrap64 (e0 - 1) = ex := by rw [hex]; simp only [wrap64]; omega
  clear F hb hr hT hst hlo h9 hp hmn hmn2 hman he0 hs hq hex hdm
  go_enter Tryz.func25, Tryz.ntmps25
  go_wp2_with fail
  obtain ⟨W0, hW0⟩ : ∃ W0, W0 = (w.alloc (.cells #[.bool false, .slice none 0 0, .int .i64 0] 33)) := ⟨_, rfl⟩
  have Xr : Hid (B3q W0 (w.heap.size) (.bool false) (.slice none 0 0) (.int .i64 0)) := by rw [hW0]; exact ⟨by go_simp, by go_simp, by go_simp, by go_simp, by go_simp, by go_simp⟩
  have hb0 : Below w.heap.size w W0 := by rw [hW0]; exact below1 w _
  rw [← hW0]
  clear hW0
  have hbw : Below w.heap.size w w := Below.refl _ _
  obtain ⟨gr, hgr⟩ : ∃ g, g = w.heap.size := ⟨_, rfl⟩
  have HGr : Hid (w.heap.size ≤ gr) := by rw [hgr]; show _ ≤ _; omega
  rw [← hgr] at Xr
  try rw [← hgr]
  clear hgr
  replace hbw := Below.on hbw hb0
  clear hb0
  refine (split_ok HF.out b HR.out.1 HR.out.2 _).mono ?_
  rintro e v1 ⟨rfl, hb1⟩
  rw [HX.out.1, HX.out.2.1, HX.out.2.2]
  replace Xr : Hid _ := Xr.out.below hb1
  replace hbw := Below.on hbw hb1
  clear hb1
  go_wp2_with fail
  refine (word_any mn _ HM.out.1).mono ?_
  rintro e2 v2 ⟨p2, m2, z2, rfl, ho2, hn2, hm2, hb2⟩
  replace Xr : Hid _ := Xr.out.below hb2
  replace hbw := Below.on hbw hb2
  clear hb2
  have Z2 : Hid (ZN v2 s p2 m2 m2 (iv s mn)) := ZN.of (Num.of ho2 hn2 (by omega)) (fun _ => HM.out.2.2)
  clear ho2 hn2 hm2
  go_wp2_with fail
  have HRL : Hid (gr < v2.heap.size ∧ w.heap.size ≤ v2.heap.size) := ⟨Xr.out.lt, hbw.size⟩
  refine (makep Z2.out HM.out.2.1 (TB.out.below hbw)).mono ?_
  rintro e2 v6 ⟨hv, hb6⟩
  obtain ⟨s6, p6, m6, eo, er, rfl, hmp⟩ := hv.open
  clear hv
  replace Xr : Hid _ := Xr.out.below hb6
  replace Z2 : Hid _ := Z2.out.below hb6
  replace hbw := Below.on hbw hb6
  clear hb6
  have M6 : Hid (MP v2.heap.size v6 s6 p6 m6 eo er (iv s mn) (ex)) := hmp
  clear hmp
  obtain ⟨cr0, cr1, cr2, fr0, fr1, fr2⟩ := Xr.out
  have hner : gr < v6.heap.size := World.block_lt_of_cell? v6 _ cr0
  go_wp2_with fail
  refine bodyPost_ret (v := .tuple #[DV s6 p6 m6 m6 eo, .int .i64 er]) (by rw [results_cell_tmp rfl]; go_simp) rfl ⟨(M6.out.set HRL.out.1 HRL.out.2 _ _ _).close, ?_⟩
  exact bSet (bSet (bSet hbw _ _ _ HGr.out) _ _ _ HGr.out) _ _ _ HGr.out
theorem dv_lt {x y : Int} (e : Int) (h : x < y) : dv x e < dv y e := by
  have h1 : (0 : Int) < ((2 ^ (e + 4194304).toNat : Nat) : Int) := by have := Nat.pow_pos (n := (e + 4194304).toNat) (show 0 < 2 by omega); omega
  exact Int.mul_lt_mul_of_pos_right h h1
def neN (a d : Nat) : Nat := a / d + (neUp a d).toNat
theorem neN_mul (a d c : Nat) (hc : 0 < c) : neN (a * c) (d * c) = neN a d := by
  have h1 : a * c / (d * c) = a / d := Nat.mul_div_mul_right _ _ hc
  have h2 : a * c % (d * c) = a % d * c := Nat.mul_mod_mul_right _ _ _
  have h3 : decide (d * c < 2 * (a % d * c)) = decide (d < 2 * (a % d)) := by
    rw [← Nat.mul_assoc]
    exact decide_eq_decide.2 (Nat.mul_lt_mul_right hc)
  have h4 : decide (2 * (a % d * c) = d * c) = decide (2 * (a % d) = d) := by
    rw [← Nat.mul_assoc]
    exact decide_eq_decide.2 (Nat.mul_right_cancel_iff hc)
  unfold neN neUp
  rw [h1, h2, h3, h4]
theorem neN_ex (a d : Nat) (hd : 0 < d) : neN (a * d) d = a := by
  unfold neN neUp
  rw [Nat.mul_div_cancel _ hd, Nat.mul_mod_left]
  have h1 : decide (d < 2 * 0) = false := decide_eq_false (by omega)
  have h2 : decide (2 * 0 = d) = false := decide_eq_false (by omega)
  rw [h1, h2]
  rfl
def hv (H z : Nat) : Nat := 2 * vs H z + 2 ^ (z / H - 1)
theorem hv_gt (H z : Nat) : 2 * vs H z < hv H z := by
  unfold hv
  have : 0 < 2 ^ (z / H - 1) := Nat.pow_pos (by omega)
  omega
theorem hv_lt {H : Nat} (hH : 0 < H) (z : Nat) : hv H z < 2 * vs H (z + 1) := by
  have : 0 < 2 ^ (z / H - 1) := Nat.pow_pos (by omega)
  rw [vs_next hH]
  unfold hv
  omega
theorem vs_le {H : Nat} (hH : 0 < H) {s t : Nat} (h : s ≤ t) : vs H s ≤ vs H t := by
  rcases Nat.lt_or_eq_of_le h with h1 | h1
  · exact Nat.le_of_lt (vs_mono hH h1)
  · rw [h1]; exact Nat.le_refl _
structure RNz (H : Nat) (l : Int) (I : Nat) (A : Int) (Z : Nat) : Prop where
  le : Z ≤ I
  lo : ∀ z, z < I → A < dv (hv H z : Int) (l - 1) → Z ≤ z
  hi : ∀ z, z < I → dv (hv H z : Int) (l - 1) < A → z < Z
  eq : ∀ z, z < I → A = dv (hv H z : Int) (l - 1) → (Z = z ∨ Z = z + 1) ∧ Z % 2 = 0
theorem RNz.mono {H : Nat} {l : Int} {I : Nat} {A B : Int} {Z Y : Nat} (h : RNz H l I A Z) (k : RNz H l I B Y) (hAB : A ≤ B) : Z ≤ Y := by
  refine Nat.le_of_not_lt fun hlt => ?_
  have hY : Y < I := Nat.lt_of_lt_of_le hlt h.le
  have hz : ∀ x : Int, x = dv (hv H Y : Int) (l - 1) → False := fun x hx => by
    rcases Int.lt_trichotomy B x with h1 | h1 | h1
    · have := h.lo Y hY (by omega); omega
    · have h2 := k.eq Y hY (by omega)
      rcases Int.lt_or_eq_of_le hAB with h3 | h3
      · have := h.lo Y hY (by omega); omega
      · have h4 := h.eq Y hY (by omega)
        omega
    · have := k.hi Y hY (by omega); omega
  exact hz _ rfl
theorem RNz.uniq {H : Nat} {l : Int} {I : Nat} {A : Int} {Z Y : Nat} (h : RNz H l I A Z) (k : RNz H l I A Y) : Z = Y :=
  Nat.le_antisymm (h.mono k (Int.le_refl _)) (k.mono h (Int.le_refl _))
def rnz (l : Int) (sd : Nat) (Be : Int) (I m : Nat) (e : Int) : Nat :=
  if Be ≤ e + bitsN m - 1 then I
  else ((max (e + bitsN m - 1 - sd) l - l).toNat) * 2 ^ sd +
    (if e < max (e + bitsN m - 1 - sd) l then neN m (2 ^ (max (e + bitsN m - 1 - sd) l - e).toNat) else m * 2 ^ (e - max (e + bitsN m - 1 - sd) l).toNat)
theorem dv_lt_iff {x y : Int} (e : Int) : dv x e < dv y e ↔ x < y := by
  refine ⟨fun h => ?_, dv_lt e⟩
  rcases Int.lt_or_le x y with h1 | h1
  · exact h1
  · have := dv_le e h1; omega
theorem nat_pow_split {a b c : Nat} (h : a + b = c) : 2 ^ a * 2 ^ b = 2 ^ c := by rw [← Nat.pow_add, h]
theorem rnz_ok {l : Int} {sd : Nat} {Be : Int} {I m : Nat} {e : Int} (hI : (I : Int) = (Be - l - sd + 1) * ((2 ^ sd : Nat) : Int)) (hsd : 1 ≤ sd) (hBe : 0 < Be - l - sd) (hl : -4194303 ≤ l) (hm : m ≠ 0) (he : -4194304 ≤ e) :
    RNz (2 ^ sd) l I (dv m e) (rnz l sd Be I m e) := by
  obtain ⟨H, hH⟩ : ∃ H, H = 2 ^ sd := ⟨_, rfl⟩
  have hHp : 0 < H := by rw [hH]; exact Nat.pow_pos (by omega)
  have hH2 : H % 2 = 0 := by
    obtain ⟨k, rfl⟩ : ∃ k, sd = k + 1 := ⟨sd - 1, by omega⟩
    rw [hH, Nat.pow_succ]; omega
  obtain ⟨t, ht⟩ : ∃ t : Int, t = min e (l - 1) := ⟨_, rfl⟩
  have hB1 := bitsN_lt m
  have hB2 := bitsN_le m hm
  have hB0 : 1 ≤ bitsN m := by unfold bitsN; rw [if_neg hm]; omega
  obtain ⟨L, hL⟩ : ∃ L, L = bitsN m := ⟨_, rfl⟩
  obtain ⟨A, hA⟩ : ∃ A, A = m * 2 ^ (e - t).toNat := ⟨_, rfl⟩
  obtain ⟨K, hK⟩ : ∃ K, K = 2 ^ (l - 1 - t).toNat := ⟨_, rfl⟩
  have hKp : 0 < K := by rw [hK]; exact Nat.pow_pos (by omega)
  have eA : dv m e = dv (A : Int) t := by
    have := dv_shift (z := (m : Int)) (e := e) (f := t) (by omega) (by omega)
    rw [this, hA, Int.natCast_mul]
  have eM : ∀ z : Nat, dv (hv H z : Int) (l - 1) = dv ((hv H z * K : Nat) : Int) t := fun z => by
    have := dv_shift (z := (hv H z : Int)) (e := l - 1) (f := t) (by omega) (by omega)
    rw [this, hK, Int.natCast_mul]
  have key : ∀ Z : Nat, Z ≤ I → (∀ z, z < I → (A < hv H z * K → Z ≤ z) ∧ (hv H z * K < A → z < Z) ∧ (A = hv H z * K → (Z = z ∨ Z = z + 1) ∧ Z % 2 = 0)) → RNz H l I (dv m e) Z := fun Z h1 h2 =>
    ⟨h1, fun z hz h => (h2 z hz).1 (by rw [eA, eM, dv_lt_iff] at h; omega), fun z hz h => (h2 z hz).2.1 (by rw [eA, eM, dv_lt_iff] at h; omega), fun z hz h => (h2 z hz).2.2 (by
      rw [eA, eM] at h
      rcases Nat.lt_trichotomy A (hv H z * K) with h3 | h3 | h3
      · have := dv_lt t (Int.ofNat_lt.2 h3); omega
      · exact h3
      · have := dv_lt t (Int.ofNat_lt.2 h3); omega)⟩
  obtain ⟨N, hN⟩ : ∃ N : Nat, (N : Int) = Be - l - sd := ⟨(Be - l - sd).toNat, by omega⟩
  have hIN : I = (N + 1) * H := by
    rw [← hN, ← hH] at hI
    exact Int.ofNat.inj (by rw [Int.ofNat_eq_natCast, hI, Int.ofNat_eq_natCast, Int.natCast_mul]; rfl)
  rw [← hH]
  unfold rnz
  rw [← hL, ← hH]
  rw [← hL] at hB1 hB2 hB0
  by_cases htop : Be ≤ e + L - 1
  · rw [if_pos htop]
    refine key I (Nat.le_refl _) fun z hz => ?_
    have h1 : hv H z * K < A := by
      have h2 := hv_lt hHp z
      have h3 := vs_le hHp (show z + 1 ≤ I from hz)
      have h4 : vs H I = H * 2 ^ N := by
        unfold vs
        rw [hIN, Nat.mul_div_cancel _ hHp, Nat.add_sub_cancel, Nat.add_mul, Nat.one_mul, Nat.add_sub_cancel_left]
      have h5 : hv H z < 2 * (H * 2 ^ N) := by omega
      have h6 : hv H z * K < 2 * (H * 2 ^ N) * K := Nat.mul_lt_mul_of_pos_right h5 hKp
      have h7 : 2 * (H * 2 ^ N) * K = 2 ^ (Be - t).toNat := by
        rw [hH, hK, nat_pow_split (rfl : sd + N = sd + N), ← Nat.pow_succ', nat_pow_split rfl]
        congr 1
        omega
      have h8 : 2 ^ (Be - t).toNat ≤ A := by
        rw [hA]
        have h9 : 2 ^ (L - 1) * 2 ^ (e - t).toNat ≤ m * 2 ^ (e - t).toNat := Nat.mul_le_mul_right _ hB2
        rw [nat_pow_split rfl] at h9
        exact Nat.le_trans (Nat.pow_le_pow_right (by omega) (by omega)) h9
      omega
    exact ⟨fun h => by omega, fun _ => hz, fun h => by omega⟩
  · rw [if_neg htop]
    obtain ⟨u, hu⟩ : ∃ u : Int, u = max (e + L - 1 - sd) l := ⟨_, rfl⟩
    rw [← hu]
    obtain ⟨q, hq⟩ : ∃ q, q = (u - l).toNat := ⟨_, rfl⟩
    rw [← hq]
    obtain ⟨D, hD⟩ : ∃ D, D = 2 ^ (u - t).toNat := ⟨_, rfl⟩
    have hDp : 0 < D := by rw [hD]; exact Nat.pow_pos (by omega)
    have hDK : D = 2 * (2 ^ q * K) := by
      rw [hD, hK, nat_pow_split rfl, ← Nat.pow_succ']
      congr 1
      omega
    have hz0 : (if e < u then neN m (2 ^ (u - e).toNat) else m * 2 ^ (e - u).toNat) = neN A D := by
      by_cases heu : e < u
      · rw [if_pos heu, hA, hD, ← neN_mul m (2 ^ (u - e).toNat) (2 ^ (e - t).toNat) (Nat.pow_pos (by omega)), nat_pow_split (a := (u - e).toNat) rfl]
        congr 2
        omega
      · rw [if_neg heu, ← neN_ex (m * 2 ^ (e - u).toNat) D hDp, hA, hD, Nat.mul_assoc, nat_pow_split (a := (e - u).toNat) rfl]
        congr 3
        omega
    rw [hz0]
    obtain ⟨y, hy⟩ : ∃ y, y = A / D := ⟨_, rfl⟩
    obtain ⟨r, hr⟩ : ∃ r, r = A % D := ⟨_, rfl⟩
    have hAyr : D * y + r = A := by rw [hy, hr]; exact Nat.div_add_mod A D
    have hrD : r < D := by rw [hr]; exact Nat.mod_lt _ hDp
    have hAlt : A < 2 * H * D := by
      have h1 : A < 2 ^ L * 2 ^ (e - t).toNat := by rw [hA]; exact Nat.mul_lt_mul_of_pos_right hB1 (Nat.pow_pos (by omega))
      rw [nat_pow_split rfl] at h1
      refine Nat.lt_of_lt_of_le h1 ?_
      rw [hH, hD, ← Nat.pow_succ', nat_pow_split rfl]
      exact Nat.pow_le_pow_right (by omega) (by omega)
    have hy2 : y < 2 * H := by rw [hy]; exact Nat.div_lt_of_lt_mul (by rw [Nat.mul_comm]; exact hAlt)
    have hyH : q ≠ 0 → H ≤ y := by
      intro hq0
      rw [hy]
      refine (Nat.le_div_iff_mul_le hDp).2 ?_
      have h9 : 2 ^ (L - 1) * 2 ^ (e - t).toNat ≤ A := by rw [hA]; exact Nat.mul_le_mul_right _ hB2
      rw [nat_pow_split rfl] at h9
      refine Nat.le_trans ?_ h9
      rw [hH, hD, nat_pow_split rfl]
      exact Nat.pow_le_pow_right (by omega) (by omega)
    obtain ⟨zf, hzf⟩ : ∃ zf, zf = q * H + y := ⟨_, rfl⟩
    have hzq : zf / H - 1 = q := by
      have h1 : zf / H = q + y / H := by rw [hzf, Nat.mul_comm, Nat.mul_add_div hHp]
      rw [h1]
      have h3 : y / H < 2 := Nat.div_lt_of_lt_mul (by omega)
      by_cases hq0 : q = 0
      · omega
      · have h2 : 1 ≤ y / H := (Nat.le_div_iff_mul_le hHp).2 (by have := hyH hq0; omega)
        omega
    have hvz : vs H zf = y * 2 ^ q := by unfold vs; rw [hzq, hzf, Nat.add_sub_cancel_left]
    have hvn : vs H (zf + 1) = (y + 1) * 2 ^ q := by rw [vs_next hHp, hvz, hzq, Nat.add_mul, Nat.one_mul]
    have hqN : q < N := by omega
    have hzI : zf < I := by
      have h1 : (q + 2) * H ≤ (N + 1) * H := Nat.mul_le_mul_right _ (by omega)
      rw [Nat.add_mul] at h1
      omega
    have hDy : 2 * (y * 2 ^ q) * K = D * y := by
      rw [hDK, Nat.mul_comm y, Nat.mul_assoc, Nat.mul_assoc, Nat.mul_assoc, Nat.mul_assoc, Nat.mul_comm y K]
    have hDy1 : 2 * ((y + 1) * 2 ^ q) * K = D * y + D := by
      rw [hDK, Nat.mul_comm (y + 1), Nat.mul_assoc, Nat.mul_assoc, Nat.mul_comm (y + 1) K, ← Nat.mul_succ, Nat.mul_assoc, Nat.mul_assoc]
    have hmid : 2 * (hv H zf * K) = 2 * (D * y) + D := by
      have h1 : hv H zf = 2 * (y * 2 ^ q) + 2 ^ q := by unfold hv; rw [hvz, hzq]
      rw [h1, Nat.add_mul, hDy, Nat.mul_add, ← hDK]
    have hne : neN A D = y + (decide (D < 2 * r) || (decide (2 * r = D) && decide (y % 2 = 1))).toNat := by
      unfold neN neUp
      rw [← hy, ← hr]
    rw [hne]
    obtain ⟨b, hb⟩ : ∃ b, b = (decide (D < 2 * r) || (decide (2 * r = D) && decide (y % 2 = 1))).toNat := ⟨_, rfl⟩
    rw [← hb]
    have hb1 : b ≤ 1 := by rw [hb]; exact Bool.toNat_le _
    have hbl : 2 * r < D → b = 0 := fun h => by
      rw [hb, decide_eq_false (show ¬ D < 2 * r by omega), decide_eq_false (show ¬ 2 * r = D by omega)]; rfl
    have hbg : D < 2 * r → b = 1 := fun h => by rw [hb, decide_eq_true h]; rfl
    have hbe : 2 * r = D → b = y % 2 := fun h => by
      rw [hb, decide_eq_false (show ¬ D < 2 * r by omega), decide_eq_true h]
      rcases Nat.mod_two_eq_zero_or_one y with h1 | h1 <;> rw [h1] <;> rfl
    have hpar : (q * H + (y + b)) % 2 = (y + b) % 2 := by
      have : q * H % 2 = 0 := by rw [Nat.mul_mod, hH2]; simp
      omega
    refine key _ (by omega) fun z hz => ?_
    rcases Nat.lt_trichotomy z zf with h1 | h1 | h1
    · have h2 := hv_lt hHp z
      have h3 := vs_le hHp (show z + 1 ≤ zf from h1)
      have h4 : hv H z < 2 * (y * 2 ^ q) := by rw [← hvz]; omega
      have h5 : hv H z * K < 2 * (y * 2 ^ q) * K := Nat.mul_lt_mul_of_pos_right h4 hKp
      exact ⟨fun h => by omega, fun _ => by omega, fun h => by omega⟩
    · subst h1
      exact ⟨fun h => by have := hbl (by omega); omega, fun h => by have := hbg (by omega); omega, fun h => by have := hbe (by omega); omega⟩
    · have h2 := hv_gt H z
      have h3 := vs_le hHp (show zf + 1 ≤ z from h1)
      have h4 : 2 * ((y + 1) * 2 ^ q) < hv H z := by rw [← hvn]; omega
      have h5 : 2 * ((y + 1) * 2 ^ q) * K < hv H z * K := Nat.mul_lt_mul_of_pos_right h4 hKp
      exact ⟨fun _ => by omega, fun h => by omega, fun h => by omega⟩
theorem RNz.exact {H : Nat} {l : Int} {I Z : Nat} (hH : 0 < H) (hl : -4194303 ≤ l) (hZ : Z ≤ I) : RNz H l I (dv (vs H Z) l) Z := by
  have e1 : dv (vs H Z : Int) l = dv ((2 * vs H Z : Nat) : Int) (l - 1) := by
    have := dv_up (x := (vs H Z : Int)) (e := l - 1) 1 (by omega)
    rw [show l - 1 + ((1 : Nat) : Int) = l from by omega] at this
    rw [this, Nat.mul_comm, Int.natCast_mul]
  have low : ∀ z, z < Z → dv (hv H z : Int) (l - 1) < dv (vs H Z) l := fun z hz => by
    rw [e1]
    have h1 := hv_lt hH z
    have h2 := vs_le hH (show z + 1 ≤ Z from hz)
    exact dv_lt _ (by omega)
  have high : ∀ z, Z ≤ z → dv (vs H Z) l < dv (hv H z : Int) (l - 1) := fun z hz => by
    rw [e1]
    have h1 := hv_gt H z
    have h2 := vs_le hH hz
    exact dv_lt _ (by omega)
  refine ⟨hZ, fun z _ h => ?_, fun z _ h => ?_, fun z _ h => ?_⟩
  · refine Nat.le_of_not_lt fun h2 => ?_
    have := low z h2; omega
  · refine Nat.lt_of_not_le fun h2 => ?_
    have := high z h2; omega
  · rcases Nat.lt_or_ge z Z with h2 | h2
    · have := low z h2; omega
    · have := high z h2; omega
def Trc (s : Nat → Int) (I Z : Nat) : Prop := Z ≤ I ∧ ∀ z, z < I → (s z < 0 → Z ≤ z) ∧ (0 < s z → z < Z) ∧ (s z = 0 → (Z = z ∨ Z = z + 1) ∧ Z % 2 = 0)
theorem Trc.le {s : Nat → Int} {I Z Y : Nat} (h : Trc s I Z) (k : Trc s I Y) : Z ≤ Y := by
  refine Nat.le_of_not_lt fun hlt => ?_
  have hY : Y < I := Nat.lt_of_lt_of_le hlt h.1
  obtain ⟨h1, h2, h3⟩ := h.2 Y hY
  obtain ⟨k1, k2, k3⟩ := k.2 Y hY
  rcases Int.lt_trichotomy (s Y) 0 with e | e | e
  · have := h1 e; omega
  · have := h3 e; have := k3 e; omega
  · have := k2 e; omega
theorem Trc.uniq {s : Nat → Int} {I Z Y : Nat} (h : Trc s I Z) (k : Trc s I Y) : Z = Y := Nat.le_antisymm (h.le k) (k.le h)
theorem cmpN_lt0 (a b : Nat) : cmpN a b < 0 ↔ a < b := cmpN_neg a b
theorem cmpN_gt0 (a b : Nat) : 0 < cmpN a b ↔ b < a := by
  rcases Nat.lt_trichotomy a b with h | h | h
  · rw [cmpN_lt h]; omega
  · rw [cmpN_eq h]; omega
  · rw [cmpN_gt h]; omega
theorem cmpN_eq0 (a b : Nat) : cmpN a b = 0 ↔ a = b := by
  rcases Nat.lt_trichotomy a b with h | h | h
  · rw [cmpN_lt h]; omega
  · rw [cmpN_eq h]; omega
  · rw [cmpN_gt h]; omega
theorem cmpN_le0 (a b : Nat) : cmpN a b ≤ 0 ↔ a ≤ b := by
  have := cmpN_gt0 a b
  omega
def Up (g : Nat → Nat) : Prop := ∀ a b, a < b → g a < g b
theorem Up.le {g : Nat → Nat} (h : Up g) {a b : Nat} (hab : a ≤ b) : g a ≤ g b := by
  rcases Nat.lt_or_eq_of_le hab with e | e
  · exact Nat.le_of_lt (h a b e)
  · rw [e]; exact Nat.le_refl _
theorem trc_top {g : Nat → Nat} {H I A : Nat} (hH : 0 < H) (hg : Up g) (h : g (2 * vs H I) ≤ A) : Trc (fun z => cmpN A (g (hv H z))) I I := by
  refine ⟨Nat.le_refl _, fun z hz => ?_⟩
  have h1 : g (hv H z) < g (2 * vs H (z + 1)) := hg _ _ (hv_lt hH z)
  have h2 : g (2 * vs H (z + 1)) ≤ g (2 * vs H I) := hg.le (by have := vs_le hH (show z + 1 ≤ I by omega); omega)
  have h3 : g (hv H z) < A := by omega
  refine ⟨fun h4 => ?_, fun _ => hz, fun h4 => ?_⟩
  · have := (cmpN_lt0 _ _).1 h4; omega
  · have := (cmpN_eq0 _ _).1 h4; omega
theorem trc_lo {g : Nat → Nat} {H I A lo Z : Nat} (hH : 0 < H) (hg : Up g) (hl : lo < I) (h1 : g (2 * vs H lo) ≤ A) (h2 : A < g (2 * vs H (lo + 1))) (hZ : Z = if cmpN (g (hv H lo)) A < 0 ∨ (cmpN (g (hv H lo)) A = 0 ∧ lo % 2 = 1) then lo + 1 else lo) : Trc (fun z => cmpN A (g (hv H z))) I Z := by
  have hZ2 : Z = lo ∨ Z = lo + 1 := by rw [hZ]; split <;> omega
  refine ⟨by omega, fun z hz => ?_⟩
  rcases Nat.lt_trichotomy z lo with h | h | h
  · have h3 : g (hv H z) < g (2 * vs H (z + 1)) := hg _ _ (hv_lt hH z)
    have h4 : g (2 * vs H (z + 1)) ≤ g (2 * vs H lo) := hg.le (by have := vs_le hH (show z + 1 ≤ lo by omega); omega)
    refine ⟨fun h5 => ?_, fun _ => by omega, fun h5 => ?_⟩
    · have := (cmpN_lt0 _ _).1 h5; omega
    · have := (cmpN_eq0 _ _).1 h5; omega
  · subst h
    refine ⟨fun h5 => ?_, fun h5 => ?_, fun h5 => ?_⟩
    · have h6 := (cmpN_lt0 _ _).1 h5
      rw [hZ, if_neg]
      · omega
      · rw [cmpN_lt0, cmpN_eq0]; omega
    · have h6 := (cmpN_gt0 _ _).1 h5
      rw [hZ, if_pos (.inl ((cmpN_lt0 _ _).2 h6))]
      omega
    · have h6 := (cmpN_eq0 _ _).1 h5
      rw [cmpN_eq h6.symm] at hZ
      by_cases h7 : z % 2 = 1
      · rw [if_pos (.inr ⟨rfl, h7⟩)] at hZ; omega
      · rw [if_neg (by omega)] at hZ; omega
  · have h3 : g (2 * vs H z) < g (hv H z) := hg _ _ (hv_gt H z)
    have h4 : g (2 * vs H (lo + 1)) ≤ g (2 * vs H z) := hg.le (by have := vs_le hH (show lo + 1 ≤ z by omega); omega)
    refine ⟨fun _ => by omega, fun h5 => ?_, fun h5 => ?_⟩
    · have := (cmpN_gt0 _ _).1 h5; omega
    · have := (cmpN_eq0 _ _).1 h5; omega
def dN (a : Nat) (e : Int) : Nat := a * 2 ^ (e + 4194304).toNat
theorem dN_dv (a : Nat) (e : Int) : dv (a : Int) e = (dN a e : Int) := by
  unfold dv dN
  rw [Int.natCast_mul]
theorem dN_up {a t : Nat} {e f : Int} (h : f = e + t) (he : -4194304 ≤ e) : dN (a * 2 ^ t) e = dN a f := by
  unfold dN
  rw [show (f + 4194304).toNat = t + (e + 4194304).toNat by omega, Nat.pow_add, Nat.mul_assoc]
theorem dN_mono {a b : Nat} (h : a < b) (e : Int) : dN a e < dN b e := Nat.mul_lt_mul_of_pos_right h (Nat.two_pow_pos _)
theorem dN_pos {a : Nat} (h : a ≠ 0) (e : Int) : 0 < dN a e := Nat.mul_pos (by omega) (Nat.two_pow_pos _)
theorem cmpN_mulr (a b c : Nat) (hc : 0 < c) : cmpN (a * c) (b * c) = cmpN a b := by
  unfold cmpN
  by_cases h1 : a < b
  · rw [if_pos h1, if_pos (Nat.mul_lt_mul_of_pos_right h1 hc)]
  · rw [if_neg h1, if_neg (fun h => h1 (Nat.lt_of_mul_lt_mul_right h))]
    by_cases h2 : a = b
    · rw [if_pos h2, if_pos (by rw [h2])]
    · rw [if_neg h2, if_neg (fun h => h2 (Nat.eq_of_mul_eq_mul_right hc h))]
theorem dN_cmp {a b E F : Nat} {e f k : Int} (he : e = k + E) (hf : f = k + F) (hk : -4194304 ≤ k) : cmpN (dN a e) (dN b f) = cmpN (a * 2 ^ E) (b * 2 ^ F) := by
  rw [← dN_up he hk, ← dN_up hf hk]
  exact cmpN_mulr _ _ _ (Nat.two_pow_pos _)
theorem dN_bits {a b : Nat} {e f : Int} (hb : b ≠ 0) (he : -4194304 ≤ e) (hf : -4194304 ≤ f) (h : (bitsN a : Int) + e < (bitsN b : Int) + f) : dN a e < dN b f := by
  unfold dN
  have h0 : a * 2 ^ (e + 4194304).toNat < 2 ^ (bitsN a + (e + 4194304).toNat) := by
    rw [Nat.pow_add]
    exact Nat.mul_lt_mul_of_pos_right (bitsN_lt a) (Nat.two_pow_pos _)
  refine Nat.lt_of_lt_of_le h0 ?_
  have h1 := bitsN_le b hb
  have h2 : 1 ≤ bitsN b := by
    rcases Nat.eq_zero_or_pos (bitsN b) with e | e
    · have := bitsN_lt b; rw [e] at this; omega
    · exact e
  refine Nat.le_trans ?_ (Nat.mul_le_mul_right _ h1)
  rw [← Nat.pow_add]
  exact Nat.pow_le_pow_right (by decide) (by omega)
structure RL (w : World) (p : Option Addr) (m a : Nat) : Prop where
  mem : ∃ zs, At32 w p m m zs ∧ Nf B32 zs a
  len : m ≤ 16384
theorem RL.below {w w' : World} {p : Option Addr} {m a : Nat} (h : RL w p m a) (hb : Below w.heap.size w w') : RL w' p m a := by
  obtain ⟨⟨zs, h1, h2⟩, h3⟩ := h
  exact ⟨⟨zs, h1.below hb, h2⟩, h3⟩
theorem RL.zero {w : World} {p : Option Addr} {m a : Nat} (h : RL w p m a) : m = 0 ↔ a = 0 := by
  obtain ⟨⟨zs, h1, h2⟩, h3⟩ := h
  have h4 := h2.zero_iff B32_one
  have h5 := h1.len
  constructor
  · intro h0
    exact h4.1 (List.eq_nil_of_length_eq_zero (by omega))
  · intro h0
    rw [h4.2 h0] at h5
    simpa using h5.symm
theorem rl_bits {w : World} {p : Option Addr} {m a : Nat} (h : RL w p m a) : bitsN a ≤ 32 * m := by
  obtain ⟨⟨zs, h1, h2⟩, h3⟩ := h
  have h4 := (h2.len_le B32_one (k := m)).1 (by rw [h1.len]; exact Nat.le_refl _)
  rw [show B32 = 2 ^ 32 from rfl, ← Nat.pow_mul] at h4
  by_cases h0 : a = 0
  · rw [h0, bitsN_zero]; omega
  · have h5 := (Nat.pow_lt_pow_iff_right (by decide : 1 < 2)).1 (Nat.lt_of_le_of_lt (bitsN_le a h0) h4)
    omega
theorem rl_len {w : World} {p : Option Addr} {m c a : Nat} {zs : List Nat} (h : At32 w p m c zs) (hN : Nf B32 zs a) {K : Nat} (hb : a < B32 ^ K) : m ≤ K := by
  have h1 := (hN.len_le B32_one (k := K)).2 hb
  rw [h.len] at h1
  exact h1
theorem iv_sums {s t : Bool} {x y : Int} (h1 : s = decide (x < 0)) (h2 : t = decide (y < 0)) (h3 : s = t) : iv s (x.natAbs + y.natAbs) = x + y := by
  rw [h3] at h1 ⊢
  cases t
  · have a := of_decide_eq_false h1.symm; have b := of_decide_eq_false h2.symm; rw [iv_f]; omega
  · have a := of_decide_eq_true h1.symm; have b := of_decide_eq_true h2.symm; rw [iv_t]; omega
theorem iv_sumg {s t : Bool} {x y : Int} (h1 : s = decide (x < 0)) (h2 : t = decide (y < 0)) (h3 : s ≠ t) (h4 : y.natAbs ≤ x.natAbs) : iv s (x.natAbs - y.natAbs) = x + y := by
  cases s <;> cases t
  · exact absurd rfl h3
  · have a := of_decide_eq_false h1.symm; have b := of_decide_eq_true h2.symm; rw [iv_f]; omega
  · have a := of_decide_eq_true h1.symm; have b := of_decide_eq_false h2.symm; rw [iv_t]; omega
  · exact absurd rfl h3
theorem iv_suml {s t : Bool} {x y : Int} (h1 : s = decide (x < 0)) (h2 : t = decide (y < 0)) (h3 : s ≠ t) (h4 : x.natAbs < y.natAbs) : iv t (y.natAbs - x.natAbs) = x + y := by
  cases s <;> cases t
  · exact absurd rfl h3
  · have a := of_decide_eq_false h1.symm; have b := of_decide_eq_true h2.symm; rw [iv_t]; omega
  · have a := of_decide_eq_true h1.symm; have b := of_decide_eq_false h2.symm; rw [iv_f]; omega
  · exact absurd rfl h3
theorem sum_len32 {xs ys zs : List Nat} {a b m n : Nat} (hx : Nf B32 xs a) (hy : Nf B32 ys b) (lx : xs.length = m) (ly : ys.length = n) (hz : Nf B32 zs (a + b)) : zs.length ≤ max m n + 1 := by
  refine (hz.len_le B32_one).2 ?_
  have h1 := (hx.len_le B32_one (k := max m n)).1 (by omega)
  have h2 := (hy.len_le B32_one (k := max m n)).1 (by omega)
  rw [Nat.pow_succ]
  have : B32 ^ (max m n) * 2 ≤ B32 ^ (max m n) * B32 := Nat.mul_le_mul_left _ (by rw [B32_eq]; omega)
  omega
theorem radd04_s {p q : Option Addr} {m n : Nat} {w : World} {x y : Int} (s t : Bool) (h : ZR w s p m x) (k : ZR w t q n y) (hm : m ≤ 50000) (hn : n ≤ 50000) (hst : s = t) :
    Calls Tryz.prog 137 #[.agg #[.bool s, .slice p m m], .agg #[.bool t, .slice q n n]] w fun e w' => ∃ v, e = .returned v ∧ GotR w.heap.size w' v (x + y) (max m n + 1) ∧ Below w.heap.size w w' := by
  have HA : Hid (ZR w s p m x) := h
  have HB : Hid (ZR w t q n y) := k
  have HM : Hid (m ≤ 50000 ∧ n ≤ 50000) := ⟨hm, hn⟩
  clear h k hm hn
  have hse : (s == t) = true := by simpa using hst
  have HST : Hid (s = t) := hst
  clear hst
  go_enter Tryz.func137, Tryz.ntmps137
  go_wp2_with fail
  obtain ⟨W0, hW0⟩ : ∃ W0, W0 = (((w.alloc (.cells #[.bool s, .slice p m m] 104)).alloc (.cells #[.bool t, .slice q n n] 104)).alloc (.cells #[.bool false, .slice none 0 0] 104)) := ⟨_, rfl⟩
  have Xa : Hid (Box W0 (w.heap.size) (.bool s) (.slice p m m)) := by rw [hW0]; exact ⟨by go_simp, by go_simp, by go_simp, by go_simp⟩
  have Xb : Hid (Box W0 (w.heap.size + 1) (.bool t) (.slice q n n)) := by rw [hW0]; exact ⟨by go_simp, by go_simp, by go_simp, by go_simp⟩
  have Xr : Hid (Box W0 (w.heap.size + 1 + 1) (.bool false) (.slice none 0 0)) := by rw [hW0]; exact ⟨by go_simp, by go_simp, by go_simp, by go_simp⟩
  have hb0 : Below w.heap.size w W0 := by rw [hW0]; exact below3 w _ _ _
  rw [← hW0]
  clear hW0
  have hbw : Below w.heap.size w w := Below.refl _ _
  obtain ⟨gr, hgr⟩ : ∃ g, g = w.heap.size + 1 + 1 := ⟨_, rfl⟩
  have HGr : Hid (w.heap.size ≤ gr) := by rw [hgr]; show _ ≤ _; omega
  rw [← hgr] at Xr
  try rw [← hgr]
  obtain ⟨gb, hgb⟩ : ∃ g, g = w.heap.size + 1 := ⟨_, rfl⟩
  have HGb : Hid (w.heap.size ≤ gb) := by rw [hgb]; show _ ≤ _; omega
  rw [← hgb] at Xb
  try rw [← hgb]
  obtain ⟨ga, hga⟩ : ∃ g, g = w.heap.size := ⟨_, rfl⟩
  have HGa : Hid (w.heap.size ≤ ga) := by rw [hga]; show _ ≤ _; omega
  rw [← hga] at Xa
  try rw [← hga]
  have HGD : Hid (ga ≠ gb ∧ ga ≠ gr ∧ gb ≠ ga ∧ gb ≠ gr ∧ gr ≠ ga ∧ gr ≠ gb) := by rw [hga, hgb, hgr]; exact ⟨by omega, by omega, by omega, by omega, by omega, by omega⟩
  clear hga hgb hgr
  replace HA : Hid _ := HA.out.below hb0
  replace HB : Hid _ := HB.out.below hb0
  replace hbw := Below.on hbw hb0
  clear hb0
  obtain ⟨xs, hAx, hNx⟩ := HA.out.ex
  obtain ⟨ys, hAy, hNy⟩ := HB.out.ex
  have HNX : Hid (Nf B32 xs x.natAbs ∧ Nf B32 ys y.natAbs) := ⟨hNx, hNy⟩
  clear hNx hNy
  have AX : Hid (At32 W0 p m m xs) := hAx
  have AY : Hid (At32 W0 q n n ys) := hAy
  clear hAx hAy
  have HZV : Hid (iv s (x.natAbs + y.natAbs) = x + y) := by have h1 := HA.out.sg; have h2 := HB.out.sg; have h3 := HST.out; exact iv_sums h1 h2 h3
  obtain ⟨W1, hW1⟩ : ∃ W1, W1 = W0.drew := ⟨_, rfl⟩
  have hbd : Below W0.heap.size W0 W1 := by rw [hW1]; exact bDrew1 (Below.refl _ _)
  replace Xa : Hid _ := Xa.out.below hbd
  replace Xb : Hid _ := Xb.out.below hbd
  replace Xr : Hid _ := Xr.out.below hbd
  replace HA : Hid _ := HA.out.below hbd
  replace HB : Hid _ := HB.out.below hbd
  replace AX : Hid _ := AX.out.below hbd
  replace AY : Hid _ := AY.out.below hbd
  replace hbw := Below.on hbw hbd
  clear hbd
  have HJ : Hid ((fun W' : World => W'.cell? ⟨ga, 0, none⟩ = some (.bool s) ∧ W'.cell? ⟨ga, 1, none⟩ = some (.slice p m m) ∧ W'.cell? ⟨gb, 0, none⟩ = some (.bool t) ∧ W'.cell? ⟨gb, 1, none⟩ = some (.slice q n n)) W1) := ⟨Xa.out.c0, Xa.out.c1, Xb.out.c0, Xb.out.c1⟩
  refine wp_region_J (fun W' => W'.cell? ⟨ga, 0, none⟩ = some (.bool s) ∧ W'.cell? ⟨ga, 1, none⟩ = some (.slice p m m) ∧ W'.cell? ⟨gb, 0, none⟩ = some (.bool t) ∧ W'.cell? ⟨gb, 1, none⟩ = some (.slice q n n)) (by kernel_rfl) ?_
  rw [← hW1]
  clear hW1
  refine wpJ_tq 0 rfl HJ.out ?_
  refine wpJ_tq 1 rfl HJ.out ?_
  refine wpJ_tq 2 rfl HJ.out ?_
  refine wpJ_tq 3 rfl HJ.out ?_
  refine wpJ_tq 4 rfl HJ.out ?_
  refine wpJ_tq 5 rfl HJ.out ?_
  refine wpJ_on 6 rfl fun KJ hK => ?_
  go_simp
  refine (radd_any AX.out AY.out HNX.out.1 HNX.out.2 (by have := HM.out; omega) (by have := HM.out; omega)).mono ?_
  rintro e w2 ⟨p2, m2, z2, rfl, hA2, hN2, hb2⟩
  have hl2 : m2 ≤ max m n + 1 := by rw [← hA2.len]; exact sum_len32 HNX.out.1 HNX.out.2 AX.out.len AY.out.len hN2
  replace Xa : Hid _ := Xa.out.below hb2
  replace Xb : Hid _ := Xb.out.below hb2
  replace Xr : Hid _ := Xr.out.below hb2
  replace HA : Hid _ := HA.out.below hb2
  replace HB : Hid _ := HB.out.below hb2
  replace AX : Hid _ := AX.out.below hb2
  replace AY : Hid _ := AY.out.below hb2
  replace hbw := Below.on hbw hb2
  clear hb2
  have A2 : Hid (At32 w2 p2 m2 m2 z2) := hA2
  have N2 : Hid (Nf B32 z2 (x.natAbs + y.natAbs)) := hN2
  have HLL : Hid (m2 ≤ max m n + 1) := hl2
  have HRL : Hid (gr < w2.heap.size) := Xr.out.lt
  have HBS : Hid (w.heap.size ≤ w2.heap.size) := hbw.size
  clear hA2 hN2 hl2
  refine hK _ _ ⟨Xa.out.c0, Xa.out.c1, Xb.out.c0, Xb.out.c1⟩ ?_
  clear hK
  refine wpJ_on 7 rfl fun KJ hK => ?_
  go_simp
  refine (rmk_any s A2.out N2.out (by have := HLL.out; have := HM.out; omega)).mono ?_
  rintro e w3 ⟨v, rfl, hv, hb3⟩
  rw [HZV.out] at hv
  replace Xa : Hid _ := Xa.out.below hb3
  replace Xb : Hid _ := Xb.out.below hb3
  replace Xr : Hid _ := Xr.out.below hb3
  replace HA : Hid _ := HA.out.below hb3
  replace HB : Hid _ := HB.out.below hb3
  replace AX : Hid _ := AX.out.below hb3
  replace AY : Hid _ := AY.out.below hb3
  replace A2 : Hid _ := A2.out.below hb3
  replace hbw := Below.on hbw hb3
  clear hb3
  obtain ⟨s9, g9, m9, rfl, hg9, hz9, hl9⟩ := hv
  have ZA : Hid (ZR w3 s9 (some ⟨g9, 0, none⟩) m9 (x + y)) := hz9
  have HL : Hid (m9 ≤ max m n + 1) := by have := hl9; have := HLL.out; show m9 ≤ _; omega
  have HGE : Hid (gr < g9) := Nat.lt_of_lt_of_le HRL.out hg9
  have HGB : Hid (w.heap.size ≤ g9) := Nat.le_trans HBS.out hg9
  clear hg9 hz9 hl9
  refine hK _ _ ⟨Xa.out.c0, Xa.out.c1, Xb.out.c0, Xb.out.c1⟩ ?_
  clear hK
  obtain ⟨cr0, cr1, fr0, fr1⟩ := Xr.out
  have hner := Xr.out.lt
  obtain ⟨ca0, ca1, fa0, fa1⟩ := Xa.out
  have hnea := Xa.out.lt
  obtain ⟨cb0, cb1, fb0, fb1⟩ := Xb.out
  have hneb := Xb.out.lt
  obtain ⟨hgd0, hgd1, hgd2, hgd3, hgd4, hgd5⟩ := HGD.out
  refine wpJ_on 8 rfl fun KJ hK => ?_
  go_simp
  have HJ2 : Hid ((fun W' : World => W'.cell? ⟨ga, 0, none⟩ = some (.bool s) ∧ W'.cell? ⟨ga, 1, none⟩ = some (.slice p m m) ∧ W'.cell? ⟨gb, 0, none⟩ = some (.bool t) ∧ W'.cell? ⟨gb, 1, none⟩ = some (.slice q n n)) ((w3.setCell ⟨gr, 0, none⟩ (.bool s9)).setCell ⟨gr, 1, none⟩ (.slice (some ⟨g9, 0, none⟩) m9 m9))) := ⟨by go_simp, by go_simp, by go_simp, by go_simp⟩
  refine hK _ _ HJ2.out ?_
  clear hK HJ
  have HJ := HJ2
  clear HJ2
  refine wpJ_done (by kernel_rfl) ?_ _
  clear HJ
  go_wp2_with fail
  refine bodyPost_ret (v := .agg #[.bool s9, .slice (some ⟨g9, 0, none⟩) m9 m9]) (by rw [results_cell1 rfl]; go_simp) rfl ⟨_, rfl, ⟨s9, g9, m9, rfl, HGB.out, ?_, HL.out⟩, ?_⟩
  · have := HGE.out
    exact (ZA.out.set _ _ _ (by omega)).set _ _ _ (by omega)
  · exact bSet (bSet hbw _ _ _ HGr.out) _ _ _ HGr.out
theorem radd04_g {p q : Option Addr} {m n : Nat} {w : World} {x y : Int} (s t : Bool) (h : ZR w s p m x) (k : ZR w t q n y) (hm : m ≤ 50000) (hn : n ≤ 50000) (hst : s ≠ t) (hcm : y.natAbs ≤ x.natAbs) :
    Calls Tryz.prog 137 #[.agg #[.bool s, .slice p m m], .agg #[.bool t, .slice q n n]] w fun e w' => ∃ v, e = .returned v ∧ GotR w.heap.size w' v (x + y) (max m n + 1) ∧ Below w.heap.size w w' := by
  have HA : Hid (ZR w s p m x) := h
  have HB : Hid (ZR w t q n y) := k
  have HM : Hid (m ≤ 50000 ∧ n ≤ 50000) := ⟨hm, hn⟩
  clear h k hm hn
  have hse : (s == t) = false := by simpa using hst
  have HST : Hid (s ≠ t) := hst
  have HCM : Hid (y.natAbs ≤ x.natAbs) := hcm
  clear hst hcm
  go_enter Tryz.func137, Tryz.ntmps137
  go_wp2_with fail
  obtain ⟨W0, hW0⟩ : ∃ W0, W0 = (((w.alloc (.cells #[.bool s, .slice p m m] 104)).alloc (.cells #[.bool t, .slice q n n] 104)).alloc (.cells #[.bool false, .slice none 0 0] 104)) := ⟨_, rfl⟩
  have Xa : Hid (Box W0 (w.heap.size) (.bool s) (.slice p m m)) := by rw [hW0]; exact ⟨by go_simp, by go_simp, by go_simp, by go_simp⟩
  have Xb : Hid (Box W0 (w.heap.size + 1) (.bool t) (.slice q n n)) := by rw [hW0]; exact ⟨by go_simp, by go_simp, by go_simp, by go_simp⟩
  have Xr : Hid (Box W0 (w.heap.size + 1 + 1) (.bool false) (.slice none 0 0)) := by rw [hW0]; exact ⟨by go_simp, by go_simp, by go_simp, by go_simp⟩
  have hb0 : Below w.heap.size w W0 := by rw [hW0]; exact below3 w _ _ _
  rw [← hW0]
  clear hW0
  have hbw : Below w.heap.size w w := Below.refl _ _
  obtain ⟨gr, hgr⟩ : ∃ g, g = w.heap.size + 1 + 1 := ⟨_, rfl⟩
  have HGr : Hid (w.heap.size ≤ gr) := by rw [hgr]; show _ ≤ _; omega
  rw [← hgr] at Xr
  try rw [← hgr]
  obtain ⟨gb, hgb⟩ : ∃ g, g = w.heap.size + 1 := ⟨_, rfl⟩
  have HGb : Hid (w.heap.size ≤ gb) := by rw [hgb]; show _ ≤ _; omega
  rw [← hgb] at Xb
  try rw [← hgb]
  obtain ⟨ga, hga⟩ : ∃ g, g = w.heap.size := ⟨_, rfl⟩
  have HGa : Hid (w.heap.size ≤ ga) := by rw [hga]; show _ ≤ _; omega
  rw [← hga] at Xa
  try rw [← hga]
  have HGD : Hid (ga ≠ gb ∧ ga ≠ gr ∧ gb ≠ ga ∧ gb ≠ gr ∧ gr ≠ ga ∧ gr ≠ gb) := by rw [hga, hgb, hgr]; exact ⟨by omega, by omega, by omega, by omega, by omega, by omega⟩
  clear hga hgb hgr
  replace HA : Hid _ := HA.out.below hb0
  replace HB : Hid _ := HB.out.below hb0
  replace hbw := Below.on hbw hb0
  clear hb0
  obtain ⟨xs, hAx, hNx⟩ := HA.out.ex
  obtain ⟨ys, hAy, hNy⟩ := HB.out.ex
  have HNX : Hid (Nf B32 xs x.natAbs ∧ Nf B32 ys y.natAbs) := ⟨hNx, hNy⟩
  clear hNx hNy
  have AX : Hid (At32 W0 p m m xs) := hAx
  have AY : Hid (At32 W0 q n n ys) := hAy
  clear hAx hAy
  have HZV : Hid (iv s (x.natAbs - y.natAbs) = x + y) := by have h1 := HA.out.sg; have h2 := HB.out.sg; have h3 := HST.out; exact iv_sumg h1 h2 h3 HCM.out
  obtain ⟨cm, hcm⟩ : ∃ cm, cm = cmpN x.natAbs y.natAbs := ⟨_, rfl⟩
  have HCQ : Hid (cm = cmpN x.natAbs y.natAbs) := hcm
  have hcc : decide (0 ≤ cm) = true := decide_eq_true (by rw [hcm]; have := HCM.out; unfold cmpN; split <;> (try split) <;> omega)
  clear hcm
  refine (rcmp_any AX.out AY.out HNX.out.1 HNX.out.2).mono ?_
  rintro e w9 ⟨rfl, rd, rfl⟩
  rw [← HCQ.out]
  have hbr := bDrewN (Below.refl W0.heap.size W0) rd
  generalize W0.drewN rd = W9 at *
  replace Xa : Hid _ := Xa.out.below hbr
  replace Xb : Hid _ := Xb.out.below hbr
  replace Xr : Hid _ := Xr.out.below hbr
  replace HA : Hid _ := HA.out.below hbr
  replace HB : Hid _ := HB.out.below hbr
  replace AX : Hid _ := AX.out.below hbr
  replace AY : Hid _ := AY.out.below hbr
  replace hbw := Below.on hbw hbr
  clear hbr
  obtain ⟨ca0, ca1, fa0, fa1⟩ := Xa.out
  have hnea := Xa.out.lt
  obtain ⟨cb0, cb1, fb0, fb1⟩ := Xb.out
  have hneb := Xb.out.lt
  go_wp2_with fail
  clear ca0 ca1 fa0 fa1 hnea
  clear cb0 cb1 fb0 fb1 hneb
  clear hcc
  obtain ⟨W1, hW1⟩ : ∃ W1, W1 = W9.drew := ⟨_, rfl⟩
  have hbd : Below W9.heap.size W9 W1 := by rw [hW1]; exact bDrew1 (Below.refl _ _)
  replace Xa : Hid _ := Xa.out.below hbd
  replace Xb : Hid _ := Xb.out.below hbd
  replace Xr : Hid _ := Xr.out.below hbd
  replace HA : Hid _ := HA.out.below hbd
  replace HB : Hid _ := HB.out.below hbd
  replace AX : Hid _ := AX.out.below hbd
  replace AY : Hid _ := AY.out.below hbd
  replace hbw := Below.on hbw hbd
  clear hbd
  have HJ : Hid ((fun W' : World => W'.cell? ⟨ga, 0, none⟩ = some (.bool s) ∧ W'.cell? ⟨ga, 1, none⟩ = some (.slice p m m) ∧ W'.cell? ⟨gb, 0, none⟩ = some (.bool t) ∧ W'.cell? ⟨gb, 1, none⟩ = some (.slice q n n)) W1) := ⟨Xa.out.c0, Xa.out.c1, Xb.out.c0, Xb.out.c1⟩
  refine wp_region_J (fun W' => W'.cell? ⟨ga, 0, none⟩ = some (.bool s) ∧ W'.cell? ⟨ga, 1, none⟩ = some (.slice p m m) ∧ W'.cell? ⟨gb, 0, none⟩ = some (.bool t) ∧ W'.cell? ⟨gb, 1, none⟩ = some (.slice q n n)) (by kernel_rfl) ?_
  rw [← hW1]
  clear hW1
  refine wpJ_tq 0 rfl HJ.out ?_
  refine wpJ_tq 1 rfl HJ.out ?_
  refine wpJ_tq 2 rfl HJ.out ?_
  refine wpJ_tq 3 rfl HJ.out ?_
  refine wpJ_tq 4 rfl HJ.out ?_
  refine wpJ_tq 5 rfl HJ.out ?_
  refine wpJ_on 6 rfl fun KJ hK => ?_
  go_simp
  refine (rsub_any AX.out AY.out HNX.out.1 HNX.out.2 (by have := HM.out; omega) HCM.out).mono ?_
  rintro e w2 ⟨p2, m2, z2, rfl, hA2, hN2, hl2q, hb2⟩
  have hl2 : m2 ≤ max m n + 1 := by omega
  clear hl2q
  replace Xa : Hid _ := Xa.out.below hb2
  replace Xb : Hid _ := Xb.out.below hb2
  replace Xr : Hid _ := Xr.out.below hb2
  replace HA : Hid _ := HA.out.below hb2
  replace HB : Hid _ := HB.out.below hb2
  replace AX : Hid _ := AX.out.below hb2
  replace AY : Hid _ := AY.out.below hb2
  replace hbw := Below.on hbw hb2
  clear hb2
  have A2 : Hid (At32 w2 p2 m2 m2 z2) := hA2
  have N2 : Hid (Nf B32 z2 (x.natAbs - y.natAbs)) := hN2
  have HLL : Hid (m2 ≤ max m n + 1) := hl2
  have HRL : Hid (gr < w2.heap.size) := Xr.out.lt
  have HBS : Hid (w.heap.size ≤ w2.heap.size) := hbw.size
  clear hA2 hN2 hl2
  refine hK _ _ ⟨Xa.out.c0, Xa.out.c1, Xb.out.c0, Xb.out.c1⟩ ?_
  clear hK
  refine wpJ_on 7 rfl fun KJ hK => ?_
  go_simp
  refine (rmk_any s A2.out N2.out (by have := HLL.out; have := HM.out; omega)).mono ?_
  rintro e w3 ⟨v, rfl, hv, hb3⟩
  rw [HZV.out] at hv
  replace Xa : Hid _ := Xa.out.below hb3
  replace Xb : Hid _ := Xb.out.below hb3
  replace Xr : Hid _ := Xr.out.below hb3
  replace HA : Hid _ := HA.out.below hb3
  replace HB : Hid _ := HB.out.below hb3
  replace AX : Hid _ := AX.out.below hb3
  replace AY : Hid _ := AY.out.below hb3
  replace A2 : Hid _ := A2.out.below hb3
  replace hbw := Below.on hbw hb3
  clear hb3
  obtain ⟨s9, g9, m9, rfl, hg9, hz9, hl9⟩ := hv
  have ZA : Hid (ZR w3 s9 (some ⟨g9, 0, none⟩) m9 (x + y)) := hz9
  have HL : Hid (m9 ≤ max m n + 1) := by have := hl9; have := HLL.out; show m9 ≤ _; omega
  have HGE : Hid (gr < g9) := Nat.lt_of_lt_of_le HRL.out hg9
  have HGB : Hid (w.heap.size ≤ g9) := Nat.le_trans HBS.out hg9
  clear hg9 hz9 hl9
  refine hK _ _ ⟨Xa.out.c0, Xa.out.c1, Xb.out.c0, Xb.out.c1⟩ ?_
  clear hK
  obtain ⟨cr0, cr1, fr0, fr1⟩ := Xr.out
  have hner := Xr.out.lt
  obtain ⟨ca0, ca1, fa0, fa1⟩ := Xa.out
  have hnea := Xa.out.lt
  obtain ⟨cb0, cb1, fb0, fb1⟩ := Xb.out
  have hneb := Xb.out.lt
  obtain ⟨hgd0, hgd1, hgd2, hgd3, hgd4, hgd5⟩ := HGD.out
  refine wpJ_on 8 rfl fun KJ hK => ?_
  go_simp
  have HJ2 : Hid ((fun W' : World => W'.cell? ⟨ga, 0, none⟩ = some (.bool s) ∧ W'.cell? ⟨ga, 1, none⟩ = some (.slice p m m) ∧ W'.cell? ⟨gb, 0, none⟩ = some (.bool t) ∧ W'.cell? ⟨gb, 1, none⟩ = some (.slice q n n)) ((w3.setCell ⟨gr, 0, none⟩ (.bool s9)).setCell ⟨gr, 1, none⟩ (.slice (some ⟨g9, 0, none⟩) m9 m9))) := ⟨by go_simp, by go_simp, by go_simp, by go_simp⟩
  refine hK _ _ HJ2.out ?_
  clear hK HJ
  have HJ := HJ2
  clear HJ2
  refine wpJ_done (by kernel_rfl) ?_ _
  clear HJ
  go_wp2_with fail
  refine bodyPost_ret (v := .agg #[.bool s9, .slice (some ⟨g9, 0, none⟩) m9 m9]) (by rw [results_cell1 rfl]; go_simp) rfl ⟨_, rfl, ⟨s9, g9, m9, rfl, HGB.out, ?_, HL.out⟩, ?_⟩
  · have := HGE.out
    exact (ZA.out.set _ _ _ (by omega)).set _ _ _ (by omega)
  · exact bSet (bSet hbw _ _ _ HGr.out) _ _ _ HGr.out
theorem radd04_l {p q : Option Addr} {m n : Nat} {w : World} {x y : Int} (s t : Bool) (h : ZR w s p m x) (k : ZR w t q n y) (hm : m ≤ 50000) (hn : n ≤ 50000) (hst : s ≠ t) (hcm : x.natAbs < y.natAbs) :
    Calls Tryz.prog 137 #[.agg #[.bool s, .slice p m m], .agg #[.bool t, .slice q n n]] w fun e w' => ∃ v, e = .returned v ∧ GotR w.heap.size w' v (x + y) (max m n + 1) ∧ Below w.heap.size w w' := by
  have HA : Hid (ZR w s p m x) := h
  have HB : Hid (ZR w t q n y) := k
  have HM : Hid (m ≤ 50000 ∧ n ≤ 50000) := ⟨hm, hn⟩
  clear h k hm hn
  have hse : (s == t) = false := by simpa using hst
  have HST : Hid (s ≠ t) := hst
  have HCM : Hid (x.natAbs < y.natAbs) := hcm
  clear hst hcm
  go_enter Tryz.func137, Tryz.ntmps137
  go_wp2_with fail
  obtain ⟨W0, hW0⟩ : ∃ W0, W0 = (((w.alloc (.cells #[.bool s, .slice p m m] 104)).alloc (.cells #[.bool t, .slice q n n] 104)).alloc (.cells #[.bool false, .slice none 0 0] 104)) := ⟨_, rfl⟩
  have Xa : Hid (Box W0 (w.heap.size) (.bool s) (.slice p m m)) := by rw [hW0]; exact ⟨by go_simp, by go_simp, by go_simp, by go_simp⟩
  have Xb : Hid (Box W0 (w.heap.size + 1) (.bool t) (.slice q n n)) := by rw [hW0]; exact ⟨by go_simp, by go_simp, by go_simp, by go_simp⟩
  have Xr : Hid (Box W0 (w.heap.size + 1 + 1) (.bool false) (.slice none 0 0)) := by rw [hW0]; exact ⟨by go_simp, by go_simp, by go_simp, by go_simp⟩
  have hb0 : Below w.heap.size w W0 := by rw [hW0]; exact below3 w _ _ _
  rw [← hW0]
  clear hW0
  have hbw : Below w.heap.size w w := Below.refl _ _
  obtain ⟨gr, hgr⟩ : ∃ g, g = w.heap.size + 1 + 1 := ⟨_, rfl⟩
  have HGr : Hid (w.heap.size ≤ gr) := by rw [hgr]; show _ ≤ _; omega
  rw [← hgr] at Xr
  try rw [← hgr]
  obtain ⟨gb, hgb⟩ : ∃ g, g = w.heap.size + 1 := ⟨_, rfl⟩
  have HGb : Hid (w.heap.size ≤ gb) := by rw [hgb]; show _ ≤ _; omega
  rw [← hgb] at Xb
  try rw [← hgb]
  obtain ⟨ga, hga⟩ : ∃ g, g = w.heap.size := ⟨_, rfl⟩
  have HGa : Hid (w.heap.size ≤ ga) := by rw [hga]; show _ ≤ _; omega
  rw [← hga] at Xa
  try rw [← hga]
  have HGD : Hid (ga ≠ gb ∧ ga ≠ gr ∧ gb ≠ ga ∧ gb ≠ gr ∧ gr ≠ ga ∧ gr ≠ gb) := by rw [hga, hgb, hgr]; exact ⟨by omega, by omega, by omega, by omega, by omega, by omega⟩
  clear hga hgb hgr
  replace HA : Hid _ := HA.out.below hb0
  replace HB : Hid _ := HB.out.below hb0
  replace hbw := Below.on hbw hb0
  clear hb0
  obtain ⟨xs, hAx, hNx⟩ := HA.out.ex
  obtain ⟨ys, hAy, hNy⟩ := HB.out.ex
  have HNX : Hid (Nf B32 xs x.natAbs ∧ Nf B32 ys y.natAbs) := ⟨hNx, hNy⟩
  clear hNx hNy
  have AX : Hid (At32 W0 p m m xs) := hAx
  have AY : Hid (At32 W0 q n n ys) := hAy
  clear hAx hAy
  have HZV : Hid (iv t (y.natAbs - x.natAbs) = x + y) := by have h1 := HA.out.sg; have h2 := HB.out.sg; have h3 := HST.out; exact iv_suml h1 h2 h3 HCM.out
  obtain ⟨cm, hcm⟩ : ∃ cm, cm = cmpN x.natAbs y.natAbs := ⟨_, rfl⟩
  have HCQ : Hid (cm = cmpN x.natAbs y.natAbs) := hcm
  have hcc : decide (0 ≤ cm) = false := decide_eq_false (by rw [hcm, cmpN_lt HCM.out]; omega)
  clear hcm
  refine (rcmp_any AX.out AY.out HNX.out.1 HNX.out.2).mono ?_
  rintro e w9 ⟨rfl, rd, rfl⟩
  rw [← HCQ.out]
  have hbr := bDrewN (Below.refl W0.heap.size W0) rd
  generalize W0.drewN rd = W9 at *
  replace Xa : Hid _ := Xa.out.below hbr
  replace Xb : Hid _ := Xb.out.below hbr
  replace Xr : Hid _ := Xr.out.below hbr
  replace HA : Hid _ := HA.out.below hbr
  replace HB : Hid _ := HB.out.below hbr
  replace AX : Hid _ := AX.out.below hbr
  replace AY : Hid _ := AY.out.below hbr
  replace hbw := Below.on hbw hbr
  clear hbr
  obtain ⟨ca0, ca1, fa0, fa1⟩ := Xa.out
  have hnea := Xa.out.lt
  obtain ⟨cb0, cb1, fb0, fb1⟩ := Xb.out
  have hneb := Xb.out.lt
  go_wp2_with fail
  clear ca0 ca1 fa0 fa1 hnea
  clear cb0 cb1 fb0 fb1 hneb
  clear hcc
  obtain ⟨W1, hW1⟩ : ∃ W1, W1 = W9.drew := ⟨_, rfl⟩
  have hbd : Below W9.heap.size W9 W1 := by rw [hW1]; exact bDrew1 (Below.refl _ _)
  replace Xa : Hid _ := Xa.out.below hbd
  replace Xb : Hid _ := Xb.out.below hbd
  replace Xr : Hid _ := Xr.out.below hbd
  replace HA : Hid _ := HA.out.below hbd
  replace HB : Hid _ := HB.out.below hbd
  replace AX : Hid _ := AX.out.below hbd
  replace AY : Hid _ := AY.out.below hbd
  replace hbw := Below.on hbw hbd
  clear hbd
  have HJ : Hid ((fun W' : World => W'.cell? ⟨ga, 0, none⟩ = some (.bool s) ∧ W'.cell? ⟨ga, 1, none⟩ = some (.slice p m m) ∧ W'.cell? ⟨gb, 0, none⟩ = some (.bool t) ∧ W'.cell? ⟨gb, 1, none⟩ = some (.slice q n n)) W1) := ⟨Xa.out.c0, Xa.out.c1, Xb.out.c0, Xb.out.c1⟩
  refine wp_region_J (fun W' => W'.cell? ⟨ga, 0, none⟩ = some (.bool s) ∧ W'.cell? ⟨ga, 1, none⟩ = some (.slice p m m) ∧ W'.cell? ⟨gb, 0, none⟩ = some (.bool t) ∧ W'.cell? ⟨gb, 1, none⟩ = some (.slice q n n)) (by kernel_rfl) ?_
  rw [← hW1]
  clear hW1
  refine wpJ_tq 0 rfl HJ.out ?_
  refine wpJ_tq 1 rfl HJ.out ?_
  refine wpJ_tq 2 rfl HJ.out ?_
  refine wpJ_tq 3 rfl HJ.out ?_
  refine wpJ_tq 4 rfl HJ.out ?_
  refine wpJ_tq 5 rfl HJ.out ?_
  refine wpJ_on 6 rfl fun KJ hK => ?_
  go_simp
  refine (rsub_any AY.out AX.out HNX.out.2 HNX.out.1 (by have := HM.out; omega) (Nat.le_of_lt HCM.out)).mono ?_
  rintro e w2 ⟨p2, m2, z2, rfl, hA2, hN2, hl2q, hb2⟩
  have hl2 : m2 ≤ max m n + 1 := by omega
  clear hl2q
  replace Xa : Hid _ := Xa.out.below hb2
  replace Xb : Hid _ := Xb.out.below hb2
  replace Xr : Hid _ := Xr.out.below hb2
  replace HA : Hid _ := HA.out.below hb2
  replace HB : Hid _ := HB.out.below hb2
  replace AX : Hid _ := AX.out.below hb2
  replace AY : Hid _ := AY.out.below hb2
  replace hbw := Below.on hbw hb2
  clear hb2
  have A2 : Hid (At32 w2 p2 m2 m2 z2) := hA2
  have N2 : Hid (Nf B32 z2 (y.natAbs - x.natAbs)) := hN2
  have HLL : Hid (m2 ≤ max m n + 1) := hl2
  have HRL : Hid (gr < w2.heap.size) := Xr.out.lt
  have HBS : Hid (w.heap.size ≤ w2.heap.size) := hbw.size
  clear hA2 hN2 hl2
  refine hK _ _ ⟨Xa.out.c0, Xa.out.c1, Xb.out.c0, Xb.out.c1⟩ ?_
  clear hK
  refine wpJ_on 7 rfl fun KJ hK => ?_
  go_simp
  refine (rmk_any t A2.out N2.out (by have := HLL.out; have := HM.out; omega)).mono ?_
  rintro e w3 ⟨v, rfl, hv, hb3⟩
  rw [HZV.out] at hv
  replace Xa : Hid _ := Xa.out.below hb3
  replace Xb : Hid _ := Xb.out.below hb3
  replace Xr : Hid _ := Xr.out.below hb3
  replace HA : Hid _ := HA.out.below hb3
  replace HB : Hid _ := HB.out.below hb3
  replace AX : Hid _ := AX.out.below hb3
  replace AY : Hid _ := AY.out.below hb3
  replace A2 : Hid _ := A2.out.below hb3
  replace hbw := Below.on hbw hb3
  clear hb3
  obtain ⟨s9, g9, m9, rfl, hg9, hz9, hl9⟩ := hv
  have ZA : Hid (ZR w3 s9 (some ⟨g9, 0, none⟩) m9 (x + y)) := hz9
  have HL : Hid (m9 ≤ max m n + 1) := by have := hl9; have := HLL.out; show m9 ≤ _; omega
  have HGE : Hid (gr < g9) := Nat.lt_of_lt_of_le HRL.out hg9
  have HGB : Hid (w.heap.size ≤ g9) := Nat.le_trans HBS.out hg9
  clear hg9 hz9 hl9
  refine hK _ _ ⟨Xa.out.c0, Xa.out.c1, Xb.out.c0, Xb.out.c1⟩ ?_
  clear hK
  obtain ⟨cr0, cr1, fr0, fr1⟩ := Xr.out
  have hner := Xr.out.lt
  obtain ⟨ca0, ca1, fa0, fa1⟩ := Xa.out
  have hnea := Xa.out.lt
  obtain ⟨cb0, cb1, fb0, fb1⟩ := Xb.out
  have hneb := Xb.out.lt
  obtain ⟨hgd0, hgd1, hgd2, hgd3, hgd4, hgd5⟩ := HGD.out
  refine wpJ_on 8 rfl fun KJ hK => ?_
  go_simp
  have HJ2 : Hid ((fun W' : World => W'.cell? ⟨ga, 0, none⟩ = some (.bool s) ∧ W'.cell? ⟨ga, 1, none⟩ = some (.slice p m m) ∧ W'.cell? ⟨gb, 0, none⟩ = some (.bool t) ∧ W'.cell? ⟨gb, 1, none⟩ = some (.slice q n n)) ((w3.setCell ⟨gr, 0, none⟩ (.bool s9)).setCell ⟨gr, 1, none⟩ (.slice (some ⟨g9, 0, none⟩) m9 m9))) := ⟨by go_simp, by go_simp, by go_simp, by go_simp⟩
  refine hK _ _ HJ2.out ?_
  clear hK HJ
  have HJ := HJ2
  clear HJ2
  refine wpJ_done (by kernel_rfl) ?_ _
  clear HJ
  go_wp2_with fail
  refine bodyPost_ret (v := .agg #[.bool s9, .slice (some ⟨g9, 0, none⟩) m9 m9]) (by rw [results_cell1 rfl]; go_simp) rfl ⟨_, rfl, ⟨s9, g9, m9, rfl, HGB.out, ?_, HL.out⟩, ?_⟩
  · have := HGE.out
    exact (ZA.out.set _ _ _ (by omega)).set _ _ _ (by omega)
  · exact bSet (bSet hbw _ _ _ HGr.out) _ _ _ HGr.out
theorem radd04 {p q : Option Addr} {m n : Nat} {w : World} {x y : Int} (s t : Bool) (h : ZR w s p m x) (k : ZR w t q n y) (hm : m ≤ 50000) (hn : n ≤ 50000) : Calls Tryz.prog 137 #[.agg #[.bool s, .slice p m m], .agg #[.bool t, .slice q n n]] w fun e w' => ∃ v, e = .returned v ∧ GotR w.heap.size w' v (x + y) (max m n + 1) ∧ Below w.heap.size w w' := by
  by_cases hst : s = t
  · exact radd04_s s t h k hm hn hst
  · rcases Nat.lt_or_ge x.natAbs y.natAbs with hl | hl
    · exact radd04_l s t h k hm hn hst hl
    · exact radd04_g s t h k hm hn hst hl
theorem rsub04 {p q : Option Addr} {m n : Nat} {w : World} {x y : Int} (s t : Bool) (h : ZR w s p m x) (k : ZR w t q n y) (hm : m ≤ 50000) (hn : n ≤ 50000) :
    Calls Tryz.prog 155 #[.agg #[.bool s, .slice p m m], .agg #[.bool t, .slice q n n]] w fun e w' => ∃ v, e = .returned v ∧ GotR w.heap.size w' v (x - y) (max m n + 1) ∧ Below w.heap.size w w' := by
  have HA : Hid (ZR w s p m x) := h
  have HB : Hid (ZR w t q n y) := k
  have HM : Hid (m ≤ 50000 ∧ n ≤ 50000) := ⟨hm, hn⟩
  clear h k hm hn
  go_enter Tryz.func155, Tryz.ntmps155
  go_wp2_with fail
  obtain ⟨W0, hW0⟩ : ∃ W0, W0 = (((w.alloc (.cells #[.bool s, .slice p m m] 104)).alloc (.cells #[.bool t, .slice q n n] 104)).alloc (.cells #[.bool false, .slice none 0 0] 104)) := ⟨_, rfl⟩
  have Xa : Hid (Box W0 (w.heap.size) (.bool s) (.slice p m m)) := by rw [hW0]; exact ⟨by go_simp, by go_simp, by go_simp, by go_simp⟩
  have Xb : Hid (Box W0 (w.heap.size + 1) (.bool t) (.slice q n n)) := by rw [hW0]; exact ⟨by go_simp, by go_simp, by go_simp, by go_simp⟩
  have Xr : Hid (Box W0 (w.heap.size + 1 + 1) (.bool false) (.slice none 0 0)) := by rw [hW0]; exact ⟨by go_simp, by go_simp, by go_simp, by go_simp⟩
  have hb0 : Below w.heap.size w W0 := by rw [hW0]; exact below3 w _ _ _
  rw [← hW0]
  clear hW0
  have hbw : Below w.heap.size w w := Below.refl _ _
  obtain ⟨gr, hgr⟩ : ∃ g, g = w.heap.size + 1 + 1 := ⟨_, rfl⟩
  have HGr : Hid (w.heap.size ≤ gr) := by rw [hgr]; show _ ≤ _; omega
  rw [← hgr] at Xr
  try rw [← hgr]
  obtain ⟨gb, hgb⟩ : ∃ g, g = w.heap.size + 1 := ⟨_, rfl⟩
  have HGb : Hid (w.heap.size ≤ gb) := by rw [hgb]; show _ ≤ _; omega
  rw [← hgb] at Xb
  try rw [← hgb]
  obtain ⟨ga, hga⟩ : ∃ g, g = w.heap.size := ⟨_, rfl⟩
  have HGa : Hid (w.heap.size ≤ ga) := by rw [hga]; show _ ≤ _; omega
  rw [← hga] at Xa
  try rw [← hga]
  have HGD : Hid (ga ≠ gb ∧ ga ≠ gr ∧ gb ≠ ga ∧ gb ≠ gr ∧ gr ≠ ga ∧ gr ≠ gb) := by rw [hga, hgb, hgr]; exact ⟨by omega, by omega, by omega, by omega, by omega, by omega⟩
  clear hga hgb hgr
  replace HA : Hid _ := HA.out.below hb0
  replace HB : Hid _ := HB.out.below hb0
  replace hbw := Below.on hbw hb0
  clear hb0
  obtain ⟨W1, hW1⟩ : ∃ W1, W1 = W0.drew := ⟨_, rfl⟩
  have hbd : Below W0.heap.size W0 W1 := by rw [hW1]; exact bDrew1 (Below.refl _ _)
  replace Xa : Hid _ := Xa.out.below hbd
  replace Xb : Hid _ := Xb.out.below hbd
  replace Xr : Hid _ := Xr.out.below hbd
  replace HA : Hid _ := HA.out.below hbd
  replace HB : Hid _ := HB.out.below hbd
  replace hbw := Below.on hbw hbd
  clear hbd
  have HJ : Hid ((fun W' : World => W'.cell? ⟨ga, 0, none⟩ = some (.bool s) ∧ W'.cell? ⟨ga, 1, none⟩ = some (.slice p m m) ∧ W'.cell? ⟨gb, 0, none⟩ = some (.bool t) ∧ W'.cell? ⟨gb, 1, none⟩ = some (.slice q n n)) W1) := ⟨Xa.out.c0, Xa.out.c1, Xb.out.c0, Xb.out.c1⟩
  refine wp_region_J (fun W' => W'.cell? ⟨ga, 0, none⟩ = some (.bool s) ∧ W'.cell? ⟨ga, 1, none⟩ = some (.slice p m m) ∧ W'.cell? ⟨gb, 0, none⟩ = some (.bool t) ∧ W'.cell? ⟨gb, 1, none⟩ = some (.slice q n n)) (by kernel_rfl) ?_
  rw [← hW1]
  clear hW1
  refine wpJ_tq 0 rfl HJ.out ?_
  refine wpJ_tq 1 rfl HJ.out ?_
  refine wpJ_on 2 rfl fun KJ hK => ?_
  go_simp
  refine (rflip_any t HB.out (by have := HM.out; omega)).mono ?_
  rintro e w2 ⟨v, rfl, hv, hb2⟩
  obtain ⟨s2, g2, m2, rfl, hg2, hz2, hl2⟩ := hv
  replace Xa : Hid _ := Xa.out.below hb2
  replace Xb : Hid _ := Xb.out.below hb2
  replace Xr : Hid _ := Xr.out.below hb2
  replace HA : Hid _ := HA.out.below hb2
  replace HB : Hid _ := HB.out.below hb2
  replace hbw := Below.on hbw hb2
  clear hb2
  have ZB : Hid (ZR w2 s2 (some ⟨g2, 0, none⟩) m2 (-y)) := hz2
  have HL2 : Hid (m2 ≤ n) := hl2
  have HRL : Hid (gr < w2.heap.size) := Xr.out.lt
  have HBS : Hid (w.heap.size ≤ w2.heap.size) := hbw.size
  clear hg2 hz2 hl2
  refine hK _ _ ⟨Xa.out.c0, Xa.out.c1, Xb.out.c0, Xb.out.c1⟩ ?_
  clear hK
  refine wpJ_on 3 rfl fun KJ hK => ?_
  go_simp
  refine (radd04 s s2 HA.out ZB.out HM.out.1 (Nat.le_trans HL2.out HM.out.2)).mono ?_
  rintro e w3 ⟨v, rfl, hv, hb3⟩
  rw [← Int.sub_eq_add_neg] at hv
  replace Xa : Hid _ := Xa.out.below hb3
  replace Xb : Hid _ := Xb.out.below hb3
  replace Xr : Hid _ := Xr.out.below hb3
  replace HA : Hid _ := HA.out.below hb3
  replace HB : Hid _ := HB.out.below hb3
  replace ZB : Hid _ := ZB.out.below hb3
  replace hbw := Below.on hbw hb3
  clear hb3
  have HLL : Hid (max m m2 + 1 ≤ max m n + 1) := by have := HL2.out; show _ ≤ _; omega
  obtain ⟨s9, g9, m9, rfl, hg9, hz9, hl9⟩ := hv
  have ZA : Hid (ZR w3 s9 (some ⟨g9, 0, none⟩) m9 (x - y)) := hz9
  have HL : Hid (m9 ≤ max m n + 1) := by have := hl9; have := HLL.out; show m9 ≤ _; omega
  have HGE : Hid (gr < g9) := Nat.lt_of_lt_of_le HRL.out hg9
  have HGB : Hid (w.heap.size ≤ g9) := Nat.le_trans HBS.out hg9
  clear hg9 hz9 hl9
  refine hK _ _ ⟨Xa.out.c0, Xa.out.c1, Xb.out.c0, Xb.out.c1⟩ ?_
  clear hK
  obtain ⟨cr0, cr1, fr0, fr1⟩ := Xr.out
  have hner := Xr.out.lt
  obtain ⟨ca0, ca1, fa0, fa1⟩ := Xa.out
  have hnea := Xa.out.lt
  obtain ⟨cb0, cb1, fb0, fb1⟩ := Xb.out
  have hneb := Xb.out.lt
  obtain ⟨hgd0, hgd1, hgd2, hgd3, hgd4, hgd5⟩ := HGD.out
  refine wpJ_on 4 rfl fun KJ hK => ?_
  go_simp
  have HJ2 : Hid ((fun W' : World => W'.cell? ⟨ga, 0, none⟩ = some (.bool s) ∧ W'.cell? ⟨ga, 1, none⟩ = some (.slice p m m) ∧ W'.cell? ⟨gb, 0, none⟩ = some (.bool t) ∧ W'.cell? ⟨gb, 1, none⟩ = some (.slice q n n)) ((w3.setCell ⟨gr, 0, none⟩ (.bool s9)).setCell ⟨gr, 1, none⟩ (.slice (some ⟨g9, 0, none⟩) m9 m9))) := ⟨by go_simp, by go_simp, by go_simp, by go_simp⟩
  refine hK _ _ HJ2.out ?_
  clear hK HJ
  have HJ := HJ2
  clear HJ2
  refine wpJ_done (by kernel_rfl) ?_ _
  clear HJ
  go_wp2_with fail
  refine bodyPost_ret (v := .agg #[.bool s9, .slice (some ⟨g9, 0, none⟩) m9 m9]) (by rw [results_cell1 rfl]; go_simp) rfl ⟨_, rfl, ⟨s9, g9, m9, rfl, HGB.out, ?_, HL.out⟩, ?_⟩
  · have := HGE.out
    exact (ZA.out.set _ _ _ (by omega)).set _ _ _ (by omega)
  · exact bSet (bSet hbw _ _ _ HGr.out) _ _ _ HGr.out
theorem rsign04 {p : Option Addr} {m : Nat} {w : World} {z : Int} (s : Bool) (h : ZR w s p m z) :
    Calls Tryz.prog 154 #[.agg #[.bool s, .slice p m m]] w fun e w' => e = .returned (.int .i64 (sgnI z)) ∧ Below w.heap.size w w' := by
  have hz := h.zero
  have hsg := h.sg
  obtain ⟨sg, hs⟩ : ∃ sg, sg = sgnI z := ⟨_, rfl⟩
  rw [← hs]
  by_cases hm : m = 0
  · have hv : sg = 0 := by rw [hs, hz.1 hm]; rfl
    subst hv
    subst hm
    clear h hz hsg hs
    go_enter Tryz.func154, Tryz.ntmps154
    go_wp2_with fail
    go_ret
    exact ⟨rfl, below1 w _⟩
  · have hm0 : ((m : Int) == 0) = false := by simp; omega
    have hz0 : z ≠ 0 := fun e => hm (hz.2 e)
    cases s
    · have hv : sg = 1 := by rw [hs]; unfold sgnI; have := of_decide_eq_false hsg.symm; rw [if_neg this, if_neg hz0]
      subst hv
      clear h hz hsg hs hz0
      go_enter Tryz.func154, Tryz.ntmps154
      go_wp2_with fail
      go_ret
      exact ⟨rfl, below1 w _⟩
    · have hv : sg = -1 := by rw [hs]; unfold sgnI; have := of_decide_eq_true hsg.symm; rw [if_pos this]
      subst hv
      clear h hz hsg hs hz0
      go_enter Tryz.func154, Tryz.ntmps154
      go_wp2_with fail
      go_ret
      exact ⟨rfl, below1 w _⟩
theorem sgn_cmp (x y : Int) : sgnI (x - y) = cmpI x y := by
  unfold sgnI cmpI
  rcases Int.lt_trichotomy x y with h | h | h
  · rw [if_pos (by omega), if_pos h]
  · rw [if_neg (by omega), if_pos (by omega), if_neg (by omega), if_pos h]
  · rw [if_neg (by omega), if_neg (by omega), if_neg (by omega), if_neg (by omega)]
theorem rcmp04 {p q : Option Addr} {m n : Nat} {w : World} {x y : Int} (s t : Bool) (h : ZR w s p m x) (k : ZR w t q n y) (hm : m ≤ 50000) (hn : n ≤ 50000) :
    Calls Tryz.prog 132 #[.agg #[.bool s, .slice p m m], .agg #[.bool t, .slice q n n]] w fun e w' => e = .returned (.int .i64 (cmpI x y)) ∧ Below w.heap.size w w' := by
  have HA : Hid (ZR w s p m x) := h
  have HB : Hid (ZR w t q n y) := k
  have HM : Hid (m ≤ 50000 ∧ n ≤ 50000) := ⟨hm, hn⟩
  clear h k hm hn
  rw [← sgn_cmp]
  go_enter Tryz.func132, Tryz.ntmps132
  go_wp2_with fail
  obtain ⟨W0, hW0⟩ : ∃ W0, W0 = ((w.alloc (.cells #[.bool s, .slice p m m] 104)).alloc (.cells #[.bool t, .slice q n n] 104)) := ⟨_, rfl⟩
  have Xa : Hid (Box W0 (w.heap.size) (.bool s) (.slice p m m)) := by rw [hW0]; exact ⟨by go_simp, by go_simp, by go_simp, by go_simp⟩
  have Xb : Hid (Box W0 (w.heap.size + 1) (.bool t) (.slice q n n)) := by rw [hW0]; exact ⟨by go_simp, by go_simp, by go_simp, by go_simp⟩
  have hb0 : Below w.heap.size w W0 := by rw [hW0]; exact below2 w _ _
  rw [← hW0]
  clear hW0
  have hbw : Below w.heap.size w w := Below.refl _ _
  obtain ⟨gb, hgb⟩ : ∃ g, g = w.heap.size + 1 := ⟨_, rfl⟩
  have HGb : Hid (w.heap.size ≤ gb) := by rw [hgb]; show _ ≤ _; omega
  rw [← hgb] at Xb
  try rw [← hgb]
  obtain ⟨ga, hga⟩ : ∃ g, g = w.heap.size := ⟨_, rfl⟩
  have HGa : Hid (w.heap.size ≤ ga) := by rw [hga]; show _ ≤ _; omega
  rw [← hga] at Xa
  try rw [← hga]
  have HGD : Hid (ga ≠ gb ∧ gb ≠ ga) := by rw [hga, hgb]; exact ⟨by omega, by omega⟩
  clear hga hgb
  replace HA : Hid _ := HA.out.below hb0
  replace HB : Hid _ := HB.out.below hb0
  replace hbw := Below.on hbw hb0
  clear hb0
  refine (rsub04 s t HA.out HB.out HM.out.1 HM.out.2).mono ?_
  rintro e w2 ⟨v, rfl, hv, hb2⟩
  obtain ⟨s2, g2, m2, rfl, hg2, hz2, hl2⟩ := hv
  replace Xa : Hid _ := Xa.out.below hb2
  replace Xb : Hid _ := Xb.out.below hb2
  replace HA : Hid _ := HA.out.below hb2
  replace HB : Hid _ := HB.out.below hb2
  replace hbw := Below.on hbw hb2
  clear hb2
  have ZB : Hid (ZR w2 s2 (some ⟨g2, 0, none⟩) m2 (x - y)) := hz2
  clear hg2 hz2 hl2
  go_wp2_with fail
  refine (rsign04 s2 ZB.out).mono ?_
  rintro e v3 ⟨rfl, hb3⟩
  obtain ⟨sv, hsv⟩ : ∃ sv, sv = sgnI (x - y) := ⟨_, rfl⟩
  rw [← hsv]
  have HSV : Hid (sv = sgnI (x - y)) := hsv
  clear hsv
  replace Xa : Hid _ := Xa.out.below hb3
  replace Xb : Hid _ := Xb.out.below hb3
  replace HA : Hid _ := HA.out.below hb3
  replace HB : Hid _ := HB.out.below hb3
  replace ZB : Hid _ := ZB.out.below hb3
  replace hbw := Below.on hbw hb3
  clear hb3
  go_wp2_with fail
  go_ret
  exact ⟨by rw [← HSV.out]; rfl, hbw⟩
def NewAt (B : Nat) (w : World) (p : Option Addr) (m c : Nat) (us : List Nat) : Prop := At w p m c us ∧ (m = 0 ∨ ∃ g, p = some ⟨g, 0, none⟩ ∧ B ≤ g)
theorem NewAt.below {B : Nat} {w w' : World} {p : Option Addr} {m c : Nat} {us : List Nat} (h : NewAt B w p m c us) (hb : Below w.heap.size w w') : NewAt B w' p m c us := ⟨h.1.below hb, h.2⟩
theorem NewAt.mono {B B' : Nat} {w : World} {p : Option Addr} {m c : Nat} {us : List Nat} (h : NewAt B w p m c us) (hB : B' ≤ B) : NewAt B' w p m c us :=
  ⟨h.1, h.2.imp id (fun ⟨g, e, k⟩ => ⟨g, e, Nat.le_trans hB k⟩)⟩
theorem NewAt.set {B : Nat} {w : World} {p : Option Addr} {m c : Nat} {us : List Nat} (h : NewAt B w p m c us) {r : Nat} (hr : r < B) (o : Nat) (v : Value) : NewAt B (w.setCell ⟨r, o, none⟩ v) p m c us := by
  refine ⟨?_, h.2⟩
  rcases h.2 with h0 | ⟨g, rfl, hg⟩
  · subst h0
    obtain rfl : us = [] := List.eq_nil_of_length_eq_zero h.1.len
    exact At.empty _ _ _ h.1.big
  · exact h.1.setOther _ _ _ (by omega)
def DocZ (z : Int) (s : Bool) (us : List Nat) (er : Int) : Prop :=
  (z.natAbs < LIM ∧ s = decide (z < 0) ∧ Nf B64 us z.natAbs ∧ er = 0) ∨ (LIM ≤ z.natAbs ∧ s = false ∧ us = [] ∧ er = 5)
theorem DocZ.inj {z : Int} {s s' : Bool} {us us' : List Nat} {er er' : Int} (h : DocZ z s us er) (k : DocZ z s' us' er') : s = s' ∧ us = us' ∧ er = er' := by
  rcases h with ⟨h0, rfl, h1, rfl⟩ | ⟨h0, rfl, rfl, rfl⟩ <;> rcases k with ⟨k0, rfl, k1, rfl⟩ | ⟨k0, rfl, rfl, rfl⟩
  · exact ⟨rfl, h1.inj B64_one k1, rfl⟩
  · omega
  · omega
  · exact ⟨rfl, rfl, rfl⟩
theorem lim32 {zs : List Nat} {a : Nat} (h : Nf B32 zs a) : zs.length ≤ 16384 ↔ a < LIM := by
  rw [h.len_le B32_one]
  obtain ⟨K, hK⟩ : ∃ K, K = 8192 := ⟨_, rfl⟩
  rw [LIM_eq K hK, ← B32_two, show (16384 : Nat) = 2 * K by omega, Nat.pow_mul, Nat.pow_two]
def OneZ (r : Int → Int) (sx : Bool) (xs : List Nat) (s : Bool) (us : List Nat) (er : Int) : Prop :=
  (formZ sx xs = false ∧ s = false ∧ us = [] ∧ er = 2) ∨ (formZ sx xs = true ∧ DocZ (r (iv sx (valB B64 xs))) s us er)
def TwoZ (r : Int → Int → Int) (sx : Bool) (xs : List Nat) (sy : Bool) (ys : List Nat) (s : Bool) (us : List Nat) (er : Int) : Prop :=
  ((formZ sx xs && formZ sy ys) = false ∧ s = false ∧ us = [] ∧ er = 2) ∨ ((formZ sx xs && formZ sy ys) = true ∧ DocZ (r (iv sx (valB B64 xs)) (iv sy (valB B64 ys))) s us er)
theorem OneZ.inj {r : Int → Int} {sx : Bool} {xs : List Nat} {s s' : Bool} {us us' : List Nat} {er er' : Int} (h : OneZ r sx xs s us er) (k : OneZ r sx xs s' us' er') : s = s' ∧ us = us' ∧ er = er' := by
  rcases h with ⟨h0, rfl, rfl, rfl⟩ | ⟨h0, h1⟩ <;> rcases k with ⟨k0, rfl, rfl, rfl⟩ | ⟨k0, k1⟩
  · exact ⟨rfl, rfl, rfl⟩
  · rw [h0] at k0; cases k0
  · rw [h0] at k0; cases k0
  · exact h1.inj k1
theorem TwoZ.inj {r : Int → Int → Int} {sx sy : Bool} {xs ys : List Nat} {s s' : Bool} {us us' : List Nat} {er er' : Int} (h : TwoZ r sx xs sy ys s us er) (k : TwoZ r sx xs sy ys s' us' er') : s = s' ∧ us = us' ∧ er = er' := by
  rcases h with ⟨h0, rfl, rfl, rfl⟩ | ⟨h0, h1⟩ <;> rcases k with ⟨k0, rfl, rfl, rfl⟩ | ⟨k0, k1⟩
  · exact ⟨rfl, rfl, rfl⟩
  · rw [h0] at k0; cases k0
  · rw [h0] at k0; cases k0
  · exact h1.inj k1
def OffR (g m g2 : Nat) : Prop := m = 0 ∨ g ≠ g2
theorem ZR.setOff {w : World} {s : Bool} {g m : Nat} {z : Int} (h : ZR w s (some ⟨g, 0, none⟩) m z) {g2 : Nat} (hf : OffR g m g2) (o2 : Nat) (v : Value) : ZR (w.setCell ⟨g2, o2, none⟩ v) s (some ⟨g, 0, none⟩) m z := by
  rcases hf with h0 | h0
  · subst h0
    obtain ⟨zs, hA, hN⟩ := h.ex
    obtain rfl : zs = [] := List.eq_nil_of_length_eq_zero hA.len
    exact ⟨⟨[], At32.empty _ _ _ (by decide), hN⟩, h.sg⟩
  · exact h.set g2 o2 v h0
structure WinRel32 (w : World) (g off n : Nat) (W D d b : Nat) (ws : List Nat) (wr : World) : Prop where
  wrs : Wr g off (n + 1) w wr
  row : Row32 wr g off (n + 1) ws
  db : d < B32
  bb : b ≤ 1
  ge : W / D ≤ d
  sum : valB B32 ws + D * d = W + B32 ^ (n + 1) * b
theorem WinRel32.done {w : World} {g off n W D d : Nat} {ws : List Nat} {wr : World} (h : WinRel32 w g off n W D d 0 ws wr) (hD : 0 < D) : d = W / D ∧ valB B32 ws = W % D := by
  have h1 := h.sum; have h2 := h.ge
  rw [Nat.mul_zero, Nat.add_zero] at h1
  have h3 : d ≤ W / D := (Nat.le_div_iff_mul_le hD).2 (by rw [Nat.mul_comm]; omega)
  have h4 : d = W / D := by omega
  refine ⟨h4, ?_⟩
  have h5 := Nat.div_add_mod W D
  rw [← h4] at h5
  omega
structure DgS (w : World) (g off n : Nat) (us vs : List Nat) (q k cy ow : Nat) (dk : List Nat) (wr : World) : Prop where
  wrs : Wr g off (n + 1) w wr
  row : Row32 wr g off (n + 1) dk
  hi : dk.drop k = us.drop k
  car : cy < B32
  owb : ow ≤ 1
  fin : k = n + 1 → cy = 0
  sum : valB B32 (dk.take k) + valB B32 (vs.take k) * q = valB B32 (us.take k) + B32 ^ k * (ow + cy)
theorem dgs_abs {P B S V U q d y u o c o' c' : Nat} (h : S + V * q = U + P * (o + c)) (hs : o + c + d + y * q = u + B * (o' + c')) : S + P * d + (V + P * y) * q = U + P * u + P * B * (o' + c') := by
  have e1 : P * (o + c + d + y * q) = P * (u + B * (o' + c')) := by rw [hs]
  rw [Nat.mul_add P (o + c + d) (y * q), Nat.mul_add P (o + c) d, Nat.mul_add P u] at e1
  have e2 : P * (y * q) = P * y * q := (Nat.mul_assoc _ _ _).symm
  have e3 : P * (B * (o' + c')) = P * B * (o' + c') := (Nat.mul_assoc _ _ _).symm
  rw [e2, e3] at e1
  rw [Nat.add_mul]
  generalize P * y * q = X1 at *
  generalize P * B * (o' + c') = X2 at *
  generalize P * (o + c) = X3 at *
  generalize P * d = X4 at *
  generalize P * u = X5 at *
  omega
theorem DgS.step {w : World} {g off n : Nat} {us vs : List Nat} {q k cy ow : Nat} {dk : List Nat} {wr : World} (h : DgS w g off n us vs q k cy ow dk wr) (hk : k < n + 1) (hvl : vs.length = n)
    {y u c1 lo cy' ow' d : Nat} (hy : y = vs.getD k 0) (hu : u = dk.getD k 0) (hc1 : c1 = cy + y * q) (hlo : c1 = lo + B32 * cy') (hcy' : cy' < B32) (how' : ow' ≤ 1) (hd : d + lo + ow = u + B32 * ow') (hdb : d < B32) :
    DgS w g off n us vs q (k + 1) cy' ow' (dk.set k d) (wr.setCell ⟨g, off + k, none⟩ (V d)) := by
  have hlen := h.row.len
  refine ⟨h.wrs.setCell (off + k) ⟨by omega, by omega⟩ _, h.row.set k d hk hdb, ?_, hcy', how', ?_, ?_⟩
  · rw [drop_set_lt]; exact drop_succ_of_drop h.hi
  · intro hkn
    have h0 : y = 0 := by
      rw [hy, List.getD_eq_getElem?_getD, List.getElem?_eq_none (by omega)]; rfl
    rw [h0, Nat.zero_mul] at hc1
    have := h.car
    rcases Nat.eq_zero_or_pos cy' with e | e
    · exact e
    · have : B32 * 1 ≤ B32 * cy' := Nat.mul_le_mul_left _ e
      omega
  · have huu : u = us.getD k 0 := hu.trans (getD_of_drop h.hi)
    rw [take_set_succ dk k d (by omega), valB_snoc, List.length_take, hlen, Nat.min_eq_left (by omega), valB_take_any _ us k, valB_take_any _ vs k, ← huu, ← hy, Nat.pow_succ]
    refine dgs_abs h.sum ?_
    rw [Nat.mul_add]
    omega
structure DgA (w : World) (g off n : Nat) (ws vs : List Nat) (k cy : Nat) (dk : List Nat) (wr : World) : Prop where
  wrs : Wr g off (n + 1) w wr
  row : Row32 wr g off (n + 1) dk
  hi : dk.drop k = ws.drop k
  car : cy ≤ 1
  sum : valB B32 (dk.take k) + B32 ^ k * cy = valB B32 (ws.take k) + valB B32 (vs.take k)
theorem DgA.step {w : World} {g off n : Nat} {ws vs : List Nat} {k cy : Nat} {dk : List Nat} {wr : World} (h : DgA w g off n ws vs k cy dk wr) (hk : k < n + 1)
    {y u lo cy' : Nat} (hy : y = vs.getD k 0) (hu : u = dk.getD k 0) (hs : cy + u + y = lo + B32 * cy') (hlo : lo < B32) (hcy' : cy' ≤ 1) :
    DgA w g off n ws vs (k + 1) cy' (dk.set k lo) (wr.setCell ⟨g, off + k, none⟩ (V lo)) := by
  have hlen := h.row.len
  refine ⟨h.wrs.setCell (off + k) ⟨by omega, by omega⟩ _, h.row.set k lo hk hlo, ?_, hcy', ?_⟩
  · rw [drop_set_lt]; exact drop_succ_of_drop h.hi
  · have huu : u = ws.getD k 0 := hu.trans (getD_of_drop h.hi)
    rw [take_set_succ dk k lo (by omega), valB_snoc, List.length_take, hlen, Nat.min_eq_left (by omega), valB_take_any _ ws k, valB_take_any _ vs k, ← huu, ← hy, Nat.pow_succ]
    have e1 := h.sum
    have e2 : B32 ^ k * (cy + u + y) = B32 ^ k * (lo + B32 * cy') := by rw [hs]
    rw [Nat.mul_add, Nat.mul_add, Nat.mul_add, ← Nat.mul_assoc] at e2
    omega
theorem Blk32.own {w : World} {g base : Nat} {xs : List Nat} (h : Blk32 w g xs) (hb : base ≤ g) (hm : xs.length ≤ maxLen) : w.ownsRow base 171 1 (.slice (some ⟨g, 0, none⟩) xs.length xs.length) xs.length (cellsV xs) :=
  ⟨by simp [cellsV], .inr ⟨g, xs.length, (cellsV xs).toArray, rfl, hb, h, Nat.le_refl _, hm, by simp [cellsV], by rw [Nat.mul_one]; exact List.take_of_length_le (by simp [cellsV])⟩⟩
structure RSmR (w : World) (g N : Nat) (xs : List Nat) (v c i cy : Nat) (ss : List Nat) (wr : World) : Prop where
  bel : Below g w wr
  own : wr.ownsRow g 171 1 (.slice (some ⟨g, 0, none⟩) i N) i (cellsV ss)
  len : ss.length = i
  dig : Dig B32 ss
  car : cy < B32
  sum : valB B32 ss + B32 ^ i * cy = valB B32 (xs.take i) * v + c
theorem rsm_step {xs ss : List Nat} {i cy x v c lo hh : Nat} (h : valB B32 ss + B32 ^ i * cy = valB B32 (xs.take i) * v + c) (hl : ss.length = i) (ex : x = xs.getD i 0) (hs : cy + x * v = lo + B32 * hh) :
    valB B32 (ss ++ [lo]) + B32 ^ (i + 1) * hh = valB B32 (xs.take (i + 1)) * v + c := by
  rw [valB_snoc, hl, valB_take_any _ xs i, ← ex, Nat.pow_succ, Nat.add_mul]
  have e1 : B32 ^ i * (cy + x * v) = B32 ^ i * (lo + B32 * hh) := by rw [hs]
  rw [Nat.mul_add, Nat.mul_add, ← Nat.mul_assoc, ← Nat.mul_assoc] at e1
  omega
theorem own_at32 {wr : World} {g i N : Nat} {ss : List Nat} (ho : wr.ownsRow g 171 1 (.slice (some ⟨g, 0, none⟩) i N) i (cellsV ss)) (hl : ss.length = i) (hd : Dig B32 ss) : At32 wr (some ⟨g, 0, none⟩) i N ss := by
  rcases ho.2 with ⟨h', _⟩ | ⟨g', cap', cur, h', hbase, hgc, hcap', hmx, hsz, htake⟩
  · simp at h'
  · simp only [Value.slice.injEq, Option.some.injEq, Addr.mk.injEq, and_true, true_and] at h'
    obtain ⟨rfl, rfl⟩ := h'
    refine ⟨hl, hcap', hmx, hd, .inr ⟨g, 0, rfl, fun jj hj => ?_⟩⟩
    rw [Nat.zero_add, cell_of_row wr g jj _ _ _ hgc]
    have e1 := cellsV_get ss jj (by rw [hl]; exact hj)
    rw [← htake, Nat.mul_one, List.getElem?_take, if_pos hj] at e1
    rw [← Array.getElem?_toList]; exact e1

theorem rsmall_any {p : Option Addr} {n c : Nat} {xs : List Nat} {a v u : Nat} {w : World} (h : At32 w p n c xs) (hx : Nf B32 xs a) (hn : n ≤ 4398046511104) (hv : v < B32) (hu : u < B32) :
    Calls Tryz.prog 153 #[.slice p n c, V v, V u] w fun e w' => ∃ g zs, e = .returned (.slice (some ⟨g, 0, none⟩) zs.length zs.length) ∧ Blk32 w' g zs ∧ Nf B32 zs (a * v + u) ∧ zs.length ≤ n + 1 ∧ Below w.heap.size w w' := by
  obtain ⟨i0, hi, hz0, hz1, hz2⟩ := info_parts Tryz.infoU32
  have HX : Hid (Nf B32 xs a) := hx
  have HLX : Hid (xs.length = n) := h.len
  have hcap := h.cap; have hbig := h.big
  unfold maxLen at hbig
  have huw : IntKind.u64.wrap (u : Int) = (u : Int) := wrap_mod _ _ (by rw [B32_eq] at hu; omega)
  clear hx
  go_enter Tryz.func153, Tryz.ntmps153
  go_wp2_with (at_make; refine wpList_make_own _ rfl _ _ 102 rfl w.heap.size 171 i0 (.int .u32 0) 1 Tryz.underlying102 hi hz0 hz1 _ _ _ (n + 1) rfl rfl (by omega) (by rw [hz2]; omega) (by unfold maxLen; omega) (Nat.le_refl _) ?_; intro w1 hown hgrow)
  have hb1 : Below w.heap.size w w1 := (Below.refl _ _).grown hgrow (Nat.le_refl _) (fun k hk => by simp at hk)
  have HO : Hid (RSmR w w.heap.size (n + 1) xs v u 0 u [] w1) := ⟨hb1, hown, rfl, Dig.nil _, hu, by simp [valB]⟩
  clear hown hgrow hb1
  obtain ⟨N, hN⟩ : ∃ N, N = n + 1 := ⟨_, rfl⟩
  rw [← hN] at HO ⊢
  have HN : Hid (N = n + 1) := hN
  clear hN
  go_loopg [7, 8, 9] n (fun gk sv cv iv wr => ∃ (i cy : Nat) (ss : List Nat), i + gk = n ∧ iv = .int .i64 i ∧ cv = U cy ∧ sv = .slice (some ⟨w.heap.size, 0, none⟩) i N ∧ Hid (RSmR w w.heap.size N xs v u i cy ss wr))
  case atStart => exact ⟨0, u, [], by omega, rfl, rfl, rfl, HO⟩
  case round =>
    obtain ⟨i, cy, ss, hig, rfl, rfl, rfl, HR⟩ := hrel
    have hcyb := HR.out.car
    cases gk with
    | zero =>
      obtain rfl : i = n := by omega
      have hni : ¬ i < i := by omega
      have hw32 : IntKind.u32.wrap (cy : Int) = (cy : Int) := wrap32 cy hcyb
      have HOA : Hid ((wr.alloc (.cells #[V cy] 171)).ownsRow w.heap.size 171 1 (.slice (some ⟨w.heap.size, 0, none⟩) i N) i (cellsV ss)) := HR.out.own.alloc _
      have hsp : i + 1 ≤ N := by have := HN.out; omega
      go_wp2_with (at_builtin; refine wpList_append_fits _ rfl (.tmp 40) (.tmp 43) 102 rfl w.heap.size 171 i0 1 Tryz.underlying102 hi hz1 w.heap.size i N (cellsV ss) rfl HOA.out ⟨wr.heap.size, 0, none⟩ 1 1 [V cy] rfl rfl (one_cell wr cy) (by intro u hu; simp at hu; subst hu; rfl) hsp ?_; intro w3 hw3 hgr3)
      have hR := HR.out
      have hbx : Below w.heap.size w w3 := (hR.bel.alloc hR.bel.size _).grown hgr3 (by have := hR.bel.size; simp; omega) (fun q hq => by simp at hq; omega)
      have e0 : cellsV (ss ++ [cy]) = cellsV ss ++ [V cy] := by unfold cellsV; rw [List.map_append]; rfl
      rw [← e0] at hw3
      have hl3 : (ss ++ [cy]).length = i + 1 := by simp [hR.len]
      have hd3 : Dig B32 (ss ++ [cy]) := hR.dig.append (Dig.cons hcyb (Dig.nil _))
      have A32 := own_at32 hw3 hl3 hd3
      have HNF : Hid (Nf B32 (trimL (ss ++ [cy])) (a * v + u)) := by
        have h1 := Nf.trim hd3
        have h2 := hR.sum
        rw [List.take_of_length_le (by rw [HLX.out]; omega), HX.out.val] at h2
        rw [valB_snoc, hR.len, h2] at h1; exact h1
      have hle := trimL_length_le (ss ++ [cy])
      have HLE : Hid ((trimL (ss ++ [cy])).length ≤ i + 1) := by show _ ≤ _; omega
      clear hw3 hgr3 e0 hl3 hd3 hle hR
      refine (rnorm_any A32 (by omega)).mono ?_
      rintro e w5 ⟨g5, rfl, hg5, hblk5, hb5⟩
      generalize trimL (ss ++ [cy]) = zs at *
      go_wp2_with fail
      go_ret
      exact ⟨g5, zs, rfl, hblk5, HNF.out, HLE.out, Below.on hbx hb5⟩
    | succ gg =>
      obtain ⟨g, off, rfl, hc⟩ := h.cells.resolve_left (by omega)
      obtain ⟨x, hxx⟩ : ∃ x, x = xs.getD i 0 := ⟨_, rfl⟩
      have hin : i < n := by omega
      have hcx0 : w.cell? ⟨g, off + i, none⟩ = some (V x) := by rw [hxx]; exact hc i hin
      have hcx : wr.cell? ⟨g, off + i, none⟩ = some (V x) := (HR.out.bel.cell (p := ⟨g, off + i, none⟩) (World.block_lt_of_cell? w _ hcx0)).trans hcx0
      have hxb : x < B32 := by rw [hxx]; exact HX.out.dig.getD B32_pos i
      have hxw : IntKind.u64.wrap (x : Int) = (x : Int) := wrap_mod _ _ (by rw [B32_eq] at hxb; omega)
      have hvw : IntKind.u64.wrap (v : Int) = (v : Int) := wrap_mod _ _ (by rw [B32_eq] at hv; omega)
      have HXE : Hid (x = xs.getD i 0) := hxx
      have hall := rmul_digit hxb hv B32_pos hcyb
      obtain ⟨xy, exy⟩ : ∃ xy, xy = x * v := ⟨_, rfl⟩
      rw [← exy] at hall
      rw [B64_eq] at hall
      have f1 : IntKind.u64.wrap ((x : Int) * (v : Int)) = (xy : Int) := by
        have e : ((x : Int) * (v : Int)) = ((x * v : Nat) : Int) := by simp
        rw [e, ← exy]; exact wrap_mod _ _ (by omega)
      obtain ⟨s2, es2⟩ : ∃ s2, s2 = cy + xy := ⟨_, rfl⟩
      have f3 : IntKind.u64.wrap ((cy : Int) + (xy : Int)) = (s2 : Int) := wrap_mod _ _ (by omega)
      have hs2 : s2 < 18446744073709551616 := by omega
      obtain ⟨lo, elo⟩ : ∃ lo, lo = s2 % B32 := ⟨_, rfl⟩
      obtain ⟨hh, ehh⟩ : ∃ hh, hh = s2 / B32 := ⟨_, rfl⟩
      have hlob : lo < B32 := by rw [elo]; exact Nat.mod_lt _ B32_pos
      have hhhb : hh < B32 := by rw [ehh]; exact Nat.div_lt_of_lt_mul (by rw [B32_two, B64_eq]; exact hs2)
      have f4 : bits .and .u64 (s2 : Int) 4294967295 = (lo : Int) := by rw [elo, B32_eq]; exact and32 s2 hs2
      have f5 : (s2 : Int) / 4294967296 = (hh : Int) := by rw [ehh, B32_eq]; exact div32 s2
      have f6 : IntKind.u32.wrap (lo : Int) = (lo : Int) := wrap32 lo hlob
      have HSUM : Hid (cy + x * v = lo + B32 * hh) := by
        have := Nat.mod_add_div s2 B32
        rw [← elo, ← ehh] at this
        show _ = _; omega
      have HOA : Hid ((wr.alloc (.cells #[V lo] 171)).ownsRow w.heap.size 171 1 (.slice (some ⟨w.heap.size, 0, none⟩) i N) i (cellsV ss)) := HR.out.own.alloc _
      have hsp : i + 1 ≤ N := by have := HN.out; omega
      clear hall exy es2 elo ehh hxx hcx0 hc
      go_wp2_with (at_builtin; refine wpList_append_fits _ rfl (.tmp 32) (.tmp 36) 102 rfl w.heap.size 171 i0 1 Tryz.underlying102 hi hz1 w.heap.size i N (cellsV ss) rfl HOA.out ⟨wr.heap.size, 0, none⟩ 1 1 [V lo] rfl rfl (one_cell wr lo) (by intro u hu; simp at hu; subst hu; rfl) hsp ?_; intro w3 hw3 hgr3)
      have HR3 : Hid (RSmR w w.heap.size N xs v u (i + 1) hh (ss ++ [lo]) w3) := by
        have hR := HR.out
        refine ⟨(hR.bel.alloc hR.bel.size _).grown hgr3 (by have := hR.bel.size; simp; omega) (fun q hq => by simp at hq; omega), ?_, by simp [hR.len], hR.dig.append (Dig.cons hlob (Dig.nil _)), hhhb, rsm_step hR.sum hR.len HXE.out HSUM.out⟩
        have e0 : cellsV (ss ++ [lo]) = cellsV ss ++ [V lo] := by unfold cellsV; rw [List.map_append]; rfl
        rw [e0]; exact hw3
      clear hw3 hgr3
      go_roundg gg
      case measure => omega
      case rel => exact ⟨i + 1, hh, ss ++ [lo], by omega, by go_num, rfl, rfl, HR3⟩
theorem wpList_make_room {P : Program} (w : World) {ops : Array Oper} {rest : List Oper} {o : Oper} {a : Act} {Q : Exit → Act → World → Prop}
    (hg : o.guard = none) (l c : Operand) (t : TypeId) (hop : o.op = Op.makeSlice t l c)
    (base : Nat) (e : TypeId) (i : TypeInfo) (z : Value) (size : Nat) (h1 : P.underlying t = some (.slice e)) (h2 : P.info? e = some i) (h3 : i.zero = some z) (h4 : i.size = size)
    (kl kc : IntKind) (L C : Int) (n m : Nat) (hl : a.eval l = .int kl L) (hc : a.eval c = .int kc C) (hL : L = (n : Int)) (hC : C = (m : Int)) (hnm : n ≤ m) (b2 : i.bytes * m ≤ 281474976710656) (b3 : m ≤ maxLen) (b4 : base ≤ w.heap.size)
    (hK : ∀ w', w'.ownsRow base e size (.slice (some ⟨w.heap.size, 0, none⟩) n m) n ((madeCells z.cells (m * size)).toList.take (n * size)) → w.grownBy w' none → wpList P ops Q rest (a.put o.dst (.slice (some ⟨w.heap.size, 0, none⟩) n m)) w') :
    wpList P ops Q (o :: rest) a w := by
  refine wpList_plain hg fun K hK' => ?_
  subst h4
  have h63' : (m : Int) ≤ 9223372036854775807 := by
    have h := b3
    simp [maxLen] at h
    omega
  have hb' : (i.bytes : Int) * (m : Int) ≤ 281474976710656 := by
    have h : ((i.bytes * m : Nat) : Int) ≤ 281474976710656 := by omega
    rwa [Int.natCast_mul] at h
  have hr := run_make (P := P) w t e i z h1 h2 h3 kl kc n m (by omega) (by omega) hb' h63'
  simp only [Int.toNat_natCast] at hr
  subst hL
  subst hC
  unfold Oper.wp
  simp [execOp, hop, hl, hc, hr, Result.andThen]
  refine hK' _ _ (hK _ ⟨?_, .inr ⟨_, m, _, rfl, b4, heap_alloc_new w _, hnm, b3, size_madeCells _ _, rfl⟩⟩ (World.grownBy_alloc w _ none))
  rw [List.length_take, Nat.min_eq_left]
  rw [Array.length_toList, size_madeCells]
  exact Nat.mul_le_mul_right _ hnm
theorem made_take (D M : Nat) (h : D ≤ M) : (madeCells (Value.cells (.int .u32 0)) (M * 1)).toList.take (D * 1) = cellsV (List.replicate D 0) := by
  rw [madeV, Nat.mul_one]
  unfold cellsV
  rw [List.map_replicate, List.map_replicate, List.take_replicate, Nat.min_eq_left h]
theorem valB_zeros (D : Nat) (zs : List Nat) : valB B32 (List.replicate D 0 ++ zs) = B32 ^ D * valB B32 zs := by
  rw [valB_append, valB_replicate, List.length_replicate, Nat.zero_add]

theorem own_below {w w' : World} {base g n m size : Nat} {e : TypeId} {xs : List Value} (h : w.ownsRow base e size (.slice (some ⟨g, 0, none⟩) n m) n xs) (hb : Below w.heap.size w w') (hg : g < w.heap.size) : w'.ownsRow base e size (.slice (some ⟨g, 0, none⟩) n m) n xs := by
  refine ⟨h.1, ?_⟩
  rcases h.2 with ⟨h', _⟩ | ⟨g', cap', cur, h', hbase, hgc, hr⟩
  · simp at h'
  · have h2 := h'
    simp only [Value.slice.injEq, Option.some.injEq, Addr.mk.injEq, and_true] at h2
    obtain ⟨rfl, _⟩ := h2
    exact .inr ⟨_, cap', cur, h', hbase, (hb.block _ hg).trans hgc, hr⟩
theorem blk_src {w : World} {g : Nat} {xs : List Nat} (h : Blk32 w g xs) : ∀ j u, (cellsV xs)[j]? = some u → w.cell? ((⟨g, 0, none⟩ : Addr).add j) = some u := by
  intro j u hu
  have hj : j < xs.length := by
    have := (List.getElem?_eq_some_iff.1 hu).1
    rwa [cellsV_length] at this
  have hadd : (⟨g, 0, none⟩ : Addr).add j = ⟨g, j, none⟩ := by unfold Addr.add; split <;> simp_all
  rw [hadd, h.cell j hj]
  rw [cellsV_get xs j hj] at hu
  exact hu

theorem rshl_any {p : Option Addr} {n c : Nat} {xs : List Nat} {a : Nat} {w : World} (h : At32 w p n c xs) (hx : Nf B32 xs a) (hn0 : 0 < n) (hn : n ≤ 16384) (N : Nat) (hN2 : N ≤ 524288) :
    Calls Tryz.prog 129 #[.slice p n c, .int .i64 N] w fun e w' => ∃ p' m' zs, e = .returned (.slice p' m' m') ∧ At32 w' p' m' m' zs ∧ Nf B32 zs (a * 2 ^ N) ∧ m' ≤ 40000 ∧ Below w.heap.size w w' := by
  obtain ⟨i0, hi, hz0, hz1, hz2⟩ := info_parts Tryz.infoU32
  have HX : Hid (Nf B32 xs a) := hx
  have HA : Hid (At32 w p n c xs) := h
  have HLX : Hid (xs.length = n) := h.len
  have cap := h.cap
  have big := h.big
  unfold maxLen at big
  have hne : ((n : Int) == 0) = false := by simp; omega
  clear hx h
  by_cases hN0 : N = 0
  · subst hN0
    go_enter Tryz.func129, Tryz.ntmps129
    go_wp2_with fail
    refine (rnorm_any HA.out (by omega)).mono ?_
    rw [trimL_of_Top HX.out.top]
    rintro e w1 ⟨g, rfl, hg, hb, hbl⟩
    have HB : Hid (Blk32 w1 g xs) := hb
    rw [HLX.out]
    clear hb
    go_wp2_with fail
    go_ret
    exact ⟨_, n, xs, rfl, HB.out.at_ HX.out.dig HLX.out (by unfold maxLen; omega), by rw [Nat.pow_zero, Nat.mul_one]; exact HX.out, by omega, hbl⟩
  · obtain ⟨D, hD⟩ : ∃ D, D = N / 32 := ⟨_, rfl⟩
    obtain ⟨R, hR⟩ : ∃ R, R = N % 32 := ⟨_, rfl⟩
    have d1 : (N : Int).tdiv 32 = (D : Int) := by rw [Int.tdiv_eq_ediv_of_nonneg (by omega)]; omega
    have d2 : (N : Int).tmod 32 = (R : Int) := by rw [Int.tmod_eq_emod_of_nonneg (by omega)]; omega
    have hNp : ¬ (N : Int) ≤ 0 := by omega
    have hR32 : R < 32 := by omega
    have hDb : D ≤ 16384 := by omega
    have HD : Hid (2 ^ N = B32 ^ D * 2 ^ R) := by show _ = _; rw [show B32 = 2 ^ 32 from rfl, ← Nat.pow_mul, ← Nat.pow_add]; congr 1; omega
    obtain ⟨M, hM⟩ : ∃ M, M = D + n + 1 := ⟨_, rfl⟩
    have hMI : (D : Int) + (n : Int) + 1 = (M : Int) := by omega
    have HM : Hid (M = D + n + 1) := hM
    have hMb : M ≤ 33000 := by omega
    have hDM : D ≤ M := by omega
    obtain ⟨d, hd⟩ : ∃ d, d = 2 ^ R := ⟨_, rfl⟩
    have hd1 : 1 ≤ d := by rw [hd]; exact Nat.pow_pos (by decide)
    have hdB : d < B32 := by rw [hd, show B32 = 2 ^ 32 from rfl]; exact Nat.pow_lt_pow_right (by decide) hR32
    have hdw : IntKind.u32.wrap (d : Int) = (d : Int) := wrap32 d hdB
    have hdI : (2 : Int) ^ R = (d : Int) := by rw [hd]; norm_cast
    have HDD : Hid (d = 2 ^ R ∧ 1 ≤ d ∧ d < B32) := ⟨hd, hd1, hdB⟩
    clear hD hR hM hd hd1 hdB
    go_enter Tryz.func129, Tryz.ntmps129
    go_wp2_with (at_make; refine wpList_make_room _ rfl _ _ 102 rfl w.heap.size 171 i0 (.int .u32 0) 1 Tryz.underlying102 hi hz0 hz1 _ _ _ _ D M rfl rfl (by omega) (by omega) hDM (by rw [hz2]; omega) (by unfold maxLen; omega) (Nat.le_refl _) ?_; intro w1 hown hgrow)
    have hb1 : Below w.heap.size w w1 := (Below.refl _ _).grown hgrow (Nat.le_refl _) (fun k hk => by simp at hk)
    rw [made_take D M hDM] at hown
    have HO : Hid (w1.ownsRow w.heap.size 171 1 (.slice (some ⟨w.heap.size, 0, none⟩) D M) D (cellsV (List.replicate D 0))) := hown
    have HA1 : Hid (At32 w1 p n c xs) := HA.out.below hb1
    have HB1 : Hid (Below w.heap.size w w1) := hb1
    have HSZ : Hid (w.heap.size < w1.heap.size) := by
      rcases HO.out.2 with ⟨h', _⟩ | ⟨g', _, _, h', _, hgc, _⟩
      · simp at h'
      · simp only [Value.slice.injEq, Option.some.injEq, Addr.mk.injEq, and_true] at h'
        obtain ⟨rfl, _⟩ := h'
        exact (Array.getElem?_eq_some_iff.1 hgc).1
    clear hown hgrow hb1 HA
    rw [show Value.int IntKind.u32 (d : Int) = V d from rfl, show Value.int IntKind.u32 0 = V 0 from rfl]
    refine (rsmall_any HA1.out HX.out (by omega) HDD.out.2.2 (show 0 < B32 by decide)).mono ?_
    rintro e w2 ⟨g2, z2, rfl, hk2, hn2, hl2, hb2⟩
    rw [Nat.add_zero] at hn2
    have HO2 : Hid (w2.ownsRow w.heap.size 171 1 (.slice (some ⟨w.heap.size, 0, none⟩) D M) D (cellsV (List.replicate D 0))) := own_below HO.out hb2 HSZ.out
    have HK2 : Hid (Blk32 w2 g2 z2) := hk2
    have HN2 : Hid (Nf B32 z2 (a * d)) := hn2
    have HB2 : Hid (Below w.heap.size w w2) := Below.on HB1.out hb2
    obtain ⟨l2, hle2⟩ : ∃ l2, l2 = z2.length := ⟨_, rfl⟩
    have HL2 : Hid (z2.length = l2) := hle2.symm
    rw [← hle2] at hl2 ⊢
    have hsp : D + l2 ≤ M := by have := HM.out; omega
    clear hk2 hn2 hb2 hle2 HO HA1 HB1
    go_wp2_with (at_builtin; refine wpList_append_fits _ rfl (.tmp 24) (.tmp 29) 102 rfl w.heap.size 171 i0 1 Tryz.underlying102 hi hz1 w.heap.size D M (cellsV (List.replicate D 0)) rfl HO2.out ⟨g2, 0, none⟩ l2 l2 (cellsV z2) rfl (by rw [cellsV_length, HL2.out, Nat.mul_one]) (blk_src HK2.out) (cellsV_one _) hsp ?_; intro w3 hw3 hgr3)
    have hd3 : Dig B32 (List.replicate D 0 ++ z2) := (Dig.replicate B32 D B32_pos).append HN2.out.dig
    have hl3 : (List.replicate D 0 ++ z2).length = D + l2 := by rw [List.length_append, List.length_replicate, HL2.out]
    have A3 : Hid (At32 w3 (some ⟨w.heap.size, 0, none⟩) (D + l2) M (List.replicate D 0 ++ z2)) := own_at32 (by rw [show cellsV (List.replicate D 0 ++ z2) = cellsV (List.replicate D 0) ++ cellsV z2 from by unfold cellsV; rw [List.map_append]]; exact hw3) hl3 hd3
    have HB3 : Hid (Below w.heap.size w w3) := HB2.out.grown hgr3 HB2.out.size (fun q hq => by simp at hq; omega)
    have NF3 : Hid (Nf B32 (trimL (List.replicate D 0 ++ z2)) (a * 2 ^ N)) := by
      have h1 := Nf.trim hd3
      rw [valB_zeros, HN2.out.val] at h1
      have e1 : B32 ^ D * (a * d) = a * 2 ^ N := by rw [HD.out, ← HDD.out.1, Nat.mul_left_comm]
      rw [e1] at h1; exact h1
    have hle3 : (trimL (List.replicate D 0 ++ z2)).length ≤ D + l2 := by have h1 := trimL_length_le (List.replicate D 0 ++ z2); omega
    clear hw3 hgr3 hl3 hd3
    refine (rnorm_any A3.out (by omega)).mono ?_
    rintro e w4 ⟨g4, rfl, hg4, hb4, hbl4⟩
    have A4 : Hid (At32 w4 (some ⟨g4, 0, none⟩) (trimL (List.replicate D 0 ++ z2)).length (trimL (List.replicate D 0 ++ z2)).length (trimL (List.replicate D 0 ++ z2))) := hb4.at_ NF3.out.dig rfl (by unfold maxLen; omega)
    have hbw4 := Below.on HB3.out hbl4
    generalize trimL (List.replicate D 0 ++ z2) = z4 at *
    clear hb4 hbl4 hg4
    go_wp2_with fail
    go_ret
    exact ⟨_, _, z4, rfl, A4.out, NF3.out, by omega, hbw4⟩
structure Op5 where
  k : Int
  pa : Option Addr
  na : Nat
  ca : Nat
  xa : List Nat
  pb : Option Addr
  nb : Nat
  cb : Nat
  xb : List Nat
  nn : Int
  wd : Nat
structure Scr (w : World) (P : Option Addr) (N C : Nat) (its : List Op5) : Prop where
  len : its.length = N
  cap : N ≤ C
  big : C ≤ maxLen
  ats : ∀ t ∈ its, At w t.pa t.na t.ca t.xa ∧ At w t.pb t.nb t.cb t.xb ∧ t.na ≤ 17592186044416 ∧ t.nb ≤ 17592186044416 ∧ t.wd < B64 ∧ -9223372036854775808 ≤ t.nn ∧ t.nn ≤ 9223372036854775807
  cells : N = 0 ∨ ∃ g off, P = some ⟨g, off, none⟩ ∧ ∀ i (h : i < its.length), w.cell? ⟨g, off + i * 5, none⟩ = some (.int .i64 its[i].k) ∧ w.cell? ⟨g, off + i * 5 + 1, none⟩ = some (.slice its[i].pa its[i].na its[i].ca) ∧
    w.cell? ⟨g, off + i * 5 + 2, none⟩ = some (.slice its[i].pb its[i].nb its[i].cb) ∧ w.cell? ⟨g, off + i * 5 + 3, none⟩ = some (.int .i64 its[i].nn) ∧ w.cell? ⟨g, off + i * 5 + 4, none⟩ = some (U its[i].wd)
theorem Scr.below {w w' : World} {P : Option Addr} {N C : Nat} {its : List Op5} (h : Scr w P N C its) (hb : Below w.heap.size w w') : Scr w' P N C its := by
  refine ⟨h.len, h.cap, h.big, fun t ht => ?_, ?_⟩
  · obtain ⟨h1, h2, h3⟩ := h.ats t ht
    exact ⟨h1.below hb, h2.below hb, h3⟩
  · rcases h.cells with h0 | ⟨g, off, hP, hc⟩
    · exact .inl h0
    · refine .inr ⟨g, off, hP, fun i hi => ?_⟩
      obtain ⟨h0, h1, h2, h3, h4⟩ := hc i hi
      have hl : g < w.heap.size := World.block_lt_of_cell? w _ h0
      exact ⟨(hb.cell (p := ⟨g, off + i * 5, none⟩) hl).trans h0, (hb.cell (p := ⟨g, off + i * 5 + 1, none⟩) hl).trans h1, (hb.cell (p := ⟨g, off + i * 5 + 2, none⟩) hl).trans h2,
        (hb.cell (p := ⟨g, off + i * 5 + 3, none⟩) hl).trans h3, (hb.cell (p := ⟨g, off + i * 5 + 4, none⟩) hl).trans h4⟩
def ShIs (r : Nat → Nat → Nat) (xs : List Nat) (t : Int) (us : List Nat) (f : Int) : Prop :=
  (t < 0 ∧ us = [] ∧ f = 1) ∨ (0 ≤ t ∧ formB xs = false ∧ us = [] ∧ f = 2) ∨ (0 ≤ t ∧ formB xs = true ∧ DocIs (r (valB B64 xs) t.toNat) us f)
theorem ShIs.inj {r : Nat → Nat → Nat} {xs : List Nat} {t : Int} {us us' : List Nat} {f f' : Int} (h : ShIs r xs t us f) (k : ShIs r xs t us' f') : us = us' ∧ f = f' := by
  rcases h with ⟨h1, rfl, rfl⟩ | ⟨h1, h2, rfl, rfl⟩ | ⟨h1, h2, h3⟩ <;> rcases k with ⟨k1, rfl, rfl⟩ | ⟨k1, k2, rfl, rfl⟩ | ⟨k1, k2, k3⟩
  · exact ⟨rfl, rfl⟩
  · omega
  · omega
  · omega
  · exact ⟨rfl, rfl⟩
  · rw [k2] at h2; simp at h2
  · omega
  · rw [k2] at h2; simp at h2
  · exact h3.inj k3
theorem ShIs.er {r : Nat → Nat → Nat} {xs us : List Nat} {t f : Int} (h : ShIs r xs t us f) : f = 0 ∨ f = 1 ∨ f = 2 ∨ f = 3 ∨ f = 4 ∨ f = 5 := by
  rcases h with ⟨_, _, rfl⟩ | ⟨_, _, _, rfl⟩ | ⟨_, _, ⟨_, _, rfl⟩ | ⟨_, _, rfl⟩⟩ <;> simp
theorem rof04 (z : Int) (w : World) (h0 : -9223372036854775808 ≤ z) (h1 : z ≤ 9223372036854775807) :
    Calls Tryz.prog 63 #[.int .i64 z] w fun e w' => ∃ s g m, e = .returned (.agg #[.bool s, .slice (some ⟨g, 0, none⟩) m m]) ∧ ZR w' s (some ⟨g, 0, none⟩) m z ∧ m ≤ 3 ∧ Below w.heap.size w w' :=
  (rof_any z w h0 h1).mono fun _ _ ⟨g, m, zs, he, hA, hN, hl, hb⟩ => ⟨_, g, m, he, ⟨⟨zs, hA, hN⟩, rfl⟩, hl, hb⟩
theorem rshl_nil {p : Option Addr} {c : Nat} {w : World} (hc : c ≤ maxLen) (k : Int) :
    Calls Tryz.prog 129 #[.slice p 0 c, .int .i64 k] w fun e w' => ∃ g, e = .returned (.slice (some ⟨g, 0, none⟩) 0 0) ∧ At32 w' (some ⟨g, 0, none⟩) 0 0 [] ∧ Below w.heap.size w w' := by
  have HC : Hid (c ≤ maxLen) := hc
  clear hc
  by_cases h0 : k ≤ 0
  · have h1 : ¬ 0 < k := by omega
    go_enter Tryz.func129, Tryz.ntmps129
    go_wp2_with fail
    refine (rnorm_any (At32.empty w p c HC.out) (by omega)).mono ?_
    rintro e w1 ⟨g, rfl, hg, hblk, hb⟩
    go_wp2_with fail
    go_ret
    exact ⟨g, rfl, At32.empty _ _ _ (by decide), hb⟩
  · have h1 : 0 < k := by omega
    go_enter Tryz.func129, Tryz.ntmps129
    go_wp2_with fail
    refine (rnorm_any (At32.empty w p c HC.out) (by omega)).mono ?_
    rintro e w1 ⟨g, rfl, hg, hblk, hb⟩
    go_wp2_with fail
    go_ret
    exact ⟨g, rfl, At32.empty _ _ _ (by decide), hb⟩
theorem rshl_all {p : Option Addr} {n : Nat} {xs : List Nat} {a : Nat} {w : World} (h : At32 w p n n xs) (hx : Nf B32 xs a) (hn : n ≤ 16384) (k : Nat) (hk : k ≤ 524288 ∨ a = 0) :
    Calls Tryz.prog 129 #[.slice p n n, .int .i64 k] w fun e w' => ∃ p' m' zs, e = .returned (.slice p' m' m') ∧ At32 w' p' m' m' zs ∧ Nf B32 zs (a * 2 ^ k) ∧ m' ≤ 40000 ∧ Below w.heap.size w w' := by
  rcases Nat.eq_zero_or_pos n with h0 | h0
  · subst h0
    have ha : a = 0 := (hx.zero_iff B32_one).1 (List.eq_nil_of_length_eq_zero h.len)
    refine (rshl_nil (by unfold maxLen; omega) (k : Int)).mono ?_
    rintro e w' ⟨g, he, hA, hb⟩
    exact ⟨_, 0, [], he, hA, by rw [ha, Nat.zero_mul]; exact Nf.nil _, by omega, hb⟩
  · refine rshl_any h hx h0 hn k (hk.resolve_right fun e => ?_)
    have := (hx.zero_iff B32_one).2 e
    rw [this] at h
    have := h.len
    simp at this
    omega
theorem iv_mul_nat (s : Bool) (a k : Nat) : iv s (a * k) = iv s a * (k : Int) := by cases s <;> simp [iv, Int.neg_mul]
theorem rshl04 {p : Option Addr} {m : Nat} {w : World} {x : Int} (s : Bool) (h : ZR w s p m x) (hm : m ≤ 16384) (k : Nat) (hk : k ≤ 524288 ∨ x = 0) :
    Calls Tryz.prog 134 #[.agg #[.bool s, .slice p m m], .int .i64 k] w fun e w' => ∃ v, e = .returned v ∧ GotR w.heap.size w' v (x * 2 ^ k) (40000) ∧ Below w.heap.size w w' := by
  have HA : Hid (ZR w s p m x) := h
  have HM : Hid (m ≤ 16384 ∧ (k ≤ 524288 ∨ x = 0)) := ⟨hm, hk⟩
  have HZV : Hid (iv s (x.natAbs * 2 ^ k) = x * 2 ^ k) := by show _ = _; rw [iv_mul_nat, h.iv]; rfl
  obtain ⟨xs, hAx, hNx⟩ := h.ex
  have HNX : Hid (Nf B32 xs x.natAbs) := hNx
  have AX : Hid (At32 w p m m xs) := hAx
  clear h hm hk hAx hNx
  go_enter Tryz.func134, Tryz.ntmps134
  go_wp2_with fail
  obtain ⟨W0, hW0⟩ : ∃ W0, W0 = ((w.alloc (.cells #[.bool s, .slice p m m] 104)).alloc (.cells #[.bool false, .slice none 0 0] 104)) := ⟨_, rfl⟩
  have Xa : Hid (Box W0 (w.heap.size) (.bool s) (.slice p m m)) := by rw [hW0]; exact ⟨by go_simp, by go_simp, by go_simp, by go_simp⟩
  have Xr : Hid (Box W0 (w.heap.size + 1) (.bool false) (.slice none 0 0)) := by rw [hW0]; exact ⟨by go_simp, by go_simp, by go_simp, by go_simp⟩
  have hb0 : Below w.heap.size w W0 := by rw [hW0]; exact below2 w _ _
  rw [← hW0]
  clear hW0
  have hbw : Below w.heap.size w w := Below.refl _ _
  obtain ⟨gr, hgr⟩ : ∃ g, g = w.heap.size + 1 := ⟨_, rfl⟩
  have HGr : Hid (w.heap.size ≤ gr) := by rw [hgr]; show _ ≤ _; omega
  rw [← hgr] at Xr
  try rw [← hgr]
  obtain ⟨ga, hga⟩ : ∃ g, g = w.heap.size := ⟨_, rfl⟩
  have HGa : Hid (w.heap.size ≤ ga) := by rw [hga]; show _ ≤ _; omega
  rw [← hga] at Xa
  try rw [← hga]
  have HGD : Hid (ga ≠ gr ∧ gr ≠ ga) := by rw [hga, hgr]; exact ⟨by omega, by omega⟩
  clear hga hgr
  replace AX : Hid _ := AX.out.below hb0
  replace hbw := Below.on hbw hb0
  clear hb0
  obtain ⟨W1, hW1⟩ : ∃ W1, W1 = W0.drew := ⟨_, rfl⟩
  have hbd : Below W0.heap.size W0 W1 := by rw [hW1]; exact bDrew1 (Below.refl _ _)
  replace Xa : Hid _ := Xa.out.below hbd
  replace Xr : Hid _ := Xr.out.below hbd
  replace AX : Hid _ := AX.out.below hbd
  replace hbw := Below.on hbw hbd
  clear hbd
  have HJ : Hid ((fun W' : World => W'.cell? ⟨ga, 0, none⟩ = some (.bool s) ∧ W'.cell? ⟨ga, 1, none⟩ = some (.slice p m m)) W1) := ⟨Xa.out.c0, Xa.out.c1⟩
  refine wp_region_J (fun W' => W'.cell? ⟨ga, 0, none⟩ = some (.bool s) ∧ W'.cell? ⟨ga, 1, none⟩ = some (.slice p m m)) (by kernel_rfl) ?_
  rw [← hW1]
  clear hW1
  refine wpJ_tq 0 rfl HJ.out ?_
  refine wpJ_tq 1 rfl HJ.out ?_
  refine wpJ_tq 2 rfl HJ.out ?_
  refine wpJ_tq 3 rfl HJ.out ?_
  refine wpJ_tq 4 rfl HJ.out ?_
  refine wpJ_on 5 rfl fun KJ hK => ?_
  go_simp
  refine (rshl_all AX.out HNX.out HM.out.1 k (by have := HM.out.2; omega)).mono ?_
  rintro e v2 ⟨p2, m2, z2, rfl, hA2, hN2, hl2, hb2⟩
  replace Xa : Hid _ := Xa.out.below hb2
  replace Xr : Hid _ := Xr.out.below hb2
  replace AX : Hid _ := AX.out.below hb2
  replace hbw := Below.on hbw hb2
  clear hb2
  have A2 : Hid (At32 v2 p2 m2 m2 z2) := hA2
  have N2 : Hid (Nf B32 z2 (x.natAbs * 2 ^ k) ∧ m2 ≤ 40000) := ⟨hN2, hl2⟩
  clear hA2 hN2 hl2
  refine hK _ _ ⟨Xa.out.c0, Xa.out.c1⟩ ?_
  clear hK
  have HRB : Hid (gr < v2.heap.size ∧ w.heap.size ≤ v2.heap.size) := ⟨Xr.out.lt, hbw.size⟩
  refine wpJ_on 6 rfl fun KJ hK => ?_
  go_simp
  refine (rmk_any s A2.out N2.out.1 (by have := N2.out.2; omega)).mono ?_
  rintro e v3 ⟨v, rfl, hv, hb3⟩
  rw [HZV.out] at hv
  obtain ⟨s9, g9, m9, rfl, hg9, hz9, hl9⟩ := hv
  have HN9 : Hid (v2.heap.size ≤ g9) := hg9
  replace Xa : Hid _ := Xa.out.below hb3
  replace Xr : Hid _ := Xr.out.below hb3
  replace AX : Hid _ := AX.out.below hb3
  replace A2 : Hid _ := A2.out.below hb3
  replace hbw := Below.on hbw hb3
  clear hb3
  have Z9 : Hid (ZR v3 s9 (some ⟨g9, 0, none⟩) m9 (x * 2 ^ k)) := hz9
  have HL9 : Hid (m9 ≤ 40000) := Nat.le_trans hl9 N2.out.2
  clear hg9 hz9 hl9
  refine hK _ _ ⟨Xa.out.c0, Xa.out.c1⟩ ?_
  clear hK
  obtain ⟨cr0, cr1, fr0, fr1⟩ := Xr.out
  have hner := Xr.out.lt
  obtain ⟨ca0, ca1, fa0, fa1⟩ := Xa.out
  have hnea := Xa.out.lt
  obtain ⟨hgd0, hgd1⟩ := HGD.out
  refine wpJ_on 7 rfl fun KJ hK => ?_
  go_simp
  have HJ2 : Hid ((fun W' : World => W'.cell? ⟨ga, 0, none⟩ = some (.bool s) ∧ W'.cell? ⟨ga, 1, none⟩ = some (.slice p m m)) ((v3.setCell ⟨gr, 0, none⟩ (.bool s9)).setCell ⟨gr, 1, none⟩ (.slice (some ⟨g9, 0, none⟩) m9 m9))) := ⟨by go_simp, by go_simp⟩
  refine hK _ _ HJ2.out ?_
  clear hK HJ
  have HJ := HJ2
  clear HJ2
  refine wpJ_done (by kernel_rfl) ?_ _
  clear HJ
  go_wp2_with fail
  refine bodyPost_ret (v := .agg #[.bool s9, .slice (some ⟨g9, 0, none⟩) m9 m9]) (by rw [results_cell1 rfl]; go_simp) rfl ⟨_, rfl, ⟨s9, g9, m9, rfl, Nat.le_trans HRB.out.2 HN9.out, ?_, HL9.out⟩, ?_⟩
  · have := HN9.out; have := HRB.out.1
    exact (Z9.out.set _ _ _ (by omega)).set _ _ _ (by omega)
  · exact bSet (bSet hbw _ _ _ HGr.out) _ _ _ HGr.out
end Go.Proofs.YtfmbifocgljieaaGreatDoor
