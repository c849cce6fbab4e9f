import Derived.Test.YtpdelpakgdanlaaGreatDoorJ13
import Derived.Test.YtpdelpakgdanlaaGreatDoorJ12
import Derived.Laws.Bits64b
import Derived.Deep.RegionWith
import Derived.Test.YtpdelpakgdanlaaGreatDoorChecked
import Derived.Test.YtpdelpakgdanlaaGreatDoorMem
import Derived.Shelf.Strconv.Itoa0
import Derived.BigQuiet
import Derived.Test.YtpdelpakgdanlaaGreatDoorJ11
import Derived.Test.YtpdelpakgdanlaaGreatDoorJ9
import Derived.Deep.DeepCutAuto
import Derived.Test.YtpdelpakgdanlaaGreatDoorJ8
import Derived.Test.YtpdelpakgdanlaaGreatDoorVal
import Derived.Shelf.Spec.TrailingZeros
import Derived.Test.YtpdelpakgdanlaaGreatDoorJ10
import Derived.Laws.ResultCell
import Derived.Deep.LoopGhost
import Derived.Laws.EntriesVeiled
namespace Go.Proofs.YtpdelpakgdanlaaGreatDoor
open Go.RowKit Go.Shelf
set_option maxRecDepth 20000
set_option maxHeartbeats 0
theorem sgn3 (x : Int) : (x < 0 ∧ sgnI x = -1) ∨ (x = 0 ∧ sgnI x = 0) ∨ (0 < x ∧ sgnI x = 1) := by
  unfold sgnI
  rcases Int.lt_trichotomy x 0 with h | h | h
  · exact .inl ⟨h, if_pos h⟩
  · exact .inr (.inl ⟨h, by rw [if_neg (by omega), if_pos h]⟩)
  · exact .inr (.inr ⟨h, by rw [if_neg (by omega), if_neg (by omega)]⟩)
theorem cmp_l {a b : Int} (h : a < b) : cmpI a b = -1 := if_pos h
theorem cmp_e {a b : Int} (h : a = b) : cmpI a b = 0 := by unfold cmpI; rw [if_neg (by omega), if_pos h]
theorem cmp_g {a b : Int} (h : b < a) : cmpI a b = 1 := by unfold cmpI; rw [if_neg (by omega), if_neg (by omega)]
theorem dv3 (z e : Int) : (z < 0 ∧ dv z e < 0) ∨ (z = 0 ∧ dv z e = 0) ∨ (0 < z ∧ 0 < dv z e) := by
  have h1 : (0 : Int) < ((2 ^ (e + 4194304).toNat : Nat) : Int) := by have := Nat.pow_pos (n := (e + 4194304).toNat) (show 0 < 2 by omega); omega
  rcases Int.lt_trichotomy z 0 with h | h | h
  · exact .inl ⟨h, Int.mul_neg_of_neg_of_pos h h1⟩
  · exact .inr (.inl ⟨h, by rw [h, dv_zero]⟩)
  · exact .inr (.inr ⟨h, Int.mul_pos h h1⟩)
theorem cmp_sgn {x y e f : Int} (h : sgnI x ≠ sgnI y ∨ sgnI x = 0) : cmpI (sgnI x) (sgnI y) = cmpI (dv x e) (dv y f) := by
  have hx := dv3 x e;have hy := dv3 y f;generalize dv x e = X at *;generalize dv y f = Y at *
  rcases sgn3 x with ⟨h1, ex⟩ | ⟨h1, ex⟩ | ⟨h1, ex⟩ <;> rcases sgn3 y with ⟨h2, ey⟩ | ⟨h2, ey⟩ | ⟨h2, ey⟩ <;> rw [ex, ey] at h ⊢ <;>
    first
    | exact (cmp_l (by omega)).trans (cmp_l (by omega)).symm
    | exact (cmp_e (by omega)).trans (cmp_e (by omega)).symm
    | exact (cmp_g (by omega)).trans (cmp_g (by omega)).symm
    | (exfalso; omega)
def topI (z e : Int) : Int := e + bitsN z.natAbs - 1
theorem top_lt {x y e f : Int} (hx : 0 ≤ x) (hy : 0 < y) (he : -4194304 ≤ e) (hf : -4194304 ≤ f) (h : topI x e < topI y f) : dv x e < dv y f := by
  have h1 := bitsN_lt x.natAbs
  have h2 := bitsN_le y.natAbs (by omega)
  have h3 := bitsN_pos (a := y.natAbs) (by omega)
  unfold topI at h
  have h4 : x.natAbs * 2 ^ (e + 4194304).toNat < 2 ^ (bitsN x.natAbs + (e + 4194304).toNat) := by
    rw [Nat.pow_add]
    exact Nat.mul_lt_mul_of_pos_right h1 (Nat.pow_pos (by omega))
  have h5 : 2 ^ (bitsN y.natAbs - 1 + (f + 4194304).toNat) ≤ y.natAbs * 2 ^ (f + 4194304).toNat := by
    rw [Nat.pow_add]
    exact Nat.mul_le_mul_right _ h2
  have h6 : 2 ^ (bitsN x.natAbs + (e + 4194304).toNat) ≤ 2 ^ (bitsN y.natAbs - 1 + (f + 4194304).toNat) := Nat.pow_le_pow_right (by omega) (by omega)
  have h7 : x.natAbs * 2 ^ (e + 4194304).toNat < y.natAbs * 2 ^ (f + 4194304).toNat := by omega
  unfold dv
  have h8 : ((x.natAbs * 2 ^ (e + 4194304).toNat : Nat) : Int) = x * ((2 ^ (e + 4194304).toNat : Nat) : Int) := by rw [Int.natCast_mul, Int.natAbs_of_nonneg hx]
  have h9 : ((y.natAbs * 2 ^ (f + 4194304).toNat : Nat) : Int) = y * ((2 ^ (f + 4194304).toNat : Nat) : Int) := by rw [Int.natCast_mul, Int.natAbs_of_nonneg (by omega)]
  rw [← h8, ← h9]
  omega
theorem topI_neg (z e : Int) : topI (-z) e = topI z e := by unfold topI; rw [Int.natAbs_neg]
theorem cmp_top {x y e f : Int} (hx : x ≠ 0) (hs : sgnI x = sgnI y) (he : -4194304 ≤ e) (hf : -4194304 ≤ f) (h : topI x e ≠ topI y f) : sgnI x * cmpI (topI x e) (topI y f) = cmpI (dv x e) (dv y f) := by
  unfold sgnI at hs ⊢
  rcases Int.lt_or_lt_of_ne hx with h1 | h1
  · have h2 : y < 0 := by
      rw [if_pos h1] at hs
      rcases Int.lt_trichotomy y 0 with h2 | h2 | h2
      · exact h2
      · rw [if_neg (by omega), if_pos h2] at hs; omega
      · rw [if_neg (by omega), if_neg (by omega)] at hs; omega
    rw [if_pos h1]
    rcases Int.lt_or_lt_of_ne h with h3 | h3
    · have := top_lt (x := -x) (y := -y) (by omega) (by omega) he hf (by rw [topI_neg, topI_neg]; exact h3)
      rw [dv_neg, dv_neg] at this;unfold cmpI
      rw [if_pos h3, if_neg (by omega), if_neg (by omega)]
      rfl
    · have := top_lt (x := -y) (y := -x) (by omega) (by omega) hf he (by rw [topI_neg, topI_neg]; exact h3)
      rw [dv_neg, dv_neg] at this;unfold cmpI
      rw [if_neg (show ¬ topI x e < topI y f by omega), if_neg h, if_pos (show dv x e < dv y f by omega)]
      rfl
  · have h2 : 0 < y := by
      rw [if_neg (by omega), if_neg (by omega)] at hs
      rcases Int.lt_trichotomy y 0 with h2 | h2 | h2
      · rw [if_pos h2] at hs; omega
      · rw [if_neg (by omega), if_pos h2] at hs; omega
      · exact h2
    rw [if_neg (by omega), if_neg (by omega), Int.one_mul]
    rcases Int.lt_or_lt_of_ne h with h3 | h3
    · have := top_lt (by omega) h2 he hf h3
      unfold cmpI;rw [if_pos h3, if_pos this]
    · have := top_lt (by omega) h1 hf he h3
      unfold cmpI
      rw [if_neg (show ¬ topI x e < topI y f by omega), if_neg h, if_neg (show ¬ dv x e < dv y f by omega), if_neg (by omega)]
theorem cmp_same {x y e f g : Int} (h1 : g ≤ e) (h2 : g ≤ f) (hg : -4194304 ≤ g) : cmpI (x * 2 ^ (e - g).toNat) (y * 2 ^ (f - g).toNat) = cmpI (dv x e) (dv y f) := by
  rw [dv_shift h1 hg, dv_shift h2 hg, pow_cast, pow_cast];generalize x * ((2 ^ (e - g).toNat : Nat) : Int) = X;generalize y * ((2 ^ (f - g).toNat : Nat) : Int) = Y
  have h3 : (0 : Int) < ((2 ^ (g + 4194304).toNat : Nat) : Int) := by have := Nat.pow_pos (n := (g + 4194304).toNat) (show 0 < 2 by omega); omega
  unfold cmpI dv;generalize ((2 ^ (g + 4194304).toNat : Nat) : Int) = T at *
  rcases Int.lt_trichotomy X Y with h | h | h
  · rw [if_pos h, if_pos (Int.mul_lt_mul_of_pos_right h h3)]
  · subst h
    rw [if_neg (by omega), if_pos rfl, if_neg (by omega), if_pos rfl]
  · have := Int.mul_lt_mul_of_pos_right h h3
    rw [if_neg (by omega), if_neg (by omega), if_neg (by omega), if_neg (by omega)]
theorem ccmp_l (a b : Int) (w : World) (h1 : a < b) : Calls Tryz.prog 64 #[.int .i64 a, .int .i64 b] w fun en w' => en = .returned (.int .i64 (-1)) ∧ Below w.heap.size w w' := by
  go_enter Tryz.func64, Tryz.ntmps64
  go_wp2_with fail
  refine (isnan_i a w).mono ?_
  rintro e2 v1 ⟨rfl, hw⟩;obtain rfl := hw.symm;clear hw;go_wp2_with fail
  refine (isnan_i b w).mono ?_
  rintro e2 v1 ⟨rfl, hw⟩;obtain rfl := hw.symm;clear hw;go_wp2_with fail
  go_ret
  exact ⟨rfl, Below.refl _ _⟩
theorem ccmp_g (a b : Int) (w : World) (h2 : b < a) : Calls Tryz.prog 64 #[.int .i64 a, .int .i64 b] w fun en w' => en = .returned (.int .i64 (1)) ∧ Below w.heap.size w w' := by
  have h1 : ¬ a < b := by omega
  go_enter Tryz.func64, Tryz.ntmps64
  go_wp2_with fail
  refine (isnan_i a w).mono ?_
  rintro e2 v1 ⟨rfl, hw⟩;obtain rfl := hw.symm;clear hw;go_wp2_with fail
  refine (isnan_i b w).mono ?_
  rintro e2 v1 ⟨rfl, hw⟩;obtain rfl := hw.symm;clear hw;go_wp2_with fail
  go_ret
  exact ⟨rfl, Below.refl _ _⟩
theorem ccmp_e (a b : Int) (w : World) (h1 : ¬ a < b) (h2 : ¬ b < a) : Calls Tryz.prog 64 #[.int .i64 a, .int .i64 b] w fun en w' => en = .returned (.int .i64 (0)) ∧ Below w.heap.size w w' := by
  go_enter Tryz.func64, Tryz.ntmps64
  go_wp2_with fail
  refine (isnan_i a w).mono ?_
  rintro e2 v1 ⟨rfl, hw⟩;obtain rfl := hw.symm;clear hw;go_wp2_with fail
  refine (isnan_i b w).mono ?_
  rintro e2 v1 ⟨rfl, hw⟩;obtain rfl := hw.symm;clear hw;go_wp2_with fail
  go_ret
  exact ⟨rfl, Below.refl _ _⟩
theorem ccmp (a b : Int) (w : World) : Calls Tryz.prog 64 #[.int .i64 a, .int .i64 b] w fun en w' => en = .returned (.int .i64 (cmpI a b)) ∧ Below w.heap.size w w' := by
  unfold cmpI
  rcases Int.lt_trichotomy a b with h | h | h
  · rw [if_pos h]; exact ccmp_l a b w h
  · rw [if_neg (by omega), if_pos h]; exact ccmp_e a b w (by omega) (by omega)
  · rw [if_neg (by omega), if_neg (by omega)]; exact ccmp_g a b w h
theorem dtop {p : Option Addr} {m c : Nat} {w : World} {z e : Int} {s : Bool} (h : ZN w s p m c z) (he : -1048576 ≤ e ∧ e ≤ 1048576) :
  Calls Tryz.prog 65 #[DV s p m c e] w fun en w' => en = .returned (.int .i64 (topI z e)) ∧ Below w.heap.size w w' := by
 have H := hdQ h;have hb := (lim_bits z.natAbs).1 h.lim
 have f1 : wrap64 (e + bitsN z.natAbs) = e + bitsN z.natAbs := by simp only [wrap64]; omega
 have f2 : wrap64 (e + bitsN z.natAbs - 1) = topI z e := by unfold topI; simp only [wrap64]; omega
 have f3 : IntKind.i64.wrap (e + bitsN z.natAbs) = e + bitsN z.natAbs := by simp [IntKind.wrap, IntKind.signed, IntKind.bits]; omega
 have f4 : IntKind.i64.wrap (e + bitsN z.natAbs - 1) = topI z e := by unfold topI; simp [IntKind.wrap, IntKind.signed, IntKind.bits]; omega
 clear h he hb
 go_enter Tryz.func65, Tryz.ntmps65
 go_wp2_with fail;obtain ⟨W0, hW0⟩ := exq (w.alloc (.cells #[.bool s, .slice p m c, .int .i64 e] 26))
 have Xd : Hid (B3q W0 (w.heap.size) (.bool s) (.slice p m c) (.int .i64 e)) := by rw [hW0]; constructor <;> go_simp
 have hb0 := bq1 hW0;rw [← hW0];clear hW0;have hbw := brf w;obtain ⟨gd, hgd⟩ := exq w.heap.size;have HGd : Hid (w.heap.size ≤ gd) := hgl hgd;rw [← hgd] at Xd
 try rw [← hgd]
 clear hgd;replace hbw := bon hbw hb0;clear hb0;obtain ⟨W1, hW1⟩ := exq W0.drew
 have hbd : Below W0.heap.size W0 W1 := by rw [hW1]; exact bDrew1 (Below.refl _ _)
 replace Xd := B3q.b Xd hbd;replace hbw := bon hbw hbd;clear hbd
 have HJ : Hid ((fun W' : World => W'.cell? ⟨gd, 1, none⟩ = some (.slice p m c) ∧ W'.cell? ⟨gd, 2, none⟩ = some (.int .i64 e)) W1) := ⟨Xd.out.c1, Xd.out.c2⟩
 refine wp_region_J (fun W' => W'.cell? ⟨gd, 1, none⟩ = some (.slice p m c) ∧ W'.cell? ⟨gd, 2, none⟩ = some (.int .i64 e)) (by kernel_rfl) ?_
 rw [← hW1];clear hW1
 refine wpJ_tq 0 rfl HJ.out ?_
 refine wpJ_tq 1 rfl HJ.out ?_
 refine wpJ_tq 2 rfl HJ.out ?_
 refine wpJ_tq 3 rfl HJ.out ?_
 refine wpJ_tq 4 rfl HJ.out ?_
 refine wpJ_on 5 rfl fun KJ hK => ?_
 go_simp;obtain ⟨xs, hX⟩ := (H.out.below hbw).ex
 refine (bits_any hX.at_ (by have := hX.le; omega)).mono ?_
 rintro e2 v3 ⟨rfl, hw⟩;obtain rfl := hw.symm;clear hw;rw [hX.nf.val];clear hX HJ
 have HJ : Hid ((fun W' : World => W'.cell? ⟨gd, 1, none⟩ = some (.slice p m c) ∧ W'.cell? ⟨gd, 2, none⟩ = some (.int .i64 e)) W1) := ⟨Xd.out.c1, Xd.out.c2⟩
 refine hK _ _ HJ.out ?_
 clear hK
 refine wpJ_tq 6 rfl HJ.out ?_
 refine wpJ_tq 7 rfl HJ.out ?_
 refine wpJ_tq 8 rfl HJ.out ?_
 refine wpJ_done (by kernel_rfl) ?_ _
 clear HJ;go_wp2_with fail
 go_ret
 exact ⟨rfl, hbw⟩
theorem dcmp_d {p q : Option Addr} {m c n d : Nat} {w : World} {x y e f : Int} {s t : Bool} (h : DN w s p m c e x) (k : DN w t q n d f y) (hs : sgnI x ≠ sgnI y) :
  Calls Tryz.prog 39 #[DV s p m c e, DV t q n d f] w fun en w' => en = .returned (.tuple #[.int .i64 (cmpI (dv x e) (dv y f)), .int .i64 0]) ∧ Below w.heap.size w w' := by
 have H := hdQ h;have K := hdQ k;obtain ⟨r, hr⟩ := exq (cmpI (dv x e) (dv y f));rw [← hr];rw [← cmp_sgn (.inl hs)] at hr;obtain ⟨sx, hsx⟩ := exq (sgnI x);obtain ⟨sy, hsy⟩ := exq (sgnI y);rw [← hsx, ← hsy] at hr hs
 have hd1 : (sx == sy) = false := by simp [hs]
 have hd2 : (sx != sy) = true := by simp [hs]
 have HX : Hid (sgnI x = sx ∧ sgnI y = sy ∧ cmpI sx sy = r) := ⟨hsx.symm, hsy.symm, hr.symm⟩;clear h k hs hsx hsy hr
 go_enter Tryz.func39, Tryz.ntmps39
 go_wp2_with fail;obtain ⟨W0, hW0⟩ := exq ((w.alloc (.cells #[.bool s, .slice p m c, .int .i64 e] 26)).alloc (.cells #[.bool t, .slice q n d, .int .i64 f] 26))
 have Xa : Hid (B3q W0 (w.heap.size) (.bool s) (.slice p m c) (.int .i64 e)) := by rw [hW0]; constructor <;> go_simp
 have Xb : Hid (B3q W0 (w.heap.size + 1) (.bool t) (.slice q n d) (.int .i64 f)) := by rw [hW0]; constructor <;> go_simp
 have hb0 := bq2 hW0;rw [← hW0];clear hW0;have hbw := brf w;obtain ⟨gb, hgb⟩ := exq (w.heap.size + 1);have HGb : Hid (w.heap.size ≤ gb) := hgl hgb;rw [← hgb] at Xb
 try rw [← hgb]
 obtain ⟨ga, hga⟩ := exq w.heap.size;have HGa : Hid (w.heap.size ≤ ga) := hgl hga;rw [← hga] at Xa
 try rw [← hga]
 have HGD : Hid (ga ≠ gb ∧ gb ≠ ga) := by rw [hga, hgb]; show _ ∧ _; omega
 clear hga hgb;replace hbw := bon hbw hb0;clear hb0
 refine (dform_t (H.out.below hbw)).mono ?_
 rintro e v1 ⟨rfl, hb1⟩;replace Xa := B3q.b Xa hb1;replace Xb := B3q.b Xb hb1;replace hbw := bon hbw hb1;clear hb1;obtain ⟨cb0, cb1, cb2, fb0, fb1, fb2⟩ := Xb.out;have hneb : gb < v1.heap.size := blt cb0;go_wp2_with fail;clear cb0 cb1 cb2 fb0 fb1 fb2 hneb
 refine (dform_t (K.out.below hbw)).mono ?_
 rintro e v2 ⟨rfl, hb2⟩;replace Xa := B3q.b Xa hb2;replace Xb := B3q.b Xb hb2;replace hbw := bon hbw hb2;clear hb2;obtain ⟨ca0, ca1, ca2, fa0, fa1, fa2⟩ := Xa.out;have hnea : ga < v2.heap.size := blt ca0;obtain ⟨cb0, cb1, cb2, fb0, fb1, fb2⟩ := Xb.out;have hneb : gb < v2.heap.size := blt cb0;go_wp2_with fail;clear ca0 ca1 ca2 fa0 fa1 fa2 hnea cb0 cb1 cb2 fb0 fb1 fb2 hneb
 refine (zsign (H.out.zn.below hbw)).mono ?_
 rintro e v3 ⟨rfl, hb3⟩;rw [HX.out.1];replace Xa := B3q.b Xa hb3;replace Xb := B3q.b Xb hb3;replace hbw := bon hbw hb3;clear hb3;obtain ⟨cb0, cb1, cb2, fb0, fb1, fb2⟩ := Xb.out;have hneb : gb < v3.heap.size := blt cb0;go_wp2_with fail;clear cb0 cb1 cb2 fb0 fb1 fb2 hneb
 refine (zsign (K.out.zn.below hbw)).mono ?_
 rintro e v4 ⟨rfl, hb4⟩;rw [HX.out.2.1];replace Xa := B3q.b Xa hb4;replace Xb := B3q.b Xb hb4;replace hbw := bon hbw hb4;clear hb4;obtain ⟨ca0, ca1, ca2, fa0, fa1, fa2⟩ := Xa.out;have hnea : ga < v4.heap.size := blt ca0;obtain ⟨cb0, cb1, cb2, fb0, fb1, fb2⟩ := Xb.out;have hneb : gb < v4.heap.size := blt cb0;go_wp2_with fail;clear ca0 ca1 ca2 fa0 fa1 fa2 hnea cb0 cb1 cb2 fb0 fb1 fb2 hneb
 refine (ccmp _ _ _).mono ?_
 rintro e v5 ⟨rfl, hb5⟩;rw [HX.out.2.2];replace Xa := B3q.b Xa hb5;replace Xb := B3q.b Xb hb5;replace hbw := bon hbw hb5;clear hb5;go_wp2_with fail
 go_ret2
 exact ⟨rfl, hbw⟩
theorem dcmp_z {p q : Option Addr} {m c n d : Nat} {w : World} {x y e f : Int} {s t : Bool} (h : DN w s p m c e x) (k : DN w t q n d f y) (hs : sgnI x = sgnI y) (hx : x = 0) :
  Calls Tryz.prog 39 #[DV s p m c e, DV t q n d f] w fun en w' => en = .returned (.tuple #[.int .i64 (cmpI (dv x e) (dv y f)), .int .i64 0]) ∧ Below w.heap.size w w' := by
 have H := hdQ h;have K := hdQ k;obtain ⟨r, hr⟩ := exq (cmpI (dv x e) (dv y f));rw [← hr]
 rw [← cmp_sgn (.inr (by rw [hx]; rfl))] at hr
 have HX : Hid (sgnI x = 0 ∧ sgnI y = 0 ∧ cmpI 0 0 = r) := by
  have h0 : sgnI x = 0 := by rw [hx]; rfl
  rw [h0] at hs hr
  exact ⟨h0, hs.symm, by rw [hr, ← hs]⟩
 clear h k hs hx hr
 go_enter Tryz.func39, Tryz.ntmps39
 go_wp2_with fail;obtain ⟨W0, hW0⟩ := exq ((w.alloc (.cells #[.bool s, .slice p m c, .int .i64 e] 26)).alloc (.cells #[.bool t, .slice q n d, .int .i64 f] 26))
 have Xa : Hid (B3q W0 (w.heap.size) (.bool s) (.slice p m c) (.int .i64 e)) := by rw [hW0]; constructor <;> go_simp
 have Xb : Hid (B3q W0 (w.heap.size + 1) (.bool t) (.slice q n d) (.int .i64 f)) := by rw [hW0]; constructor <;> go_simp
 have hb0 := bq2 hW0;rw [← hW0];clear hW0;have hbw := brf w;obtain ⟨gb, hgb⟩ := exq (w.heap.size + 1);have HGb : Hid (w.heap.size ≤ gb) := hgl hgb;rw [← hgb] at Xb
 try rw [← hgb]
 obtain ⟨ga, hga⟩ := exq w.heap.size;have HGa : Hid (w.heap.size ≤ ga) := hgl hga;rw [← hga] at Xa
 try rw [← hga]
 have HGD : Hid (ga ≠ gb ∧ gb ≠ ga) := by rw [hga, hgb]; show _ ∧ _; omega
 clear hga hgb;replace hbw := bon hbw hb0;clear hb0
 refine (dform_t (H.out.below hbw)).mono ?_
 rintro e v1 ⟨rfl, hb1⟩;replace Xa := B3q.b Xa hb1;replace Xb := B3q.b Xb hb1;replace hbw := bon hbw hb1;clear hb1;obtain ⟨cb0, cb1, cb2, fb0, fb1, fb2⟩ := Xb.out;have hneb : gb < v1.heap.size := blt cb0;go_wp2_with fail;clear cb0 cb1 cb2 fb0 fb1 fb2 hneb
 refine (dform_t (K.out.below hbw)).mono ?_
 rintro e v2 ⟨rfl, hb2⟩;replace Xa := B3q.b Xa hb2;replace Xb := B3q.b Xb hb2;replace hbw := bon hbw hb2;clear hb2;obtain ⟨ca0, ca1, ca2, fa0, fa1, fa2⟩ := Xa.out;have hnea : ga < v2.heap.size := blt ca0;obtain ⟨cb0, cb1, cb2, fb0, fb1, fb2⟩ := Xb.out;have hneb : gb < v2.heap.size := blt cb0;go_wp2_with fail;clear ca0 ca1 ca2 fa0 fa1 fa2 hnea cb0 cb1 cb2 fb0 fb1 fb2 hneb
 refine (zsign (H.out.zn.below hbw)).mono ?_
 rintro e v3 ⟨rfl, hb3⟩;rw [HX.out.1];replace Xa := B3q.b Xa hb3;replace Xb := B3q.b Xb hb3;replace hbw := bon hbw hb3;clear hb3;obtain ⟨cb0, cb1, cb2, fb0, fb1, fb2⟩ := Xb.out;have hneb : gb < v3.heap.size := blt cb0;go_wp2_with fail;clear cb0 cb1 cb2 fb0 fb1 fb2 hneb
 refine (zsign (K.out.zn.below hbw)).mono ?_
 rintro e v4 ⟨rfl, hb4⟩;rw [HX.out.2.1];replace Xa := B3q.b Xa hb4;replace Xb := B3q.b Xb hb4;replace hbw := bon hbw hb4;clear hb4;obtain ⟨ca0, ca1, ca2, fa0, fa1, fa2⟩ := Xa.out;have hnea : ga < v4.heap.size := blt ca0;obtain ⟨cb0, cb1, cb2, fb0, fb1, fb2⟩ := Xb.out;have hneb : gb < v4.heap.size := blt cb0;go_wp2_with fail;clear ca0 ca1 ca2 fa0 fa1 fa2 hnea cb0 cb1 cb2 fb0 fb1 fb2 hneb
 refine (ccmp _ _ _).mono ?_
 rintro e v5 ⟨rfl, hb5⟩;rw [HX.out.2.2];replace Xa := B3q.b Xa hb5;replace Xb := B3q.b Xb hb5;replace hbw := bon hbw hb5;clear hb5;go_wp2_with fail
 go_ret2
 exact ⟨rfl, hbw⟩
theorem dcmp_t {p q : Option Addr} {m c n d : Nat} {w : World} {x y e f : Int} {s t : Bool} (h : DN w s p m c e x) (k : DN w t q n d f y) (hs : sgnI x = sgnI y) (hx : x ≠ 0) (ht : topI x e ≠ topI y f) :
  Calls Tryz.prog 39 #[DV s p m c e, DV t q n d f] w fun en w' => en = .returned (.tuple #[.int .i64 (cmpI (dv x e) (dv y f)), .int .i64 0]) ∧ Below w.heap.size w w' := by
 have H := hdQ h;have K := hdQ k
 have hy : y ≠ 0 := by
  intro h0
  rw [h0] at hs;unfold sgnI at hs
  rw [if_neg (show ¬ (0 : Int) < 0 by omega), if_pos rfl] at hs
  rcases Int.lt_or_lt_of_ne hx with h1 | h1
  ·rw [if_pos h1] at hs; omega
  ·rw [if_neg (by omega), if_neg (by omega)] at hs; omega
 have hE : -1048576 ≤ e ∧ e ≤ 1048576 ∧ -1048576 ≤ f ∧ f ≤ 1048576 := by
  rcases h.fm with ⟨h1, _⟩ | ⟨_, h1, h2⟩
  ·exact absurd h1 hx
  ·rcases k.fm with ⟨k1, _⟩ | ⟨_, k1, k2⟩
   ·exact absurd k1 hy
   ·exact ⟨h1, h2, k1, k2⟩
 have HE : Hid (-1048576 ≤ e ∧ e ≤ 1048576 ∧ -1048576 ≤ f ∧ f ≤ 1048576) := hE;have hbx := (lim_bits x.natAbs).1 h.zn.lim;have hby := (lim_bits y.natAbs).1 k.zn.lim;obtain ⟨r, hr⟩ := exq (cmpI (dv x e) (dv y f));rw [← hr];obtain ⟨sx, hsx⟩ := exq (sgnI x)
 have hv1 : sx = 1 ∨ sx = -1 := by
  rw [hsx];unfold sgnI
  rcases Int.lt_or_lt_of_ne hx with h1 | h1
  ·rw [if_pos h1]; exact .inr rfl
  ·rw [if_neg (by omega), if_neg (by omega)]; exact .inl rfl
 have hd0 : (sx == 0) = false := by rcases hv1 with h1 | h1 <;> rw [h1] <;> rfl
 have hd1 : (sx == sx) = true := by simp
 have hd2 : (sx != sx) = false := by simp
 rw [← cmp_top hx hs (by omega) (by omega) ht, ← hsx] at hr
 have HX : Hid (sgnI x = sx ∧ sgnI y = sx ∧ sx * cmpI (topI x e) (topI y f) = r ∧ (sx = 1 ∨ sx = -1)) := ⟨hsx.symm, by rw [← hs, hsx], hr.symm, hv1⟩
 obtain ⟨tx, htx⟩ := exq (topI x e);obtain ⟨ty, hty⟩ := exq (topI y f);rw [← htx, ← hty] at HX ht
 have hd3 : (tx == ty) = false := by simp [ht]
 have hd4 : (tx != ty) = true := by simp [ht]
 have HTX : Hid (topI x e = tx ∧ topI y f = ty) := ⟨htx.symm, hty.symm⟩
 have f1 : wrap64 (sx * cmpI tx ty) = r := by
  have h1 := HX.out.2.2.1;rw [h1]
  have h2 : r = -1 ∨ r = 0 ∨ r = 1 := by
   rw [← h1];unfold cmpI
   rcases HX.out.2.2.2 with h3 | h3 <;> rw [h3] <;> split <;> (try split) <;> omega
  simp only [wrap64]; omega
 clear h k hs hx hy hE hsx hv1 hr ht htx hty hbx hby
 go_enter Tryz.func39, Tryz.ntmps39
 go_wp2_with fail;obtain ⟨W0, hW0⟩ := exq ((w.alloc (.cells #[.bool s, .slice p m c, .int .i64 e] 26)).alloc (.cells #[.bool t, .slice q n d, .int .i64 f] 26))
 have Xa : Hid (B3q W0 (w.heap.size) (.bool s) (.slice p m c) (.int .i64 e)) := by rw [hW0]; constructor <;> go_simp
 have Xb : Hid (B3q W0 (w.heap.size + 1) (.bool t) (.slice q n d) (.int .i64 f)) := by rw [hW0]; constructor <;> go_simp
 have hb0 := bq2 hW0;rw [← hW0];clear hW0;have hbw := brf w;obtain ⟨gb, hgb⟩ := exq (w.heap.size + 1);have HGb : Hid (w.heap.size ≤ gb) := hgl hgb;rw [← hgb] at Xb
 try rw [← hgb]
 obtain ⟨ga, hga⟩ := exq w.heap.size;have HGa : Hid (w.heap.size ≤ ga) := hgl hga;rw [← hga] at Xa
 try rw [← hga]
 have HGD : Hid (ga ≠ gb ∧ gb ≠ ga) := by rw [hga, hgb]; show _ ∧ _; omega
 clear hga hgb;replace hbw := bon hbw hb0;clear hb0
 refine (dform_t (H.out.below hbw)).mono ?_
 rintro e v1 ⟨rfl, hb1⟩;replace Xa := B3q.b Xa hb1;replace Xb := B3q.b Xb hb1;replace hbw := bon hbw hb1;clear hb1;obtain ⟨cb0, cb1, cb2, fb0, fb1, fb2⟩ := Xb.out;have hneb : gb < v1.heap.size := blt cb0;go_wp2_with fail;clear cb0 cb1 cb2 fb0 fb1 fb2 hneb
 refine (dform_t (K.out.below hbw)).mono ?_
 rintro e v2 ⟨rfl, hb2⟩;replace Xa := B3q.b Xa hb2;replace Xb := B3q.b Xb hb2;replace hbw := bon hbw hb2;clear hb2;obtain ⟨ca0, ca1, ca2, fa0, fa1, fa2⟩ := Xa.out;have hnea : ga < v2.heap.size := blt ca0;obtain ⟨cb0, cb1, cb2, fb0, fb1, fb2⟩ := Xb.out;have hneb : gb < v2.heap.size := blt cb0;go_wp2_with fail;clear ca0 ca1 ca2 fa0 fa1 fa2 hnea cb0 cb1 cb2 fb0 fb1 fb2 hneb
 refine (zsign (H.out.zn.below hbw)).mono ?_
 rintro e v3 ⟨rfl, hb3⟩;rw [HX.out.1];replace Xa := B3q.b Xa hb3;replace Xb := B3q.b Xb hb3;replace hbw := bon hbw hb3;clear hb3;obtain ⟨cb0, cb1, cb2, fb0, fb1, fb2⟩ := Xb.out;have hneb : gb < v3.heap.size := blt cb0;go_wp2_with fail;clear cb0 cb1 cb2 fb0 fb1 fb2 hneb
 refine (zsign (K.out.zn.below hbw)).mono ?_
 rintro e v4 ⟨rfl, hb4⟩;rw [HX.out.2.1];replace Xa := B3q.b Xa hb4;replace Xb := B3q.b Xb hb4;replace hbw := bon hbw hb4;clear hb4;obtain ⟨ca0, ca1, ca2, fa0, fa1, fa2⟩ := Xa.out;have hnea : ga < v4.heap.size := blt ca0;obtain ⟨cb0, cb1, cb2, fb0, fb1, fb2⟩ := Xb.out;have hneb : gb < v4.heap.size := blt cb0;go_wp2_with fail;clear ca0 ca1 ca2 fa0 fa1 fa2 hnea cb0 cb1 cb2 fb0 fb1 fb2 hneb;obtain ⟨W1, hW1⟩ := exq v4.drew
 have hbd : Below v4.heap.size v4 W1 := by rw [hW1]; exact bDrew1 (Below.refl _ _)
 replace Xa := B3q.b Xa hbd;replace Xb := B3q.b Xb hbd;replace hbw := bon hbw hbd;clear hbd
 have HJ : Hid ((fun W' : World => W'.cell? ⟨ga, 0, none⟩ = some (.bool s) ∧ W'.cell? ⟨ga, 1, none⟩ = some (.slice p m c) ∧ W'.cell? ⟨ga, 2, none⟩ = some (.int .i64 e) ∧ W'.cell? ⟨gb, 0, none⟩ = some (.bool t) ∧ W'.cell? ⟨gb, 1, none⟩ = some (.slice q n d) ∧ W'.cell? ⟨gb, 2, none⟩ = some (.int .i64 f)) W1) := ⟨Xa.out.c0, Xa.out.c1, Xa.out.c2, Xb.out.c0, Xb.out.c1, Xb.out.c2⟩
 refine wp_region_J (fun W' => W'.cell? ⟨ga, 0, none⟩ = some (.bool s) ∧ W'.cell? ⟨ga, 1, none⟩ = some (.slice p m c) ∧ W'.cell? ⟨ga, 2, none⟩ = some (.int .i64 e) ∧ W'.cell? ⟨gb, 0, none⟩ = some (.bool t) ∧ W'.cell? ⟨gb, 1, none⟩ = some (.slice q n d) ∧ W'.cell? ⟨gb, 2, none⟩ = some (.int .i64 f)) (by kernel_rfl) ?_
 rw [← hW1];clear hW1
 refine wpJ_tq 0 rfl HJ.out ?_
 refine wpJ_tq 2 rfl HJ.out ?_
 refine wpJ_on 1 rfl fun KJ hK => ?_
 go_simp
 refine (dtop (e := e) (H.out.zn.below hbw) (by have := HE.out; omega)).mono ?_
 rintro e v5 ⟨rfl, hb5⟩;rw [HTX.out.1];replace Xa := B3q.b Xa hb5;replace Xb := B3q.b Xb hb5;replace hbw := bon hbw hb5;clear hb5
 refine hK _ _ ⟨Xa.out.c0, Xa.out.c1, Xa.out.c2, Xb.out.c0, Xb.out.c1, Xb.out.c2⟩ ?_
 clear hK
 refine wpJ_on 3 rfl fun KJ hK => ?_
 go_simp
 refine (dtop (e := f) (K.out.zn.below hbw) (by have := HE.out; omega)).mono ?_
 rintro e v6 ⟨rfl, hb6⟩;rw [HTX.out.2];replace Xa := B3q.b Xa hb6;replace Xb := B3q.b Xb hb6;replace hbw := bon hbw hb6;clear hb6 HJ
 have HJ : Hid ((fun W' : World => W'.cell? ⟨ga, 0, none⟩ = some (.bool s) ∧ W'.cell? ⟨ga, 1, none⟩ = some (.slice p m c) ∧ W'.cell? ⟨ga, 2, none⟩ = some (.int .i64 e) ∧ W'.cell? ⟨gb, 0, none⟩ = some (.bool t) ∧ W'.cell? ⟨gb, 1, none⟩ = some (.slice q n d) ∧ W'.cell? ⟨gb, 2, none⟩ = some (.int .i64 f)) v6) := ⟨Xa.out.c0, Xa.out.c1, Xa.out.c2, Xb.out.c0, Xb.out.c1, Xb.out.c2⟩
 refine hK _ _ HJ.out ?_
 clear hK
 refine wpJ_tq 4 rfl HJ.out ?_
 refine wpJ_tq 5 rfl HJ.out ?_
 refine wpJ_done (by kernel_rfl) ?_ _
 clear HJ;obtain ⟨ca0, ca1, ca2, fa0, fa1, fa2⟩ := Xa.out;have hnea : ga < v6.heap.size := blt ca0;obtain ⟨cb0, cb1, cb2, fb0, fb1, fb2⟩ := Xb.out;have hneb : gb < v6.heap.size := blt cb0;go_wp2_with fail;clear ca0 ca1 ca2 fa0 fa1 fa2 hnea cb0 cb1 cb2 fb0 fb1 fb2 hneb
 refine (ccmp _ _ _).mono ?_
 rintro e v7 ⟨rfl, hb7⟩;replace Xa := B3q.b Xa hb7;replace Xb := B3q.b Xb hb7;replace hbw := bon hbw hb7;clear hb7;have F1 : Hid (wrap64 (sx * cmpI tx ty) = r) := f1;clear f1;go_wp2_with fail
 go_ret2
 refine ⟨?_, hbw⟩
 show Ending.returned (.tuple #[.int .i64 (wrap64 (sx * cmpI tx ty)), .int .i64 0]) = _
 rw [F1.out]
theorem dcmp_a {p q : Option Addr} {m c n d : Nat} {w : World} {x y e f : Int} {s t : Bool} (h : DN w s p m c e x) (k : DN w t q n d f y) (hs : sgnI x = sgnI y) (hx : x ≠ 0) (ht : topI x e = topI y f) :
  Calls Tryz.prog 39 #[DV s p m c e, DV t q n d f] w fun en w' => en = .returned (.tuple #[.int .i64 (cmpI (dv x e) (dv y f)), .int .i64 0]) ∧ Below w.heap.size w w' := by
 have H := hdQ h;have K := hdQ k
 have hy : y ≠ 0 := by
  intro h0
  rw [h0] at hs;unfold sgnI at hs
  rw [if_neg (show ¬ (0 : Int) < 0 by omega), if_pos rfl] at hs
  rcases Int.lt_or_lt_of_ne hx with h1 | h1
  ·rw [if_pos h1] at hs; omega
  ·rw [if_neg (by omega), if_neg (by omega)] at hs; omega
 have hE : -1048576 ≤ e ∧ e ≤ 1048576 ∧ -1048576 ≤ f ∧ f ≤ 1048576 := by
  rcases h.fm with ⟨h1, _⟩ | ⟨_, h1, h2⟩
  ·exact absurd h1 hx
  ·rcases k.fm with ⟨k1, _⟩ | ⟨_, k1, k2⟩
   ·exact absurd k1 hy
   ·exact ⟨h1, h2, k1, k2⟩
 have HE : Hid (-1048576 ≤ e ∧ e ≤ 1048576 ∧ -1048576 ≤ f ∧ f ≤ 1048576) := hE;have hbx := (lim_bits x.natAbs).1 h.zn.lim;have hby := (lim_bits y.natAbs).1 k.zn.lim;obtain ⟨r, hr⟩ := exq (cmpI (dv x e) (dv y f));rw [← hr];obtain ⟨sx, hsx⟩ := exq (sgnI x)
 have hv1 : sx = 1 ∨ sx = -1 := by
  rw [hsx];unfold sgnI
  rcases Int.lt_or_lt_of_ne hx with h1 | h1
  ·rw [if_pos h1]; exact .inr rfl
  ·rw [if_neg (by omega), if_neg (by omega)]; exact .inl rfl
 have hd0 : (sx == 0) = false := by rcases hv1 with h1 | h1 <;> rw [h1] <;> rfl
 have hd1 : (sx == sx) = true := by simp
 have hd2 : (sx != sx) = false := by simp
 obtain ⟨g, hg⟩ := exq (min e f)
 rw [← cmp_same (g := g) (by omega) (by omega) (by omega)] at hr
 have HX : Hid (sgnI x = sx ∧ sgnI y = sx ∧ cmpI (x * 2 ^ (e - g).toNat) (y * 2 ^ (f - g).toNat) = r) := ⟨hsx.symm, by rw [← hs, hsx], hr.symm⟩
 obtain ⟨tx, htx⟩ := exq (topI x e)
 have HTX : Hid (topI x e = tx ∧ topI y f = tx) := ⟨htx.symm, by rw [← ht, htx]⟩
 have hd3 : (tx == tx) = true := by simp
 have hd4 : (tx != tx) = false := by simp
 have HG : Hid (g = min e f) := hg
 have hb : ∀ (u v : Int) (k2 : Nat), u ≠ 0 → bitsN u.natAbs + k2 ≤ 524288 → (u * 2 ^ k2).natAbs < LIM := by
  intro u v k2 h0 h1
  rw [Int.natAbs_mul, pow_cast, Int.natAbs_natCast, lim_bits, Nat.mul_comm, bitsN_shl _ _ (by omega)]
  omega
 have HB : Hid ((x * 2 ^ (e - g).toNat).natAbs < LIM ∧ (y * 2 ^ (f - g).toNat).natAbs < LIM) := by
  unfold topI at ht
  exact ⟨hb x x _ hx (by omega), hb y y _ hy (by omega)⟩
 clear h k hs hx hy hE hsx hv1 hr ht htx hbx hby hg hb
 go_enter Tryz.func39, Tryz.ntmps39
 go_wp2_with fail;obtain ⟨W0, hW0⟩ := exq ((w.alloc (.cells #[.bool s, .slice p m c, .int .i64 e] 26)).alloc (.cells #[.bool t, .slice q n d, .int .i64 f] 26))
 have Xa : Hid (B3q W0 (w.heap.size) (.bool s) (.slice p m c) (.int .i64 e)) := by rw [hW0]; constructor <;> go_simp
 have Xb : Hid (B3q W0 (w.heap.size + 1) (.bool t) (.slice q n d) (.int .i64 f)) := by rw [hW0]; constructor <;> go_simp
 have hb0 := bq2 hW0;rw [← hW0];clear hW0;have hbw := brf w;obtain ⟨gb, hgb⟩ := exq (w.heap.size + 1);have HGb : Hid (w.heap.size ≤ gb) := hgl hgb;rw [← hgb] at Xb
 try rw [← hgb]
 obtain ⟨ga, hga⟩ := exq w.heap.size;have HGa : Hid (w.heap.size ≤ ga) := hgl hga;rw [← hga] at Xa
 try rw [← hga]
 have HGD : Hid (ga ≠ gb ∧ gb ≠ ga) := by rw [hga, hgb]; show _ ∧ _; omega
 clear hga hgb;replace hbw := bon hbw hb0;clear hb0
 refine (dform_t (H.out.below hbw)).mono ?_
 rintro e v1 ⟨rfl, hb1⟩;replace Xa := B3q.b Xa hb1;replace Xb := B3q.b Xb hb1;replace hbw := bon hbw hb1;clear hb1;obtain ⟨cb0, cb1, cb2, fb0, fb1, fb2⟩ := Xb.out;have hneb : gb < v1.heap.size := blt cb0;go_wp2_with fail;clear cb0 cb1 cb2 fb0 fb1 fb2 hneb
 refine (dform_t (K.out.below hbw)).mono ?_
 rintro e v2 ⟨rfl, hb2⟩;replace Xa := B3q.b Xa hb2;replace Xb := B3q.b Xb hb2;replace hbw := bon hbw hb2;clear hb2;obtain ⟨ca0, ca1, ca2, fa0, fa1, fa2⟩ := Xa.out;have hnea : ga < v2.heap.size := blt ca0;obtain ⟨cb0, cb1, cb2, fb0, fb1, fb2⟩ := Xb.out;have hneb : gb < v2.heap.size := blt cb0;go_wp2_with fail;clear ca0 ca1 ca2 fa0 fa1 fa2 hnea cb0 cb1 cb2 fb0 fb1 fb2 hneb
 refine (zsign (H.out.zn.below hbw)).mono ?_
 rintro e v3 ⟨rfl, hb3⟩;rw [HX.out.1];replace Xa := B3q.b Xa hb3;replace Xb := B3q.b Xb hb3;replace hbw := bon hbw hb3;clear hb3;obtain ⟨cb0, cb1, cb2, fb0, fb1, fb2⟩ := Xb.out;have hneb : gb < v3.heap.size := blt cb0;go_wp2_with fail;clear cb0 cb1 cb2 fb0 fb1 fb2 hneb
 refine (zsign (K.out.zn.below hbw)).mono ?_
 rintro e v4 ⟨rfl, hb4⟩;rw [HX.out.2.1];replace Xa := B3q.b Xa hb4;replace Xb := B3q.b Xb hb4;replace hbw := bon hbw hb4;clear hb4;obtain ⟨ca0, ca1, ca2, fa0, fa1, fa2⟩ := Xa.out;have hnea : ga < v4.heap.size := blt ca0;obtain ⟨cb0, cb1, cb2, fb0, fb1, fb2⟩ := Xb.out;have hneb : gb < v4.heap.size := blt cb0;go_wp2_with fail;clear ca0 ca1 ca2 fa0 fa1 fa2 hnea cb0 cb1 cb2 fb0 fb1 fb2 hneb;obtain ⟨W1, hW1⟩ := exq v4.drew
 have hbd : Below v4.heap.size v4 W1 := by rw [hW1]; exact bDrew1 (Below.refl _ _)
 replace Xa := B3q.b Xa hbd;replace Xb := B3q.b Xb hbd;replace hbw := bon hbw hbd;clear hbd
 have HJ : Hid ((fun W' : World => W'.cell? ⟨ga, 0, none⟩ = some (.bool s) ∧ W'.cell? ⟨ga, 1, none⟩ = some (.slice p m c) ∧ W'.cell? ⟨ga, 2, none⟩ = some (.int .i64 e) ∧ W'.cell? ⟨gb, 0, none⟩ = some (.bool t) ∧ W'.cell? ⟨gb, 1, none⟩ = some (.slice q n d) ∧ W'.cell? ⟨gb, 2, none⟩ = some (.int .i64 f)) W1) := ⟨Xa.out.c0, Xa.out.c1, Xa.out.c2, Xb.out.c0, Xb.out.c1, Xb.out.c2⟩
 refine wp_region_J (fun W' => W'.cell? ⟨ga, 0, none⟩ = some (.bool s) ∧ W'.cell? ⟨ga, 1, none⟩ = some (.slice p m c) ∧ W'.cell? ⟨ga, 2, none⟩ = some (.int .i64 e) ∧ W'.cell? ⟨gb, 0, none⟩ = some (.bool t) ∧ W'.cell? ⟨gb, 1, none⟩ = some (.slice q n d) ∧ W'.cell? ⟨gb, 2, none⟩ = some (.int .i64 f)) (by kernel_rfl) ?_
 rw [← hW1];clear hW1
 refine wpJ_tq 0 rfl HJ.out ?_
 refine wpJ_tq 2 rfl HJ.out ?_
 refine wpJ_on 1 rfl fun KJ hK => ?_
 go_simp
 refine (dtop (e := e) (H.out.zn.below hbw) (by have := HE.out; omega)).mono ?_
 rintro e v5 ⟨rfl, hb5⟩;rw [HTX.out.1];replace Xa := B3q.b Xa hb5;replace Xb := B3q.b Xb hb5;replace hbw := bon hbw hb5;clear hb5
 refine hK _ _ ⟨Xa.out.c0, Xa.out.c1, Xa.out.c2, Xb.out.c0, Xb.out.c1, Xb.out.c2⟩ ?_
 clear hK
 refine wpJ_on 3 rfl fun KJ hK => ?_
 go_simp
 refine (dtop (e := f) (K.out.zn.below hbw) (by have := HE.out; omega)).mono ?_
 rintro e v6 ⟨rfl, hb6⟩;rw [HTX.out.2];replace Xa := B3q.b Xa hb6;replace Xb := B3q.b Xb hb6;replace hbw := bon hbw hb6;clear hb6 HJ
 have HJ : Hid ((fun W' : World => W'.cell? ⟨ga, 0, none⟩ = some (.bool s) ∧ W'.cell? ⟨ga, 1, none⟩ = some (.slice p m c) ∧ W'.cell? ⟨ga, 2, none⟩ = some (.int .i64 e) ∧ W'.cell? ⟨gb, 0, none⟩ = some (.bool t) ∧ W'.cell? ⟨gb, 1, none⟩ = some (.slice q n d) ∧ W'.cell? ⟨gb, 2, none⟩ = some (.int .i64 f)) v6) := ⟨Xa.out.c0, Xa.out.c1, Xa.out.c2, Xb.out.c0, Xb.out.c1, Xb.out.c2⟩
 refine hK _ _ HJ.out ?_
 clear hK
 refine wpJ_tq 4 rfl HJ.out ?_
 refine wpJ_tq 5 rfl HJ.out ?_
 refine wpJ_done (by kernel_rfl) ?_ _
 clear HJ;obtain ⟨ca0, ca1, ca2, fa0, fa1, fa2⟩ := Xa.out;have hnea : ga < v6.heap.size := blt ca0;obtain ⟨cb0, cb1, cb2, fb0, fb1, fb2⟩ := Xb.out;have hneb : gb < v6.heap.size := blt cb0;go_wp2_with fail;clear ca0 ca1 ca2 fa0 fa1 fa2 hnea cb0 cb1 cb2 fb0 fb1 fb2 hneb
 refine (daligned (H.out.zn.below hbw) (K.out.zn.below hbw) HG.out HE.out HB.out.1 HB.out.2).mono ?_
 rintro e2 v8 ⟨s5, p5, m5, s6, p6, m6, rfl, hz5, hz6, hb5⟩;replace Xa := B3q.b Xa hb5;replace Xb := B3q.b Xb hb5;replace hbw := bon hbw hb5;clear hb5;have Z5 := hdQ hz5;have Z6 := hdQ hz6;clear hz5 hz6;go_wp2_with fail
 rw [show v8.heap.size + 1 = (v8.alloc (.cells #[.bool s5, .slice p5 m5 m5] 24)).heap.size from by simp]
 have Xx0 : Hid (Box (v8.alloc (.cells #[.bool s5, .slice p5 m5 m5] 24)) v8.heap.size (.bool s5) (.slice p5 m5 m5)) := Box.new v8 _ _ _;have hbn : Below v8.heap.size v8 (v8.alloc (.cells #[.bool s5, .slice p5 m5 m5] 24)) := below1 v8 _;generalize v8.alloc (.cells #[.bool s5, .slice p5 m5 m5] 24) = Wx at *;have HGx : Hid (w.heap.size ≤ v8.heap.size) := hbw.size;replace Xa := B3q.b Xa hbn;replace Xb := B3q.b Xb hbn;replace Z5 := ZN.b Z5 hbn;replace Z6 := ZN.b Z6 hbn;replace hbw := bon hbw hbn;clear hbn;generalize v8.heap.size = gx at *;have Xx := Xx0;clear Xx0;have Xy0 : Hid (Box (Wx.alloc (.cells #[.bool s6, .slice p6 m6 m6] 24)) Wx.heap.size (.bool s6) (.slice p6 m6 m6)) := Box.new Wx _ _ _;have hbn : Below Wx.heap.size Wx (Wx.alloc (.cells #[.bool s6, .slice p6 m6 m6] 24)) := below1 Wx _;generalize Wx.alloc (.cells #[.bool s6, .slice p6 m6 m6] 24) = Wy at *;have HGy : Hid (w.heap.size ≤ Wx.heap.size) := hbw.size
 replace Xa := B3q.b Xa hbn;replace Xb := B3q.b Xb hbn;replace Xx := Box.b Xx hbn;replace Z5 := ZN.b Z5 hbn;replace Z6 := ZN.b Z6 hbn;replace hbw := bon hbw hbn;clear hbn;generalize Wx.heap.size = gy at *;have Xy := Xy0;clear Xy0
 refine (zcmp Z5.out Z6.out).mono ?_
 rintro e v9 ⟨rfl, hb9⟩;rw [HX.out.2.2];replace Xa := B3q.b Xa hb9;replace Xb := B3q.b Xb hb9;replace Xx := Box.b Xx hb9;replace Xy := Box.b Xy hb9;replace Z5 := ZN.b Z5 hb9;replace Z6 := ZN.b Z6 hb9;replace hbw := bon hbw hb9;clear hb9;go_wp2_with fail
 go_ret2
 exact ⟨rfl, hbw⟩
theorem dcmp {p q : Option Addr} {m c n d : Nat} {w : World} {x y e f : Int} {s t : Bool} (h : DN w s p m c e x) (k : DN w t q n d f y) :
  Calls Tryz.prog 39 #[DV s p m c e, DV t q n d f] w fun en w' => en = .returned (.tuple #[.int .i64 (cmpI (dv x e) (dv y f)), .int .i64 0]) ∧ Below w.heap.size w w' := by
 by_cases hs : sgnI x = sgnI y
 ·by_cases hx : x = 0
  ·exact dcmp_z h k hs hx
  ·by_cases ht : topI x e = topI y f
   ·exact dcmp_a h k hs hx ht
   ·exact dcmp_t h k hs hx ht
 ·exact dcmp_d h k hs
theorem results_ctt {fn : Func} {p t1 t2 : Tmp} {ty : TypeId} (h : fn.results = #[.cell p ty, .tmp t1, .tmp t2]) (tmps : Array Value) (P : Program) (w : World) :
  (results fn tmps).run P w = ((asAddr (tmps.getD p undef)).run P w).andThen fun a w₁ => ((loadVar ty a).run P w₁).andThen fun v w₂ => .ok (.tuple #[v, tmps.getD t1 undef, tmps.getD t2 undef]) w₂ := by
 simp only [results, h]
 simp [Sem.run_bind, Result.andThen]
structure DO (B : Nat) (w : World) (s : Bool) (p : Option Addr) (m : Nat) (e z : Int) : Prop where
 own : ∃ zs, Own B w p m zs ∧ Nf B64 zs z.natAbs ∧ m ≤ 8192
 sg : s = decide (z < 0)
 fm : DFm z e
theorem DO.dn {B : Nat} {w : World} {s : Bool} {p : Option Addr} {m : Nat} {e z : Int} (h : DO B w s p m e z) : DN w s p m m e z := by
  obtain ⟨zs, h1, h2, h3⟩ := h.own
  exact ⟨⟨⟨zs, Num.of h1 h2 h3⟩, h.sg⟩, h.fm⟩
theorem DO.below {B : Nat} {w w' : World} {s : Bool} {p : Option Addr} {m : Nat} {e z : Int} (h : DO B w s p m e z) (hb : Below w.heap.size w w') : DO B w' s p m e z := by
  obtain ⟨zs, h1, h2, h3⟩ := h.own
  exact ⟨⟨zs, h1.below hb, h2, h3⟩, h.sg, h.fm⟩
theorem DO.b {B : Nat} {w w' : World} {s : Bool} {p : Option Addr} {m : Nat} {e z : Int} (h : Hid (DO B w s p m e z)) (hb : Below w.heap.size w w') : Hid (DO B w' s p m e z) := DO.below h hb
theorem DO.set {B : Nat} {w : World} {s : Bool} {p : Option Addr} {m : Nat} {e z : Int} (h : DO B w s p m e z) (g o : Nat) (v : Value) (hg : g < B) : DO B (w.setCell ⟨g, o, none⟩ v) s p m e z := by
  obtain ⟨zs, h1, h2, h3⟩ := h.own
  exact ⟨⟨zs, h1.setOld _ _ _ hg, h2, h3⟩, h.sg, h.fm⟩
theorem DO.of {B : Nat} {w : World} {v : Value} {e z : Int} (h : AnsD B w v z e) (hf : DFm z e) : ∃ s p m, v = DV s p m m e ∧ DO B w s p m e z := by
  obtain ⟨p, m, zs, rfl, h1, h2, h3⟩ := h
  exact ⟨_, p, m, rfl, ⟨zs, h1, h2, h3⟩, rfl, hf⟩
abbrev SV (s : Bool) (p : Option Addr) (m c : Nat) (e : Int) (t : Bool) (q : Option Addr) (n d : Nat) (f : Int) : Value := .agg #[.bool s, .slice p m c, .int .i64 e, .bool t, .slice q n d, .int .i64 f]
end Go.Proofs.YtpdelpakgdanlaaGreatDoor
namespace Go.Proofs.YtpdelpakgdanlaaGreatDoor
open Go.ChangeShapes Go.WideShapes Go.ChangeAt Go.RowKit Go.Deep
set_option maxRecDepth 20000
set_option maxHeartbeats 0
theorem cellsOfSpanS : Tryz.prog.cellsOf 28 = 6 := by kernel_rfl
theorem open_dyadic3s {H : Type} {enc : TypeId × Value → H} {W : World} {k : Nat} {c0 c1 c2 : Value} {y : DataW H × List MemPlace} {ts : List TypeId} {ds : List (DataW H)} {j : Nat}
  (hf : DataW.trod enc Tryz.prog W 0 (fun _ => true) true k 26 [c0, c1, c2] = some y) (hsz : (DataW.weightsEach Tryz.prog ts ds).all (· ≤ reachBytes) = true) (ht : ts[j]? = some 26) (hd : ds[j]? = some y.1) :
  ∃ s a len cap e xs, c0 = .bool s ∧ c1 = .slice a len cap ∧ c2 = .int .i64 e ∧ At W a len cap xs ∧ len ≤ 17592186044416 := by
 obtain ⟨y0, y1, n, rfl, _, h0, h1⟩ := trod_struct2 Tryz.underlying26 hf;have sf := sized_fields hsz ht hd Tryz.underlying26
 have k0 : DataW.trod enc Tryz.prog W 0 (fun _ => true) true n 24 [c0, c1] = some y0 := by
  have g' : DataW.trod enc Tryz.prog W 0 (fun _ => true) true n 24 (([c0, c1, c2].drop 0).take (Tryz.prog.cellsOf 24)) = some y0 := h0
  rw [cellsOfIntD] at g'
  exact g'
 have k1 : DataW.trod enc Tryz.prog W 0 (fun _ => true) true n 3 [c2] = some y1 := by
  have g' : DataW.trod enc Tryz.prog W 0 (fun _ => true) true n 3 (([c0, c1, c2].drop 2).take (Tryz.prog.cellsOf 3)) = some y1 := h1
  rw [cellsOfiD] at g'
  exact g'
 clear h0 h1;obtain ⟨u0, u1, n2, rfl, _, x0, x1⟩ := trod_struct2 Tryz.underlying24 k0;have sf2 := sized_fields sf (j := 0) rfl rfl Tryz.underlying24
 have q0 : DataW.trod enc Tryz.prog W 0 (fun _ => true) true n2 4 [c0] = some u0 := by
  have g' : DataW.trod enc Tryz.prog W 0 (fun _ => true) true n2 4 (([c0, c1].drop 0).take (Tryz.prog.cellsOf 4)) = some u0 := x0
  rw [show Tryz.prog.cellsOf 4 = 1 from by kernel_rfl] at g'
  exact g'
 have q1 : DataW.trod enc Tryz.prog W 0 (fun _ => true) true n2 22 [c1] = some u1 := by
  have g' : DataW.trod enc Tryz.prog W 0 (fun _ => true) true n2 22 (([c0, c1].drop 1).take (Tryz.prog.cellsOf 22)) = some u1 := x1
  rw [show Tryz.prog.cellsOf 22 = 1 from by kernel_rfl] at g'
  exact g'
 obtain ⟨e, rfl, _⟩ := open_fld_int Tryz.underlying3 k1;obtain ⟨s, rfl⟩ := open_fld_bool Tryz.underlying4 q0;obtain ⟨a, len, cap, _, rfl, _⟩ := open_fld_at q1;obtain ⟨xs, hA, hl⟩ := open_at (a := a) (len := len) (cap := cap) (d := u1.1) (ps := u1.2) ⟨n2, q1⟩ sf2 (j := 1) rfl rfl
 exact ⟨s, a, len, cap, e, xs, rfl, rfl, rfl, hA, hl⟩
theorem open_dyadic_s {H : Type} {enc : TypeId × Value → H} {W : World} {r : Reach} {b0 : Nat} {v : Value} {d : DataW H} {ps : List MemPlace} {ts : List TypeId} {ds : List (DataW H)} {j : Nat}
  (hv : Value.okWide Tryz.prog W r b0 26 v) (h : DataW.Trod enc Tryz.prog W 0 (fun _ => true) true 26 v d ps) (hsz : (DataW.weightsEach Tryz.prog ts ds).all (· ≤ reachBytes) = true) (ht : ts[j]? = some 26) (hd : ds[j]? = some d) :
  ∃ s a len cap e xs, v = DV s a len cap e ∧ At W a len cap xs ∧ len ≤ 17592186044416 := by
 obtain ⟨cs, rfl, hz⟩ := okWide_struct Tryz.underlying26 hv
 obtain ⟨c0, c1, c2, rfl⟩ : ∃ c0 c1 c2, cs = #[c0, c1, c2] := by
  obtain ⟨l⟩ := cs
  match l, hz.trans cellsOfDyadic with
  | [c0, c1, c2], _ => exact ⟨c0, c1, c2, rfl⟩
 obtain ⟨fuel, hf⟩ := h
 obtain ⟨s, a, len, cap, e, xs, rfl, rfl, rfl, hA, hl⟩ := open_dyadic3s (y := (d, ps)) (by simpa [Value.cells] using hf) hsz ht hd
 exact ⟨s, a, len, cap, e, xs, rfl, hA, hl⟩
theorem open_span_s {H : Type} {enc : TypeId × Value → H} {W : World} {r : Reach} {b0 : Nat} {v : Value} {d : DataW H} {ps : List MemPlace} {ts : List TypeId} {ds : List (DataW H)} {j : Nat}
  (hv : Value.okWide Tryz.prog W r b0 28 v) (h : DataW.Trod enc Tryz.prog W 0 (fun _ => true) true 28 v d ps) (hsz : (DataW.weightsEach Tryz.prog ts ds).all (· ≤ reachBytes) = true) (ht : ts[j]? = some 28) (hd : ds[j]? = some d) :
  ∃ s a len cap e xs t b n q f ys, v = SV s a len cap e t b n q f ∧ At W a len cap xs ∧ At W b n q ys ∧ len ≤ 17592186044416 ∧ n ≤ 17592186044416 := by
 obtain ⟨cs, rfl, hz⟩ := okWide_struct Tryz.underlying28 hv
 obtain ⟨c0, c1, c2, c3, c4, c5, rfl⟩ : ∃ c0 c1 c2 c3 c4 c5, cs = #[c0, c1, c2, c3, c4, c5] := by
  obtain ⟨l⟩ := cs
  match l, hz.trans cellsOfSpanS with
  | [c0, c1, c2, c3, c4, c5], _ => exact ⟨c0, c1, c2, c3, c4, c5, rfl⟩
 obtain ⟨fuel, hf⟩ := h;obtain ⟨y0, y1, m, hx, _, h0, h1⟩ := trod_struct2 Tryz.underlying28 hf
 simp only [Prod.mk.injEq] at hx
 obtain ⟨rfl, _⟩ := hx;have sf := sized_fields hsz ht hd Tryz.underlying28
 have k0 : DataW.trod enc Tryz.prog W 0 (fun _ => true) true m 26 [c0, c1, c2] = some y0 := by
  have g' : DataW.trod enc Tryz.prog W 0 (fun _ => true) true m 26 (([c0, c1, c2, c3, c4, c5].drop 0).take (Tryz.prog.cellsOf 26)) = some y0 := h0
  rw [cellsOfDyadic] at g'
  exact g'
 have k1 : DataW.trod enc Tryz.prog W 0 (fun _ => true) true m 26 [c3, c4, c5] = some y1 := by
  have g' : DataW.trod enc Tryz.prog W 0 (fun _ => true) true m 26 (([c0, c1, c2, c3, c4, c5].drop 3).take (Tryz.prog.cellsOf 26)) = some y1 := h1
  rw [cellsOfDyadic] at g'
  exact g'
 obtain ⟨s, a, len, cap, e, xs, rfl, rfl, rfl, hA, hl⟩ := open_dyadic3s k0 sf (j := 0) rfl rfl;obtain ⟨t, b, n, q, f, zs, rfl, rfl, rfl, hB, hl2⟩ := open_dyadic3s k1 sf (j := 1) rfl rfl
 exact ⟨s, a, len, cap, e, xs, t, b, n, q, f, zs, rfl, hA, hB, hl, hl2⟩
end Go.Proofs.YtpdelpakgdanlaaGreatDoor
namespace Go.Proofs.YtpdelpakgdanlaaGreatDoor
open Go.RowKit
set_option maxRecDepth 20000
set_option maxHeartbeats 0
structure B3 (W : World) (g : Nat) (v0 v1 v2 : Value) : Prop where
 c0 : W.cell? ⟨g, 0, none⟩ = some v0
 c1 : W.cell? ⟨g, 1, none⟩ = some v1
 c2 : W.cell? ⟨g, 2, none⟩ = some v2
 f0 : W.frozen? ⟨g, 0, none⟩ = false
 f1 : W.frozen? ⟨g, 1, none⟩ = false
 f2 : W.frozen? ⟨g, 2, none⟩ = false
theorem B3.below {W W' : World} {g : Nat} {v0 v1 v2 : Value} (h : B3 W g v0 v1 v2) (hb : Below W.heap.size W W') : B3 W' g v0 v1 v2 := by
  have hl : g < W.heap.size := World.block_lt_of_cell? W _ h.c0
  exact ⟨(hb.cell (p := ⟨g, 0, none⟩) hl).trans h.c0, (hb.cell (p := ⟨g, 1, none⟩) hl).trans h.c1, (hb.cell (p := ⟨g, 2, none⟩) hl).trans h.c2,
    (hb.frozen (p := ⟨g, 0, none⟩) hl).trans h.f0, (hb.frozen (p := ⟨g, 1, none⟩) hl).trans h.f1, (hb.frozen (p := ⟨g, 2, none⟩) hl).trans h.f2⟩
theorem B3.b {W W' : World} {g : Nat} {v0 v1 v2 : Value} (h : Hid (B3 W g v0 v1 v2)) (hb : Below W.heap.size W W') : Hid (B3 W' g v0 v1 v2) := B3.below h hb
theorem B3.new (w : World) (ty : TypeId) (v0 v1 v2 : Value) : B3 (w.alloc (.cells #[v0, v1, v2] ty)) w.heap.size v0 v1 v2 :=
 ⟨by go_simp, by go_simp, by go_simp, by go_simp, by go_simp, by go_simp⟩
theorem B3.lt {W : World} {g : Nat} {v0 v1 v2 : Value} (h : B3 W g v0 v1 v2) : g < W.heap.size := World.block_lt_of_cell? W _ h.c0
end Go.Proofs.YtpdelpakgdanlaaGreatDoor
namespace Go.Proofs.YtpdelpakgdanlaaGreatDoor
open Go.RowKit Go.Shelf
set_option maxRecDepth 20000
set_option maxHeartbeats 0
def bl_bitsN (n : Nat) : Nat := if n = 0 then 0 else n.log2 + 1
theorem bl_bitsN_zero : bl_bitsN 0 = 0 := rfl
theorem bl_bitsN_lt (n : Nat) : n < 2 ^ bl_bitsN n := by
  unfold bl_bitsN
  split
  · rename_i h; subst h; decide
  · exact Nat.lt_log2_self
theorem bl_bitsN_le (n : Nat) (h : n ≠ 0) : 2 ^ (bl_bitsN n - 1) ≤ n := by
  unfold bl_bitsN;rw [if_neg h, Nat.add_sub_cancel]
  exact Nat.log2_self_le h
structure B5q (W : World) (g : Nat) (v0 v1 v2 v3 v4 : Value) : Prop where
 c0 : W.cell? ⟨g, 0, none⟩ = some v0
 c1 : W.cell? ⟨g, 1, none⟩ = some v1
 c2 : W.cell? ⟨g, 2, none⟩ = some v2
 c3 : W.cell? ⟨g, 3, none⟩ = some v3
 c4 : W.cell? ⟨g, 4, none⟩ = some v4
 f0 : W.frozen? ⟨g, 0, none⟩ = false
 f1 : W.frozen? ⟨g, 1, none⟩ = false
 f2 : W.frozen? ⟨g, 2, none⟩ = false
 f3 : W.frozen? ⟨g, 3, none⟩ = false
 f4 : W.frozen? ⟨g, 4, none⟩ = false
theorem B5q.below {W W' : World} {g : Nat} {v0 v1 v2 v3 v4 : Value} (h : B5q W g v0 v1 v2 v3 v4) (hb : Below W.heap.size W W') : B5q W' g v0 v1 v2 v3 v4 := by
  have hl : g < W.heap.size := World.block_lt_of_cell? W _ h.c0
  exact ⟨(hb.cell (p := ⟨g, 0, none⟩) hl).trans h.c0, (hb.cell (p := ⟨g, 1, none⟩) hl).trans h.c1, (hb.cell (p := ⟨g, 2, none⟩) hl).trans h.c2, (hb.cell (p := ⟨g, 3, none⟩) hl).trans h.c3, (hb.cell (p := ⟨g, 4, none⟩) hl).trans h.c4,
    (hb.frozen (p := ⟨g, 0, none⟩) hl).trans h.f0, (hb.frozen (p := ⟨g, 1, none⟩) hl).trans h.f1, (hb.frozen (p := ⟨g, 2, none⟩) hl).trans h.f2, (hb.frozen (p := ⟨g, 3, none⟩) hl).trans h.f3, (hb.frozen (p := ⟨g, 4, none⟩) hl).trans h.f4⟩
theorem B5q.b {W W' : World} {g : Nat} {v0 v1 v2 v3 v4 : Value} (h : Hid (B5q W g v0 v1 v2 v3 v4)) (hb : Below W.heap.size W W') : Hid (B5q W' g v0 v1 v2 v3 v4) := B5q.below h hb
theorem B5q.new (w : World) (ty : TypeId) (v0 v1 v2 v3 v4 : Value) : B5q (w.alloc (.cells #[v0, v1, v2, v3, v4] ty)) w.heap.size v0 v1 v2 v3 v4 :=
 ⟨by go_simp, by go_simp, by go_simp, by go_simp, by go_simp, by go_simp, by go_simp, by go_simp, by go_simp, by go_simp⟩
theorem B5q.lt {W : World} {g : Nat} {v0 v1 v2 v3 v4 : Value} (h : B5q W g v0 v1 v2 v3 v4) : g < W.heap.size := World.block_lt_of_cell? W _ h.c0
theorem B5q.drew {W : World} {g : Nat} {v0 v1 v2 v3 v4 : Value} (h : B5q W g v0 v1 v2 v3 v4) : B5q W.drew g v0 v1 v2 v3 v4 := ⟨h.c0, h.c1, h.c2, h.c3, h.c4, h.f0, h.f1, h.f2, h.f3, h.f4⟩
theorem B3.drew {W : World} {g : Nat} {v0 v1 v2 : Value} (h : B3 W g v0 v1 v2) : B3 W.drew g v0 v1 v2 := ⟨h.c0, h.c1, h.c2, h.f0, h.f1, h.f2⟩
theorem B5q.drewN {W : World} {g : Nat} {v0 v1 v2 v3 v4 : Value} (h : B5q W g v0 v1 v2 v3 v4) (r : Nat) : B5q (W.drewN r) g v0 v1 v2 v3 v4 := ⟨h.c0, h.c1, h.c2, h.c3, h.c4, h.f0, h.f1, h.f2, h.f3, h.f4⟩
structure B6q (W : World) (g : Nat) (v0 v1 v2 v3 v4 v5 : Value) : Prop where
 c0 : W.cell? ⟨g, 0, none⟩ = some v0
 c1 : W.cell? ⟨g, 1, none⟩ = some v1
 c2 : W.cell? ⟨g, 2, none⟩ = some v2
 c3 : W.cell? ⟨g, 3, none⟩ = some v3
 c4 : W.cell? ⟨g, 4, none⟩ = some v4
 c5 : W.cell? ⟨g, 5, none⟩ = some v5
 f0 : W.frozen? ⟨g, 0, none⟩ = false
 f1 : W.frozen? ⟨g, 1, none⟩ = false
 f2 : W.frozen? ⟨g, 2, none⟩ = false
 f3 : W.frozen? ⟨g, 3, none⟩ = false
 f4 : W.frozen? ⟨g, 4, none⟩ = false
 f5 : W.frozen? ⟨g, 5, none⟩ = false
theorem B6q.below {W W' : World} {g : Nat} {v0 v1 v2 v3 v4 v5 : Value} (h : B6q W g v0 v1 v2 v3 v4 v5) (hb : Below W.heap.size W W') : B6q W' g v0 v1 v2 v3 v4 v5 := by
  have hl : g < W.heap.size := World.block_lt_of_cell? W _ h.c0
  exact ⟨(hb.cell (p := ⟨g, 0, none⟩) hl).trans h.c0, (hb.cell (p := ⟨g, 1, none⟩) hl).trans h.c1, (hb.cell (p := ⟨g, 2, none⟩) hl).trans h.c2, (hb.cell (p := ⟨g, 3, none⟩) hl).trans h.c3, (hb.cell (p := ⟨g, 4, none⟩) hl).trans h.c4, (hb.cell (p := ⟨g, 5, none⟩) hl).trans h.c5, (hb.frozen (p := ⟨g, 0, none⟩) hl).trans h.f0, (hb.frozen (p := ⟨g, 1, none⟩) hl).trans h.f1, (hb.frozen (p := ⟨g, 2, none⟩) hl).trans h.f2, (hb.frozen (p := ⟨g, 3, none⟩) hl).trans h.f3, (hb.frozen (p := ⟨g, 4, none⟩) hl).trans h.f4, (hb.frozen (p := ⟨g, 5, none⟩) hl).trans h.f5⟩
theorem B6q.b {W W' : World} {g : Nat} {v0 v1 v2 v3 v4 v5 : Value} (h : Hid (B6q W g v0 v1 v2 v3 v4 v5)) (hb : Below W.heap.size W W') : Hid (B6q W' g v0 v1 v2 v3 v4 v5) := B6q.below h hb
theorem B6q.new (w : World) (ty : TypeId) (v0 v1 v2 v3 v4 v5 : Value) : B6q (w.alloc (.cells #[v0, v1, v2, v3, v4, v5] ty)) w.heap.size v0 v1 v2 v3 v4 v5 :=
 ⟨by go_simp, by go_simp, by go_simp, by go_simp, by go_simp, by go_simp, by go_simp, by go_simp, by go_simp, by go_simp, by go_simp, by go_simp⟩
theorem B6q.lt {W : World} {g : Nat} {v0 v1 v2 v3 v4 v5 : Value} (h : B6q W g v0 v1 v2 v3 v4 v5) : g < W.heap.size := World.block_lt_of_cell? W _ h.c0
theorem B6q.drew {W : World} {g : Nat} {v0 v1 v2 v3 v4 v5 : Value} (h : B6q W g v0 v1 v2 v3 v4 v5) : B6q W.drew g v0 v1 v2 v3 v4 v5 := ⟨h.c0, h.c1, h.c2, h.c3, h.c4, h.c5, h.f0, h.f1, h.f2, h.f3, h.f4, h.f5⟩
def Says (fn : FuncId) (x y : Value) (v u : Value) : Prop := ∀ w, Calls Tryz.prog fn #[x, y] w fun e w' => e = .returned (.tuple #[v, u]) ∧ Below w.heap.size w w'
variable {f p m l P E G : Int} {S I Q : Nat}
theorem Says.cast {fn : FuncId} {x y v u : Value} {v' : Value} (h : Says fn x y v u) (e : v = v') : Says fn x y v' u := e ▸ h
end Go.Proofs.YtpdelpakgdanlaaGreatDoor
namespace Go.Proofs.YtpdelpakgdanlaaGreatDoor
open Go.RowKit
set_option maxRecDepth 20000
set_option maxHeartbeats 0
def vs (H s : Nat) : Nat := (s - (s / H - 1) * H) * 2 ^ (s / H - 1)
theorem vs_zero (H : Nat) : vs H 0 = 0 := by unfold vs; simp
theorem vs_succ {H : Nat} (hH : 0 < H) (s : Nat) : vs H s < vs H (s + 1) := by
  have h1 := Nat.div_add_mod s H;have h2 := Nat.mod_lt s hH;have h3 := Nat.div_add_mod (s + 1) H;have h4 := Nat.mod_lt (s + 1) hH
  have h5 : s / H ≤ (s + 1) / H := Nat.div_le_div_right (by omega)
  have h6 : (s + 1) / H ≤ s / H + 1 := by
    have : (s + 1) / H ≤ (s + H) / H := Nat.div_le_div_right (by omega)
    rw [Nat.add_div_right _ hH] at this
    exact this
  unfold vs
  by_cases h7 : (s + 1) / H = s / H
  · rw [h7]
    have hq : (s / H - 1) * H ≤ s := by
      rw [Nat.sub_mul, Nat.mul_comm]; omega
    have hp : 0 < 2 ^ (s / H - 1) := Nat.pow_pos (by omega)
    exact Nat.mul_lt_mul_of_pos_right (by omega) hp
  · have h8 : (s + 1) / H = s / H + 1 := by omega
    rw [h8, Nat.add_sub_cancel];rw [h8, Nat.mul_add, Nat.mul_one] at h3
    obtain ⟨k, hk⟩ : ∃ k, k = s / H := ⟨_, rfl⟩
    rw [← hk] at h1 h3 ⊢
    obtain ⟨y, hy⟩ : ∃ y, y = H * k := ⟨_, rfl⟩
    rw [← hy] at h1 h3;rw [Nat.mul_comm k H, ← hy]
    by_cases h9 : k = 0
    · subst h9
      have : y = 0 := by rw [hy]; simp
      simp
      omega
    · obtain ⟨j, rfl⟩ : ∃ j, k = j + 1 := ⟨k - 1, by omega⟩
      rw [Nat.add_sub_cancel, Nat.pow_succ]
      have hj : j * H + H = y := by rw [hy, Nat.mul_comm H, Nat.add_mul, Nat.one_mul]
      have hp : 0 < 2 ^ j := Nat.pow_pos (by omega)
      have e1 : s + 1 - y = H := by omega
      rw [e1, Nat.mul_comm (2 ^ j) 2, ← Nat.mul_assoc]
      exact Nat.mul_lt_mul_of_pos_right (by omega) hp
theorem vs_mono {H : Nat} (hH : 0 < H) {s t : Nat} (h : s < t) : vs H s < vs H t := by
  induction t with
  | zero => omega
  | succ t ih =>
    rcases Nat.lt_or_ge s t with h1 | h1
    · exact Nat.lt_trans (ih h1) (vs_succ hH t)
    · rw [show s = t by omega]; exact vs_succ hH t
def gR (H : Nat) (r : Int) : Int := if r < 0 then -(vs H r.natAbs : Int) else (vs H r.natAbs : Int)
def rkS (S b : Nat) : Int := if S ≤ b then -((b % S : Nat) : Int) else ((b % S : Nat) : Int)
def svS (S H b : Nat) : Int := gR H (rkS S b)
theorem svS_eq (S H b : Nat) : svS S H b = if S ≤ b then -(vs H (b % S) : Int) else (vs H (b % S) : Int) := by
  have hz := vs_zero H;unfold svS gR rkS
  by_cases h : S ≤ b
  · rw [if_pos h, if_pos h]
    by_cases h0 : b % S = 0
    · rw [h0, hz]; simp [hz]
    · rw [if_pos (by omega), Int.natAbs_neg, Int.natAbs_natCast]
  · rw [if_neg h, if_neg h, if_neg (by omega), Int.natAbs_natCast]
end Go.Proofs.YtpdelpakgdanlaaGreatDoor
namespace Go.Proofs.YtpdelpakgdanlaaGreatDoor
open Go.RowKit Go.Shelf
set_option maxRecDepth 20000
set_option maxHeartbeats 0
structure VF (S H : Nat) (l : Int) (b : Nat) (zo eo : Int) : Prop where
 fm : DFm zo eo
 v : dv zo eo = dv (svS S H b) l
def qTzIs (v k : Nat) : Prop := v % 2 ^ k = 0 ∧ v / 2 ^ k % 2 = 1
theorem qTzIs.inj {v k l : Nat} (h : qTzIs v k) (h' : qTzIs v l) : k = l := by
  have aux : ∀ {a b : Nat}, qTzIs v a → qTzIs v b → ¬ a < b := by
    intro a b ha hb hab
    obtain ⟨d, hd⟩ : ∃ d, b = a + (d + 1) := ⟨b - a - 1, by omega⟩
    have h1 := Nat.dvd_of_mod_eq_zero hb.1;obtain ⟨q, hq⟩ := h1;have h2 := ha.2
    rw [hq, hd, Nat.pow_add, Nat.mul_assoc, Nat.mul_div_cancel_left _ (Nat.pow_pos (by decide)), Nat.pow_succ, Nat.mul_comm (2 ^ d) 2, Nat.mul_assoc, Nat.mul_mod_right] at h2
    exact absurd h2 (by decide)
  rcases Nat.lt_trichotomy k l with e | e | e
  · exact absurd e (aux h h')
  · exact e
  · exact absurd e (aux h' h)
def qTab (w : World) : Prop := TabAt 0 Lib.deBruijn64tab w
theorem qTab.below {w w' : World} (h : qTab w) (hb : Below w.heap.size w w') : qTab w' := by
  intro j hj
  have h1 := h j hj;have hl : 0 < w.heap.size := World.block_lt_of_cell? w _ h1
  exact (hb.cell (p := ⟨0, j, none⟩) hl).trans h1
theorem qTab.b {w w' : World} (h : Hid (qTab w)) (hb : Below w.heap.size w w') : Hid (qTab w') := qTab.below h hb
def wV (z : Nat) : Nat :=
 if z = 0 then 0 else
 (872 + (z / 8388608 - 1) + bl_bitsN (z - (z / 8388608 - 1) * 8388608)) * 4503599627370496 + (z - (z / 8388608 - 1) * 8388608) * 2 ^ (53 - bl_bitsN (z - (z / 8388608 - 1) * 8388608))
structure B5 (W : World) (g : Nat) (v0 v1 v2 v3 v4 : Value) : Prop where
 c0 : W.cell? ⟨g, 0, none⟩ = some v0
 c1 : W.cell? ⟨g, 1, none⟩ = some v1
 c2 : W.cell? ⟨g, 2, none⟩ = some v2
 c3 : W.cell? ⟨g, 3, none⟩ = some v3
 c4 : W.cell? ⟨g, 4, none⟩ = some v4
 f0 : W.frozen? ⟨g, 0, none⟩ = false
 f1 : W.frozen? ⟨g, 1, none⟩ = false
 f2 : W.frozen? ⟨g, 2, none⟩ = false
 f3 : W.frozen? ⟨g, 3, none⟩ = false
 f4 : W.frozen? ⟨g, 4, none⟩ = false
theorem B5.below {W W' : World} {g : Nat} {v0 v1 v2 v3 v4 : Value} (h : B5 W g v0 v1 v2 v3 v4) (hb : Below W.heap.size W W') : B5 W' g v0 v1 v2 v3 v4 := by
  have hl : g < W.heap.size := World.block_lt_of_cell? W _ h.c0
  exact ⟨(hb.cell (p := ⟨g, 0, none⟩) hl).trans h.c0, (hb.cell (p := ⟨g, 1, none⟩) hl).trans h.c1, (hb.cell (p := ⟨g, 2, none⟩) hl).trans h.c2, (hb.cell (p := ⟨g, 3, none⟩) hl).trans h.c3, (hb.cell (p := ⟨g, 4, none⟩) hl).trans h.c4,
    (hb.frozen (p := ⟨g, 0, none⟩) hl).trans h.f0, (hb.frozen (p := ⟨g, 1, none⟩) hl).trans h.f1, (hb.frozen (p := ⟨g, 2, none⟩) hl).trans h.f2, (hb.frozen (p := ⟨g, 3, none⟩) hl).trans h.f3, (hb.frozen (p := ⟨g, 4, none⟩) hl).trans h.f4⟩
theorem B5.b {W W' : World} {g : Nat} {v0 v1 v2 v3 v4 : Value} (h : Hid (B5 W g v0 v1 v2 v3 v4)) (hb : Below W.heap.size W W') : Hid (B5 W' g v0 v1 v2 v3 v4) := B5.below h hb
theorem B5.new (w : World) (ty : TypeId) (v0 v1 v2 v3 v4 : Value) : B5 (w.alloc (.cells #[v0, v1, v2, v3, v4] ty)) w.heap.size v0 v1 v2 v3 v4 :=
 ⟨by go_simp, by go_simp, by go_simp, by go_simp, by go_simp, by go_simp, by go_simp, by go_simp, by go_simp, by go_simp⟩
theorem DocIs.inj {v : Nat} {us us' : List Nat} {f f' : Int} (h : DocIs v us f) (k : DocIs v us' f') : us = us' ∧ f = f' := by
  rcases h with ⟨h1, h2, rfl⟩ | ⟨h1, rfl, rfl⟩ <;> rcases k with ⟨k1, k2, rfl⟩ | ⟨k1, rfl, rfl⟩
  · exact ⟨h2.inj B64_one k2, rfl⟩
  · omega
  · omega
  · exact ⟨rfl, rfl⟩
theorem DocIs.er {v : Nat} {us : List Nat} {f : Int} (h : DocIs v us f) : f = 0 ∨ f = 5 := by
  rcases h with ⟨_, _, rfl⟩ | ⟨_, _, rfl⟩ <;> simp
structure Op7 where
 k : Int
 f : Int
 b : Nat
 neg : Bool
 n : Int
structure Scr7 (w : World) (P : Option Addr) (N C : Nat) (its : List Op7) : Prop where
 len : its.length = N
 cap : N ≤ C
 big : C ≤ maxLen
 ats : ∀ t ∈ its, t.b < B64 ∧ -9223372036854775808 ≤ t.n ∧ t.n ≤ 9223372036854775807
 cells : N = 0 ∨ ∃ g off, P = some ⟨g, off, none⟩ ∧ ∀ i (h : i < its.length), w.cell? ⟨g, off + i * 5, none⟩ = some (.int .i64 its[i].k) ∧ w.cell? ⟨g, off + i * 5 + 1, none⟩ = some (.int .i64 its[i].f) ∧
  w.cell? ⟨g, off + i * 5 + 2, none⟩ = some (U its[i].b) ∧ w.cell? ⟨g, off + i * 5 + 3, none⟩ = some (.bool its[i].neg) ∧ w.cell? ⟨g, off + i * 5 + 4, none⟩ = some (.int .i64 its[i].n)
theorem Scr7.below {w w' : World} {P : Option Addr} {N C : Nat} {its : List Op7} (h : Scr7 w P N C its) (hb : Below w.heap.size w w') : Scr7 w' P N C its := by
  refine ⟨h.len, h.cap, h.big, h.ats, ?_⟩
  rcases h.cells with h0 | ⟨g, off, hP, hc⟩
  · exact .inl h0
  · refine .inr ⟨g, off, hP, fun i hi => ?_⟩
    obtain ⟨h0, h1, h2, h3, h4⟩ := hc i hi;have hl : g < w.heap.size := World.block_lt_of_cell? w _ h0
    exact ⟨(hb.cell (p := ⟨g, off + i * 5, none⟩) hl).trans h0, (hb.cell (p := ⟨g, off + i * 5 + 1, none⟩) hl).trans h1, (hb.cell (p := ⟨g, off + i * 5 + 2, none⟩) hl).trans h2,
      (hb.cell (p := ⟨g, off + i * 5 + 3, none⟩) hl).trans h3, (hb.cell (p := ⟨g, off + i * 5 + 4, none⟩) hl).trans h4⟩
theorem Scr7.b {w w' : World} {P : Option Addr} {N C : Nat} {its : List Op7} (h : Hid (Scr7 w P N C its)) (hb : Below w.heap.size w w') : Hid (Scr7 w' P N C its) := Scr7.below h hb
structure Kds (w : World) (g : Nat) (ks : List Int) : Prop where
 c : ∀ j (h : j < ks.length), w.cell? ⟨g, j, none⟩ = some (.int .i64 ks[j])
 lt : g < w.heap.size
theorem Kds.below {w w' : World} {g : Nat} {ks : List Int} (h : Kds w g ks) (hb : Below w.heap.size w w') : Kds w' g ks :=
 ⟨fun j hj => (hb.cell (p := ⟨g, j, none⟩) h.lt).trans (h.c j hj), Nat.lt_of_lt_of_le h.lt hb.size⟩
theorem blb_le {m k : Nat} (h : m < 2 ^ k) : bl_bitsN m ≤ k := by
  by_cases h0 : m = 0
  · rw [h0, bl_bitsN_zero]; omega
  have h1 := bl_bitsN_le m h0
  have := (Nat.pow_lt_pow_iff_right (by omega : 1 < 2)).1 (Nat.lt_of_le_of_lt h1 h)
  omega
theorem blb_pos {m : Nat} (h : m ≠ 0) : 0 < bl_bitsN m := by unfold bl_bitsN; rw [if_neg h]; omega
theorem wV_parts {z : Nat} (hz : z < 2139095040) (h0 : z ≠ 0) : ∃ q m L, q = z / 8388608 - 1 ∧ m = z - q * 8388608 ∧ L = bl_bitsN m ∧ 1 ≤ L ∧ L ≤ 24 ∧ q ≤ 253 ∧ wV z = (872 + q + L) * 4503599627370496 + m * 2 ^ (53 - L) ∧ 4503599627370496 ≤ m * 2 ^ (53 - L) ∧ m * 2 ^ (53 - L) < 2 * 4503599627370496 := by
  obtain ⟨q, hq⟩ := exq (z / 8388608 - 1);obtain ⟨m, hm⟩ := exq (z - q * 8388608);obtain ⟨L, hL⟩ := exq (bl_bitsN m)
  have hm0 : m ≠ 0 := by omega
  have hm1 : m < 16777216 := by omega
  have l1 := blb_pos hm0
  have l2 := blb_le (m := m) (k := 24) (by omega)
  have b1 := bl_bitsN_lt m;have b2 := bl_bitsN_le m hm0;rw [← hL] at l1 l2 b1 b2
  have e1 : (2 : Nat) ^ 52 = 4503599627370496 := by decide
  have h1 : 2 ^ (L - 1) * 2 ^ (53 - L) ≤ m * 2 ^ (53 - L) := Nat.mul_le_mul_right _ b2
  have h2 : m * 2 ^ (53 - L) < 2 ^ L * 2 ^ (53 - L) := Nat.mul_lt_mul_of_pos_right b1 (Nat.pow_pos (by omega))
  rw [← Nat.pow_add, show L - 1 + (53 - L) = 52 from by omega, e1] at h1
  rw [← Nat.pow_add, show L + (53 - L) = 52 + 1 from by omega, Nat.pow_succ, e1] at h2
  refine ⟨q, m, L, hq, hm, hL, l1, l2, by omega, ?_, h1, by omega⟩
  unfold wV;rw [if_neg h0, ← hq, ← hm, ← hL]
theorem wV_vs {z K : Nat} (hz : z < 2139095040) (hK : K = 925) : vs 4503599627370496 (wV z) = vs 8388608 z * 2 ^ K := by
  by_cases h0 : z = 0
  · subst h0
    unfold wV;rw [if_pos rfl, vs_zero, vs_zero, Nat.zero_mul]
  obtain ⟨q, m, L, hq, hm, _, l1, l2, l3, hw, h1, h2⟩ := wV_parts hz h0
  have hd : wV z / 4503599627370496 - 1 = 872 + q + L := by
    rw [hw];generalize m * 2 ^ (53 - L) = M at *
    omega
  have e1 : vs 8388608 z = m * 2 ^ q := by unfold vs; rw [← hq, ← hm]
  have e2 : wV z - (872 + q + L) * 4503599627370496 = m * 2 ^ (53 - L) := by
    rw [hw];generalize m * 2 ^ (53 - L) = M at *
    omega
  rw [e1];unfold vs
  rw [hd, e2, Nat.mul_assoc, Nat.mul_assoc, ← Nat.pow_add, ← Nat.pow_add, show 53 - L + (872 + q + L) = q + K from by omega]
theorem wV_lt {y z : Nat} (hy : y < 2139095040) (hz : z < 2139095040) (h : y < z) : wV y < wV z := by
  rcases Nat.lt_or_ge (wV y) (wV z) with h1 | h1
  · exact h1
  · have h2 := vs_mono (H := 8388608) (by decide) h
    have h3 : vs 4503599627370496 (wV z) ≤ vs 4503599627370496 (wV y) := by
      rcases Nat.lt_or_eq_of_le h1 with h4 | h4
      · exact Nat.le_of_lt (vs_mono (by decide) h4)
      · rw [h4]; exact Nat.le_refl _
    obtain ⟨K, hK⟩ := exq 925;rw [wV_vs hy hK, wV_vs hz hK] at h3
    have h5 := Nat.le_of_mul_le_mul_right h3 (Nat.pow_pos (by omega))
    omega
theorem wV_cls {z : Nat} (hz : z < 2139095040) : wV z < 9218868437227405312 ∧ (z = 0 → wV z = 0) ∧ (z ≠ 0 → 4503599627370496 ≤ wV z) := by
  by_cases h0 : z = 0
  · subst h0
    have : wV 0 = 0 := by unfold wV; rw [if_pos rfl]
    rw [this]
    exact ⟨by decide, fun _ => rfl, fun h => absurd rfl h⟩
  obtain ⟨q, m, L, hq, hm, _, l1, l2, l3, hw, h1, h2⟩ := wV_parts hz h0;rw [hw];generalize m * 2 ^ (53 - L) = M at *
  exact ⟨by omega, fun h => absurd h h0, fun _ => by omega⟩
structure WF (a x : Nat) : Prop where
 lt : x < 2 * 9223372036854775808
 nan : 2139095040 < a % 2147483648 → 9218868437227405312 < x % 9223372036854775808
 inf : a % 2147483648 = 2139095040 → x % 9223372036854775808 = 9218868437227405312
 fin : a % 2147483648 < 2139095040 → x % 9223372036854775808 = wV (a % 2147483648) ∧ (9223372036854775808 ≤ x ↔ 2147483648 ≤ a)
theorem WF.val {zo eo : Int} {a' x' : Nat} (h : WF a' x') (hf : a' % 2147483648 < 2139095040) (hv : VF 2147483648 8388608 (-149) a' zo eo) : VF 9223372036854775808 4503599627370496 (-1074) x' zo eo := by
  obtain ⟨h1, h2⟩ := h.fin hf
  refine ⟨hv.fm, ?_⟩
  obtain ⟨K, hK⟩ := exq 925;have h3 := wV_vs hf hK
  rw [hv.v, show (-149 : Int) = -1074 + (K : Int) from by omega, dv_up K (by decide), svS_eq, svS_eq, h1, h3]
  by_cases h4 : 2147483648 ≤ a'
  · rw [if_pos h4, if_pos (h2.2 h4), Int.neg_mul, ← Int.natCast_mul]
  · rw [if_neg h4, if_neg (fun k => h4 (h2.1 k)), ← Int.natCast_mul]
theorem WF.rank {a x b y : Nat} (h : WF a x) (k : WF b y) (ha : a % 2147483648 < 2139095040) (hb : b % 2147483648 < 2139095040) : rkS 2147483648 a < rkS 2147483648 b ↔ rkS 9223372036854775808 x < rkS 9223372036854775808 y := by
  obtain ⟨h1, h2⟩ := h.fin ha;obtain ⟨k1, k2⟩ := k.fin hb;have a0 := (wV_cls ha).2;have b0 := (wV_cls hb).2;have l1 : a % 2147483648 < b % 2147483648 → wV (a % 2147483648) < wV (b % 2147483648) := wV_lt ha hb;have l2 : b % 2147483648 < a % 2147483648 → wV (b % 2147483648) < wV (a % 2147483648) := wV_lt hb ha
  have l3 : a % 2147483648 = b % 2147483648 → wV (a % 2147483648) = wV (b % 2147483648) := fun e => by rw [e]
  unfold rkS;rw [h1, k1];generalize a % 2147483648 = A at *;generalize b % 2147483648 = B at *;generalize wV A = WA at *;generalize wV B = WB at *
  by_cases c1 : 2147483648 ≤ a <;> by_cases c2 : 2147483648 ≤ b
  · rw [if_pos c1, if_pos c2, if_pos (h2.2 c1), if_pos (k2.2 c2)]; omega
  · rw [if_pos c1, if_neg c2, if_pos (h2.2 c1), if_neg (fun e => c2 (k2.1 e))]; omega
  · rw [if_neg c1, if_pos c2, if_neg (fun e => c1 (h2.1 e)), if_pos (k2.2 c2)]; omega
  · rw [if_neg c1, if_neg c2, if_neg (fun e => c1 (h2.1 e)), if_neg (fun e => c2 (k2.1 e))]; omega
theorem vs_next {H : Nat} (hH : 0 < H) (s : Nat) : vs H (s + 1) = vs H s + 2 ^ (s / H - 1) := by
  have h1 := Nat.div_add_mod s H;have h2 := Nat.mod_lt s hH;have h3 := Nat.div_add_mod (s + 1) H;have h4 := Nat.mod_lt (s + 1) hH
  have h5 : s / H ≤ (s + 1) / H := Nat.div_le_div_right (by omega)
  have h6 : (s + 1) / H ≤ s / H + 1 := by
    have : (s + 1) / H ≤ (s + H) / H := Nat.div_le_div_right (by omega)
    rw [Nat.add_div_right _ hH] at this
    exact this
  unfold vs
  by_cases h7 : (s + 1) / H = s / H
  · rw [h7]
    have hq : (s / H - 1) * H ≤ s := by
      rw [Nat.sub_mul, Nat.mul_comm]; omega
    rw [show s + 1 - (s / H - 1) * H = s - (s / H - 1) * H + 1 from by omega, Nat.add_mul, Nat.one_mul]
  · have h8 : (s + 1) / H = s / H + 1 := by omega
    rw [h8, Nat.add_sub_cancel];rw [h8, Nat.mul_add, Nat.mul_one] at h3;obtain ⟨k, hk⟩ := exq (s / H);rw [← hk] at h1 h3 ⊢;obtain ⟨y, hy⟩ := exq (H * k);rw [← hy] at h1 h3;rw [Nat.mul_comm k H, ← hy]
    by_cases h9 : k = 0
    · subst h9
      have : y = 0 := by rw [hy]; simp
      simp
      omega
    · obtain ⟨j, rfl⟩ : ∃ j, k = j + 1 := ⟨k - 1, by omega⟩
      rw [Nat.add_sub_cancel, Nat.pow_succ]
      have hj : j * H + H = y := by rw [hy, Nat.mul_comm H, Nat.add_mul, Nat.one_mul]
      have e1 : s + 1 - y = H := by omega
      have e2 : s - j * H = 2 * H - 1 := by omega
      rw [e1, e2, Nat.mul_comm (2 ^ j) 2, ← Nat.mul_assoc, Nat.sub_mul, Nat.one_mul, Nat.mul_comm H 2]
      have : 1 * 2 ^ j ≤ 2 * H * 2 ^ j := Nat.mul_le_mul_right _ (by omega)
      omega
theorem dv_lt {x y : Int} (e : Int) (h : x < y) : dv x e < dv y e := by
  have h1 : (0 : Int) < ((2 ^ (e + 4194304).toNat : Nat) : Int) := by have := Nat.pow_pos (n := (e + 4194304).toNat) (show 0 < 2 by omega); omega
  exact Int.mul_lt_mul_of_pos_right h h1
def hv (H z : Nat) : Nat := 2 * vs H z + 2 ^ (z / H - 1)
theorem hv_gt (H z : Nat) : 2 * vs H z < hv H z := by
  unfold hv
  have : 0 < 2 ^ (z / H - 1) := Nat.pow_pos (by omega)
  omega
theorem hv_lt {H : Nat} (hH : 0 < H) (z : Nat) : hv H z < 2 * vs H (z + 1) := by
  have : 0 < 2 ^ (z / H - 1) := Nat.pow_pos (by omega)
  rw [vs_next hH];unfold hv
  omega
theorem vs_le {H : Nat} (hH : 0 < H) {s t : Nat} (h : s ≤ t) : vs H s ≤ vs H t := by
  rcases Nat.lt_or_eq_of_le h with h1 | h1
  · exact Nat.le_of_lt (vs_mono hH h1)
  · rw [h1]; exact Nat.le_refl _
structure RNz (H : Nat) (l : Int) (I : Nat) (A : Int) (Z : Nat) : Prop where
 le : Z ≤ I
 lo : ∀ z, z < I → A < dv (hv H z : Int) (l - 1) → Z ≤ z
 hi : ∀ z, z < I → dv (hv H z : Int) (l - 1) < A → z < Z
 eq : ∀ z, z < I → A = dv (hv H z : Int) (l - 1) → (Z = z ∨ Z = z + 1) ∧ Z % 2 = 0
theorem RNz.mono {H : Nat} {l : Int} {I : Nat} {A B : Int} {Z Y : Nat} (h : RNz H l I A Z) (k : RNz H l I B Y) (hAB : A ≤ B) : Z ≤ Y := by
  refine Nat.le_of_not_lt fun hlt => ?_
  have hY : Y < I := Nat.lt_of_lt_of_le hlt h.le
  have hz : ∀ x : Int, x = dv (hv H Y : Int) (l - 1) → False := fun x hx => by
    rcases Int.lt_trichotomy B x with h1 | h1 | h1
    · have := h.lo Y hY (by omega); omega
    · have h2 := k.eq Y hY (by omega)
      rcases Int.lt_or_eq_of_le hAB with h3 | h3
      · have := h.lo Y hY (by omega); omega
      · have h4 := h.eq Y hY (by omega)
        omega
    · have := k.hi Y hY (by omega); omega
  exact hz _ rfl
theorem RNz.exact {H : Nat} {l : Int} {I Z : Nat} (hH : 0 < H) (hl : -4194303 ≤ l) (hZ : Z ≤ I) : RNz H l I (dv (vs H Z) l) Z := by
  have e1 : dv (vs H Z : Int) l = dv ((2 * vs H Z : Nat) : Int) (l - 1) := by
    have := dv_up (x := (vs H Z : Int)) (e := l - 1) 1 (by omega)
    rw [show l - 1 + ((1 : Nat) : Int) = l from by omega] at this
    rw [this, Nat.mul_comm, Int.natCast_mul]
  have low : ∀ z, z < Z → dv (hv H z : Int) (l - 1) < dv (vs H Z) l := fun z hz => by
    rw [e1];have h1 := hv_lt hH z
    have h2 := vs_le hH (show z + 1 ≤ Z from hz)
    exact dv_lt _ (by omega)
  have high : ∀ z, Z ≤ z → dv (vs H Z) l < dv (hv H z : Int) (l - 1) := fun z hz => by
    rw [e1];have h1 := hv_gt H z;have h2 := vs_le hH hz
    exact dv_lt _ (by omega)
  refine ⟨hZ, fun z _ h => ?_, fun z _ h => ?_, fun z _ h => ?_⟩
  · refine Nat.le_of_not_lt fun h2 => ?_
    have := low z h2; omega
  · refine Nat.lt_of_not_le fun h2 => ?_
    have := high z h2; omega
  · rcases Nat.lt_or_ge z Z with h2 | h2
    · have := low z h2; omega
    · have := high z h2; omega
theorem RNz.nought {H : Nat} {l : Int} {I : Nat} (hH : 0 < H) (hl : -4194303 ≤ l) : RNz H l I 0 0 := by
  have := RNz.exact (H := H) (l := l) (I := I) (Z := 0) hH hl (Nat.zero_le _)
  rwa [vs_zero, show ((0 : Nat) : Int) = 0 from rfl, dv_zero] at this
theorem RNz.cell {H : Nat} {l : Int} {I : Nat} {A : Int} {Z : Nat} (h : RNz H l I A Z) (h0 : Z ≠ 0) (h1 : Z < I) :
  dv (hv H (Z - 1) : Int) (l - 1) ≤ A ∧ A ≤ dv (hv H Z : Int) (l - 1) ∧ (Z % 2 = 1 → dv (hv H (Z - 1) : Int) (l - 1) < A ∧ A < dv (hv H Z : Int) (l - 1)) := by
 have a1 : ¬ A < dv (hv H (Z - 1) : Int) (l - 1) := fun h2 => by have := h.lo _ (by omega) h2; omega
 have a2 : ¬ dv (hv H Z : Int) (l - 1) < A := fun h2 => by have := h.hi _ h1 h2; omega
 refine ⟨by omega, by omega, fun ho => ⟨?_, ?_⟩⟩
 ·rcases Int.lt_or_eq_of_le (Int.not_lt.1 a1) with h2 | h2
  ·exact h2
  ·have := h.eq (Z - 1) (by omega) h2.symm; omega
 ·rcases Int.lt_or_eq_of_le (Int.not_lt.1 a2) with h2 | h2
  ·exact h2
  ·have := h.eq Z h1 h2; omega
theorem RNz.none {H : Nat} {l : Int} {I : Nat} {A : Int} (h : RNz H l I A 0) (hI : 0 < I) : A ≤ dv (hv H 0 : Int) (l - 1) :=
 Int.not_lt.1 fun h2 => by have := h.hi 0 hI h2; omega
theorem RNz.all {H : Nat} {l : Int} {I : Nat} {A : Int} (h : RNz H l I A I) (hI : 0 < I) : dv (hv H (I - 1) : Int) (l - 1) ≤ A :=
 Int.not_lt.1 fun h2 => by have := h.lo (I - 1) (by omega) h2; omega
theorem Own.word {B : Nat} {w : World} {p : Option Addr} {m y : Nat} {zs : List Nat} (ho : Own B w p m zs) (hn : Nf B64 zs y) (hy : y < B64) :
  (y = 0 ∧ m = 0) ∨ (y ≠ 0 ∧ m = 1 ∧ ∃ g, p = some ⟨g, 0, none⟩ ∧ B ≤ g ∧ w.cell? ⟨g, 0, none⟩ = some (U y)) := by
 have hl := ho.len
 have h1 : zs.length ≤ 1 := (hn.len_le B64_one (k := 1)).2 (by rw [Nat.pow_one]; exact hy)
 rcases Nat.eq_zero_or_pos m with h0 | h0
 ·left
  rw [h0] at hl;have := hn.val;rw [List.eq_nil_of_length_eq_zero hl] at this
  exact ⟨this.symm, h0⟩
 ·right
  have hm1 : m = 1 := by omega
  subst hm1
  obtain ⟨a, rfl⟩ : ∃ a, zs = [a] := List.length_eq_one_iff.1 hl
  have hv : a = y := by have := hn.val; simpa [valB] using this
  obtain ⟨g, hp, hB, hc⟩ := ho.mem.resolve_left (by omega)
  refine ⟨?_, rfl, g, hp, hB, ?_⟩
  ·intro h9
   have h8 : ([a] : List Nat) = [] := hn.inj B64_one (by rw [h9]; exact Nf.nil _)
   cases h8
  ·have := hc.cell 0 (by omega)
   rw [Nat.add_zero] at this;rw [this]
   simp [hv]
theorem dcmp_fl {p q : Option Addr} {m c n d : Nat} {w : World} {e f : Int} (s t : Bool) {xs : List Nat} (h : At w p m c xs) (hf : formD s xs e = false) :
  Calls Tryz.prog 39 #[DV s p m c e, DV t q n d f] w fun en w' => en = .returned (.tuple #[.int .i64 0, .int .i64 2]) ∧ Below w.heap.size w w' := by
 have A : Hid (At w p m c xs ∧ formD s xs e = false) := ⟨h, hf⟩;clear h hf
 go_enter Tryz.func39, Tryz.ntmps39
 go_wp2_with fail;obtain ⟨W0, hW0⟩ := exq ((w.alloc (.cells #[.bool s, .slice p m c, .int .i64 e] 26)).alloc (.cells #[.bool t, .slice q n d, .int .i64 f] 26))
 have Xa : Hid (B3q W0 (w.heap.size) (.bool s) (.slice p m c) (.int .i64 e)) := by rw [hW0]; constructor <;> go_simp
 have Xb : Hid (B3q W0 (w.heap.size + 1) (.bool t) (.slice q n d) (.int .i64 f)) := by rw [hW0]; constructor <;> go_simp
 have hb0 := bq2 hW0;rw [← hW0];clear hW0;have hbw := brf w;obtain ⟨gb, hgb⟩ := exq (w.heap.size + 1);have HGb : Hid (w.heap.size ≤ gb) := hgl hgb;rw [← hgb] at Xb
 try rw [← hgb]
 obtain ⟨ga, hga⟩ := exq w.heap.size;have HGa : Hid (w.heap.size ≤ ga) := hgl hga;rw [← hga] at Xa
 try rw [← hga]
 have HGD : Hid (ga ≠ gb ∧ gb ≠ ga) := by rw [hga, hgb]; show _ ∧ _; omega
 clear hga hgb;replace hbw := bon hbw hb0;clear hb0
 refine (dform_f s (A.out.1.below hbw) A.out.2).mono ?_
 rintro e2 v2 ⟨rfl, hb2⟩;replace Xa := B3q.b Xa hb2;replace Xb := B3q.b Xb hb2;replace hbw := bon hbw hb2;clear hb2;go_wp2_with fail
 go_ret2
 exact ⟨rfl, hbw⟩
theorem dcmp_fr {p q : Option Addr} {m c n d : Nat} {w : World} {e f : Int} (s t : Bool) {xs : List Nat} {x : Int} (k : DN w s p m c e x) (h : At w q n d xs) (hf : formD t xs f = false) :
  Calls Tryz.prog 39 #[DV s p m c e, DV t q n d f] w fun en w' => en = .returned (.tuple #[.int .i64 0, .int .i64 2]) ∧ Below w.heap.size w w' := by
 have A : Hid (At w q n d xs ∧ formD t xs f = false) := ⟨h, hf⟩;have K := hdQ k;clear k h hf
 go_enter Tryz.func39, Tryz.ntmps39
 go_wp2_with fail;obtain ⟨W0, hW0⟩ := exq ((w.alloc (.cells #[.bool s, .slice p m c, .int .i64 e] 26)).alloc (.cells #[.bool t, .slice q n d, .int .i64 f] 26))
 have Xa : Hid (B3q W0 (w.heap.size) (.bool s) (.slice p m c) (.int .i64 e)) := by rw [hW0]; constructor <;> go_simp
 have Xb : Hid (B3q W0 (w.heap.size + 1) (.bool t) (.slice q n d) (.int .i64 f)) := by rw [hW0]; constructor <;> go_simp
 have hb0 := bq2 hW0;rw [← hW0];clear hW0;have hbw := brf w;obtain ⟨gb, hgb⟩ := exq (w.heap.size + 1);have HGb : Hid (w.heap.size ≤ gb) := hgl hgb;rw [← hgb] at Xb
 try rw [← hgb]
 obtain ⟨ga, hga⟩ := exq w.heap.size;have HGa : Hid (w.heap.size ≤ ga) := hgl hga;rw [← hga] at Xa
 try rw [← hga]
 have HGD : Hid (ga ≠ gb ∧ gb ≠ ga) := by rw [hga, hgb]; show _ ∧ _; omega
 clear hga hgb;replace hbw := bon hbw hb0;clear hb0
 refine (dform_t (K.out.below hbw)).mono ?_
 rintro e v1 ⟨rfl, hb1⟩;replace Xa := B3q.b Xa hb1;replace Xb := B3q.b Xb hb1;replace hbw := bon hbw hb1;clear hb1;obtain ⟨cb0, cb1, cb2, fb0, fb1, fb2⟩ := Xb.out;have hneb : gb < v1.heap.size := blt cb0;go_wp2_with fail;clear cb0 cb1 cb2 fb0 fb1 fb2 hneb
 refine (dform_f t (A.out.1.below hbw) A.out.2).mono ?_
 rintro e2 v2 ⟨rfl, hb2⟩;replace Xa := B3q.b Xa hb2;replace Xb := B3q.b Xb hb2;replace hbw := bon hbw hb2;clear hb2;go_wp2_with fail
 go_ret2
 exact ⟨rfl, hbw⟩
theorem sform_t {s1 s2 : Bool} {p1 p2 : Option Addr} {m1 m2 c1 c2 : Nat} {e1 e2 : Int} {w : World} {x y : Int} (h : DN w s1 p1 m1 c1 e1 x) (k : DN w s2 p2 m2 c2 e2 y) (hc : dv x e1 ≤ dv y e2) :
  Calls Tryz.prog 17 #[SV s1 p1 m1 c1 e1 s2 p2 m2 c2 e2] w fun en w' => en = .returned (.bool true) ∧ Below w.heap.size w w' := by
 have A := hdQ h;have B := hdQ k;obtain ⟨cc, hcc⟩ := exq (cmpI (dv x e1) (dv y e2));have HCC : Hid (cmpI (dv x e1) (dv y e2) = cc) := hcc.symm
 have k1 : decide (cc ≤ 0) = true := by rw [hcc]; unfold cmpI; by_cases a : dv x e1 < dv y e2; (· rw [if_pos a]; rfl); rw [if_neg a, if_pos (by omega)]; rfl
 clear h k hc hcc
 go_enter Tryz.func17, Tryz.ntmps17
 go_wp2_with fail;obtain ⟨W0, hW0⟩ := exq (w.alloc (.cells #[.bool s1, .slice p1 m1 c1, .int .i64 e1, .bool s2, .slice p2 m2 c2, .int .i64 e2] 28))
 have Xs : Hid (B6q W0 (w.heap.size) (.bool s1) (.slice p1 m1 c1) (.int .i64 e1) (.bool s2) (.slice p2 m2 c2) (.int .i64 e2)) := by rw [hW0]; constructor <;> go_simp
 have hb0 := bq1 hW0;rw [← hW0];clear hW0;have hbw := brf w;obtain ⟨gs, hgs⟩ := exq w.heap.size;have HGs : Hid (w.heap.size ≤ gs) := hgl hgs;rw [← hgs] at Xs
 try rw [← hgs]
 clear hgs;replace hbw := bon hbw hb0;clear hb0
 refine (dcmp (A.out.below hbw) (B.out.below hbw)).mono ?_
 rintro e v1 ⟨rfl, hb1⟩;rw [HCC.out];replace Xs := B6q.b Xs hb1;replace hbw := bon hbw hb1;clear hb1;go_wp2_with fail
 go_ret
 exact ⟨rfl, hbw⟩
theorem sform_g {s1 s2 : Bool} {p1 p2 : Option Addr} {m1 m2 c1 c2 : Nat} {e1 e2 : Int} {w : World} {x y : Int} (h : DN w s1 p1 m1 c1 e1 x) (k : DN w s2 p2 m2 c2 e2 y) (hc : dv y e2 < dv x e1) :
  Calls Tryz.prog 17 #[SV s1 p1 m1 c1 e1 s2 p2 m2 c2 e2] w fun en w' => en = .returned (.bool false) ∧ Below w.heap.size w w' := by
 have A := hdQ h;have B := hdQ k;have HCC : Hid (cmpI (dv x e1) (dv y e2) = 1) := cmp_g hc;clear h k hc
 go_enter Tryz.func17, Tryz.ntmps17
 go_wp2_with fail;obtain ⟨W0, hW0⟩ := exq (w.alloc (.cells #[.bool s1, .slice p1 m1 c1, .int .i64 e1, .bool s2, .slice p2 m2 c2, .int .i64 e2] 28))
 have Xs : Hid (B6q W0 (w.heap.size) (.bool s1) (.slice p1 m1 c1) (.int .i64 e1) (.bool s2) (.slice p2 m2 c2) (.int .i64 e2)) := by rw [hW0]; constructor <;> go_simp
 have hb0 := bq1 hW0;rw [← hW0];clear hW0;have hbw := brf w;obtain ⟨gs, hgs⟩ := exq w.heap.size;have HGs : Hid (w.heap.size ≤ gs) := hgl hgs;rw [← hgs] at Xs
 try rw [← hgs]
 clear hgs;replace hbw := bon hbw hb0;clear hb0
 refine (dcmp (A.out.below hbw) (B.out.below hbw)).mono ?_
 rintro e v1 ⟨rfl, hb1⟩;rw [HCC.out];replace Xs := B6q.b Xs hb1;replace hbw := bon hbw hb1;clear hb1;go_wp2_with fail
 go_ret
 exact ⟨rfl, hbw⟩
theorem sform_l {s1 s2 : Bool} {p1 p2 : Option Addr} {m1 m2 c1 c2 : Nat} {e1 e2 : Int} {w : World} {xs : List Nat} (h : At w p1 m1 c1 xs) (hf : formD s1 xs e1 = false) :
  Calls Tryz.prog 17 #[SV s1 p1 m1 c1 e1 s2 p2 m2 c2 e2] w fun en w' => en = .returned (.bool false) ∧ Below w.heap.size w w' := by
 have A : Hid (At w p1 m1 c1 xs ∧ formD s1 xs e1 = false) := ⟨h, hf⟩;clear h hf
 go_enter Tryz.func17, Tryz.ntmps17
 go_wp2_with fail;obtain ⟨W0, hW0⟩ := exq (w.alloc (.cells #[.bool s1, .slice p1 m1 c1, .int .i64 e1, .bool s2, .slice p2 m2 c2, .int .i64 e2] 28))
 have Xs : Hid (B6q W0 (w.heap.size) (.bool s1) (.slice p1 m1 c1) (.int .i64 e1) (.bool s2) (.slice p2 m2 c2) (.int .i64 e2)) := by rw [hW0]; constructor <;> go_simp
 have hb0 := bq1 hW0;rw [← hW0];clear hW0;have hbw := brf w;obtain ⟨gs, hgs⟩ := exq w.heap.size;have HGs : Hid (w.heap.size ≤ gs) := hgl hgs;rw [← hgs] at Xs
 try rw [← hgs]
 clear hgs;replace hbw := bon hbw hb0;clear hb0
 refine (dcmp_fl s1 s2 (A.out.1.below hbw) A.out.2).mono ?_
 rintro e v1 ⟨rfl, hb1⟩;replace Xs := B6q.b Xs hb1;replace hbw := bon hbw hb1;clear hb1;go_wp2_with fail
 go_ret
 exact ⟨rfl, hbw⟩
theorem sform_r {s1 s2 : Bool} {p1 p2 : Option Addr} {m1 m2 c1 c2 : Nat} {e1 e2 : Int} {w : World} {x : Int} {xs : List Nat} (k : DN w s1 p1 m1 c1 e1 x) (h : At w p2 m2 c2 xs) (hf : formD s2 xs e2 = false) :
  Calls Tryz.prog 17 #[SV s1 p1 m1 c1 e1 s2 p2 m2 c2 e2] w fun en w' => en = .returned (.bool false) ∧ Below w.heap.size w w' := by
 have A : Hid (At w p2 m2 c2 xs ∧ formD s2 xs e2 = false) := ⟨h, hf⟩;have B := hdQ k;clear h k hf
 go_enter Tryz.func17, Tryz.ntmps17
 go_wp2_with fail;obtain ⟨W0, hW0⟩ := exq (w.alloc (.cells #[.bool s1, .slice p1 m1 c1, .int .i64 e1, .bool s2, .slice p2 m2 c2, .int .i64 e2] 28))
 have Xs : Hid (B6q W0 (w.heap.size) (.bool s1) (.slice p1 m1 c1) (.int .i64 e1) (.bool s2) (.slice p2 m2 c2) (.int .i64 e2)) := by rw [hW0]; constructor <;> go_simp
 have hb0 := bq1 hW0;rw [← hW0];clear hW0;have hbw := brf w;obtain ⟨gs, hgs⟩ := exq w.heap.size;have HGs : Hid (w.heap.size ≤ gs) := hgl hgs;rw [← hgs] at Xs
 try rw [← hgs]
 clear hgs;replace hbw := bon hbw hb0;clear hb0
 refine (dcmp_fr s1 s2 (B.out.below hbw) (A.out.1.below hbw) A.out.2).mono ?_
 rintro e v1 ⟨rfl, hb1⟩;replace Xs := B6q.b Xs hb1;replace hbw := bon hbw hb1;clear hb1;go_wp2_with fail
 go_ret
 exact ⟨rfl, hbw⟩
abbrev WVd : Value := .agg #[.func (.func 80) #[] #[], .func (.func 84) #[] #[]]
abbrev WVu : Value := .agg #[.func (.func 87) #[] #[], .func (.func 88) #[] #[]]
theorem way_d (w : World) :
  Calls Tryz.prog 59 #[] w fun en w' => en = .returned WVd ∧ Below w.heap.size w w' := by
 have c0 : (w.alloc (.cells #[.nilFunc, .nilFunc] 89)).cell? ⟨w.heap.size, 0, none⟩ = some .nilFunc := by go_simp
 have f0 : (w.alloc (.cells #[.nilFunc, .nilFunc] 89)).frozen? ⟨w.heap.size, 0, none⟩ = false := by go_simp
 have c1 : (w.alloc (.cells #[.nilFunc, .nilFunc] 89)).cell? ⟨w.heap.size, 1, none⟩ = some .nilFunc := by go_simp
 have f1 : (w.alloc (.cells #[.nilFunc, .nilFunc] 89)).frozen? ⟨w.heap.size, 1, none⟩ = false := by go_simp
 go_enter Tryz.func59, Tryz.ntmps59
 go_wp2_with fail
 refine bodyPost_ret (v := WVd) (by rw [results_cell1 rfl]; go_simp) rfl ⟨rfl, ?_⟩
 first | exact below1 _ _ | exact Below.on (below1 _ _) (below1 _ _) | exact Below.refl _ _
theorem way_u (w : World) :
  Calls Tryz.prog 61 #[] w fun en w' => en = .returned WVu ∧ Below w.heap.size w w' := by
 have c0 : (w.alloc (.cells #[.nilFunc, .nilFunc] 89)).cell? ⟨w.heap.size, 0, none⟩ = some .nilFunc := by go_simp
 have f0 : (w.alloc (.cells #[.nilFunc, .nilFunc] 89)).frozen? ⟨w.heap.size, 0, none⟩ = false := by go_simp
 have c1 : (w.alloc (.cells #[.nilFunc, .nilFunc] 89)).cell? ⟨w.heap.size, 1, none⟩ = some .nilFunc := by go_simp
 have f1 : (w.alloc (.cells #[.nilFunc, .nilFunc] 89)).frozen? ⟨w.heap.size, 1, none⟩ = false := by go_simp
 go_enter Tryz.func61, Tryz.ntmps61
 go_wp2_with fail
 refine bodyPost_ret (v := WVu) (by rw [results_cell1 rfl]; go_simp) rfl ⟨rfl, ?_⟩
 first | exact below1 _ _ | exact Below.on (below1 _ _) (below1 _ _) | exact Below.refl _ _
theorem cut_d {q : Option Addr} {m c : Nat} {w : World} {z e : Int} {P K : Nat} {s : Bool} (h : ZN w s q m c z) (he : -2621440 ≤ e ∧ e ≤ 2621440) (hP : 1 ≤ P ∧ P ≤ 70000) (hK : K = bitsN z.natAbs - P) (hT : Tab w) :
  Calls Tryz.prog 86 #[WVd, ZV s q m c, .int .i64 e, .int .i64 P] w fun en w' => MakeP w.heap.size w' en (rd false z (2 ^ K)) (e + K) ∧ Below w.heap.size w w' := by
 have H := hdQ h;have TB : Hid (Tab w) := hT;have hb := (lim_bits z.natAbs).1 h.lim
 have f1 : wrap64 ((bitsN z.natAbs : Int) - P) = (bitsN z.natAbs : Int) - P := by simp only [wrap64]; omega
 have f2 : max ((bitsN z.natAbs : Int) - P) 0 = (K : Int) := by omega
 have f4 : wrap64 (e + K) = e + K := by simp only [wrap64]; omega
 have f5 : IntKind.i64.wrap (e + K) = e + K := by simp [IntKind.wrap, IntKind.signed, IntKind.bits]; omega
 have HF : Hid (wrap64 (e + K) = e + K ∧ IntKind.i64.wrap (e + K) = e + K ∧ -3145728 ≤ e + K ∧ e + K ≤ 3145728 ∧ K ≤ 9223372036854775807) := ⟨f4, f5, by omega, by omega, by omega⟩
 have HR : Hid (rd false z (2 ^ K) = fl (decide (z < 0)) z.natAbs (2 ^ K)) := by rw [fl_eq _ _ (Nat.pow_pos (by omega))]; rfl
 clear h hT hb he hP hK f4 f5
 go_enter Tryz.func86, Tryz.ntmps86
 go_wp2_with fail;obtain ⟨W0, hW0⟩ := exq (((w.alloc (.cells #[.func (.func 80) #[] #[], .func (.func 84) #[] #[]] 89)).alloc (.cells #[.bool s, .slice q m c] 24)).alloc (.cells #[.bool false, .slice none 0 0, .int .i64 0] 26))
 have Xy : Hid (Box W0 (w.heap.size) (.func (.func 80) #[] #[]) (.func (.func 84) #[] #[])) := by rw [hW0]; constructor <;> go_simp
 have Xm : Hid (Box W0 (w.heap.size + 1) (.bool s) (.slice q m c)) := by rw [hW0]; constructor <;> go_simp
 have Xr : Hid (B3q W0 (w.heap.size + 1 + 1) (.bool false) (.slice none 0 0) (.int .i64 0)) := by rw [hW0]; constructor <;> go_simp
 have hb0 := bq3 hW0;rw [← hW0];clear hW0;have hbw := brf w;obtain ⟨gr, hgr⟩ := exq (w.heap.size + 1 + 1);have HGr : Hid (w.heap.size ≤ gr) := hgl hgr;rw [← hgr] at Xr
 try rw [← hgr]
 obtain ⟨gm, hgm⟩ := exq (w.heap.size + 1);have HGm : Hid (w.heap.size ≤ gm) := hgl hgm;rw [← hgm] at Xm
 try rw [← hgm]
 obtain ⟨gy, hgy⟩ := exq w.heap.size;have HGy : Hid (w.heap.size ≤ gy) := hgl hgy;rw [← hgy] at Xy
 try rw [← hgy]
 have HGD : Hid (gy ≠ gm ∧ gy ≠ gr ∧ gm ≠ gy ∧ gm ≠ gr ∧ gr ≠ gy ∧ gr ≠ gm) := by rw [hgy, hgm, hgr]; show _ ∧ _; omega
 clear hgy hgm hgr;replace hbw := bon hbw hb0;clear hb0;obtain ⟨xs, hX⟩ := (H.out.below hbw).ex
 refine (bits_any hX.at_ (by have := hX.le; omega)).mono ?_
 rintro e2 v3 ⟨rfl, hw⟩;obtain rfl := hw.symm;clear hw;rw [hX.nf.val];clear hX;obtain ⟨cy0, cy1, fy0, fy1⟩ := Xy.out;have hney := Xy.out.lt;obtain ⟨cm0, cm1, fm0, fm1⟩ := Xm.out;have hnem := Xm.out.lt;go_wp2_with fail;clear cy0 cy1 fy0 fy1 hney cm0 cm1 fm0 fm1 hnem f1 f2
 refine (zfshr (H.out.below hbw) K HF.out.2.2.2.2 (TB.out.below hbw)).mono ?_
 rintro e v5 ⟨⟨s5, p5, m5, rfl, hz⟩, hb5⟩;replace Xy := Box.b Xy hb5;replace Xm := Box.b Xm hb5;replace Xr := B3q.b Xr hb5;replace hbw := bon hbw hb5;clear hb5;have hz := hz.cast (z' := rd false z (2 ^ K)) (HR.out.symm);have Z5 := hdQ hz;clear hz;have f4 := HF.out.1;have f5 := HF.out.2.1;go_wp2_with fail;clear f4 f5;have Xq0 : Hid (Box (v5.alloc (.cells #[.bool s5, .slice p5 m5 m5] 24)) v5.heap.size (.bool s5) (.slice p5 m5 m5)) := Box.new v5 _ _ _;have hbn : Below v5.heap.size v5 (v5.alloc (.cells #[.bool s5, .slice p5 m5 m5] 24)) := below1 v5 _;generalize v5.alloc (.cells #[.bool s5, .slice p5 m5 m5] 24) = Wq at *;have HGq : Hid (w.heap.size ≤ v5.heap.size) := hbw.size;replace Xy := Box.b Xy hbn;replace Xm := Box.b Xm hbn;replace Xr := B3q.b Xr hbn;replace Z5 := ZN.b Z5 hbn;replace hbw := bon hbw hbn;clear hbn;generalize v5.heap.size = gq at *;have Xq := Xq0;clear Xq0;have HRL : Hid (gr < Wq.heap.size ∧ w.heap.size ≤ Wq.heap.size) := ⟨Xr.out.lt, hbw.size⟩
 refine (makep Z5.out (by have := HF.out; omega) (TB.out.below hbw)).mono ?_
 rintro e2 v6 ⟨hv, hb6⟩;obtain ⟨s6, p6, m6, eo, er, rfl, hmp⟩ := hv.open;clear hv;replace Xy := Box.b Xy hb6;replace Xm := Box.b Xm hb6;replace Xr := B3q.b Xr hb6;replace Xq := Box.b Xq hb6;replace Z5 := ZN.b Z5 hb6;replace hbw := bon hbw hb6;clear hb6;have M6 := hdQ hmp;clear hmp;obtain ⟨cr0, cr1, cr2, fr0, fr1, fr2⟩ := Xr.out;have hner : gr < v6.heap.size := blt cr0;go_wp2_with fail
 refine bodyPost_ret (v := .tuple #[DV s6 p6 m6 m6 eo, .int .i64 er]) (by rw [results_cell_tmp rfl]; go_simp) rfl ⟨(M6.out.set HRL.out.1 HRL.out.2 _ _ _).close, ?_⟩
 exact bSet (bSet (bSet hbw _ _ _ HGr.out) _ _ _ HGr.out) _ _ _ HGr.out
theorem cut_u {q : Option Addr} {m c : Nat} {w : World} {z e : Int} {P K : Nat} {s : Bool} (h : ZN w s q m c z) (he : -2621440 ≤ e ∧ e ≤ 2621440) (hP : 1 ≤ P ∧ P ≤ 70000) (hK : K = bitsN z.natAbs - P) (hT : Tab w) :
  Calls Tryz.prog 86 #[WVu, ZV s q m c, .int .i64 e, .int .i64 P] w fun en w' => MakeP w.heap.size w' en (rd true z (2 ^ K)) (e + K) ∧ Below w.heap.size w w' := by
 have H := hdQ h;have TB : Hid (Tab w) := hT;have hb := (lim_bits z.natAbs).1 h.lim
 have f1 : wrap64 ((bitsN z.natAbs : Int) - P) = (bitsN z.natAbs : Int) - P := by simp only [wrap64]; omega
 have f2 : max ((bitsN z.natAbs : Int) - P) 0 = (K : Int) := by omega
 have f4 : wrap64 (e + K) = e + K := by simp only [wrap64]; omega
 have f5 : IntKind.i64.wrap (e + K) = e + K := by simp [IntKind.wrap, IntKind.signed, IntKind.bits]; omega
 have HF : Hid (wrap64 (e + K) = e + K ∧ IntKind.i64.wrap (e + K) = e + K ∧ -3145728 ≤ e + K ∧ e + K ≤ 3145728 ∧ K ≤ 9223372036854775807) := ⟨f4, f5, by omega, by omega, by omega⟩
 have HR : Hid (rd true z (2 ^ K) = ce (decide (z < 0)) z.natAbs (2 ^ K)) := by rw [ce_eq _ _ (Nat.pow_pos (by omega))]; rfl
 clear h hT hb he hP hK f4 f5
 go_enter Tryz.func86, Tryz.ntmps86
 go_wp2_with fail;obtain ⟨W0, hW0⟩ := exq (((w.alloc (.cells #[.func (.func 87) #[] #[], .func (.func 88) #[] #[]] 89)).alloc (.cells #[.bool s, .slice q m c] 24)).alloc (.cells #[.bool false, .slice none 0 0, .int .i64 0] 26))
 have Xy : Hid (Box W0 (w.heap.size) (.func (.func 87) #[] #[]) (.func (.func 88) #[] #[])) := by rw [hW0]; constructor <;> go_simp
 have Xm : Hid (Box W0 (w.heap.size + 1) (.bool s) (.slice q m c)) := by rw [hW0]; constructor <;> go_simp
 have Xr : Hid (B3q W0 (w.heap.size + 1 + 1) (.bool false) (.slice none 0 0) (.int .i64 0)) := by rw [hW0]; constructor <;> go_simp
 have hb0 := bq3 hW0;rw [← hW0];clear hW0;have hbw := brf w;obtain ⟨gr, hgr⟩ := exq (w.heap.size + 1 + 1);have HGr : Hid (w.heap.size ≤ gr) := hgl hgr;rw [← hgr] at Xr
 try rw [← hgr]
 obtain ⟨gm, hgm⟩ := exq (w.heap.size + 1);have HGm : Hid (w.heap.size ≤ gm) := hgl hgm;rw [← hgm] at Xm
 try rw [← hgm]
 obtain ⟨gy, hgy⟩ := exq w.heap.size;have HGy : Hid (w.heap.size ≤ gy) := hgl hgy;rw [← hgy] at Xy
 try rw [← hgy]
 have HGD : Hid (gy ≠ gm ∧ gy ≠ gr ∧ gm ≠ gy ∧ gm ≠ gr ∧ gr ≠ gy ∧ gr ≠ gm) := by rw [hgy, hgm, hgr]; show _ ∧ _; omega
 clear hgy hgm hgr;replace hbw := bon hbw hb0;clear hb0;obtain ⟨xs, hX⟩ := (H.out.below hbw).ex
 refine (bits_any hX.at_ (by have := hX.le; omega)).mono ?_
 rintro e2 v3 ⟨rfl, hw⟩;obtain rfl := hw.symm;clear hw;rw [hX.nf.val];clear hX;obtain ⟨cy0, cy1, fy0, fy1⟩ := Xy.out;have hney := Xy.out.lt;obtain ⟨cm0, cm1, fm0, fm1⟩ := Xm.out;have hnem := Xm.out.lt;go_wp2_with fail;clear cy0 cy1 fy0 fy1 hney cm0 cm1 fm0 fm1 hnem f1 f2
 refine (zcshr (H.out.below hbw) K HF.out.2.2.2.2 (TB.out.below hbw)).mono ?_
 rintro e v5 ⟨⟨s5, p5, m5, rfl, hz⟩, hb5⟩;replace Xy := Box.b Xy hb5;replace Xm := Box.b Xm hb5;replace Xr := B3q.b Xr hb5;replace hbw := bon hbw hb5;clear hb5;have hz := hz.cast (z' := rd true z (2 ^ K)) (HR.out.symm);have Z5 := hdQ hz;clear hz;have f4 := HF.out.1;have f5 := HF.out.2.1;go_wp2_with fail;clear f4 f5;have Xq0 : Hid (Box (v5.alloc (.cells #[.bool s5, .slice p5 m5 m5] 24)) v5.heap.size (.bool s5) (.slice p5 m5 m5)) := Box.new v5 _ _ _;have hbn : Below v5.heap.size v5 (v5.alloc (.cells #[.bool s5, .slice p5 m5 m5] 24)) := below1 v5 _;generalize v5.alloc (.cells #[.bool s5, .slice p5 m5 m5] 24) = Wq at *;have HGq : Hid (w.heap.size ≤ v5.heap.size) := hbw.size;replace Xy := Box.b Xy hbn;replace Xm := Box.b Xm hbn;replace Xr := B3q.b Xr hbn;replace Z5 := ZN.b Z5 hbn;replace hbw := bon hbw hbn;clear hbn;generalize v5.heap.size = gq at *;have Xq := Xq0;clear Xq0;have HRL : Hid (gr < Wq.heap.size ∧ w.heap.size ≤ Wq.heap.size) := ⟨Xr.out.lt, hbw.size⟩
 refine (makep Z5.out (by have := HF.out; omega) (TB.out.below hbw)).mono ?_
 rintro e2 v6 ⟨hv, hb6⟩;obtain ⟨s6, p6, m6, eo, er, rfl, hmp⟩ := hv.open;clear hv;replace Xy := Box.b Xy hb6;replace Xm := Box.b Xm hb6;replace Xr := B3q.b Xr hb6;replace Xq := Box.b Xq hb6;replace Z5 := ZN.b Z5 hb6;replace hbw := bon hbw hb6;clear hb6;have M6 := hdQ hmp;clear hmp;obtain ⟨cr0, cr1, cr2, fr0, fr1, fr2⟩ := Xr.out;have hner : gr < v6.heap.size := blt cr0;go_wp2_with fail
 refine bodyPost_ret (v := .tuple #[DV s6 p6 m6 m6 eo, .int .i64 er]) (by rw [results_cell_tmp rfl]; go_simp) rfl ⟨(M6.out.set HRL.out.1 HRL.out.2 _ _ _).close, ?_⟩
 exact bSet (bSet (bSet hbw _ _ _ HGr.out) _ _ _ HGr.out) _ _ _ HGr.out
theorem tb_d {q : Option Addr} {m c : Nat} {w : World} {z e : Int} {P K : Nat} {s : Bool} (h : DN w s q m c e z) (hP : 1 ≤ P ∧ P ≤ 70000) (hK : K = bitsN z.natAbs - P) (hT : Tab w) :
  Calls Tryz.prog 81 #[WVd, DV s q m c e, .int .i64 P] w fun en w' => MakeP w.heap.size w' en (rd false z (2 ^ K)) (e + K) ∧ Below w.heap.size w w' := by
 have H := hdQ h;have TB : Hid (Tab w) := hT;have HP : Hid ((1 ≤ P ∧ P ≤ 70000) ∧ K = bitsN z.natAbs - P) := ⟨hP, hK⟩
 have he : -2621440 ≤ e ∧ e ≤ 2621440 := by rcases h.fm with ⟨_, h5⟩ | ⟨_, h5⟩ <;> omega
 have HE : Hid (-2621440 ≤ e ∧ e ≤ 2621440) := he
 have f1 : ¬ (P : Int) < 1 := by omega
 have f2 : ¬ (70000 : Int) < P := by omega
 clear h hT hP hK he
 go_enter Tryz.func81, Tryz.ntmps81
 go_wp2_with fail;obtain ⟨W0, hW0⟩ := exq (((w.alloc (.cells #[.func (.func 80) #[] #[], .func (.func 84) #[] #[]] 89)).alloc (.cells #[.bool s, .slice q m c, .int .i64 e] 26)).alloc (.cells #[.bool false, .slice none 0 0, .int .i64 0] 26))
 have Xy : Hid (Box W0 (w.heap.size) (.func (.func 80) #[] #[]) (.func (.func 84) #[] #[])) := by rw [hW0]; constructor <;> go_simp
 have Xd : Hid (B3q W0 (w.heap.size + 1) (.bool s) (.slice q m c) (.int .i64 e)) := by rw [hW0]; constructor <;> go_simp
 have Xr : Hid (B3q W0 (w.heap.size + 1 + 1) (.bool false) (.slice none 0 0) (.int .i64 0)) := by rw [hW0]; constructor <;> go_simp
 have hb0 := bq3 hW0;rw [← hW0];clear hW0;have hbw := brf w;obtain ⟨gr, hgr⟩ := exq (w.heap.size + 1 + 1);have HGr : Hid (w.heap.size ≤ gr) := hgl hgr;rw [← hgr] at Xr
 try rw [← hgr]
 obtain ⟨gd, hgd⟩ := exq (w.heap.size + 1);have HGd : Hid (w.heap.size ≤ gd) := hgl hgd;rw [← hgd] at Xd
 try rw [← hgd]
 obtain ⟨gy, hgy⟩ := exq w.heap.size;have HGy : Hid (w.heap.size ≤ gy) := hgl hgy;rw [← hgy] at Xy
 try rw [← hgy]
 have HGD : Hid (gy ≠ gd ∧ gy ≠ gr ∧ gd ≠ gy ∧ gd ≠ gr ∧ gr ≠ gy ∧ gr ≠ gd) := by rw [hgy, hgd, hgr]; show _ ∧ _; omega
 clear hgy hgd hgr;replace hbw := bon hbw hb0;clear hb0
 refine (dform_t (H.out.below hbw)).mono ?_
 rintro e v1 ⟨rfl, hb1⟩;replace Xy := Box.b Xy hb1;replace Xd := B3q.b Xd hb1;replace Xr := B3q.b Xr hb1;replace hbw := bon hbw hb1;clear hb1;obtain ⟨cy0, cy1, fy0, fy1⟩ := Xy.out;have hney := Xy.out.lt;obtain ⟨cd0, cd1, cd2, fd0, fd1, fd2⟩ := Xd.out;have hned : gd < v1.heap.size := blt cd0;go_wp2_with fail;clear cy0 cy1 fy0 fy1 hney cd0 cd1 cd2 fd0 fd1 fd2 hned f1 f2;have HRL : Hid (gr < v1.heap.size ∧ w.heap.size ≤ v1.heap.size) := ⟨Xr.out.lt, hbw.size⟩
 refine (cut_d (H.out.zn.below hbw) HE.out HP.out.1 HP.out.2 (TB.out.below hbw)).mono ?_
 rintro e2 v6 ⟨hv, hb6⟩;obtain ⟨s6, p6, m6, eo, er, rfl, hmp⟩ := hv.open;clear hv;replace Xy := Box.b Xy hb6;replace Xd := B3q.b Xd hb6;replace Xr := B3q.b Xr hb6;replace hbw := bon hbw hb6;clear hb6;have M6 := hdQ hmp;clear hmp;obtain ⟨cr0, cr1, cr2, fr0, fr1, fr2⟩ := Xr.out;have hner : gr < v6.heap.size := blt cr0;go_wp2_with fail
 refine bodyPost_ret (v := .tuple #[DV s6 p6 m6 m6 eo, .int .i64 er]) (by rw [results_cell_tmp rfl]; go_simp) rfl ⟨(M6.out.set HRL.out.1 HRL.out.2 _ _ _).close, ?_⟩
 exact bSet (bSet (bSet hbw _ _ _ HGr.out) _ _ _ HGr.out) _ _ _ HGr.out
theorem tb_u {q : Option Addr} {m c : Nat} {w : World} {z e : Int} {P K : Nat} {s : Bool} (h : DN w s q m c e z) (hP : 1 ≤ P ∧ P ≤ 70000) (hK : K = bitsN z.natAbs - P) (hT : Tab w) :
  Calls Tryz.prog 81 #[WVu, DV s q m c e, .int .i64 P] w fun en w' => MakeP w.heap.size w' en (rd true z (2 ^ K)) (e + K) ∧ Below w.heap.size w w' := by
 have H := hdQ h;have TB : Hid (Tab w) := hT;have HP : Hid ((1 ≤ P ∧ P ≤ 70000) ∧ K = bitsN z.natAbs - P) := ⟨hP, hK⟩
 have he : -2621440 ≤ e ∧ e ≤ 2621440 := by rcases h.fm with ⟨_, h5⟩ | ⟨_, h5⟩ <;> omega
 have HE : Hid (-2621440 ≤ e ∧ e ≤ 2621440) := he
 have f1 : ¬ (P : Int) < 1 := by omega
 have f2 : ¬ (70000 : Int) < P := by omega
 clear h hT hP hK he
 go_enter Tryz.func81, Tryz.ntmps81
 go_wp2_with fail;obtain ⟨W0, hW0⟩ := exq (((w.alloc (.cells #[.func (.func 87) #[] #[], .func (.func 88) #[] #[]] 89)).alloc (.cells #[.bool s, .slice q m c, .int .i64 e] 26)).alloc (.cells #[.bool false, .slice none 0 0, .int .i64 0] 26))
 have Xy : Hid (Box W0 (w.heap.size) (.func (.func 87) #[] #[]) (.func (.func 88) #[] #[])) := by rw [hW0]; constructor <;> go_simp
 have Xd : Hid (B3q W0 (w.heap.size + 1) (.bool s) (.slice q m c) (.int .i64 e)) := by rw [hW0]; constructor <;> go_simp
 have Xr : Hid (B3q W0 (w.heap.size + 1 + 1) (.bool false) (.slice none 0 0) (.int .i64 0)) := by rw [hW0]; constructor <;> go_simp
 have hb0 := bq3 hW0;rw [← hW0];clear hW0;have hbw := brf w;obtain ⟨gr, hgr⟩ := exq (w.heap.size + 1 + 1);have HGr : Hid (w.heap.size ≤ gr) := hgl hgr;rw [← hgr] at Xr
 try rw [← hgr]
 obtain ⟨gd, hgd⟩ := exq (w.heap.size + 1);have HGd : Hid (w.heap.size ≤ gd) := hgl hgd;rw [← hgd] at Xd
 try rw [← hgd]
 obtain ⟨gy, hgy⟩ := exq w.heap.size;have HGy : Hid (w.heap.size ≤ gy) := hgl hgy;rw [← hgy] at Xy
 try rw [← hgy]
 have HGD : Hid (gy ≠ gd ∧ gy ≠ gr ∧ gd ≠ gy ∧ gd ≠ gr ∧ gr ≠ gy ∧ gr ≠ gd) := by rw [hgy, hgd, hgr]; show _ ∧ _; omega
 clear hgy hgd hgr;replace hbw := bon hbw hb0;clear hb0
 refine (dform_t (H.out.below hbw)).mono ?_
 rintro e v1 ⟨rfl, hb1⟩;replace Xy := Box.b Xy hb1;replace Xd := B3q.b Xd hb1;replace Xr := B3q.b Xr hb1;replace hbw := bon hbw hb1;clear hb1;obtain ⟨cy0, cy1, fy0, fy1⟩ := Xy.out;have hney := Xy.out.lt;obtain ⟨cd0, cd1, cd2, fd0, fd1, fd2⟩ := Xd.out;have hned : gd < v1.heap.size := blt cd0;go_wp2_with fail;clear cy0 cy1 fy0 fy1 hney cd0 cd1 cd2 fd0 fd1 fd2 hned f1 f2;have HRL : Hid (gr < v1.heap.size ∧ w.heap.size ≤ v1.heap.size) := ⟨Xr.out.lt, hbw.size⟩
 refine (cut_u (H.out.zn.below hbw) HE.out HP.out.1 HP.out.2 (TB.out.below hbw)).mono ?_
 rintro e2 v6 ⟨hv, hb6⟩;obtain ⟨s6, p6, m6, eo, er, rfl, hmp⟩ := hv.open;clear hv;replace Xy := Box.b Xy hb6;replace Xd := B3q.b Xd hb6;replace Xr := B3q.b Xr hb6;replace hbw := bon hbw hb6;clear hb6;have M6 := hdQ hmp;clear hmp;obtain ⟨cr0, cr1, cr2, fr0, fr1, fr2⟩ := Xr.out;have hner : gr < v6.heap.size := blt cr0;go_wp2_with fail
 refine bodyPost_ret (v := .tuple #[DV s6 p6 m6 m6 eo, .int .i64 er]) (by rw [results_cell_tmp rfl]; go_simp) rfl ⟨(M6.out.set HRL.out.1 HRL.out.2 _ _ _).close, ?_⟩
 exact bSet (bSet (bSet hbw _ _ _ HGr.out) _ _ _ HGr.out) _ _ _ HGr.out
end Go.Proofs.YtpdelpakgdanlaaGreatDoor
