import Derived.Test.YtionkfnapodhbaaDoorJ11
import Derived.Test.YtionkfnapodhbaaDoorJ10
namespace Go.Proofs.YtionkfnapodhbaaDoor
open Go.RowKit Go.Shelf
set_option maxRecDepth 20000
set_option maxHeartbeats 0
theorem hold_z {w : World} {p p1 p2 : Option Addr} {m m1 m2 a b : Nat} (h : RN w p m a) (k1 : RN w p1 m1 b) (k2 : RN w p2 m2 1) (hb : b ≠ 0) (e f : Int) (he : -1300 ≤ e ∧ e ≤ 1100) (hf : -1300 ≤ f ∧ f ≤ 1100) (hA : bitsN a ≤ 3000) (hB : bitsN b ≤ 3000) (ha : m = 0) :
    Calls Tryd.prog 44 #[.agg #[.slice p1 m1 m1, .slice p2 m2 m2, .int .i64 f, .bool false], .slice p m m, .int .i64 e] w fun en w' => en = .returned (.int .i64 (cmpN (a * 2 ^ (e + 1300).toNat) (b * 2 ^ (f + 1300).toNat))) ∧ Below w.heap.size w w' := by
  have NA : Hid (RN w p m a) := h
  have N1 : Hid (RN w p1 m1 b) := k1
  have N2 : Hid (RN w p2 m2 1) := k2
  have HM := h.zero
  obtain ⟨r, hr⟩ : ∃ r, r = cmpN (a * 2 ^ (e + 1300).toNat) (b * 2 ^ (f + 1300).toNat) := ⟨_, rfl⟩
  rw [← hr]
  have HC : Hid (b ≠ 0 ∧ (-1300 ≤ e ∧ e ≤ 1100) ∧ (-1300 ≤ f ∧ f ≤ 1100) ∧ bitsN a ≤ 3000 ∧ bitsN b ≤ 3000 ∧ r = cmpN (a * 2 ^ (e + 1300).toNat) (b * 2 ^ (f + 1300).toNat) ∧ (m = 0 ↔ a = 0)) := ⟨hb, he, hf, hA, hB, hr, HM⟩
  clear h k1 k2 hb he hf hA hB hr HM
  have hr1 : r = -1 := by
    rw [HC.out.2.2.2.2.2.1, HC.out.2.2.2.2.2.2.1 ha, Nat.zero_mul]
    exact cmpN_lt (Nat.mul_pos (Nat.pos_of_ne_zero HC.out.1) (Nat.two_pow_pos _))
  rw [hr1]
  subst ha
  clear HC hr1 NA N1 N2
  go_enter Tryd.func44, Tryd.ntmps44
  go_wp2_with fail
  go_ret
  exact ⟨rfl, below1 w _⟩
theorem hold_n {w : World} {p p1 p2 : Option Addr} {m m1 m2 a b : Nat} (h : RN w p m a) (k1 : RN w p1 m1 b) (k2 : RN w p2 m2 1) (hb : b ≠ 0) (e f : Int) (he : -1300 ≤ e ∧ e ≤ 1100) (hf : -1300 ≤ f ∧ f ≤ 1100) (hA : bitsN a ≤ 3000) (hB : bitsN b ≤ 3000) (ha : m ≠ 0) :
    Calls Tryd.prog 44 #[.agg #[.slice p1 m1 m1, .slice p2 m2 m2, .int .i64 f, .bool false], .slice p m m, .int .i64 e] w fun en w' => en = .returned (.int .i64 (cmpN (a * 2 ^ (e + 1300).toNat) (b * 2 ^ (f + 1300).toNat))) ∧ Below w.heap.size w w' := by
  have NA : Hid (RN w p m a) := h
  have N1 : Hid (RN w p1 m1 b) := k1
  have N2 : Hid (RN w p2 m2 1) := k2
  have HM := h.zero
  obtain ⟨r, hr⟩ : ∃ r, r = cmpN (a * 2 ^ (e + 1300).toNat) (b * 2 ^ (f + 1300).toNat) := ⟨_, rfl⟩
  rw [← hr]
  have HC : Hid (b ≠ 0 ∧ (-1300 ≤ e ∧ e ≤ 1100) ∧ (-1300 ≤ f ∧ f ≤ 1100) ∧ bitsN a ≤ 3000 ∧ bitsN b ≤ 3000 ∧ r = cmpN (a * 2 ^ (e + 1300).toNat) (b * 2 ^ (f + 1300).toNat) ∧ (m = 0 ↔ a = 0)) := ⟨hb, he, hf, hA, hB, hr, HM⟩
  clear h k1 k2 hb he hf hA hB hr HM
  have hm0 : ((m : Int) == 0) = false := by simp; omega
  have HA0 : Hid (a ≠ 0) := fun h => ha (HC.out.2.2.2.2.2.2.2 h)
  clear ha
  go_enter Tryd.func44, Tryd.ntmps44
  go_wp2_with fail
  obtain ⟨W0, hW0⟩ : ∃ W0, W0 = (w.alloc (.cells #[.slice p1 m1 m1, .slice p2 m2 m2, .int .i64 f, .bool false] 70)) := ⟨_, rfl⟩
  have Xv : Hid (B4q W0 (w.heap.size) (.slice p1 m1 m1) (.slice p2 m2 m2) (.int .i64 f) (.bool false)) := by rw [hW0]; exact ⟨by go_simp, by go_simp, by go_simp, by go_simp, by go_simp, by go_simp, by go_simp, by go_simp⟩
  have hb0 : Below w.heap.size w W0 := by rw [hW0]; exact below1 w _
  rw [← hW0]
  clear hW0
  have hbw : Below w.heap.size w w := Below.refl _ _
  obtain ⟨gv, hgv⟩ : ∃ g, g = w.heap.size := ⟨_, rfl⟩
  have HGv : Hid (w.heap.size ≤ gv) := by rw [hgv]; show _ ≤ _; omega
  rw [← hgv] at Xv
  try rw [← hgv]
  clear hgv
  replace NA : Hid (RN W0 p m a) := NA.out.below hb0
  replace N1 : Hid (RN W0 p1 m1 b) := N1.out.below hb0
  replace N2 : Hid (RN W0 p2 m2 1) := N2.out.below hb0
  replace hbw := Below.on hbw hb0
  clear hb0
  obtain ⟨V1, hV1⟩ : ∃ W1, W1 = W0.drew := ⟨_, rfl⟩
  have hbd : Below W0.heap.size W0 V1 := by rw [hV1]; exact bDrew1 (Below.refl _ _)
  replace Xv : Hid _ := Xv.out.below hbd
  replace NA : Hid (RN V1 p m a) := NA.out.below hbd
  replace N1 : Hid (RN V1 p1 m1 b) := N1.out.below hbd
  replace N2 : Hid (RN V1 p2 m2 1) := N2.out.below hbd
  replace hbw := Below.on hbw hbd
  clear hbd
  have HJ : Hid ((fun W' : World => W'.cell? ⟨gv, 0, none⟩ = some (.slice p1 m1 m1) ∧ W'.cell? ⟨gv, 1, none⟩ = some (.slice p2 m2 m2) ∧ W'.cell? ⟨gv, 2, none⟩ = some (.int .i64 f)) V1) := ⟨Xv.out.c0, Xv.out.c1, Xv.out.c2⟩
  refine wp_region_J (fun W' => W'.cell? ⟨gv, 0, none⟩ = some (.slice p1 m1 m1) ∧ W'.cell? ⟨gv, 1, none⟩ = some (.slice p2 m2 m2) ∧ W'.cell? ⟨gv, 2, none⟩ = some (.int .i64 f)) (by kernel_rfl) ?_
  rw [← hV1]
  clear hV1
  refine wpJ_tq 0 rfl HJ.out ?_
  refine wpJ_tq 1 rfl HJ.out ?_
  refine wpJ_tq 2 rfl HJ.out ?_
  refine wpJ_tq 4 rfl HJ.out ?_
  refine wpJ_tq 5 rfl HJ.out ?_
  go_simp
  refine wpJ_tq 6 rfl HJ.out ?_
  refine wpJ_tq 7 rfl HJ.out ?_
  refine wpJ_tq 8 rfl HJ.out ?_
  refine wpJ_on 3 rfl fun KJ hK => ?_
  go_simp
  refine (rn_mul NA.out N2.out (K := bitsN a) (by have := HC.out.2.2.2.1; omega) (by rw [Nat.mul_one]; exact bitsN_lt a)).mono ?_
  rintro en v3 ⟨p3, m3, rfl, hn3, hb3⟩
  have hn3 := hn3.cast (b := a) (Nat.mul_one a)
  replace Xv : Hid _ := Xv.out.below hb3
  replace NA : Hid (RN v3 p m a) := NA.out.below hb3
  replace N1 : Hid (RN v3 p1 m1 b) := N1.out.below hb3
  replace N2 : Hid (RN v3 p2 m2 1) := N2.out.below hb3
  replace hbw := Below.on hbw hb3
  clear hb3
  have N3 : Hid (RN v3 p3 m3 (a)) := hn3
  clear hn3
  refine hK _ _ ⟨Xv.out.c0, Xv.out.c1, Xv.out.c2⟩ ?_
  clear hK
  refine wpJ_on 9 rfl fun KJ hK => ?_
  go_simp
  refine (order_ok N3.out N1.out HA0.out HC.out.1 e f HC.out.2.1 HC.out.2.2.1 HC.out.2.2.2.1 HC.out.2.2.2.2.1).mono ?_
  rintro e v4 ⟨rfl, hb4⟩
  rw [← HC.out.2.2.2.2.2.1]
  replace Xv : Hid _ := Xv.out.below hb4
  replace NA : Hid (RN v4 p m a) := NA.out.below hb4
  replace N1 : Hid (RN v4 p1 m1 b) := N1.out.below hb4
  replace N2 : Hid (RN v4 p2 m2 1) := N2.out.below hb4
  replace N3 : Hid (RN v4 p3 m3 (a)) := N3.out.below hb4
  replace hbw := Below.on hbw hb4
  clear hb4
  clear HJ
  have HJ : Hid ((fun W' : World => W'.cell? ⟨gv, 0, none⟩ = some (.slice p1 m1 m1) ∧ W'.cell? ⟨gv, 1, none⟩ = some (.slice p2 m2 m2) ∧ W'.cell? ⟨gv, 2, none⟩ = some (.int .i64 f)) v4) := ⟨Xv.out.c0, Xv.out.c1, Xv.out.c2⟩
  refine hK _ _ HJ.out ?_
  clear hK
  refine wpJ_tq 10 rfl HJ.out ?_
  refine wpJ_done (by kernel_rfl) ?_ _
  clear HJ
  go_wp2_with fail
  go_ret
  exact ⟨rfl, hbw⟩
theorem hold_ok {w : World} {p p1 p2 : Option Addr} {m m1 m2 a b : Nat} (h : RN w p m a) (k1 : RN w p1 m1 b) (k2 : RN w p2 m2 1) (hb : b ≠ 0) (e f : Int) (he : -1300 ≤ e ∧ e ≤ 1100) (hf : -1300 ≤ f ∧ f ≤ 1100) (hA : bitsN a ≤ 3000) (hB : bitsN b ≤ 3000) : Calls Tryd.prog 44 #[.agg #[.slice p1 m1 m1, .slice p2 m2 m2, .int .i64 f, .bool false], .slice p m m, .int .i64 e] w fun en w' => en = .returned (.int .i64 (cmpN (a * 2 ^ (e + 1300).toNat) (b * 2 ^ (f + 1300).toNat))) ∧ Below w.heap.size w w' := by
  by_cases ha : m = 0
  · exact hold_z h k1 k2 hb e f he hf hA hB ha
  · exact hold_n h k1 k2 hb e f he hf hA hB ha
theorem Hid.mk9 {p : Prop} (h : p) : Hid p := h
theorem bits_le {a K : Nat} (h : a < 2 ^ K) : bitsN a ≤ K := by
  by_cases h0 : a = 0
  · subst h0; rw [bitsN_zero]; omega
  · have h1 := bitsN_le a h0
    have h2 := (Nat.pow_lt_pow_iff_right (by decide : 1 < 2)).1 (Nat.lt_of_le_of_lt h1 h)
    omega
theorem hold_vs {s q man b A : Nat} {e f : Int} (hq : q = s / 4503599627370496 - 1) (hm : man = s - q * 4503599627370496) (he : e = -1074 + (q : Int)) (hf : -1074 ≤ f) (hA : A = b * 2 ^ (f + 1074).toNat) : cmpN (man * 2 ^ (e + 1300).toNat) (b * 2 ^ (f + 1300).toNat) = cmpN (vs 4503599627370496 s) A := by
  have e1 : man * 2 ^ (e + 1300).toNat = vs 4503599627370496 s * 2 ^ 226 := by
    unfold vs
    rw [← hq, ← hm, show (e + 1300).toNat = q + 226 by omega, Nat.pow_add, Nat.mul_assoc]
  have e2 : b * 2 ^ (f + 1300).toNat = A * 2 ^ 226 := by rw [hA, show (f + 1300).toNat = (f + 1074).toNat + 226 by omega, Nat.pow_add, Nat.mul_assoc]
  rw [e1, e2, cmpN_mul _ _ _ (Nat.two_pow_pos _)]
theorem hold_hv {q man b A : Nat} {e f : Int} (he : e = -1074 + (q : Int) - 1) (hf : -1074 ≤ f) (hA : A = b * 2 ^ (f + 1074).toNat) : cmpN ((2 * man + 1) * 2 ^ (e + 1300).toNat) (b * 2 ^ (f + 1300).toNat) = cmpN ((2 * man + 1) * 2 ^ q) (2 * A) := by
  have e1 : (2 * man + 1) * 2 ^ (e + 1300).toNat = (2 * man + 1) * 2 ^ q * 2 ^ 225 := by rw [show (e + 1300).toNat = q + 225 by omega, Nat.pow_add, Nat.mul_assoc]
  have e2 : b * 2 ^ (f + 1300).toNat = 2 * A * 2 ^ 225 := by rw [hA, show (f + 1300).toNat = (f + 1074).toNat + (1 + 225) by omega, Nat.pow_add, Nat.pow_add, ← Nat.mul_assoc, ← Nat.mul_assoc, Nat.mul_comm 2]
  rw [e1, e2, cmpN_mul _ _ _ (Nat.two_pow_pos _)]
theorem cmpN_le9 (a b : Nat) : cmpN a b ≤ 0 ↔ a ≤ b := by
  unfold cmpN
  split
  · exact ⟨fun _ => by omega, fun _ => by decide⟩
  · split
    · exact ⟨fun _ => by omega, fun _ => by decide⟩
    · exact ⟨fun h => absurd h (by decide), fun h => by omega⟩
theorem size_ok {w : World} {p1 p2 : Option Addr} {m1 m2 b A : Nat} (k1 : RN w p1 m1 b) (k2 : RN w p2 m2 1) (hb : b ≠ 0) (f : Int) (hf : -1074 ≤ f ∧ f ≤ 1000) (hB : bitsN b ≤ 2200) (hA : A = b * 2 ^ (f + 1074).toNat) (hI : A < vs 4503599627370496 9218868437227405312) :
    Calls Tryd.prog 28 #[FV 9223372036854775808 53 (-1074) 971 9218868437227405312 9221120237041090561, .agg #[.slice p1 m1 m1, .slice p2 m2 m2, .int .i64 f, .bool false]] w fun en w' => en = .returned (U (rg 0 A)) ∧ Below w.heap.size w w' := by
  have N1 : Hid (RN w p1 m1 b) := k1
  have N2 : Hid (RN w p2 m2 1) := k2
  obtain ⟨R, hR⟩ : ∃ R, R = rg 0 A := ⟨_, rfl⟩
  rw [← hR]
  have HC : Hid (b ≠ 0 ∧ (-1074 ≤ f ∧ f ≤ 1000) ∧ bitsN b ≤ 2200 ∧ A = b * 2 ^ (f + 1074).toNat ∧ A < vs 4503599627370496 9218868437227405312 ∧ R = rg 0 A) := ⟨hb, hf, hB, hA, hI, hR⟩
  clear k1 k2 hb hf hB hA hI hR
  go_enter Tryd.func28, Tryd.ntmps28
  go_wp2_with fail
  obtain ⟨W0, hW0⟩ : ∃ W0, W0 = ((w.alloc (.cells #[U 9223372036854775808, .int .i64 53, .int .i64 (-1074), .int .i64 971, U 9218868437227405312, U 9221120237041090561] 64)).alloc (.cells #[.slice p1 m1 m1, .slice p2 m2 m2, .int .i64 f, .bool false] 70)) := ⟨_, rfl⟩
  have Xfm : Hid (B6q W0 (w.heap.size) (U 9223372036854775808) (.int .i64 53) (.int .i64 (-1074)) (.int .i64 971) (U 9218868437227405312) (U 9221120237041090561)) := by rw [hW0]; exact ⟨by go_simp, by go_simp, by go_simp, by go_simp, by go_simp, by go_simp, by go_simp, by go_simp, by go_simp, by go_simp, by go_simp, by go_simp⟩
  have Xv : Hid (B4q W0 (w.heap.size + 1) (.slice p1 m1 m1) (.slice p2 m2 m2) (.int .i64 f) (.bool false)) := by rw [hW0]; exact ⟨by go_simp, by go_simp, by go_simp, by go_simp, by go_simp, by go_simp, by go_simp, by go_simp⟩
  have hb0 : Below w.heap.size w W0 := by rw [hW0]; exact below2 w _ _
  rw [← hW0]
  clear hW0
  have hbw : Below w.heap.size w w := Below.refl _ _
  obtain ⟨gv, hgv⟩ : ∃ g, g = w.heap.size + 1 := ⟨_, rfl⟩
  have HGv : Hid (w.heap.size ≤ gv) := by rw [hgv]; show _ ≤ _; omega
  rw [← hgv] at Xv
  try rw [← hgv]
  obtain ⟨gfm, hgfm⟩ : ∃ g, g = w.heap.size := ⟨_, rfl⟩
  have HGfm : Hid (w.heap.size ≤ gfm) := by rw [hgfm]; show _ ≤ _; omega
  rw [← hgfm] at Xfm
  try rw [← hgfm]
  have HGD : Hid (gfm ≠ gv ∧ gv ≠ gfm) := by rw [hgfm, hgv]; exact ⟨by omega, by omega⟩
  clear hgfm hgv
  replace N1 : Hid (RN W0 p1 m1 b) := N1.out.below hb0
  replace N2 : Hid (RN W0 p2 m2 1) := N2.out.below hb0
  replace hbw := Below.on hbw hb0
  clear hb0
  obtain ⟨V1, hV1⟩ : ∃ W1, W1 = W0.drew := ⟨_, rfl⟩
  have hbd : Below W0.heap.size W0 V1 := by rw [hV1]; exact bDrew1 (Below.refl _ _)
  replace Xfm : Hid _ := Xfm.out.below hbd
  replace Xv : Hid _ := Xv.out.below hbd
  replace N1 : Hid (RN V1 p1 m1 b) := N1.out.below hbd
  replace N2 : Hid (RN V1 p2 m2 1) := N2.out.below hbd
  replace hbw := Below.on hbw hbd
  clear hbd
  have HJ : Hid ((fun W' : World => W'.cell? ⟨gfm, 4, none⟩ = some (U 9218868437227405312)) V1) := Xfm.out.c4
  refine wp_region_J (fun W' => W'.cell? ⟨gfm, 4, none⟩ = some (U 9218868437227405312)) (by kernel_rfl) ?_
  rw [← hV1]
  clear hV1
  refine wpJ_tk 0 (v := ?v1x0) rfl ?hy1x0 HJ.out ?_
  case hy1x0 => (intro W' hJ; have j0 := hJ; go_simp; first | done | with_reducible rfl)
  refine wpJ_tk 1 (v := ?v2x1) rfl ?hy2x1 HJ.out ?_
  case hy2x1 => (intro W' hJ; have j0 := hJ; go_simp; first | done | with_reducible rfl)
  refine wpJ_tk 2 (v := ?v3x2) rfl ?hy3x2 HJ.out ?_
  case hy3x2 => (intro W' hJ; have j0 := hJ; go_simp; first | done | with_reducible rfl)
  refine wpJ_tk 3 (v := ?v4x3) rfl ?hy4x3 HJ.out ?_
  case hy4x3 => (intro W' hJ; have j0 := hJ; go_simp; first | done | with_reducible rfl)
  refine wpJ_tk 4 (v := ?v5x4) rfl ?hy5x4 HJ.out ?_
  case hy5x4 => (intro W' hJ; have j0 := hJ; go_simp; first | done | with_reducible rfl)
  go_simp
  refine wpJ_done (by kernel_rfl) ?_ _
  clear HJ
  go_wp2_with fail
  obtain ⟨N0, hN0⟩ : ∃ N0 : Nat, N0 = 9218868437227405312 := ⟨_, rfl⟩
  go_loopg [5, 6] N0 (fun gk lov hiv wr => ∃ lo hi : Nat, lov = U lo ∧ hiv = U hi ∧ hi = lo + gk + 1 ∧ hi ≤ 9218868437227405312 + 1 ∧ vs 4503599627370496 lo ≤ A ∧ A < vs 4503599627370496 hi ∧ B6q wr gfm (U 9223372036854775808) (.int .i64 53) (.int .i64 (-1074)) (.int .i64 971) (U 9218868437227405312) (U 9221120237041090561) ∧ B4q wr gv (.slice p1 m1 m1) (.slice p2 m2 m2) (.int .i64 f) (.bool false) ∧ RN wr p1 m1 b ∧ RN wr p2 m2 1 ∧ Below w.heap.size w wr)
  case atStart => exact ⟨0, 9218868437227405312 + 1, rfl, rfl, by omega, by omega, by rw [vs_zero]; omega, Nat.lt_trans HC.out.2.2.2.2.1 (vs_mono (by decide) (by decide)), Xfm.out, Xv.out, N1.out, N2.out, hbw⟩
  case round =>
    clear hbw Xfm Xv N1 N2 hN0
    obtain ⟨lo, hi, rfl, rfl, hg, hi1, hlo, hhi, xk, xv, n1, n2, hbw⟩ := hrel
    have Xfm : Hid (B6q wr gfm (U 9223372036854775808) (.int .i64 53) (.int .i64 (-1074)) (.int .i64 971) (U 9218868437227405312) (U 9221120237041090561)) := xk
    have Xv : Hid (B4q wr gv (.slice p1 m1 m1) (.slice p2 m2 m2) (.int .i64 f) (.bool false)) := xv
    have N1 : Hid (RN wr p1 m1 b) := n1
    have N2 : Hid (RN wr p2 m2 1) := n2
    clear xk xv n1 n2
    have HLH : Hid (hi ≤ 9218868437227405313 ∧ vs 4503599627370496 lo ≤ A ∧ A < vs 4503599627370496 hi) := ⟨hi1, hlo, hhi⟩
    clear hi1 hlo hhi
    cases gk with
    | zero =>
      obtain rfl : hi = lo + 1 := by omega
      have w1 : IntKind.u64.wrap (((lo + 1 : Nat) : Int) - (lo : Int)) = 1 := by rw [IntKind.wrap_u64]; have := HLH.out.1; omega
      have HLO : Hid (lo < 9218868437227405312) := by
        refine Nat.lt_of_not_le fun h => ?_
        have h2 : vs 4503599627370496 9218868437227405312 ≤ vs 4503599627370496 lo := by
          rcases Nat.lt_or_eq_of_le h with h6 | h6
          · exact Nat.le_of_lt (vs_mono (by decide) h6)
          · rw [← h6]; exact Nat.le_refl _
        have := HLH.out.2.1; have := HC.out.2.2.2.2.1; omega
      have w2 : ((lo : Int) == 9218868437227405312) = false := by have := HLO.out; simp; omega
      clear hg
      obtain ⟨q, hq⟩ : ∃ q, q = lo / 4503599627370496 - 1 := ⟨_, rfl⟩
      obtain ⟨man, hman⟩ : ∃ man, man = lo - q * 4503599627370496 := ⟨_, rfl⟩
      obtain ⟨ex, hex⟩ : ∃ ex : Int, ex = -1074 + (q : Int) := ⟨_, rfl⟩
      have HPT := rparts_all64 lo (by have := HLO.out; omega)
      rw [← hq, ← hman, ← hex] at HPT
      obtain ⟨ex1, hex1⟩ : ∃ ex1 : Int, ex1 = ex - 1 := ⟨_, rfl⟩
      have HL0 : lo ≠ 0 := by
        intro h0
        have h1 := HLH.out.2.2
        rw [h0, show vs 4503599627370496 (0 + 1) = 1 by decide] at h1
        rw [HC.out.2.2.2.1] at h1
        have h2 : 0 < b * 2 ^ (f + 1074).toNat := Nat.mul_pos (Nat.pos_of_ne_zero HC.out.1) (Nat.two_pow_pos _)
        omega
      have HM0 : Hid (man ≠ 0) := by show _ ≠ _; omega
      clear HL0
      have HM : Hid (man < 9007199254740992 ∧ q ≤ 2046 ∧ (-1300 ≤ ex1 ∧ ex1 ≤ 1100) ∧ (∀ b A f, -1074 ≤ f → A = b * 2 ^ (f + 1074).toNat → cmpN ((2 * man + 1) * 2 ^ (ex1 + 1300).toNat) (b * 2 ^ (f + 1300).toNat) = cmpN ((2 * man + 1) * 2 ^ q) (2 * A)) ∧ rg 0 A = if (2 * man + 1) * 2 ^ q < 2 * A ∨ ((2 * man + 1) * 2 ^ q = 2 * A ∧ lo % 2 = 1) then lo + 1 else lo) := ⟨by have := HLO.out; omega, by have := HLO.out; omega, by have := HLO.out; omega, fun b A f h1 h2 => hold_hv (by omega) h1 h2, rg_by (by rw [HC.out.2.2.2.1]; exact Nat.ne_of_gt (Nat.mul_pos (Nat.pos_of_ne_zero HC.out.1) (Nat.two_pow_pos _))) HLH.out.2.1 HLH.out.2.2 HLO.out hq hman⟩
      have w3 : wrap64 (ex - 1) = ex1 := by have := HLO.out; simp only [wrap64]; omega
      have w4 : IntKind.i64.wrap (ex - 1) = ex1 := by have := HLO.out; simp [IntKind.wrap, IntKind.signed, IntKind.bits]; omega
      clear hq hman hex hex1
      obtain ⟨cfm0, cfm1, cfm2, cfm3, cfm4, cfm5, ffm0, ffm1, ffm2, ffm3, ffm4, ffm5⟩ := Xfm.out
      have hnefm : gfm < wr.heap.size := World.block_lt_of_cell? wr _ cfm0
      go_wp2_with fail
      clear cfm0 cfm1 cfm2 cfm3 cfm4 cfm5 ffm0 ffm1 ffm2 ffm3 ffm4 ffm5 hnefm
      refine (HPT _).mono ?_
      rintro e v1 ⟨rfl, hb1⟩
      replace Xfm : Hid _ := Xfm.out.below hb1
      replace Xv : Hid _ := Xv.out.below hb1
      replace N1 : Hid (RN v1 p1 m1 b) := N1.out.below hb1
      replace N2 : Hid (RN v1 p2 m2 1) := N2.out.below hb1
      replace hbw := Below.on hbw hb1
      clear hb1
      go_wp2_with fail
      obtain ⟨V5, hV5⟩ : ∃ W1, W1 = v1.drew := ⟨_, rfl⟩
      have hbd : Below v1.heap.size v1 V5 := by rw [hV5]; exact bDrew1 (Below.refl _ _)
      replace Xfm : Hid _ := Xfm.out.below hbd
      replace Xv : Hid _ := Xv.out.below hbd
      replace N1 : Hid (RN V5 p1 m1 b) := N1.out.below hbd
      replace N2 : Hid (RN V5 p2 m2 1) := N2.out.below hbd
      replace hbw := Below.on hbw hbd
      clear hbd
      have HJ : Hid ((fun W' : World => W'.cell? ⟨gv, 0, none⟩ = some (.slice p1 m1 m1) ∧ W'.cell? ⟨gv, 1, none⟩ = some (.slice p2 m2 m2) ∧ W'.cell? ⟨gv, 2, none⟩ = some (.int .i64 f) ∧ W'.cell? ⟨gv, 3, none⟩ = some (.bool false)) V5) := ⟨Xv.out.c0, Xv.out.c1, Xv.out.c2, Xv.out.c3⟩
      refine wp_region_J (fun W' => W'.cell? ⟨gv, 0, none⟩ = some (.slice p1 m1 m1) ∧ W'.cell? ⟨gv, 1, none⟩ = some (.slice p2 m2 m2) ∧ W'.cell? ⟨gv, 2, none⟩ = some (.int .i64 f) ∧ W'.cell? ⟨gv, 3, none⟩ = some (.bool false)) (by kernel_rfl) ?_
      rw [← hV5]
      clear hV5
      obtain ⟨c, hc⟩ : ∃ c, c = cmpN ((2 * man + 1) * 2 ^ q) (2 * A) := ⟨_, rfl⟩
      have HCC := Hid.mk9 hc
      clear hc
      refine wpJ_tq 0 rfl HJ.out ?_
      refine wpJ_tq 1 rfl HJ.out ?_
      refine wpJ_tq 6 rfl HJ.out ?_
      refine wpJ_tq 7 rfl HJ.out ?_
      refine wpJ_on 2 rfl fun KJ hK => ?_
      go_simp
      refine (rn_word man (by have := HM.out.1; omega)).mono ?_
      rintro en v12 ⟨p12, m12, rfl, hn12, hb12⟩
      replace Xfm : Hid _ := Xfm.out.below hb12
      replace Xv : Hid _ := Xv.out.below hb12
      replace N1 : Hid (RN v12 p1 m1 b) := N1.out.below hb12
      replace N2 : Hid (RN v12 p2 m2 1) := N2.out.below hb12
      replace hbw := Below.on hbw hb12
      clear hb12
      have N12 : Hid (RN v12 p12 m12 (man)) := hn12
      clear hn12
      refine hK _ _ ⟨Xv.out.c0, Xv.out.c1, Xv.out.c2, Xv.out.c3⟩ ?_
      clear hK
      refine wpJ_on 3 rfl fun KJ hK => ?_
      go_simp
      refine (rn_shl N12.out HM0.out 1 (by decide) (K := 60) (by decide) (by have := HM.out.1; omega)).mono ?_
      rintro en v13 ⟨p13, m13, rfl, hn13, hb13⟩
      replace Xfm : Hid _ := Xfm.out.below hb13
      replace Xv : Hid _ := Xv.out.below hb13
      replace N1 : Hid (RN v13 p1 m1 b) := N1.out.below hb13
      replace N2 : Hid (RN v13 p2 m2 1) := N2.out.below hb13
      replace N12 : Hid (RN v13 p12 m12 (man)) := N12.out.below hb13
      replace hbw := Below.on hbw hb13
      clear hb13
      have N13 : Hid (RN v13 p13 m13 (man * 2 ^ 1)) := hn13
      clear hn13
      refine hK _ _ ⟨Xv.out.c0, Xv.out.c1, Xv.out.c2, Xv.out.c3⟩ ?_
      clear hK
      refine wpJ_on 4 rfl fun KJ hK => ?_
      go_simp
      refine (rn_word 1 (by decide)).mono ?_
      rintro en v14 ⟨p14, m14, rfl, hn14, hb14⟩
      replace Xfm : Hid _ := Xfm.out.below hb14
      replace Xv : Hid _ := Xv.out.below hb14
      replace N1 : Hid (RN v14 p1 m1 b) := N1.out.below hb14
      replace N2 : Hid (RN v14 p2 m2 1) := N2.out.below hb14
      replace N12 : Hid (RN v14 p12 m12 (man)) := N12.out.below hb14
      replace N13 : Hid (RN v14 p13 m13 (man * 2 ^ 1)) := N13.out.below hb14
      replace hbw := Below.on hbw hb14
      clear hb14
      have N14 : Hid (RN v14 p14 m14 (1)) := hn14
      clear hn14
      refine hK _ _ ⟨Xv.out.c0, Xv.out.c1, Xv.out.c2, Xv.out.c3⟩ ?_
      clear hK
      refine wpJ_on 5 rfl fun KJ hK => ?_
      go_simp
      refine (rn_add N13.out N14.out (K := 60) (by decide) (by have := HM.out.1; omega)).mono ?_
      rintro en v15 ⟨p15, m15, rfl, hn15, hb15⟩
      have hn15 := hn15.cast (b := 2 * man + 1) (by omega)
      replace Xfm : Hid _ := Xfm.out.below hb15
      replace Xv : Hid _ := Xv.out.below hb15
      replace N1 : Hid (RN v15 p1 m1 b) := N1.out.below hb15
      replace N2 : Hid (RN v15 p2 m2 1) := N2.out.below hb15
      replace N12 : Hid (RN v15 p12 m12 (man)) := N12.out.below hb15
      replace N13 : Hid (RN v15 p13 m13 (man * 2 ^ 1)) := N13.out.below hb15
      replace N14 : Hid (RN v15 p14 m14 (1)) := N14.out.below hb15
      replace hbw := Below.on hbw hb15
      clear hb15
      have N15 : Hid (RN v15 p15 m15 (2 * man + 1)) := hn15
      clear hn15
      refine hK _ _ ⟨Xv.out.c0, Xv.out.c1, Xv.out.c2, Xv.out.c3⟩ ?_
      clear hK
      refine wpJ_on 8 rfl fun KJ hK => ?_
      go_simp
      refine (hold_ok N15.out N1.out N2.out HC.out.1 ex1 f HM.out.2.2.1 (by have := HC.out.2.1; omega) (by have := bits_le (K := 64) (show 2 * man + 1 < 2 ^ 64 by have := HM.out.1; omega); omega) (by have := HC.out.2.2.1; omega)).mono ?_
      rintro e v16 ⟨rfl, hb16⟩
      rw [HM.out.2.2.2.1 b A f HC.out.2.1.1 HC.out.2.2.2.1, ← HCC.out]
      replace Xfm : Hid _ := Xfm.out.below hb16
      replace Xv : Hid _ := Xv.out.below hb16
      replace N1 : Hid (RN v16 p1 m1 b) := N1.out.below hb16
      replace N2 : Hid (RN v16 p2 m2 1) := N2.out.below hb16
      replace N12 : Hid (RN v16 p12 m12 (man)) := N12.out.below hb16
      replace N13 : Hid (RN v16 p13 m13 (man * 2 ^ 1)) := N13.out.below hb16
      replace N14 : Hid (RN v16 p14 m14 (1)) := N14.out.below hb16
      replace N15 : Hid (RN v16 p15 m15 (2 * man + 1)) := N15.out.below hb16
      replace hbw := Below.on hbw hb16
      clear hb16
      clear HJ
      have HJ : Hid ((fun W' : World => W'.cell? ⟨gv, 0, none⟩ = some (.slice p1 m1 m1) ∧ W'.cell? ⟨gv, 1, none⟩ = some (.slice p2 m2 m2) ∧ W'.cell? ⟨gv, 2, none⟩ = some (.int .i64 f) ∧ W'.cell? ⟨gv, 3, none⟩ = some (.bool false)) v16) := ⟨Xv.out.c0, Xv.out.c1, Xv.out.c2, Xv.out.c3⟩
      refine hK _ _ HJ.out ?_
      clear hK
      refine wpJ_tq 9 rfl HJ.out ?_
      go_simp
      refine wpJ_done (by kernel_rfl) ?_ _
      clear HJ
      rcases Nat.lt_trichotomy ((2 * man + 1) * 2 ^ q) (2 * A) with h1 | h1 | h1
      · obtain rfl : c = -1 := HCC.out.trans (cmpN_lt h1)
        have HRR : Hid (R = lo + 1) := by show _ = _; rw [HC.out.2.2.2.2.2, HM.out.2.2.2.2, if_pos (.inl h1)]
        clear h1 HCC
        have w6 : IntKind.u64.wrap ((lo : Int) + 1) = ((lo + 1 : Nat) : Int) := by rw [IntKind.wrap_u64]; have := HLO.out; omega
        go_wp2_with fail
        rw [HRR.out]
        go_ret
        exact ⟨rfl, hbw⟩
      · obtain rfl : c = 0 := HCC.out.trans (cmpN_eq h1)
        by_cases hod : lo % 2 = 1
        · have HRR : Hid (R = lo + 1) := by show _ = _; rw [HC.out.2.2.2.2.2, HM.out.2.2.2.2, if_pos (.inr ⟨h1, hod⟩)]
          have w7 : (lo : Int) % 2 = 1 := by omega
          clear h1 HCC hod
          have w6 : IntKind.u64.wrap ((lo : Int) + 1) = ((lo + 1 : Nat) : Int) := by rw [IntKind.wrap_u64]; have := HLO.out; omega
          go_wp2_with fail
          rw [HRR.out]
          go_ret
          exact ⟨rfl, hbw⟩
        · have HRR : Hid (R = lo) := by show _ = _; rw [HC.out.2.2.2.2.2, HM.out.2.2.2.2, if_neg (by omega)]
          have w7 : (lo : Int) % 2 = 0 := by omega
          clear h1 HCC hod
          go_wp2_with fail
          rw [HRR.out]
          go_ret
          exact ⟨rfl, hbw⟩
      · obtain rfl : c = 1 := HCC.out.trans (cmpN_gt h1)
        have HRR : Hid (R = lo) := by show _ = _; rw [HC.out.2.2.2.2.2, HM.out.2.2.2.2, if_neg (by omega)]
        clear h1 HCC
        go_wp2_with fail
        rw [HRR.out]
        go_ret
        exact ⟨rfl, hbw⟩
    | succ gj =>
      obtain ⟨d, hd⟩ : ∃ d, d = hi - lo := ⟨_, rfl⟩
      obtain ⟨s, hs⟩ : ∃ s, s = lo + d / 2 := ⟨_, rfl⟩
      have w1 : IntKind.u64.wrap ((hi : Int) - (lo : Int)) = (d : Int) := by rw [IntKind.wrap_u64]; have := HLH.out.1; omega
      obtain ⟨d2, hd2⟩ : ∃ d2, d2 = d / 2 := ⟨_, rfl⟩
      have w4 : IntKind.u64.wrap ((d : Int) / 2) = (d2 : Int) := by rw [IntKind.wrap_u64]; have := HLH.out.1; omega
      have w2 : IntKind.u64.wrap ((lo : Int) + (d2 : Int)) = (s : Int) := by rw [IntKind.wrap_u64]; have := HLH.out.1; omega
      have w3 : decide ((1 : Int) < (d : Int)) = true := decide_eq_true (by omega)
      have HS : Hid (lo < s ∧ s < hi ∧ hi = lo + (gj + 1) + 1) := ⟨by omega, by omega, hg⟩
      clear hg hd hs hd2
      obtain ⟨q, hq⟩ : ∃ q, q = s / 4503599627370496 - 1 := ⟨_, rfl⟩
      obtain ⟨man, hman⟩ : ∃ man, man = s - q * 4503599627370496 := ⟨_, rfl⟩
      obtain ⟨ex, hex⟩ : ∃ ex : Int, ex = -1074 + (q : Int) := ⟨_, rfl⟩
      have HPT := rparts_all64 s (by have := HS.out; have := HLH.out.1; omega)
      rw [← hq, ← hman, ← hex] at HPT
      have HM : Hid (man < 9007199254740992 ∧ q ≤ 2046 ∧ (-1300 ≤ ex ∧ ex ≤ 1100) ∧ ∀ b A f, -1074 ≤ f → A = b * 2 ^ (f + 1074).toNat → cmpN (man * 2 ^ (ex + 1300).toNat) (b * 2 ^ (f + 1300).toNat) = cmpN (vs 4503599627370496 s) A) := ⟨by have := HS.out; have := HLH.out.1; omega, by have := HS.out; have := HLH.out.1; omega, by have := HS.out; have := HLH.out.1; omega, fun b A f h1 h2 => hold_vs hq hman hex h1 h2⟩
      clear hq hman hex
      obtain ⟨cfm0, cfm1, cfm2, cfm3, cfm4, cfm5, ffm0, ffm1, ffm2, ffm3, ffm4, ffm5⟩ := Xfm.out
      have hnefm : gfm < wr.heap.size := World.block_lt_of_cell? wr _ cfm0
      go_wp2_with fail
      clear cfm0 cfm1 cfm2 cfm3 cfm4 cfm5 ffm0 ffm1 ffm2 ffm3 ffm4 ffm5 hnefm
      refine (HPT _).mono ?_
      rintro e v1 ⟨rfl, hb1⟩
      replace Xfm : Hid _ := Xfm.out.below hb1
      replace Xv : Hid _ := Xv.out.below hb1
      replace N1 : Hid (RN v1 p1 m1 b) := N1.out.below hb1
      replace N2 : Hid (RN v1 p2 m2 1) := N2.out.below hb1
      replace hbw := Below.on hbw hb1
      clear hb1
      obtain ⟨cfm0, cfm1, cfm2, cfm3, cfm4, cfm5, ffm0, ffm1, ffm2, ffm3, ffm4, ffm5⟩ := Xfm.out
      have hnefm : gfm < v1.heap.size := World.block_lt_of_cell? v1 _ cfm0
      go_wp2_with fail
      clear cfm0 cfm1 cfm2 cfm3 cfm4 cfm5 ffm0 ffm1 ffm2 ffm3 ffm4 ffm5 hnefm
      obtain ⟨c, hc⟩ : ∃ c, c = cmpN (vs 4503599627370496 s) A := ⟨_, rfl⟩
      have HCC := Hid.mk9 hc
      clear hc
      obtain ⟨V6, hV6⟩ : ∃ W1, W1 = v1.drew := ⟨_, rfl⟩
      have hbd : Below v1.heap.size v1 V6 := by rw [hV6]; exact bDrew1 (Below.refl _ _)
      replace Xfm : Hid _ := Xfm.out.below hbd
      replace Xv : Hid _ := Xv.out.below hbd
      replace N1 : Hid (RN V6 p1 m1 b) := N1.out.below hbd
      replace N2 : Hid (RN V6 p2 m2 1) := N2.out.below hbd
      replace hbw := Below.on hbw hbd
      clear hbd
      have HJ : Hid ((fun W' : World => W'.cell? ⟨gv, 0, none⟩ = some (.slice p1 m1 m1) ∧ W'.cell? ⟨gv, 1, none⟩ = some (.slice p2 m2 m2) ∧ W'.cell? ⟨gv, 2, none⟩ = some (.int .i64 f) ∧ W'.cell? ⟨gv, 3, none⟩ = some (.bool false)) V6) := ⟨Xv.out.c0, Xv.out.c1, Xv.out.c2, Xv.out.c3⟩
      refine wp_region_J (fun W' => W'.cell? ⟨gv, 0, none⟩ = some (.slice p1 m1 m1) ∧ W'.cell? ⟨gv, 1, none⟩ = some (.slice p2 m2 m2) ∧ W'.cell? ⟨gv, 2, none⟩ = some (.int .i64 f) ∧ W'.cell? ⟨gv, 3, none⟩ = some (.bool false)) (by kernel_rfl) ?_
      rw [← hV6]
      clear hV6
      refine wpJ_tq 0 rfl HJ.out ?_
      refine wpJ_tq 1 rfl HJ.out ?_
      refine wpJ_tq 3 rfl HJ.out ?_
      refine wpJ_on 2 rfl fun KJ hK => ?_
      go_simp
      refine (rn_word man (by have := HM.out.1; omega)).mono ?_
      rintro en v9 ⟨p9, m9, rfl, hn9, hb9⟩
      replace Xfm : Hid _ := Xfm.out.below hb9
      replace Xv : Hid _ := Xv.out.below hb9
      replace N1 : Hid (RN v9 p1 m1 b) := N1.out.below hb9
      replace N2 : Hid (RN v9 p2 m2 1) := N2.out.below hb9
      replace hbw := Below.on hbw hb9
      clear hb9
      have N9 : Hid (RN v9 p9 m9 (man)) := hn9
      clear hn9
      refine hK _ _ ⟨Xv.out.c0, Xv.out.c1, Xv.out.c2, Xv.out.c3⟩ ?_
      clear hK
      refine wpJ_on 4 rfl fun KJ hK => ?_
      go_simp
      refine (hold_ok N9.out N1.out N2.out HC.out.1 ex f HM.out.2.2.1 (by have := HC.out.2.1; omega) (by have := bits_le (K := 64) (show man < 2 ^ 64 by have := HM.out.1; omega); omega) (by have := HC.out.2.2.1; omega)).mono ?_
      rintro e v3 ⟨rfl, hb3⟩
      rw [HM.out.2.2.2 b A f HC.out.2.1.1 HC.out.2.2.2.1, ← HCC.out]
      replace Xfm : Hid _ := Xfm.out.below hb3
      replace Xv : Hid _ := Xv.out.below hb3
      replace N1 : Hid (RN v3 p1 m1 b) := N1.out.below hb3
      replace N2 : Hid (RN v3 p2 m2 1) := N2.out.below hb3
      replace N9 : Hid (RN v3 p9 m9 (man)) := N9.out.below hb3
      replace hbw := Below.on hbw hb3
      clear hb3
      clear HJ
      have HJ : Hid ((fun W' : World => W'.cell? ⟨gv, 0, none⟩ = some (.slice p1 m1 m1) ∧ W'.cell? ⟨gv, 1, none⟩ = some (.slice p2 m2 m2) ∧ W'.cell? ⟨gv, 2, none⟩ = some (.int .i64 f) ∧ W'.cell? ⟨gv, 3, none⟩ = some (.bool false)) v3) := ⟨Xv.out.c0, Xv.out.c1, Xv.out.c2, Xv.out.c3⟩
      refine hK _ _ HJ.out ?_
      clear hK
      refine wpJ_tq 5 rfl HJ.out ?_
      go_simp
      refine wpJ_done (by kernel_rfl) ?_ _
      clear HJ
      by_cases hv : vs 4503599627370496 s ≤ A
      · have hc0 : decide (c ≤ 0) = true := decide_eq_true (by rw [HCC.out]; exact (cmpN_le9 _ _).2 hv)
        have hc1 : c ≤ 0 := of_decide_eq_true hc0
        have HV := Hid.mk9 hv
        clear hv
        go_wp2_with fail
        go_roundg (hi - s - 1)
        case measure => have := HS.out; omega
        case rel => exact ⟨s, hi, rfl, rfl, by have := HS.out; omega, by have := HS.out; have := HLH.out.1; omega, HV.out, HLH.out.2.2, Xfm.out, Xv.out, N1.out, N2.out, hbw⟩
      · have hc0 : decide (c ≤ 0) = false := decide_eq_false (by rw [HCC.out, cmpN_le9]; exact hv)
        have hc1 : ¬ c ≤ 0 := of_decide_eq_false hc0
        have HV : Hid (A < vs 4503599627370496 s) := Nat.lt_of_not_le hv
        clear hv
        go_wp2_with fail
        go_roundg (s - lo - 1)
        case measure => have := HS.out; omega
        case rel => exact ⟨lo, s, rfl, rfl, by have := HS.out; omega, by have := HS.out; have := HLH.out.1; omega, HLH.out.2.1, HV.out, Xfm.out, Xv.out, N1.out, N2.out, hbw⟩
def toldN (z : Int) (A : Nat) : Nat := if z < 0 then 9223372036854775808 + rg 0 A else rg 0 A
theorem ZR.rn {w : World} {s : Bool} {p : Option Addr} {m : Nat} {z : Int} (h : ZR w s p m z) (hm : m ≤ 4000) : RN w p m z.natAbs := ⟨h.ex, hm⟩
theorem rg_top9 (n : Nat) : rg 0 n ≤ 9218868437227405312 := by
  unfold rg
  split
  · omega
  · exact Nat.min_le_right _ _
theorem signed_ok (z : Int) (s : Bool) (hs : s = decide (z < 0)) (A : Nat) (w : World) :
    Calls Tryd.prog 27 #[FV 9223372036854775808 53 (-1074) 971 9218868437227405312 9221120237041090561, .bool s, U (rg 0 A)] w fun en w' => en = .returned (U (toldN z A)) ∧ Below w.heap.size w w' := by
  have hr := rg_top9 A
  obtain ⟨R, hR⟩ : ∃ R, R = toldN z A := ⟨_, rfl⟩
  have HR : Hid (R = toldN z A) := hR
  rw [← hR]
  unfold toldN at hR
  generalize rg 0 A = r at hR hr ⊢
  have w1 : IntKind.u64.wrap (9223372036854775808 + (r : Int)) = (((9223372036854775808 + r : Nat)) : Int) := by rw [IntKind.wrap_u64]; omega
  have hR2 : R = if s then 9223372036854775808 + r else r := by rw [hR, hs]; by_cases h : z < 0 <;> simp [h]
  have HR2 : Hid (R = if s then 9223372036854775808 + r else r) := hR2
  clear hR hR2 hs hr HR
  cases s
  · go_enter Tryd.func27, Tryd.ntmps27
    go_wp2_with fail
    have h3 : R = r := by have := HR2.out; simpa using this
    rw [h3]
    go_ret
    exact ⟨rfl, below1 w _⟩
  · go_enter Tryd.func27, Tryd.ntmps27
    go_wp2_with fail
    have h3 : R = 9223372036854775808 + r := by have := HR2.out; simpa using this
    rw [h3]
    go_ret
    exact ⟨rfl, below1 w _⟩
def rFs (x : Int) (k : Nat) : Int := fl (decide (x < 0)) x.natAbs (2 ^ k)
def rFd (x y : Int) : Int := fl (decide (x < 0) != decide (y < 0)) x.natAbs y.natAbs
def rNd (x y : Int) : Int := ne (decide (x < 0) != decide (y < 0)) x.natAbs y.natAbs
def rMo (x y : Int) : Int := mo (decide (x < 0)) (decide (y < 0)) x.natAbs y.natAbs
theorem below4 (w : World) (a b c d : Obj) : Below w.heap.size w ((((w.alloc a).alloc b).alloc c).alloc d) := (below3 w a b c).alloc (by simp; omega) d
theorem rFs_zero (x : Int) : rFs x 0 = x := by
  unfold rFs fl
  rw [Nat.pow_zero, Nat.div_one, Nat.mod_one]
  simp
  exact iv_abs x
theorem rfloorshr04_z {p : Option Addr} {m : Nat} {w : World} {x : Int} (s : Bool) (h : ZR w s p m x) (hm : m ≤ 16384) :
    Calls Tryd.prog 31 #[.agg #[.bool s, .slice p m m], .int .i64 0] w fun e w' => ∃ v, e = .returned v ∧ GotR w.heap.size w' v (x) (m + 4) ∧ Below w.heap.size w w' := by
  obtain ⟨xs, hAx, hNx⟩ := h.ex
  have HA : Hid (ZR w s p m x) := h
  have AX : Hid (At32 w p m m xs) := hAx
  have NX : Hid (Nf B32 xs x.natAbs) := hNx
  have HM : Hid (m ≤ 16384) := hm
  clear h hm hAx hNx
  go_enter Tryd.func31, Tryd.ntmps31
  go_wp2_with fail
  obtain ⟨W0, hW0⟩ : ∃ W0, W0 = ((w.alloc (.cells #[.bool s, .slice p m m] 50)).alloc (.cells #[.bool false, .slice none 0 0] 50)) := ⟨_, rfl⟩
  have Xa : Hid (Box W0 (w.heap.size) (.bool s) (.slice p m m)) := by rw [hW0]; exact ⟨by go_simp, by go_simp, by go_simp, by go_simp⟩
  have Xr : Hid (Box W0 (w.heap.size + 1) (.bool false) (.slice none 0 0)) := by rw [hW0]; exact ⟨by go_simp, by go_simp, by go_simp, by go_simp⟩
  have hb0 : Below w.heap.size w W0 := by rw [hW0]; exact below2 w _ _
  rw [← hW0]
  clear hW0
  have hbw : Below w.heap.size w w := Below.refl _ _
  obtain ⟨gr, hgr⟩ : ∃ g, g = w.heap.size + 1 := ⟨_, rfl⟩
  have HGr : Hid (w.heap.size ≤ gr) := by rw [hgr]; show _ ≤ _; omega
  rw [← hgr] at Xr
  try rw [← hgr]
  obtain ⟨ga, hga⟩ : ∃ g, g = w.heap.size := ⟨_, rfl⟩
  have HGa : Hid (w.heap.size ≤ ga) := by rw [hga]; show _ ≤ _; omega
  rw [← hga] at Xa
  try rw [← hga]
  have HGD : Hid (ga ≠ gr ∧ gr ≠ ga) := by rw [hga, hgr]; exact ⟨by omega, by omega⟩
  clear hga hgr
  replace hbw := Below.on hbw hb0
  clear hb0
  have HRB : Hid (gr < W0.heap.size ∧ w.heap.size ≤ W0.heap.size) := ⟨Xr.out.lt, hbw.size⟩
  have AX1 := AX.out.below hbw
  refine (rmk_any s AX1 NX.out (by have := HM.out; omega)).mono ?_
  rintro e v9 ⟨v, rfl, hv, hb9⟩
  obtain ⟨s9, g9, m9, rfl, hg9, hz9, hl9⟩ := hv
  have HN9 : Hid (W0.heap.size ≤ g9) := hg9
  replace Xa : Hid _ := Xa.out.below hb9
  replace Xr : Hid _ := Xr.out.below hb9
  replace hbw := Below.on hbw hb9
  clear hb9
  have Z9 : Hid (ZR v9 s9 (some ⟨g9, 0, none⟩) m9 (iv s x.natAbs)) := hz9
  have HL9 : Hid (m9 ≤ m) := hl9
  clear hz9 hl9 hg9
  have Z9' := Z9.out.cast HA.out.iv
  clear Z9
  have Z9 : Hid (ZR v9 s9 (some ⟨g9, 0, none⟩) m9 x) := Z9'
  clear Z9' AX1
  obtain ⟨cr0, cr1, fr0, fr1⟩ := Xr.out
  have hner := Xr.out.lt
  go_wp2_with fail
  refine bodyPost_ret (v := .agg #[.bool s9, .slice (some ⟨g9, 0, none⟩) m9 m9]) (by rw [results_cell1 rfl]; go_simp) rfl ⟨_, rfl, ⟨s9, g9, m9, rfl, Nat.le_trans HRB.out.2 HN9.out, ?_, Nat.le_trans HL9.out (Nat.le_add_right _ _)⟩, ?_⟩
  · have := HN9.out; have := HRB.out.1
    exact (Z9.out.set _ _ _ (by omega)).set _ _ _ (by omega)
  · exact bSet (bSet hbw _ _ _ HGr.out) _ _ _ HGr.out
theorem rfloorshr04_p {p : Option Addr} {m : Nat} {w : World} {x : Int} (h : ZR w false p m x) (hm : m ≤ 16384) (k : Nat) (hk : 0 < k) (hk2 : k ≤ 9223372036854775807) :
    Calls Tryd.prog 31 #[.agg #[.bool false, .slice p m m], .int .i64 k] w fun e w' => ∃ v, e = .returned v ∧ GotR w.heap.size w' v (rFs x k) (m + 4) ∧ Below w.heap.size w w' := by
  obtain ⟨xs, hAx, hNx⟩ := h.ex
  have HA : Hid (ZR w false p m x) := h
  have AX : Hid (At32 w p m m xs) := hAx
  have NX : Hid (Nf B32 xs x.natAbs) := hNx
  have HM : Hid (m ≤ 16384) := hm
  have HK : Hid (0 < k ∧ k ≤ 9223372036854775807) := ⟨hk, hk2⟩
  have h1 : ¬ (k : Int) ≤ 0 := by omega
  have HRV : Hid (rFs x k = iv false (x.natAbs / 2 ^ k)) := by show _ = _; unfold rFs fl; rw [← HA.out.sg]; simp
  rw [HRV.out]
  clear HRV
  clear h hm hAx hNx hk hk2
  go_enter Tryd.func31, Tryd.ntmps31
  go_wp2_with fail
  obtain ⟨W0, hW0⟩ : ∃ W0, W0 = ((w.alloc (.cells #[.bool false, .slice p m m] 50)).alloc (.cells #[.bool false, .slice none 0 0] 50)) := ⟨_, rfl⟩
  have Xa : Hid (Box W0 (w.heap.size) (.bool false) (.slice p m m)) := by rw [hW0]; exact ⟨by go_simp, by go_simp, by go_simp, by go_simp⟩
  have Xr : Hid (Box W0 (w.heap.size + 1) (.bool false) (.slice none 0 0)) := by rw [hW0]; exact ⟨by go_simp, by go_simp, by go_simp, by go_simp⟩
  have hb0 : Below w.heap.size w W0 := by rw [hW0]; exact below2 w _ _
  rw [← hW0]
  clear hW0
  have hbw : Below w.heap.size w w := Below.refl _ _
  obtain ⟨gr, hgr⟩ : ∃ g, g = w.heap.size + 1 := ⟨_, rfl⟩
  have HGr : Hid (w.heap.size ≤ gr) := by rw [hgr]; show _ ≤ _; omega
  rw [← hgr] at Xr
  try rw [← hgr]
  obtain ⟨ga, hga⟩ : ∃ g, g = w.heap.size := ⟨_, rfl⟩
  have HGa : Hid (w.heap.size ≤ ga) := by rw [hga]; show _ ≤ _; omega
  rw [← hga] at Xa
  try rw [← hga]
  have HGD : Hid (ga ≠ gr ∧ gr ≠ ga) := by rw [hga, hgr]; exact ⟨by omega, by omega⟩
  clear hga hgr
  replace hbw := Below.on hbw hb0
  clear hb0
  obtain ⟨W1, hW1⟩ : ∃ W1, W1 = W0.drew := ⟨_, rfl⟩
  have hbd : Below W0.heap.size W0 W1 := by rw [hW1]; exact bDrew1 (Below.refl _ _)
  replace Xa : Hid _ := Xa.out.below hbd
  replace Xr : Hid _ := Xr.out.below hbd
  replace hbw := Below.on hbw hbd
  clear hbd
  have HJ : Hid ((fun W' : World => W'.cell? ⟨ga, 0, none⟩ = some (.bool false) ∧ W'.cell? ⟨ga, 1, none⟩ = some (.slice p m m)) W1) := ⟨Xa.out.c0, Xa.out.c1⟩
  refine wp_region_J (fun W' => W'.cell? ⟨ga, 0, none⟩ = some (.bool false) ∧ W'.cell? ⟨ga, 1, none⟩ = some (.slice p m m)) (by kernel_rfl) ?_
  rw [← hW1]
  clear hW1
  refine wpJ_tq 0 rfl HJ.out ?_
  refine wpJ_tq 1 rfl HJ.out ?_
  refine wpJ_tq 2 rfl HJ.out ?_
  refine wpJ_tq 3 rfl HJ.out ?_
  refine wpJ_tq 4 rfl HJ.out ?_
  refine wpJ_cutA (fun a0 a' W' => ∃ gq s4 g4 m4 p2 m2, a' = (((a0.put (some 18) (.slice p2 m2 m2)).put (some 19) (.agg #[.bool s4, .slice (some ⟨g4, 0, none⟩) m4 m4])).put (some 5) (.pointer (some ⟨gq, 0, none⟩))) ∧ Box W' ga (.bool false) (.slice p m m) ∧ Box W' gr (.bool false) (.slice none 0 0) ∧ Box W' gq (.bool s4) (.slice (some ⟨g4, 0, none⟩) m4 m4) ∧ ZR W' s4 (some ⟨g4, 0, none⟩) m4 (iv false (x.natAbs / 2 ^ k)) ∧ m4 ≤ m ∧ w.heap.size ≤ g4 ∧ gr < g4 ∧ gr ≠ gq ∧ Below w.heap.size w W') ?_ ?_
  · rintro a' Wc ⟨gq, s4, g4, m4, p2, m2, rfl, xa, xr, xq, z4, hHLq, hHN4, hHR4, hHDrq, hbc⟩
    have Ca : Hid (Box Wc ga (.bool false) (.slice p m m)) := xa
    have Cr : Hid (Box Wc gr (.bool false) (.slice none 0 0)) := xr
    have Cq : Hid (Box Wc gq (.bool s4) (.slice (some ⟨g4, 0, none⟩) m4 m4)) := xq
    have Z4 : Hid (ZR Wc s4 (some ⟨g4, 0, none⟩) m4 (iv false (x.natAbs / 2 ^ k))) := z4
    have HLq : Hid (m4 ≤ m) := hHLq
    have HN4 : Hid (w.heap.size ≤ g4) := hHN4
    have HR4 : Hid (gr < g4) := hHR4
    have HDrq : Hid (gr ≠ gq) := hHDrq
    clear hbw HJ Xa Xr xa xr xq z4 hHLq hHN4 hHR4 hHDrq
    have hbw := hbc
    have Xa := Ca
    have Xr := Cr
    have Xq := Cq
    clear hbc Ca Cr Cq
    obtain ⟨ca0, ca1, fa0, fa1⟩ := Xa.out
    have hnea := Xa.out.lt
    obtain ⟨cq0, cq1, fq0, fq1⟩ := Xq.out
    have hneq := Xq.out.lt
    obtain ⟨cr0, cr1, fr0, fr1⟩ := Xr.out
    have hner := Xr.out.lt
    go_wp2_with fail
    refine bodyPost_ret (v := .agg #[.bool s4, .slice (some ⟨g4, 0, none⟩) m4 m4]) (by rw [results_cell1 rfl]; go_simp) rfl ⟨_, rfl, ⟨s4, g4, m4, rfl, HN4.out, ?_, Nat.le_trans HLq.out (Nat.le_add_right _ _)⟩, ?_⟩
    · have := HR4.out
      exact (Z4.out.set _ _ _ (by omega)).set _ _ _ (by omega)
    · exact bSet (bSet hbw _ _ _ HGr.out) _ _ _ HGr.out
  · skip
    refine wpJ_two (i := 5) (k := 7) (by kernel_rfl) rfl rfl (by kernel_rfl) (by kernel_rfl) (fun KJ hK => ?_) (fun KJ hK => ?_)
    · go_simp
      refine (rfshr_any (AX.out.below hbw) NX.out HM.out k HK.out.1 HK.out.2).mono ?_
      rintro e v2 ⟨p2, m2, z2, rfl, hA2, hN2, hl2, hb2⟩
      replace Xa : Hid _ := Xa.out.below hb2
      replace Xr : Hid _ := Xr.out.below hb2
      replace hbw := Below.on hbw hb2
      clear hb2
      have A2 : Hid (At32 v2 p2 m2 m2 z2) := hA2
      have N2 : Hid (Nf B32 z2 (x.natAbs / 2 ^ k) ∧ m2 ≤ m) := ⟨hN2, hl2⟩
      clear hA2 hN2 hl2
      clear HJ
      have HJ : Hid ((fun W' : World => W'.cell? ⟨ga, 0, none⟩ = some (.bool false) ∧ W'.cell? ⟨ga, 1, none⟩ = some (.slice p m m)) v2) := ⟨Xa.out.c0, Xa.out.c1⟩
      refine hK _ _ HJ.out ?_
      clear hK
      refine wpJ_two (i := 6) (k := 7) (by kernel_rfl) rfl rfl (by kernel_rfl) (by kernel_rfl) (fun KJ hK => ?_) (fun KJ hK => ?_)
      · go_simp
        refine (rmk_any false A2.out N2.out.1 (by have := N2.out.2; have := HM.out; omega)).mono ?_
        rintro e v4 ⟨v, rfl, hv, hb4⟩
        obtain ⟨s4, g4, m4, rfl, hg4, hz4, hl4⟩ := hv
        have HN4 : Hid (w.heap.size ≤ g4) := Nat.le_trans hbw.size hg4
        have HR4 : Hid (gr < g4) := Nat.lt_of_lt_of_le Xr.out.lt hg4
        replace Xa : Hid _ := Xa.out.below hb4
        replace Xr : Hid _ := Xr.out.below hb4
        replace A2 : Hid _ := A2.out.below hb4
        replace hbw := Below.on hbw hb4
        clear hb4
        have Z4 : Hid (ZR v4 s4 (some ⟨g4, 0, none⟩) m4 (iv false (x.natAbs / 2 ^ k))) := hz4
        have HL4 : Hid (m4 ≤ m2) := hl4
        clear hz4 hl4 hg4
        have HLq : Hid (m4 ≤ m) := Nat.le_trans HL4.out N2.out.2
        clear HL4 N2
        refine hK _ _ ⟨Xa.out.c0, Xa.out.c1⟩ ?_
        clear hK
        refine wpJ_on 7 rfl fun KJ hK => ?_
        go_simp
        have HDq : Hid (ga ≠ v4.heap.size ∧ gr ≠ v4.heap.size) := ⟨Nat.ne_of_lt Xa.out.lt, Nat.ne_of_lt Xr.out.lt⟩
        have HO4q : Hid (OffR g4 m4 v4.heap.size) := Z4.out.off_new
        have HDrq : Hid (gr ≠ v4.heap.size) := Nat.ne_of_lt Xr.out.lt
        have Xq0 : Hid (Box (v4.alloc (.cells #[.bool false, .slice none 0 0] 50)) v4.heap.size (.bool false) (.slice none 0 0)) := Box.new v4 _ _ _
        have hbn : Below v4.heap.size v4 (v4.alloc (.cells #[.bool false, .slice none 0 0] 50)) := below1 v4 _
        generalize v4.alloc (.cells #[.bool false, .slice none 0 0] 50) = Wq at *
        have HGq : Hid (w.heap.size ≤ v4.heap.size) := hbw.size
        replace Xa : Hid _ := Xa.out.below hbn
        replace Xr : Hid _ := Xr.out.below hbn
        replace A2 : Hid _ := A2.out.below hbn
        replace Z4 : Hid _ := Z4.out.below hbn
        replace hbw := Below.on hbw hbn
        clear hbn
        generalize v4.heap.size = gq at *
        have Xq := Xq0
        clear Xq0
        refine hK _ _ ⟨Xa.out.c0, Xa.out.c1⟩ ?_
        clear hK
        obtain ⟨cq0, cq1, fq0, fq1⟩ := Xq.out
        have hneq := Xq.out.lt
        obtain ⟨ca0, ca1, fa0, fa1⟩ := Xa.out
        have hnea := Xa.out.lt
        obtain ⟨cr0, cr1, fr0, fr1⟩ := Xr.out
        have hner := Xr.out.lt
        have qqa : ga ≠ gq := HDq.out.1
        have qaq : gq ≠ ga := fun h => qqa h.symm
        have qqr : gr ≠ gq := HDq.out.2
        have qrq : gq ≠ gr := fun h => qqr h.symm
        refine wpJ_on 8 rfl fun KJ hK => ?_
        go_simp
        have HJ2 : Hid ((fun W' : World => W'.cell? ⟨ga, 0, none⟩ = some (.bool false) ∧ W'.cell? ⟨ga, 1, none⟩ = some (.slice p m m)) ((Wq.setCell ⟨gq, 0, none⟩ (.bool s4)).setCell ⟨gq, 1, none⟩ (.slice (some ⟨g4, 0, none⟩) m4 m4))) := ⟨by go_simp, by go_simp⟩
        have Xq2 : Hid (Box ((Wq.setCell ⟨gq, 0, none⟩ (.bool s4)).setCell ⟨gq, 1, none⟩ (.slice (some ⟨g4, 0, none⟩) m4 m4)) gq (.bool s4) (.slice (some ⟨g4, 0, none⟩) m4 m4)) := ⟨by go_simp, by go_simp, by go_simp, by go_simp⟩
        have Xa2 : Hid (Box ((Wq.setCell ⟨gq, 0, none⟩ (.bool s4)).setCell ⟨gq, 1, none⟩ (.slice (some ⟨g4, 0, none⟩) m4 m4)) ga (.bool false) (.slice p m m)) := ⟨by go_simp, by go_simp, by go_simp, by go_simp⟩
        have Xr2 : Hid (Box ((Wq.setCell ⟨gq, 0, none⟩ (.bool s4)).setCell ⟨gq, 1, none⟩ (.slice (some ⟨g4, 0, none⟩) m4 m4)) gr (.bool false) (.slice none 0 0)) := ⟨by go_simp, by go_simp, by go_simp, by go_simp⟩
        have Z42 : Hid (ZR ((Wq.setCell ⟨gq, 0, none⟩ (.bool s4)).setCell ⟨gq, 1, none⟩ (.slice (some ⟨g4, 0, none⟩) m4 m4)) s4 (some ⟨g4, 0, none⟩) m4 (iv false (x.natAbs / 2 ^ k))) := (Z4.out.setOff HO4q.out _ _).setOff HO4q.out _ _
        have hbw2 : Below w.heap.size w ((Wq.setCell ⟨gq, 0, none⟩ (.bool s4)).setCell ⟨gq, 1, none⟩ (.slice (some ⟨g4, 0, none⟩) m4 m4)) := bSet (bSet hbw _ _ _ HGq.out) _ _ _ HGq.out
        refine hK _ _ HJ2.out ?_
        clear hK HJ
        have HJ := HJ2
        clear HJ2 hbw A2 Z4
        clear cq0 cq1 fq0 fq1 hneq
        clear ca0 ca1 fa0 fa1 hnea
        clear cr0 cr1 fr0 fr1 hner
        clear qqa qaq qqr qrq Xq Xa Xr
        generalize ((Wq.setCell ⟨gq, 0, none⟩ (.bool s4)).setCell ⟨gq, 1, none⟩ (.slice (some ⟨g4, 0, none⟩) m4 m4)) = Ws0 at *
        have hbw := hbw2
        have Z4 := Z42
        have Xq := Xq2
        have Xa := Xa2
        have Xr := Xr2
        clear hbw2 Z42 Xq2 Xa2 Xr2
        refine wpJ_done (by kernel_rfl) ?_ _
        exact ⟨rfl, gq, s4, g4, m4, p2, m2, by kernel_rfl, Xa.out, Xr.out, Xq.out, Z4.out, HLq.out, HN4.out, HR4.out, HDrq.out, hbw⟩
      · go_simp
        have HDq : Hid (ga ≠ v2.heap.size ∧ gr ≠ v2.heap.size) := ⟨Nat.ne_of_lt Xa.out.lt, Nat.ne_of_lt Xr.out.lt⟩
        have HDrq : Hid (gr ≠ v2.heap.size) := Nat.ne_of_lt Xr.out.lt
        have Xq0 : Hid (Box (v2.alloc (.cells #[.bool false, .slice none 0 0] 50)) v2.heap.size (.bool false) (.slice none 0 0)) := Box.new v2 _ _ _
        have hbn : Below v2.heap.size v2 (v2.alloc (.cells #[.bool false, .slice none 0 0] 50)) := below1 v2 _
        generalize v2.alloc (.cells #[.bool false, .slice none 0 0] 50) = Wq at *
        have HGq : Hid (w.heap.size ≤ v2.heap.size) := hbw.size
        replace Xa : Hid _ := Xa.out.below hbn
        replace Xr : Hid _ := Xr.out.below hbn
        replace A2 : Hid _ := A2.out.below hbn
        replace hbw := Below.on hbw hbn
        clear hbn
        generalize v2.heap.size = gq at *
        have Xq := Xq0
        clear Xq0
        refine hK _ _ ⟨Xa.out.c0, Xa.out.c1⟩ ?_
        clear hK
        refine wpJ_on 6 rfl fun KJ hK => ?_
        go_simp
        refine (rmk_any false A2.out N2.out.1 (by have := N2.out.2; have := HM.out; omega)).mono ?_
        rintro e v4 ⟨v, rfl, hv, hb4⟩
        obtain ⟨s4, g4, m4, rfl, hg4, hz4, hl4⟩ := hv
        have HO4q : Hid (OffR g4 m4 gq) := .inr (Nat.ne_of_gt (Nat.lt_of_lt_of_le Xq.out.lt hg4))
        have HN4 : Hid (w.heap.size ≤ g4) := Nat.le_trans hbw.size hg4
        have HR4 : Hid (gr < g4) := Nat.lt_of_lt_of_le Xr.out.lt hg4
        replace Xa : Hid _ := Xa.out.below hb4
        replace Xr : Hid _ := Xr.out.below hb4
        replace Xq : Hid _ := Xq.out.below hb4
        replace A2 : Hid _ := A2.out.below hb4
        replace hbw := Below.on hbw hb4
        clear hb4
        have Z4 : Hid (ZR v4 s4 (some ⟨g4, 0, none⟩) m4 (iv false (x.natAbs / 2 ^ k))) := hz4
        have HL4 : Hid (m4 ≤ m2) := hl4
        clear hz4 hl4 hg4
        have HLq : Hid (m4 ≤ m) := Nat.le_trans HL4.out N2.out.2
        clear HL4 N2
        refine hK _ _ ⟨Xa.out.c0, Xa.out.c1⟩ ?_
        clear hK
        obtain ⟨cq0, cq1, fq0, fq1⟩ := Xq.out
        have hneq := Xq.out.lt
        obtain ⟨ca0, ca1, fa0, fa1⟩ := Xa.out
        have hnea := Xa.out.lt
        obtain ⟨cr0, cr1, fr0, fr1⟩ := Xr.out
        have hner := Xr.out.lt
        have qqa : ga ≠ gq := HDq.out.1
        have qaq : gq ≠ ga := fun h => qqa h.symm
        have qqr : gr ≠ gq := HDq.out.2
        have qrq : gq ≠ gr := fun h => qqr h.symm
        refine wpJ_on 8 rfl fun KJ hK => ?_
        go_simp
        have HJ2 : Hid ((fun W' : World => W'.cell? ⟨ga, 0, none⟩ = some (.bool false) ∧ W'.cell? ⟨ga, 1, none⟩ = some (.slice p m m)) ((v4.setCell ⟨gq, 0, none⟩ (.bool s4)).setCell ⟨gq, 1, none⟩ (.slice (some ⟨g4, 0, none⟩) m4 m4))) := ⟨by go_simp, by go_simp⟩
        have Xq2 : Hid (Box ((v4.setCell ⟨gq, 0, none⟩ (.bool s4)).setCell ⟨gq, 1, none⟩ (.slice (some ⟨g4, 0, none⟩) m4 m4)) gq (.bool s4) (.slice (some ⟨g4, 0, none⟩) m4 m4)) := ⟨by go_simp, by go_simp, by go_simp, by go_simp⟩
        have Xa2 : Hid (Box ((v4.setCell ⟨gq, 0, none⟩ (.bool s4)).setCell ⟨gq, 1, none⟩ (.slice (some ⟨g4, 0, none⟩) m4 m4)) ga (.bool false) (.slice p m m)) := ⟨by go_simp, by go_simp, by go_simp, by go_simp⟩
        have Xr2 : Hid (Box ((v4.setCell ⟨gq, 0, none⟩ (.bool s4)).setCell ⟨gq, 1, none⟩ (.slice (some ⟨g4, 0, none⟩) m4 m4)) gr (.bool false) (.slice none 0 0)) := ⟨by go_simp, by go_simp, by go_simp, by go_simp⟩
        have Z42 : Hid (ZR ((v4.setCell ⟨gq, 0, none⟩ (.bool s4)).setCell ⟨gq, 1, none⟩ (.slice (some ⟨g4, 0, none⟩) m4 m4)) s4 (some ⟨g4, 0, none⟩) m4 (iv false (x.natAbs / 2 ^ k))) := (Z4.out.setOff HO4q.out _ _).setOff HO4q.out _ _
        have hbw2 : Below w.heap.size w ((v4.setCell ⟨gq, 0, none⟩ (.bool s4)).setCell ⟨gq, 1, none⟩ (.slice (some ⟨g4, 0, none⟩) m4 m4)) := bSet (bSet hbw _ _ _ HGq.out) _ _ _ HGq.out
        refine hK _ _ HJ2.out ?_
        clear hK HJ
        have HJ := HJ2
        clear HJ2 hbw A2 Z4
        clear cq0 cq1 fq0 fq1 hneq
        clear ca0 ca1 fa0 fa1 hnea
        clear cr0 cr1 fr0 fr1 hner
        clear qqa qaq qqr qrq Xq Xa Xr
        generalize ((v4.setCell ⟨gq, 0, none⟩ (.bool s4)).setCell ⟨gq, 1, none⟩ (.slice (some ⟨g4, 0, none⟩) m4 m4)) = Ws0 at *
        have hbw := hbw2
        have Z4 := Z42
        have Xq := Xq2
        have Xa := Xa2
        have Xr := Xr2
        clear hbw2 Z42 Xq2 Xa2 Xr2
        refine wpJ_done (by kernel_rfl) ?_ _
        exact ⟨rfl, gq, s4, g4, m4, p2, m2, by kernel_rfl, Xa.out, Xr.out, Xq.out, Z4.out, HLq.out, HN4.out, HR4.out, HDrq.out, hbw⟩
    · go_simp
      have HDq : Hid (ga ≠ W1.heap.size ∧ gr ≠ W1.heap.size) := ⟨Nat.ne_of_lt Xa.out.lt, Nat.ne_of_lt Xr.out.lt⟩
      have HDrq : Hid (gr ≠ W1.heap.size) := Nat.ne_of_lt Xr.out.lt
      have Xq0 : Hid (Box (W1.alloc (.cells #[.bool false, .slice none 0 0] 50)) W1.heap.size (.bool false) (.slice none 0 0)) := Box.new W1 _ _ _
      have hbn : Below W1.heap.size W1 (W1.alloc (.cells #[.bool false, .slice none 0 0] 50)) := below1 W1 _
      generalize W1.alloc (.cells #[.bool false, .slice none 0 0] 50) = Wq at *
      have HGq : Hid (w.heap.size ≤ W1.heap.size) := hbw.size
      replace Xa : Hid _ := Xa.out.below hbn
      replace Xr : Hid _ := Xr.out.below hbn
      replace hbw := Below.on hbw hbn
      clear hbn
      generalize W1.heap.size = gq at *
      have Xq := Xq0
      clear Xq0
      refine hK _ _ ⟨Xa.out.c0, Xa.out.c1⟩ ?_
      clear hK
      refine wpJ_on 5 rfl fun KJ hK => ?_
      go_simp
      refine (rfshr_any (AX.out.below hbw) NX.out HM.out k HK.out.1 HK.out.2).mono ?_
      rintro e v2 ⟨p2, m2, z2, rfl, hA2, hN2, hl2, hb2⟩
      replace Xa : Hid _ := Xa.out.below hb2
      replace Xr : Hid _ := Xr.out.below hb2
      replace Xq : Hid _ := Xq.out.below hb2
      replace hbw := Below.on hbw hb2
      clear hb2
      have A2 : Hid (At32 v2 p2 m2 m2 z2) := hA2
      have N2 : Hid (Nf B32 z2 (x.natAbs / 2 ^ k) ∧ m2 ≤ m) := ⟨hN2, hl2⟩
      clear hA2 hN2 hl2
      refine hK _ _ ⟨Xa.out.c0, Xa.out.c1⟩ ?_
      clear hK
      refine wpJ_on 6 rfl fun KJ hK => ?_
      go_simp
      refine (rmk_any false A2.out N2.out.1 (by have := N2.out.2; have := HM.out; omega)).mono ?_
      rintro e v4 ⟨v, rfl, hv, hb4⟩
      obtain ⟨s4, g4, m4, rfl, hg4, hz4, hl4⟩ := hv
      have HO4q : Hid (OffR g4 m4 gq) := .inr (Nat.ne_of_gt (Nat.lt_of_lt_of_le Xq.out.lt hg4))
      have HN4 : Hid (w.heap.size ≤ g4) := Nat.le_trans hbw.size hg4
      have HR4 : Hid (gr < g4) := Nat.lt_of_lt_of_le Xr.out.lt hg4
      replace Xa : Hid _ := Xa.out.below hb4
      replace Xr : Hid _ := Xr.out.below hb4
      replace Xq : Hid _ := Xq.out.below hb4
      replace A2 : Hid _ := A2.out.below hb4
      replace hbw := Below.on hbw hb4
      clear hb4
      have Z4 : Hid (ZR v4 s4 (some ⟨g4, 0, none⟩) m4 (iv false (x.natAbs / 2 ^ k))) := hz4
      have HL4 : Hid (m4 ≤ m2) := hl4
      clear hz4 hl4 hg4
      have HLq : Hid (m4 ≤ m) := Nat.le_trans HL4.out N2.out.2
      clear HL4 N2
      refine hK _ _ ⟨Xa.out.c0, Xa.out.c1⟩ ?_
      clear hK
      obtain ⟨cq0, cq1, fq0, fq1⟩ := Xq.out
      have hneq := Xq.out.lt
      obtain ⟨ca0, ca1, fa0, fa1⟩ := Xa.out
      have hnea := Xa.out.lt
      obtain ⟨cr0, cr1, fr0, fr1⟩ := Xr.out
      have hner := Xr.out.lt
      have qqa : ga ≠ gq := HDq.out.1
      have qaq : gq ≠ ga := fun h => qqa h.symm
      have qqr : gr ≠ gq := HDq.out.2
      have qrq : gq ≠ gr := fun h => qqr h.symm
      refine wpJ_on 8 rfl fun KJ hK => ?_
      go_simp
      have HJ2 : Hid ((fun W' : World => W'.cell? ⟨ga, 0, none⟩ = some (.bool false) ∧ W'.cell? ⟨ga, 1, none⟩ = some (.slice p m m)) ((v4.setCell ⟨gq, 0, none⟩ (.bool s4)).setCell ⟨gq, 1, none⟩ (.slice (some ⟨g4, 0, none⟩) m4 m4))) := ⟨by go_simp, by go_simp⟩
      have Xq2 : Hid (Box ((v4.setCell ⟨gq, 0, none⟩ (.bool s4)).setCell ⟨gq, 1, none⟩ (.slice (some ⟨g4, 0, none⟩) m4 m4)) gq (.bool s4) (.slice (some ⟨g4, 0, none⟩) m4 m4)) := ⟨by go_simp, by go_simp, by go_simp, by go_simp⟩
      have Xa2 : Hid (Box ((v4.setCell ⟨gq, 0, none⟩ (.bool s4)).setCell ⟨gq, 1, none⟩ (.slice (some ⟨g4, 0, none⟩) m4 m4)) ga (.bool false) (.slice p m m)) := ⟨by go_simp, by go_simp, by go_simp, by go_simp⟩
      have Xr2 : Hid (Box ((v4.setCell ⟨gq, 0, none⟩ (.bool s4)).setCell ⟨gq, 1, none⟩ (.slice (some ⟨g4, 0, none⟩) m4 m4)) gr (.bool false) (.slice none 0 0)) := ⟨by go_simp, by go_simp, by go_simp, by go_simp⟩
      have Z42 : Hid (ZR ((v4.setCell ⟨gq, 0, none⟩ (.bool s4)).setCell ⟨gq, 1, none⟩ (.slice (some ⟨g4, 0, none⟩) m4 m4)) s4 (some ⟨g4, 0, none⟩) m4 (iv false (x.natAbs / 2 ^ k))) := (Z4.out.setOff HO4q.out _ _).setOff HO4q.out _ _
      have hbw2 : Below w.heap.size w ((v4.setCell ⟨gq, 0, none⟩ (.bool s4)).setCell ⟨gq, 1, none⟩ (.slice (some ⟨g4, 0, none⟩) m4 m4)) := bSet (bSet hbw _ _ _ HGq.out) _ _ _ HGq.out
      refine hK _ _ HJ2.out ?_
      clear hK HJ
      have HJ := HJ2
      clear HJ2 hbw A2 Z4
      clear cq0 cq1 fq0 fq1 hneq
      clear ca0 ca1 fa0 fa1 hnea
      clear cr0 cr1 fr0 fr1 hner
      clear qqa qaq qqr qrq Xq Xa Xr
      generalize ((v4.setCell ⟨gq, 0, none⟩ (.bool s4)).setCell ⟨gq, 1, none⟩ (.slice (some ⟨g4, 0, none⟩) m4 m4)) = Ws0 at *
      have hbw := hbw2
      have Z4 := Z42
      have Xq := Xq2
      have Xa := Xa2
      have Xr := Xr2
      clear hbw2 Z42 Xq2 Xa2 Xr2
      refine wpJ_done (by kernel_rfl) ?_ _
      exact ⟨rfl, gq, s4, g4, m4, p2, m2, by kernel_rfl, Xa.out, Xr.out, Xq.out, Z4.out, HLq.out, HN4.out, HR4.out, HDrq.out, hbw⟩
theorem rfloorshr04_n0 {p : Option Addr} {m : Nat} {w : World} {x : Int} (h : ZR w true p m x) (hm : m ≤ 16384) (k : Nat) (hk : 0 < k) (hk2 : k ≤ 9223372036854775807) (hlo : x.natAbs % 2 ^ k = 0) :
    Calls Tryd.prog 31 #[.agg #[.bool true, .slice p m m], .int .i64 k] w fun e w' => ∃ v, e = .returned v ∧ GotR w.heap.size w' v (rFs x k) (m + 4) ∧ Below w.heap.size w w' := by
  obtain ⟨xs, hAx, hNx⟩ := h.ex
  have HA : Hid (ZR w true p m x) := h
  have AX : Hid (At32 w p m m xs) := hAx
  have NX : Hid (Nf B32 xs x.natAbs) := hNx
  have HM : Hid (m ≤ 16384) := hm
  have HK : Hid (0 < k ∧ k ≤ 9223372036854775807) := ⟨hk, hk2⟩
  have h1 : ¬ (k : Int) ≤ 0 := by omega
  have HLO : Hid (x.natAbs % 2 ^ k = 0) := hlo
  have HRV : Hid (rFs x k = iv true (x.natAbs / 2 ^ k)) := by show _ = _; unfold rFs fl; rw [← HA.out.sg, HLO.out]; simp
  rw [HRV.out]
  clear HRV
  clear h hm hAx hNx hk hk2 hlo
  go_enter Tryd.func31, Tryd.ntmps31
  go_wp2_with fail
  obtain ⟨W0, hW0⟩ : ∃ W0, W0 = ((w.alloc (.cells #[.bool true, .slice p m m] 50)).alloc (.cells #[.bool false, .slice none 0 0] 50)) := ⟨_, rfl⟩
  have Xa : Hid (Box W0 (w.heap.size) (.bool true) (.slice p m m)) := by rw [hW0]; exact ⟨by go_simp, by go_simp, by go_simp, by go_simp⟩
  have Xr : Hid (Box W0 (w.heap.size + 1) (.bool false) (.slice none 0 0)) := by rw [hW0]; exact ⟨by go_simp, by go_simp, by go_simp, by go_simp⟩
  have hb0 : Below w.heap.size w W0 := by rw [hW0]; exact below2 w _ _
  rw [← hW0]
  clear hW0
  have hbw : Below w.heap.size w w := Below.refl _ _
  obtain ⟨gr, hgr⟩ : ∃ g, g = w.heap.size + 1 := ⟨_, rfl⟩
  have HGr : Hid (w.heap.size ≤ gr) := by rw [hgr]; show _ ≤ _; omega
  rw [← hgr] at Xr
  try rw [← hgr]
  obtain ⟨ga, hga⟩ : ∃ g, g = w.heap.size := ⟨_, rfl⟩
  have HGa : Hid (w.heap.size ≤ ga) := by rw [hga]; show _ ≤ _; omega
  rw [← hga] at Xa
  try rw [← hga]
  have HGD : Hid (ga ≠ gr ∧ gr ≠ ga) := by rw [hga, hgr]; exact ⟨by omega, by omega⟩
  clear hga hgr
  replace hbw := Below.on hbw hb0
  clear hb0
  obtain ⟨W1, hW1⟩ : ∃ W1, W1 = W0.drew := ⟨_, rfl⟩
  have hbd : Below W0.heap.size W0 W1 := by rw [hW1]; exact bDrew1 (Below.refl _ _)
  replace Xa : Hid _ := Xa.out.below hbd
  replace Xr : Hid _ := Xr.out.below hbd
  replace hbw := Below.on hbw hbd
  clear hbd
  have HJ : Hid ((fun W' : World => W'.cell? ⟨ga, 0, none⟩ = some (.bool true) ∧ W'.cell? ⟨ga, 1, none⟩ = some (.slice p m m)) W1) := ⟨Xa.out.c0, Xa.out.c1⟩
  refine wp_region_J (fun W' => W'.cell? ⟨ga, 0, none⟩ = some (.bool true) ∧ W'.cell? ⟨ga, 1, none⟩ = some (.slice p m m)) (by kernel_rfl) ?_
  rw [← hW1]
  clear hW1
  refine wpJ_tq 0 rfl HJ.out ?_
  refine wpJ_tq 1 rfl HJ.out ?_
  refine wpJ_tq 2 rfl HJ.out ?_
  refine wpJ_tq 3 rfl HJ.out ?_
  refine wpJ_tq 4 rfl HJ.out ?_
  refine wpJ_cutA (fun a0 a' W' => ∃ gq s4 g4 m4 p2 m2, a' = (((a0.put (some 18) (.slice p2 m2 m2)).put (some 19) (.agg #[.bool s4, .slice (some ⟨g4, 0, none⟩) m4 m4])).put (some 5) (.pointer (some ⟨gq, 0, none⟩))) ∧ Box W' ga (.bool true) (.slice p m m) ∧ Box W' gr (.bool false) (.slice none 0 0) ∧ Box W' gq (.bool s4) (.slice (some ⟨g4, 0, none⟩) m4 m4) ∧ ZR W' s4 (some ⟨g4, 0, none⟩) m4 (iv true (x.natAbs / 2 ^ k)) ∧ m4 ≤ m ∧ w.heap.size ≤ g4 ∧ gr < g4 ∧ gr ≠ gq ∧ Below w.heap.size w W') ?_ ?_
  · rintro a' Wc ⟨gq, s4, g4, m4, p2, m2, rfl, xa, xr, xq, z4, hHLq, hHN4, hHR4, hHDrq, hbc⟩
    have Ca : Hid (Box Wc ga (.bool true) (.slice p m m)) := xa
    have Cr : Hid (Box Wc gr (.bool false) (.slice none 0 0)) := xr
    have Cq : Hid (Box Wc gq (.bool s4) (.slice (some ⟨g4, 0, none⟩) m4 m4)) := xq
    have Z4 : Hid (ZR Wc s4 (some ⟨g4, 0, none⟩) m4 (iv true (x.natAbs / 2 ^ k))) := z4
    have HLq : Hid (m4 ≤ m) := hHLq
    have HN4 : Hid (w.heap.size ≤ g4) := hHN4
    have HR4 : Hid (gr < g4) := hHR4
    have HDrq : Hid (gr ≠ gq) := hHDrq
    clear hbw HJ Xa Xr xa xr xq z4 hHLq hHN4 hHR4 hHDrq
    have hbw := hbc
    have Xa := Ca
    have Xr := Cr
    have Xq := Cq
    clear hbc Ca Cr Cq
    obtain ⟨ca0, ca1, fa0, fa1⟩ := Xa.out
    have hnea := Xa.out.lt
    go_wp2_with fail
    clear ca0 ca1 fa0 fa1 hnea
    refine (rlow_any (AX.out.below hbw) NX.out HM.out k HK.out.1 HK.out.2).mono ?_
    rintro e v5 ⟨p5, m5, z5, rfl, hA5, hN5, hl5, hb5⟩
    replace Xa : Hid _ := Xa.out.below hb5
    replace Xr : Hid _ := Xr.out.below hb5
    replace Xq : Hid _ := Xq.out.below hb5
    replace Z4 : Hid _ := Z4.out.below hb5
    replace hbw := Below.on hbw hb5
    clear hb5
    have hm5 : m5 = 0 := by
      have h6 := hN5.zero_iff B32_one
      have h7 := hA5.len
      have h8 := HLO.out
      rw [h6.2 h8] at h7
      exact h7.symm
    clear hA5 hN5 hl5
    subst hm5
    obtain ⟨cq0, cq1, fq0, fq1⟩ := Xq.out
    have hneq := Xq.out.lt
    obtain ⟨cr0, cr1, fr0, fr1⟩ := Xr.out
    have hner := Xr.out.lt
    go_wp2_with fail
    refine bodyPost_ret (v := .agg #[.bool s4, .slice (some ⟨g4, 0, none⟩) m4 m4]) (by rw [results_cell1 rfl]; go_simp) rfl ⟨_, rfl, ⟨s4, g4, m4, rfl, HN4.out, ?_, Nat.le_trans HLq.out (Nat.le_add_right _ _)⟩, ?_⟩
    · have := HR4.out
      exact (Z4.out.set _ _ _ (by omega)).set _ _ _ (by omega)
    · exact bSet (bSet hbw _ _ _ HGr.out) _ _ _ HGr.out
  · skip
    refine wpJ_two (i := 5) (k := 7) (by kernel_rfl) rfl rfl (by kernel_rfl) (by kernel_rfl) (fun KJ hK => ?_) (fun KJ hK => ?_)
    · go_simp
      refine (rfshr_any (AX.out.below hbw) NX.out HM.out k HK.out.1 HK.out.2).mono ?_
      rintro e v2 ⟨p2, m2, z2, rfl, hA2, hN2, hl2, hb2⟩
      replace Xa : Hid _ := Xa.out.below hb2
      replace Xr : Hid _ := Xr.out.below hb2
      replace hbw := Below.on hbw hb2
      clear hb2
      have A2 : Hid (At32 v2 p2 m2 m2 z2) := hA2
      have N2 : Hid (Nf B32 z2 (x.natAbs / 2 ^ k) ∧ m2 ≤ m) := ⟨hN2, hl2⟩
      clear hA2 hN2 hl2
      clear HJ
      have HJ : Hid ((fun W' : World => W'.cell? ⟨ga, 0, none⟩ = some (.bool true) ∧ W'.cell? ⟨ga, 1, none⟩ = some (.slice p m m)) v2) := ⟨Xa.out.c0, Xa.out.c1⟩
      refine hK _ _ HJ.out ?_
      clear hK
      refine wpJ_two (i := 6) (k := 7) (by kernel_rfl) rfl rfl (by kernel_rfl) (by kernel_rfl) (fun KJ hK => ?_) (fun KJ hK => ?_)
      · go_simp
        refine (rmk_any true A2.out N2.out.1 (by have := N2.out.2; have := HM.out; omega)).mono ?_
        rintro e v4 ⟨v, rfl, hv, hb4⟩
        obtain ⟨s4, g4, m4, rfl, hg4, hz4, hl4⟩ := hv
        have HN4 : Hid (w.heap.size ≤ g4) := Nat.le_trans hbw.size hg4
        have HR4 : Hid (gr < g4) := Nat.lt_of_lt_of_le Xr.out.lt hg4
        replace Xa : Hid _ := Xa.out.below hb4
        replace Xr : Hid _ := Xr.out.below hb4
        replace A2 : Hid _ := A2.out.below hb4
        replace hbw := Below.on hbw hb4
        clear hb4
        have Z4 : Hid (ZR v4 s4 (some ⟨g4, 0, none⟩) m4 (iv true (x.natAbs / 2 ^ k))) := hz4
        have HL4 : Hid (m4 ≤ m2) := hl4
        clear hz4 hl4 hg4
        have HLq : Hid (m4 ≤ m) := Nat.le_trans HL4.out N2.out.2
        clear HL4 N2
        refine hK _ _ ⟨Xa.out.c0, Xa.out.c1⟩ ?_
        clear hK
        refine wpJ_on 7 rfl fun KJ hK => ?_
        go_simp
        have HDq : Hid (ga ≠ v4.heap.size ∧ gr ≠ v4.heap.size) := ⟨Nat.ne_of_lt Xa.out.lt, Nat.ne_of_lt Xr.out.lt⟩
        have HO4q : Hid (OffR g4 m4 v4.heap.size) := Z4.out.off_new
        have HDrq : Hid (gr ≠ v4.heap.size) := Nat.ne_of_lt Xr.out.lt
        have Xq0 : Hid (Box (v4.alloc (.cells #[.bool false, .slice none 0 0] 50)) v4.heap.size (.bool false) (.slice none 0 0)) := Box.new v4 _ _ _
        have hbn : Below v4.heap.size v4 (v4.alloc (.cells #[.bool false, .slice none 0 0] 50)) := below1 v4 _
        generalize v4.alloc (.cells #[.bool false, .slice none 0 0] 50) = Wq at *
        have HGq : Hid (w.heap.size ≤ v4.heap.size) := hbw.size
        replace Xa : Hid _ := Xa.out.below hbn
        replace Xr : Hid _ := Xr.out.below hbn
        replace A2 : Hid _ := A2.out.below hbn
        replace Z4 : Hid _ := Z4.out.below hbn
        replace hbw := Below.on hbw hbn
        clear hbn
        generalize v4.heap.size = gq at *
        have Xq := Xq0
        clear Xq0
        refine hK _ _ ⟨Xa.out.c0, Xa.out.c1⟩ ?_
        clear hK
        obtain ⟨cq0, cq1, fq0, fq1⟩ := Xq.out
        have hneq := Xq.out.lt
        obtain ⟨ca0, ca1, fa0, fa1⟩ := Xa.out
        have hnea := Xa.out.lt
        obtain ⟨cr0, cr1, fr0, fr1⟩ := Xr.out
        have hner := Xr.out.lt
        have qqa : ga ≠ gq := HDq.out.1
        have qaq : gq ≠ ga := fun h => qqa h.symm
        have qqr : gr ≠ gq := HDq.out.2
        have qrq : gq ≠ gr := fun h => qqr h.symm
        refine wpJ_on 8 rfl fun KJ hK => ?_
        go_simp
        have HJ2 : Hid ((fun W' : World => W'.cell? ⟨ga, 0, none⟩ = some (.bool true) ∧ W'.cell? ⟨ga, 1, none⟩ = some (.slice p m m)) ((Wq.setCell ⟨gq, 0, none⟩ (.bool s4)).setCell ⟨gq, 1, none⟩ (.slice (some ⟨g4, 0, none⟩) m4 m4))) := ⟨by go_simp, by go_simp⟩
        have Xq2 : Hid (Box ((Wq.setCell ⟨gq, 0, none⟩ (.bool s4)).setCell ⟨gq, 1, none⟩ (.slice (some ⟨g4, 0, none⟩) m4 m4)) gq (.bool s4) (.slice (some ⟨g4, 0, none⟩) m4 m4)) := ⟨by go_simp, by go_simp, by go_simp, by go_simp⟩
        have Xa2 : Hid (Box ((Wq.setCell ⟨gq, 0, none⟩ (.bool s4)).setCell ⟨gq, 1, none⟩ (.slice (some ⟨g4, 0, none⟩) m4 m4)) ga (.bool true) (.slice p m m)) := ⟨by go_simp, by go_simp, by go_simp, by go_simp⟩
        have Xr2 : Hid (Box ((Wq.setCell ⟨gq, 0, none⟩ (.bool s4)).setCell ⟨gq, 1, none⟩ (.slice (some ⟨g4, 0, none⟩) m4 m4)) gr (.bool false) (.slice none 0 0)) := ⟨by go_simp, by go_simp, by go_simp, by go_simp⟩
        have Z42 : Hid (ZR ((Wq.setCell ⟨gq, 0, none⟩ (.bool s4)).setCell ⟨gq, 1, none⟩ (.slice (some ⟨g4, 0, none⟩) m4 m4)) s4 (some ⟨g4, 0, none⟩) m4 (iv true (x.natAbs / 2 ^ k))) := (Z4.out.setOff HO4q.out _ _).setOff HO4q.out _ _
        have hbw2 : Below w.heap.size w ((Wq.setCell ⟨gq, 0, none⟩ (.bool s4)).setCell ⟨gq, 1, none⟩ (.slice (some ⟨g4, 0, none⟩) m4 m4)) := bSet (bSet hbw _ _ _ HGq.out) _ _ _ HGq.out
        refine hK _ _ HJ2.out ?_
        clear hK HJ
        have HJ := HJ2
        clear HJ2 hbw A2 Z4
        clear cq0 cq1 fq0 fq1 hneq
        clear ca0 ca1 fa0 fa1 hnea
        clear cr0 cr1 fr0 fr1 hner
        clear qqa qaq qqr qrq Xq Xa Xr
        generalize ((Wq.setCell ⟨gq, 0, none⟩ (.bool s4)).setCell ⟨gq, 1, none⟩ (.slice (some ⟨g4, 0, none⟩) m4 m4)) = Ws0 at *
        have hbw := hbw2
        have Z4 := Z42
        have Xq := Xq2
        have Xa := Xa2
        have Xr := Xr2
        clear hbw2 Z42 Xq2 Xa2 Xr2
        refine wpJ_done (by kernel_rfl) ?_ _
        exact ⟨rfl, gq, s4, g4, m4, p2, m2, by kernel_rfl, Xa.out, Xr.out, Xq.out, Z4.out, HLq.out, HN4.out, HR4.out, HDrq.out, hbw⟩
      · go_simp
        have HDq : Hid (ga ≠ v2.heap.size ∧ gr ≠ v2.heap.size) := ⟨Nat.ne_of_lt Xa.out.lt, Nat.ne_of_lt Xr.out.lt⟩
        have HDrq : Hid (gr ≠ v2.heap.size) := Nat.ne_of_lt Xr.out.lt
        have Xq0 : Hid (Box (v2.alloc (.cells #[.bool false, .slice none 0 0] 50)) v2.heap.size (.bool false) (.slice none 0 0)) := Box.new v2 _ _ _
        have hbn : Below v2.heap.size v2 (v2.alloc (.cells #[.bool false, .slice none 0 0] 50)) := below1 v2 _
        generalize v2.alloc (.cells #[.bool false, .slice none 0 0] 50) = Wq at *
        have HGq : Hid (w.heap.size ≤ v2.heap.size) := hbw.size
        replace Xa : Hid _ := Xa.out.below hbn
        replace Xr : Hid _ := Xr.out.below hbn
        replace A2 : Hid _ := A2.out.below hbn
        replace hbw := Below.on hbw hbn
        clear hbn
        generalize v2.heap.size = gq at *
        have Xq := Xq0
        clear Xq0
        refine hK _ _ ⟨Xa.out.c0, Xa.out.c1⟩ ?_
        clear hK
        refine wpJ_on 6 rfl fun KJ hK => ?_
        go_simp
        refine (rmk_any true A2.out N2.out.1 (by have := N2.out.2; have := HM.out; omega)).mono ?_
        rintro e v4 ⟨v, rfl, hv, hb4⟩
        obtain ⟨s4, g4, m4, rfl, hg4, hz4, hl4⟩ := hv
        have HO4q : Hid (OffR g4 m4 gq) := .inr (Nat.ne_of_gt (Nat.lt_of_lt_of_le Xq.out.lt hg4))
        have HN4 : Hid (w.heap.size ≤ g4) := Nat.le_trans hbw.size hg4
        have HR4 : Hid (gr < g4) := Nat.lt_of_lt_of_le Xr.out.lt hg4
        replace Xa : Hid _ := Xa.out.below hb4
        replace Xr : Hid _ := Xr.out.below hb4
        replace Xq : Hid _ := Xq.out.below hb4
        replace A2 : Hid _ := A2.out.below hb4
        replace hbw := Below.on hbw hb4
        clear hb4
        have Z4 : Hid (ZR v4 s4 (some ⟨g4, 0, none⟩) m4 (iv true (x.natAbs / 2 ^ k))) := hz4
        have HL4 : Hid (m4 ≤ m2) := hl4
        clear hz4 hl4 hg4
        have HLq : Hid (m4 ≤ m) := Nat.le_trans HL4.out N2.out.2
        clear HL4 N2
        refine hK _ _ ⟨Xa.out.c0, Xa.out.c1⟩ ?_
        clear hK
        obtain ⟨cq0, cq1, fq0, fq1⟩ := Xq.out
        have hneq := Xq.out.lt
        obtain ⟨ca0, ca1, fa0, fa1⟩ := Xa.out
        have hnea := Xa.out.lt
        obtain ⟨cr0, cr1, fr0, fr1⟩ := Xr.out
        have hner := Xr.out.lt
        have qqa : ga ≠ gq := HDq.out.1
        have qaq : gq ≠ ga := fun h => qqa h.symm
        have qqr : gr ≠ gq := HDq.out.2
        have qrq : gq ≠ gr := fun h => qqr h.symm
        refine wpJ_on 8 rfl fun KJ hK => ?_
        go_simp
        have HJ2 : Hid ((fun W' : World => W'.cell? ⟨ga, 0, none⟩ = some (.bool true) ∧ W'.cell? ⟨ga, 1, none⟩ = some (.slice p m m)) ((v4.setCell ⟨gq, 0, none⟩ (.bool s4)).setCell ⟨gq, 1, none⟩ (.slice (some ⟨g4, 0, none⟩) m4 m4))) := ⟨by go_simp, by go_simp⟩
        have Xq2 : Hid (Box ((v4.setCell ⟨gq, 0, none⟩ (.bool s4)).setCell ⟨gq, 1, none⟩ (.slice (some ⟨g4, 0, none⟩) m4 m4)) gq (.bool s4) (.slice (some ⟨g4, 0, none⟩) m4 m4)) := ⟨by go_simp, by go_simp, by go_simp, by go_simp⟩
        have Xa2 : Hid (Box ((v4.setCell ⟨gq, 0, none⟩ (.bool s4)).setCell ⟨gq, 1, none⟩ (.slice (some ⟨g4, 0, none⟩) m4 m4)) ga (.bool true) (.slice p m m)) := ⟨by go_simp, by go_simp, by go_simp, by go_simp⟩
        have Xr2 : Hid (Box ((v4.setCell ⟨gq, 0, none⟩ (.bool s4)).setCell ⟨gq, 1, none⟩ (.slice (some ⟨g4, 0, none⟩) m4 m4)) gr (.bool false) (.slice none 0 0)) := ⟨by go_simp, by go_simp, by go_simp, by go_simp⟩
        have Z42 : Hid (ZR ((v4.setCell ⟨gq, 0, none⟩ (.bool s4)).setCell ⟨gq, 1, none⟩ (.slice (some ⟨g4, 0, none⟩) m4 m4)) s4 (some ⟨g4, 0, none⟩) m4 (iv true (x.natAbs / 2 ^ k))) := (Z4.out.setOff HO4q.out _ _).setOff HO4q.out _ _
        have hbw2 : Below w.heap.size w ((v4.setCell ⟨gq, 0, none⟩ (.bool s4)).setCell ⟨gq, 1, none⟩ (.slice (some ⟨g4, 0, none⟩) m4 m4)) := bSet (bSet hbw _ _ _ HGq.out) _ _ _ HGq.out
        refine hK _ _ HJ2.out ?_
        clear hK HJ
        have HJ := HJ2
        clear HJ2 hbw A2 Z4
        clear cq0 cq1 fq0 fq1 hneq
        clear ca0 ca1 fa0 fa1 hnea
        clear cr0 cr1 fr0 fr1 hner
        clear qqa qaq qqr qrq Xq Xa Xr
        generalize ((v4.setCell ⟨gq, 0, none⟩ (.bool s4)).setCell ⟨gq, 1, none⟩ (.slice (some ⟨g4, 0, none⟩) m4 m4)) = Ws0 at *
        have hbw := hbw2
        have Z4 := Z42
        have Xq := Xq2
        have Xa := Xa2
        have Xr := Xr2
        clear hbw2 Z42 Xq2 Xa2 Xr2
        refine wpJ_done (by kernel_rfl) ?_ _
        exact ⟨rfl, gq, s4, g4, m4, p2, m2, by kernel_rfl, Xa.out, Xr.out, Xq.out, Z4.out, HLq.out, HN4.out, HR4.out, HDrq.out, hbw⟩
    · go_simp
      have HDq : Hid (ga ≠ W1.heap.size ∧ gr ≠ W1.heap.size) := ⟨Nat.ne_of_lt Xa.out.lt, Nat.ne_of_lt Xr.out.lt⟩
      have HDrq : Hid (gr ≠ W1.heap.size) := Nat.ne_of_lt Xr.out.lt
      have Xq0 : Hid (Box (W1.alloc (.cells #[.bool false, .slice none 0 0] 50)) W1.heap.size (.bool false) (.slice none 0 0)) := Box.new W1 _ _ _
      have hbn : Below W1.heap.size W1 (W1.alloc (.cells #[.bool false, .slice none 0 0] 50)) := below1 W1 _
      generalize W1.alloc (.cells #[.bool false, .slice none 0 0] 50) = Wq at *
      have HGq : Hid (w.heap.size ≤ W1.heap.size) := hbw.size
      replace Xa : Hid _ := Xa.out.below hbn
      replace Xr : Hid _ := Xr.out.below hbn
      replace hbw := Below.on hbw hbn
      clear hbn
      generalize W1.heap.size = gq at *
      have Xq := Xq0
      clear Xq0
      refine hK _ _ ⟨Xa.out.c0, Xa.out.c1⟩ ?_
      clear hK
      refine wpJ_on 5 rfl fun KJ hK => ?_
      go_simp
      refine (rfshr_any (AX.out.below hbw) NX.out HM.out k HK.out.1 HK.out.2).mono ?_
      rintro e v2 ⟨p2, m2, z2, rfl, hA2, hN2, hl2, hb2⟩
      replace Xa : Hid _ := Xa.out.below hb2
      replace Xr : Hid _ := Xr.out.below hb2
      replace Xq : Hid _ := Xq.out.below hb2
      replace hbw := Below.on hbw hb2
      clear hb2
      have A2 : Hid (At32 v2 p2 m2 m2 z2) := hA2
      have N2 : Hid (Nf B32 z2 (x.natAbs / 2 ^ k) ∧ m2 ≤ m) := ⟨hN2, hl2⟩
      clear hA2 hN2 hl2
      refine hK _ _ ⟨Xa.out.c0, Xa.out.c1⟩ ?_
      clear hK
      refine wpJ_on 6 rfl fun KJ hK => ?_
      go_simp
      refine (rmk_any true A2.out N2.out.1 (by have := N2.out.2; have := HM.out; omega)).mono ?_
      rintro e v4 ⟨v, rfl, hv, hb4⟩
      obtain ⟨s4, g4, m4, rfl, hg4, hz4, hl4⟩ := hv
      have HO4q : Hid (OffR g4 m4 gq) := .inr (Nat.ne_of_gt (Nat.lt_of_lt_of_le Xq.out.lt hg4))
      have HN4 : Hid (w.heap.size ≤ g4) := Nat.le_trans hbw.size hg4
      have HR4 : Hid (gr < g4) := Nat.lt_of_lt_of_le Xr.out.lt hg4
      replace Xa : Hid _ := Xa.out.below hb4
      replace Xr : Hid _ := Xr.out.below hb4
      replace Xq : Hid _ := Xq.out.below hb4
      replace A2 : Hid _ := A2.out.below hb4
      replace hbw := Below.on hbw hb4
      clear hb4
      have Z4 : Hid (ZR v4 s4 (some ⟨g4, 0, none⟩) m4 (iv true (x.natAbs / 2 ^ k))) := hz4
      have HL4 : Hid (m4 ≤ m2) := hl4
      clear hz4 hl4 hg4
      have HLq : Hid (m4 ≤ m) := Nat.le_trans HL4.out N2.out.2
      clear HL4 N2
      refine hK _ _ ⟨Xa.out.c0, Xa.out.c1⟩ ?_
      clear hK
      obtain ⟨cq0, cq1, fq0, fq1⟩ := Xq.out
      have hneq := Xq.out.lt
      obtain ⟨ca0, ca1, fa0, fa1⟩ := Xa.out
      have hnea := Xa.out.lt
      obtain ⟨cr0, cr1, fr0, fr1⟩ := Xr.out
      have hner := Xr.out.lt
      have qqa : ga ≠ gq := HDq.out.1
      have qaq : gq ≠ ga := fun h => qqa h.symm
      have qqr : gr ≠ gq := HDq.out.2
      have qrq : gq ≠ gr := fun h => qqr h.symm
      refine wpJ_on 8 rfl fun KJ hK => ?_
      go_simp
      have HJ2 : Hid ((fun W' : World => W'.cell? ⟨ga, 0, none⟩ = some (.bool true) ∧ W'.cell? ⟨ga, 1, none⟩ = some (.slice p m m)) ((v4.setCell ⟨gq, 0, none⟩ (.bool s4)).setCell ⟨gq, 1, none⟩ (.slice (some ⟨g4, 0, none⟩) m4 m4))) := ⟨by go_simp, by go_simp⟩
      have Xq2 : Hid (Box ((v4.setCell ⟨gq, 0, none⟩ (.bool s4)).setCell ⟨gq, 1, none⟩ (.slice (some ⟨g4, 0, none⟩) m4 m4)) gq (.bool s4) (.slice (some ⟨g4, 0, none⟩) m4 m4)) := ⟨by go_simp, by go_simp, by go_simp, by go_simp⟩
      have Xa2 : Hid (Box ((v4.setCell ⟨gq, 0, none⟩ (.bool s4)).setCell ⟨gq, 1, none⟩ (.slice (some ⟨g4, 0, none⟩) m4 m4)) ga (.bool true) (.slice p m m)) := ⟨by go_simp, by go_simp, by go_simp, by go_simp⟩
      have Xr2 : Hid (Box ((v4.setCell ⟨gq, 0, none⟩ (.bool s4)).setCell ⟨gq, 1, none⟩ (.slice (some ⟨g4, 0, none⟩) m4 m4)) gr (.bool false) (.slice none 0 0)) := ⟨by go_simp, by go_simp, by go_simp, by go_simp⟩
      have Z42 : Hid (ZR ((v4.setCell ⟨gq, 0, none⟩ (.bool s4)).setCell ⟨gq, 1, none⟩ (.slice (some ⟨g4, 0, none⟩) m4 m4)) s4 (some ⟨g4, 0, none⟩) m4 (iv true (x.natAbs / 2 ^ k))) := (Z4.out.setOff HO4q.out _ _).setOff HO4q.out _ _
      have hbw2 : Below w.heap.size w ((v4.setCell ⟨gq, 0, none⟩ (.bool s4)).setCell ⟨gq, 1, none⟩ (.slice (some ⟨g4, 0, none⟩) m4 m4)) := bSet (bSet hbw _ _ _ HGq.out) _ _ _ HGq.out
      refine hK _ _ HJ2.out ?_
      clear hK HJ
      have HJ := HJ2
      clear HJ2 hbw A2 Z4
      clear cq0 cq1 fq0 fq1 hneq
      clear ca0 ca1 fa0 fa1 hnea
      clear cr0 cr1 fr0 fr1 hner
      clear qqa qaq qqr qrq Xq Xa Xr
      generalize ((v4.setCell ⟨gq, 0, none⟩ (.bool s4)).setCell ⟨gq, 1, none⟩ (.slice (some ⟨g4, 0, none⟩) m4 m4)) = Ws0 at *
      have hbw := hbw2
      have Z4 := Z42
      have Xq := Xq2
      have Xa := Xa2
      have Xr := Xr2
      clear hbw2 Z42 Xq2 Xa2 Xr2
      refine wpJ_done (by kernel_rfl) ?_ _
      exact ⟨rfl, gq, s4, g4, m4, p2, m2, by kernel_rfl, Xa.out, Xr.out, Xq.out, Z4.out, HLq.out, HN4.out, HR4.out, HDrq.out, hbw⟩
theorem rfloorshr04_n1 {p : Option Addr} {m : Nat} {w : World} {x : Int} (h : ZR w true p m x) (hm : m ≤ 16384) (k : Nat) (hk : 0 < k) (hk2 : k ≤ 9223372036854775807) (hlo : x.natAbs % 2 ^ k ≠ 0) :
    Calls Tryd.prog 31 #[.agg #[.bool true, .slice p m m], .int .i64 k] w fun e w' => ∃ v, e = .returned v ∧ GotR w.heap.size w' v (rFs x k) (m + 4) ∧ Below w.heap.size w w' := by
  obtain ⟨xs, hAx, hNx⟩ := h.ex
  have HA : Hid (ZR w true p m x) := h
  have AX : Hid (At32 w p m m xs) := hAx
  have NX : Hid (Nf B32 xs x.natAbs) := hNx
  have HM : Hid (m ≤ 16384) := hm
  have HK : Hid (0 < k ∧ k ≤ 9223372036854775807) := ⟨hk, hk2⟩
  have h1 : ¬ (k : Int) ≤ 0 := by omega
  have HLO : Hid (x.natAbs % 2 ^ k ≠ 0) := hlo
  have HRV : Hid (rFs x k = iv true (x.natAbs / 2 ^ k) - 1) := by show _ = _; unfold rFs fl; rw [← HA.out.sg, decide_eq_true HLO.out]; simp [iv]; omega
  rw [HRV.out]
  clear HRV
  clear h hm hAx hNx hk hk2 hlo
  go_enter Tryd.func31, Tryd.ntmps31
  go_wp2_with fail
  obtain ⟨W0, hW0⟩ : ∃ W0, W0 = ((w.alloc (.cells #[.bool true, .slice p m m] 50)).alloc (.cells #[.bool false, .slice none 0 0] 50)) := ⟨_, rfl⟩
  have Xa : Hid (Box W0 (w.heap.size) (.bool true) (.slice p m m)) := by rw [hW0]; exact ⟨by go_simp, by go_simp, by go_simp, by go_simp⟩
  have Xr : Hid (Box W0 (w.heap.size + 1) (.bool false) (.slice none 0 0)) := by rw [hW0]; exact ⟨by go_simp, by go_simp, by go_simp, by go_simp⟩
  have hb0 : Below w.heap.size w W0 := by rw [hW0]; exact below2 w _ _
  rw [← hW0]
  clear hW0
  have hbw : Below w.heap.size w w := Below.refl _ _
  obtain ⟨gr, hgr⟩ : ∃ g, g = w.heap.size + 1 := ⟨_, rfl⟩
  have HGr : Hid (w.heap.size ≤ gr) := by rw [hgr]; show _ ≤ _; omega
  rw [← hgr] at Xr
  try rw [← hgr]
  obtain ⟨ga, hga⟩ : ∃ g, g = w.heap.size := ⟨_, rfl⟩
  have HGa : Hid (w.heap.size ≤ ga) := by rw [hga]; show _ ≤ _; omega
  rw [← hga] at Xa
  try rw [← hga]
  have HGD : Hid (ga ≠ gr ∧ gr ≠ ga) := by rw [hga, hgr]; exact ⟨by omega, by omega⟩
  clear hga hgr
  replace hbw := Below.on hbw hb0
  clear hb0
  obtain ⟨W1, hW1⟩ : ∃ W1, W1 = W0.drew := ⟨_, rfl⟩
  have hbd : Below W0.heap.size W0 W1 := by rw [hW1]; exact bDrew1 (Below.refl _ _)
  replace Xa : Hid _ := Xa.out.below hbd
  replace Xr : Hid _ := Xr.out.below hbd
  replace hbw := Below.on hbw hbd
  clear hbd
  have HJ : Hid ((fun W' : World => W'.cell? ⟨ga, 0, none⟩ = some (.bool true) ∧ W'.cell? ⟨ga, 1, none⟩ = some (.slice p m m)) W1) := ⟨Xa.out.c0, Xa.out.c1⟩
  refine wp_region_J (fun W' => W'.cell? ⟨ga, 0, none⟩ = some (.bool true) ∧ W'.cell? ⟨ga, 1, none⟩ = some (.slice p m m)) (by kernel_rfl) ?_
  rw [← hW1]
  clear hW1
  refine wpJ_tq 0 rfl HJ.out ?_
  refine wpJ_tq 1 rfl HJ.out ?_
  refine wpJ_tq 2 rfl HJ.out ?_
  refine wpJ_tq 3 rfl HJ.out ?_
  refine wpJ_tq 4 rfl HJ.out ?_
  refine wpJ_cutA (fun a0 a' W' => ∃ gq s4 g4 m4 p2 m2, a' = (((a0.put (some 18) (.slice p2 m2 m2)).put (some 19) (.agg #[.bool s4, .slice (some ⟨g4, 0, none⟩) m4 m4])).put (some 5) (.pointer (some ⟨gq, 0, none⟩))) ∧ Box W' ga (.bool true) (.slice p m m) ∧ Box W' gr (.bool false) (.slice none 0 0) ∧ Box W' gq (.bool s4) (.slice (some ⟨g4, 0, none⟩) m4 m4) ∧ ZR W' s4 (some ⟨g4, 0, none⟩) m4 (iv true (x.natAbs / 2 ^ k)) ∧ m4 ≤ m ∧ w.heap.size ≤ g4 ∧ gr < g4 ∧ gr ≠ gq ∧ Below w.heap.size w W') ?_ ?_
  · rintro a' Wc ⟨gq, s4, g4, m4, p2, m2, rfl, xa, xr, xq, z4, hHLq, hHN4, hHR4, hHDrq, hbc⟩
    have Ca : Hid (Box Wc ga (.bool true) (.slice p m m)) := xa
    have Cr : Hid (Box Wc gr (.bool false) (.slice none 0 0)) := xr
    have Cq : Hid (Box Wc gq (.bool s4) (.slice (some ⟨g4, 0, none⟩) m4 m4)) := xq
    have Z4 : Hid (ZR Wc s4 (some ⟨g4, 0, none⟩) m4 (iv true (x.natAbs / 2 ^ k))) := z4
    have HLq : Hid (m4 ≤ m) := hHLq
    have HN4 : Hid (w.heap.size ≤ g4) := hHN4
    have HR4 : Hid (gr < g4) := hHR4
    have HDrq : Hid (gr ≠ gq) := hHDrq
    clear hbw HJ Xa Xr xa xr xq z4 hHLq hHN4 hHR4 hHDrq
    have hbw := hbc
    have Xa := Ca
    have Xr := Cr
    have Xq := Cq
    clear hbc Ca Cr Cq
    obtain ⟨ca0, ca1, fa0, fa1⟩ := Xa.out
    have hnea := Xa.out.lt
    go_wp2_with fail
    clear ca0 ca1 fa0 fa1 hnea
    refine (rlow_any (AX.out.below hbw) NX.out HM.out k HK.out.1 HK.out.2).mono ?_
    rintro e v5 ⟨p5, m5, z5, rfl, hA5, hN5, hl5, hb5⟩
    replace Xa : Hid _ := Xa.out.below hb5
    replace Xr : Hid _ := Xr.out.below hb5
    replace Xq : Hid _ := Xq.out.below hb5
    replace Z4 : Hid _ := Z4.out.below hb5
    replace hbw := Below.on hbw hb5
    clear hb5
    have hm5 : m5 ≠ 0 := by
      have h6 := hN5.zero_iff B32_one
      have h7 := hA5.len
      have h8 := HLO.out
      intro e5
      exact h8 (h6.1 (List.eq_nil_of_length_eq_zero (by omega)))
    clear hA5 hN5 hl5
    have hm6 : (0 : Int) < (m5 : Int) := by omega
    have hm7 : 0 < m5 := by omega
    clear hm5
    go_wp2_with fail
    clear hm6 hm7
    obtain ⟨W7, hW7⟩ : ∃ W1, W1 = v5.drew := ⟨_, rfl⟩
    have hbd : Below v5.heap.size v5 W7 := by rw [hW7]; exact bDrew1 (Below.refl _ _)
    replace Xa : Hid _ := Xa.out.below hbd
    replace Xr : Hid _ := Xr.out.below hbd
    replace Xq : Hid _ := Xq.out.below hbd
    replace Z4 : Hid _ := Z4.out.below hbd
    replace hbw := Below.on hbw hbd
    clear hbd
    have HJ : Hid ((fun W' : World => W'.cell? ⟨gq, 0, none⟩ = some (.bool s4) ∧ W'.cell? ⟨gq, 1, none⟩ = some (.slice (some ⟨g4, 0, none⟩) m4 m4)) W7) := ⟨Xq.out.c0, Xq.out.c1⟩
    refine wp_region_J (fun W' => W'.cell? ⟨gq, 0, none⟩ = some (.bool s4) ∧ W'.cell? ⟨gq, 1, none⟩ = some (.slice (some ⟨g4, 0, none⟩) m4 m4)) (by kernel_rfl) ?_
    rw [← hW7]
    clear hW7
    refine wpJ_tq 0 rfl HJ.out ?_
    refine wpJ_on 1 rfl fun KJ hK => ?_
    go_simp
    refine (rof04 1 _ (by decide) (by decide)).mono ?_
    rintro e v6 ⟨s6, g6, m6, rfl, hz6, hl6, hb6⟩
    replace Xa : Hid _ := Xa.out.below hb6
    replace Xr : Hid _ := Xr.out.below hb6
    replace Xq : Hid _ := Xq.out.below hb6
    replace Z4 : Hid _ := Z4.out.below hb6
    replace hbw := Below.on hbw hb6
    clear hb6
    have Z6 : Hid (ZR v6 s6 (some ⟨g6, 0, none⟩) m6 1) := hz6
    have HL6 : Hid (m6 ≤ 3) := hl6
    clear hz6 hl6
    refine hK _ _ ⟨Xq.out.c0, Xq.out.c1⟩ ?_
    clear hK
    have HRB : Hid (gr < v6.heap.size ∧ w.heap.size ≤ v6.heap.size) := ⟨Xr.out.lt, hbw.size⟩
    refine wpJ_on 2 rfl fun KJ hK => ?_
    go_simp
    refine (rsub04 s4 s6 Z4.out Z6.out (by have := HLq.out; have := HM.out; omega) (by have := HL6.out; omega)).mono ?_
    rintro e v9 ⟨v, rfl, hv, hb9⟩
    obtain ⟨s9, g9, m9, rfl, hg9, hz9, hl9⟩ := hv
    have HN9 : Hid (v6.heap.size ≤ g9) := hg9
    replace Xa : Hid _ := Xa.out.below hb9
    replace Xr : Hid _ := Xr.out.below hb9
    replace Xq : Hid _ := Xq.out.below hb9
    replace Z4 : Hid _ := Z4.out.below hb9
    replace Z6 : Hid _ := Z6.out.below hb9
    replace hbw := Below.on hbw hb9
    clear hb9
    have Z9 : Hid (ZR v9 s9 (some ⟨g9, 0, none⟩) m9 (iv true (x.natAbs / 2 ^ k) - 1)) := hz9
    have HL9 : Hid (m9 ≤ max m4 m6 + 1) := hl9
    clear hz9 hl9 hg9
    refine hK _ _ ⟨Xq.out.c0, Xq.out.c1⟩ ?_
    clear hK
    have hq1 := HDrq.out
    have hq2 : gq ≠ gr := fun h => hq1 h.symm
    obtain ⟨cr0, cr1, fr0, fr1⟩ := Xr.out
    have hner := Xr.out.lt
    obtain ⟨cq0, cq1, fq0, fq1⟩ := Xq.out
    have hneq := Xq.out.lt
    obtain ⟨hgd0, hgd1⟩ := HGD.out
    refine wpJ_on 3 rfl fun KJ hK => ?_
    go_simp
    have HJ2 : Hid ((fun W' : World => W'.cell? ⟨gq, 0, none⟩ = some (.bool s4) ∧ W'.cell? ⟨gq, 1, none⟩ = some (.slice (some ⟨g4, 0, none⟩) m4 m4)) ((v9.setCell ⟨gr, 0, none⟩ (.bool s9)).setCell ⟨gr, 1, none⟩ (.slice (some ⟨g9, 0, none⟩) m9 m9))) := ⟨by go_simp, by go_simp⟩
    refine hK _ _ HJ2.out ?_
    clear hK HJ
    have HJ := HJ2
    clear HJ2
    refine wpJ_done (by kernel_rfl) ?_ _
    clear HJ
    go_wp2_with fail
    refine bodyPost_ret (v := .agg #[.bool s9, .slice (some ⟨g9, 0, none⟩) m9 m9]) (by rw [results_cell1 rfl]; go_simp) rfl ⟨_, rfl, ⟨s9, g9, m9, rfl, Nat.le_trans HRB.out.2 HN9.out, ?_, ?_⟩, ?_⟩
    · have := HN9.out; have := HRB.out.1
      exact (Z9.out.set _ _ _ (by omega)).set _ _ _ (by omega)
    · have := HL9.out; have := HL6.out; have := HLq.out; omega
    · exact bSet (bSet hbw _ _ _ HGr.out) _ _ _ HGr.out
  · skip
    refine wpJ_two (i := 5) (k := 7) (by kernel_rfl) rfl rfl (by kernel_rfl) (by kernel_rfl) (fun KJ hK => ?_) (fun KJ hK => ?_)
    · go_simp
      refine (rfshr_any (AX.out.below hbw) NX.out HM.out k HK.out.1 HK.out.2).mono ?_
      rintro e v2 ⟨p2, m2, z2, rfl, hA2, hN2, hl2, hb2⟩
      replace Xa : Hid _ := Xa.out.below hb2
      replace Xr : Hid _ := Xr.out.below hb2
      replace hbw := Below.on hbw hb2
      clear hb2
      have A2 : Hid (At32 v2 p2 m2 m2 z2) := hA2
      have N2 : Hid (Nf B32 z2 (x.natAbs / 2 ^ k) ∧ m2 ≤ m) := ⟨hN2, hl2⟩
      clear hA2 hN2 hl2
      clear HJ
      have HJ : Hid ((fun W' : World => W'.cell? ⟨ga, 0, none⟩ = some (.bool true) ∧ W'.cell? ⟨ga, 1, none⟩ = some (.slice p m m)) v2) := ⟨Xa.out.c0, Xa.out.c1⟩
      refine hK _ _ HJ.out ?_
      clear hK
      refine wpJ_two (i := 6) (k := 7) (by kernel_rfl) rfl rfl (by kernel_rfl) (by kernel_rfl) (fun KJ hK => ?_) (fun KJ hK => ?_)
      · go_simp
        refine (rmk_any true A2.out N2.out.1 (by have := N2.out.2; have := HM.out; omega)).mono ?_
        rintro e v4 ⟨v, rfl, hv, hb4⟩
        obtain ⟨s4, g4, m4, rfl, hg4, hz4, hl4⟩ := hv
        have HN4 : Hid (w.heap.size ≤ g4) := Nat.le_trans hbw.size hg4
        have HR4 : Hid (gr < g4) := Nat.lt_of_lt_of_le Xr.out.lt hg4
        replace Xa : Hid _ := Xa.out.below hb4
        replace Xr : Hid _ := Xr.out.below hb4
        replace A2 : Hid _ := A2.out.below hb4
        replace hbw := Below.on hbw hb4
        clear hb4
        have Z4 : Hid (ZR v4 s4 (some ⟨g4, 0, none⟩) m4 (iv true (x.natAbs / 2 ^ k))) := hz4
        have HL4 : Hid (m4 ≤ m2) := hl4
        clear hz4 hl4 hg4
        have HLq : Hid (m4 ≤ m) := Nat.le_trans HL4.out N2.out.2
        clear HL4 N2
        refine hK _ _ ⟨Xa.out.c0, Xa.out.c1⟩ ?_
        clear hK
        refine wpJ_on 7 rfl fun KJ hK => ?_
        go_simp
        have HDq : Hid (ga ≠ v4.heap.size ∧ gr ≠ v4.heap.size) := ⟨Nat.ne_of_lt Xa.out.lt, Nat.ne_of_lt Xr.out.lt⟩
        have HO4q : Hid (OffR g4 m4 v4.heap.size) := Z4.out.off_new
        have HDrq : Hid (gr ≠ v4.heap.size) := Nat.ne_of_lt Xr.out.lt
        have Xq0 : Hid (Box (v4.alloc (.cells #[.bool false, .slice none 0 0] 50)) v4.heap.size (.bool false) (.slice none 0 0)) := Box.new v4 _ _ _
        have hbn : Below v4.heap.size v4 (v4.alloc (.cells #[.bool false, .slice none 0 0] 50)) := below1 v4 _
        generalize v4.alloc (.cells #[.bool false, .slice none 0 0] 50) = Wq at *
        have HGq : Hid (w.heap.size ≤ v4.heap.size) := hbw.size
        replace Xa : Hid _ := Xa.out.below hbn
        replace Xr : Hid _ := Xr.out.below hbn
        replace A2 : Hid _ := A2.out.below hbn
        replace Z4 : Hid _ := Z4.out.below hbn
        replace hbw := Below.on hbw hbn
        clear hbn
        generalize v4.heap.size = gq at *
        have Xq := Xq0
        clear Xq0
        refine hK _ _ ⟨Xa.out.c0, Xa.out.c1⟩ ?_
        clear hK
        obtain ⟨cq0, cq1, fq0, fq1⟩ := Xq.out
        have hneq := Xq.out.lt
        obtain ⟨ca0, ca1, fa0, fa1⟩ := Xa.out
        have hnea := Xa.out.lt
        obtain ⟨cr0, cr1, fr0, fr1⟩ := Xr.out
        have hner := Xr.out.lt
        have qqa : ga ≠ gq := HDq.out.1
        have qaq : gq ≠ ga := fun h => qqa h.symm
        have qqr : gr ≠ gq := HDq.out.2
        have qrq : gq ≠ gr := fun h => qqr h.symm
        refine wpJ_on 8 rfl fun KJ hK => ?_
        go_simp
        have HJ2 : Hid ((fun W' : World => W'.cell? ⟨ga, 0, none⟩ = some (.bool true) ∧ W'.cell? ⟨ga, 1, none⟩ = some (.slice p m m)) ((Wq.setCell ⟨gq, 0, none⟩ (.bool s4)).setCell ⟨gq, 1, none⟩ (.slice (some ⟨g4, 0, none⟩) m4 m4))) := ⟨by go_simp, by go_simp⟩
        have Xq2 : Hid (Box ((Wq.setCell ⟨gq, 0, none⟩ (.bool s4)).setCell ⟨gq, 1, none⟩ (.slice (some ⟨g4, 0, none⟩) m4 m4)) gq (.bool s4) (.slice (some ⟨g4, 0, none⟩) m4 m4)) := ⟨by go_simp, by go_simp, by go_simp, by go_simp⟩
        have Xa2 : Hid (Box ((Wq.setCell ⟨gq, 0, none⟩ (.bool s4)).setCell ⟨gq, 1, none⟩ (.slice (some ⟨g4, 0, none⟩) m4 m4)) ga (.bool true) (.slice p m m)) := ⟨by go_simp, by go_simp, by go_simp, by go_simp⟩
        have Xr2 : Hid (Box ((Wq.setCell ⟨gq, 0, none⟩ (.bool s4)).setCell ⟨gq, 1, none⟩ (.slice (some ⟨g4, 0, none⟩) m4 m4)) gr (.bool false) (.slice none 0 0)) := ⟨by go_simp, by go_simp, by go_simp, by go_simp⟩
        have Z42 : Hid (ZR ((Wq.setCell ⟨gq, 0, none⟩ (.bool s4)).setCell ⟨gq, 1, none⟩ (.slice (some ⟨g4, 0, none⟩) m4 m4)) s4 (some ⟨g4, 0, none⟩) m4 (iv true (x.natAbs / 2 ^ k))) := (Z4.out.setOff HO4q.out _ _).setOff HO4q.out _ _
        have hbw2 : Below w.heap.size w ((Wq.setCell ⟨gq, 0, none⟩ (.bool s4)).setCell ⟨gq, 1, none⟩ (.slice (some ⟨g4, 0, none⟩) m4 m4)) := bSet (bSet hbw _ _ _ HGq.out) _ _ _ HGq.out
        refine hK _ _ HJ2.out ?_
        clear hK HJ
        have HJ := HJ2
        clear HJ2 hbw A2 Z4
        clear cq0 cq1 fq0 fq1 hneq
        clear ca0 ca1 fa0 fa1 hnea
        clear cr0 cr1 fr0 fr1 hner
        clear qqa qaq qqr qrq Xq Xa Xr
        generalize ((Wq.setCell ⟨gq, 0, none⟩ (.bool s4)).setCell ⟨gq, 1, none⟩ (.slice (some ⟨g4, 0, none⟩) m4 m4)) = Ws0 at *
        have hbw := hbw2
        have Z4 := Z42
        have Xq := Xq2
        have Xa := Xa2
        have Xr := Xr2
        clear hbw2 Z42 Xq2 Xa2 Xr2
        refine wpJ_done (by kernel_rfl) ?_ _
        exact ⟨rfl, gq, s4, g4, m4, p2, m2, by kernel_rfl, Xa.out, Xr.out, Xq.out, Z4.out, HLq.out, HN4.out, HR4.out, HDrq.out, hbw⟩
      · go_simp
        have HDq : Hid (ga ≠ v2.heap.size ∧ gr ≠ v2.heap.size) := ⟨Nat.ne_of_lt Xa.out.lt, Nat.ne_of_lt Xr.out.lt⟩
        have HDrq : Hid (gr ≠ v2.heap.size) := Nat.ne_of_lt Xr.out.lt
        have Xq0 : Hid (Box (v2.alloc (.cells #[.bool false, .slice none 0 0] 50)) v2.heap.size (.bool false) (.slice none 0 0)) := Box.new v2 _ _ _
        have hbn : Below v2.heap.size v2 (v2.alloc (.cells #[.bool false, .slice none 0 0] 50)) := below1 v2 _
        generalize v2.alloc (.cells #[.bool false, .slice none 0 0] 50) = Wq at *
        have HGq : Hid (w.heap.size ≤ v2.heap.size) := hbw.size
        replace Xa : Hid _ := Xa.out.below hbn
        replace Xr : Hid _ := Xr.out.below hbn
        replace A2 : Hid _ := A2.out.below hbn
        replace hbw := Below.on hbw hbn
        clear hbn
        generalize v2.heap.size = gq at *
        have Xq := Xq0
        clear Xq0
        refine hK _ _ ⟨Xa.out.c0, Xa.out.c1⟩ ?_
        clear hK
        refine wpJ_on 6 rfl fun KJ hK => ?_
        go_simp
        refine (rmk_any true A2.out N2.out.1 (by have := N2.out.2; have := HM.out; omega)).mono ?_
        rintro e v4 ⟨v, rfl, hv, hb4⟩
        obtain ⟨s4, g4, m4, rfl, hg4, hz4, hl4⟩ := hv
        have HO4q : Hid (OffR g4 m4 gq) := .inr (Nat.ne_of_gt (Nat.lt_of_lt_of_le Xq.out.lt hg4))
        have HN4 : Hid (w.heap.size ≤ g4) := Nat.le_trans hbw.size hg4
        have HR4 : Hid (gr < g4) := Nat.lt_of_lt_of_le Xr.out.lt hg4
        replace Xa : Hid _ := Xa.out.below hb4
        replace Xr : Hid _ := Xr.out.below hb4
        replace Xq : Hid _ := Xq.out.below hb4
        replace A2 : Hid _ := A2.out.below hb4
        replace hbw := Below.on hbw hb4
        clear hb4
        have Z4 : Hid (ZR v4 s4 (some ⟨g4, 0, none⟩) m4 (iv true (x.natAbs / 2 ^ k))) := hz4
        have HL4 : Hid (m4 ≤ m2) := hl4
        clear hz4 hl4 hg4
        have HLq : Hid (m4 ≤ m) := Nat.le_trans HL4.out N2.out.2
        clear HL4 N2
        refine hK _ _ ⟨Xa.out.c0, Xa.out.c1⟩ ?_
        clear hK
        obtain ⟨cq0, cq1, fq0, fq1⟩ := Xq.out
        have hneq := Xq.out.lt
        obtain ⟨ca0, ca1, fa0, fa1⟩ := Xa.out
        have hnea := Xa.out.lt
        obtain ⟨cr0, cr1, fr0, fr1⟩ := Xr.out
        have hner := Xr.out.lt
        have qqa : ga ≠ gq := HDq.out.1
        have qaq : gq ≠ ga := fun h => qqa h.symm
        have qqr : gr ≠ gq := HDq.out.2
        have qrq : gq ≠ gr := fun h => qqr h.symm
        refine wpJ_on 8 rfl fun KJ hK => ?_
        go_simp
        have HJ2 : Hid ((fun W' : World => W'.cell? ⟨ga, 0, none⟩ = some (.bool true) ∧ W'.cell? ⟨ga, 1, none⟩ = some (.slice p m m)) ((v4.setCell ⟨gq, 0, none⟩ (.bool s4)).setCell ⟨gq, 1, none⟩ (.slice (some ⟨g4, 0, none⟩) m4 m4))) := ⟨by go_simp, by go_simp⟩
        have Xq2 : Hid (Box ((v4.setCell ⟨gq, 0, none⟩ (.bool s4)).setCell ⟨gq, 1, none⟩ (.slice (some ⟨g4, 0, none⟩) m4 m4)) gq (.bool s4) (.slice (some ⟨g4, 0, none⟩) m4 m4)) := ⟨by go_simp, by go_simp, by go_simp, by go_simp⟩
        have Xa2 : Hid (Box ((v4.setCell ⟨gq, 0, none⟩ (.bool s4)).setCell ⟨gq, 1, none⟩ (.slice (some ⟨g4, 0, none⟩) m4 m4)) ga (.bool true) (.slice p m m)) := ⟨by go_simp, by go_simp, by go_simp, by go_simp⟩
        have Xr2 : Hid (Box ((v4.setCell ⟨gq, 0, none⟩ (.bool s4)).setCell ⟨gq, 1, none⟩ (.slice (some ⟨g4, 0, none⟩) m4 m4)) gr (.bool false) (.slice none 0 0)) := ⟨by go_simp, by go_simp, by go_simp, by go_simp⟩
        have Z42 : Hid (ZR ((v4.setCell ⟨gq, 0, none⟩ (.bool s4)).setCell ⟨gq, 1, none⟩ (.slice (some ⟨g4, 0, none⟩) m4 m4)) s4 (some ⟨g4, 0, none⟩) m4 (iv true (x.natAbs / 2 ^ k))) := (Z4.out.setOff HO4q.out _ _).setOff HO4q.out _ _
        have hbw2 : Below w.heap.size w ((v4.setCell ⟨gq, 0, none⟩ (.bool s4)).setCell ⟨gq, 1, none⟩ (.slice (some ⟨g4, 0, none⟩) m4 m4)) := bSet (bSet hbw _ _ _ HGq.out) _ _ _ HGq.out
        refine hK _ _ HJ2.out ?_
        clear hK HJ
        have HJ := HJ2
        clear HJ2 hbw A2 Z4
        clear cq0 cq1 fq0 fq1 hneq
        clear ca0 ca1 fa0 fa1 hnea
        clear cr0 cr1 fr0 fr1 hner
        clear qqa qaq qqr qrq Xq Xa Xr
        generalize ((v4.setCell ⟨gq, 0, none⟩ (.bool s4)).setCell ⟨gq, 1, none⟩ (.slice (some ⟨g4, 0, none⟩) m4 m4)) = Ws0 at *
        have hbw := hbw2
        have Z4 := Z42
        have Xq := Xq2
        have Xa := Xa2
        have Xr := Xr2
        clear hbw2 Z42 Xq2 Xa2 Xr2
        refine wpJ_done (by kernel_rfl) ?_ _
        exact ⟨rfl, gq, s4, g4, m4, p2, m2, by kernel_rfl, Xa.out, Xr.out, Xq.out, Z4.out, HLq.out, HN4.out, HR4.out, HDrq.out, hbw⟩
    · go_simp
      have HDq : Hid (ga ≠ W1.heap.size ∧ gr ≠ W1.heap.size) := ⟨Nat.ne_of_lt Xa.out.lt, Nat.ne_of_lt Xr.out.lt⟩
      have HDrq : Hid (gr ≠ W1.heap.size) := Nat.ne_of_lt Xr.out.lt
      have Xq0 : Hid (Box (W1.alloc (.cells #[.bool false, .slice none 0 0] 50)) W1.heap.size (.bool false) (.slice none 0 0)) := Box.new W1 _ _ _
      have hbn : Below W1.heap.size W1 (W1.alloc (.cells #[.bool false, .slice none 0 0] 50)) := below1 W1 _
      generalize W1.alloc (.cells #[.bool false, .slice none 0 0] 50) = Wq at *
      have HGq : Hid (w.heap.size ≤ W1.heap.size) := hbw.size
      replace Xa : Hid _ := Xa.out.below hbn
      replace Xr : Hid _ := Xr.out.below hbn
      replace hbw := Below.on hbw hbn
      clear hbn
      generalize W1.heap.size = gq at *
      have Xq := Xq0
      clear Xq0
      refine hK _ _ ⟨Xa.out.c0, Xa.out.c1⟩ ?_
      clear hK
      refine wpJ_on 5 rfl fun KJ hK => ?_
      go_simp
      refine (rfshr_any (AX.out.below hbw) NX.out HM.out k HK.out.1 HK.out.2).mono ?_
      rintro e v2 ⟨p2, m2, z2, rfl, hA2, hN2, hl2, hb2⟩
      replace Xa : Hid _ := Xa.out.below hb2
      replace Xr : Hid _ := Xr.out.below hb2
      replace Xq : Hid _ := Xq.out.below hb2
      replace hbw := Below.on hbw hb2
      clear hb2
      have A2 : Hid (At32 v2 p2 m2 m2 z2) := hA2
      have N2 : Hid (Nf B32 z2 (x.natAbs / 2 ^ k) ∧ m2 ≤ m) := ⟨hN2, hl2⟩
      clear hA2 hN2 hl2
      refine hK _ _ ⟨Xa.out.c0, Xa.out.c1⟩ ?_
      clear hK
      refine wpJ_on 6 rfl fun KJ hK => ?_
      go_simp
      refine (rmk_any true A2.out N2.out.1 (by have := N2.out.2; have := HM.out; omega)).mono ?_
      rintro e v4 ⟨v, rfl, hv, hb4⟩
      obtain ⟨s4, g4, m4, rfl, hg4, hz4, hl4⟩ := hv
      have HO4q : Hid (OffR g4 m4 gq) := .inr (Nat.ne_of_gt (Nat.lt_of_lt_of_le Xq.out.lt hg4))
      have HN4 : Hid (w.heap.size ≤ g4) := Nat.le_trans hbw.size hg4
      have HR4 : Hid (gr < g4) := Nat.lt_of_lt_of_le Xr.out.lt hg4
      replace Xa : Hid _ := Xa.out.below hb4
      replace Xr : Hid _ := Xr.out.below hb4
      replace Xq : Hid _ := Xq.out.below hb4
      replace A2 : Hid _ := A2.out.below hb4
      replace hbw := Below.on hbw hb4
      clear hb4
      have Z4 : Hid (ZR v4 s4 (some ⟨g4, 0, none⟩) m4 (iv true (x.natAbs / 2 ^ k))) := hz4
      have HL4 : Hid (m4 ≤ m2) := hl4
      clear hz4 hl4 hg4
      have HLq : Hid (m4 ≤ m) := Nat.le_trans HL4.out N2.out.2
      clear HL4 N2
      refine hK _ _ ⟨Xa.out.c0, Xa.out.c1⟩ ?_
      clear hK
      obtain ⟨cq0, cq1, fq0, fq1⟩ := Xq.out
      have hneq := Xq.out.lt
      obtain ⟨ca0, ca1, fa0, fa1⟩ := Xa.out
      have hnea := Xa.out.lt
      obtain ⟨cr0, cr1, fr0, fr1⟩ := Xr.out
      have hner := Xr.out.lt
      have qqa : ga ≠ gq := HDq.out.1
      have qaq : gq ≠ ga := fun h => qqa h.symm
      have qqr : gr ≠ gq := HDq.out.2
      have qrq : gq ≠ gr := fun h => qqr h.symm
      refine wpJ_on 8 rfl fun KJ hK => ?_
      go_simp
      have HJ2 : Hid ((fun W' : World => W'.cell? ⟨ga, 0, none⟩ = some (.bool true) ∧ W'.cell? ⟨ga, 1, none⟩ = some (.slice p m m)) ((v4.setCell ⟨gq, 0, none⟩ (.bool s4)).setCell ⟨gq, 1, none⟩ (.slice (some ⟨g4, 0, none⟩) m4 m4))) := ⟨by go_simp, by go_simp⟩
      have Xq2 : Hid (Box ((v4.setCell ⟨gq, 0, none⟩ (.bool s4)).setCell ⟨gq, 1, none⟩ (.slice (some ⟨g4, 0, none⟩) m4 m4)) gq (.bool s4) (.slice (some ⟨g4, 0, none⟩) m4 m4)) := ⟨by go_simp, by go_simp, by go_simp, by go_simp⟩
      have Xa2 : Hid (Box ((v4.setCell ⟨gq, 0, none⟩ (.bool s4)).setCell ⟨gq, 1, none⟩ (.slice (some ⟨g4, 0, none⟩) m4 m4)) ga (.bool true) (.slice p m m)) := ⟨by go_simp, by go_simp, by go_simp, by go_simp⟩
      have Xr2 : Hid (Box ((v4.setCell ⟨gq, 0, none⟩ (.bool s4)).setCell ⟨gq, 1, none⟩ (.slice (some ⟨g4, 0, none⟩) m4 m4)) gr (.bool false) (.slice none 0 0)) := ⟨by go_simp, by go_simp, by go_simp, by go_simp⟩
      have Z42 : Hid (ZR ((v4.setCell ⟨gq, 0, none⟩ (.bool s4)).setCell ⟨gq, 1, none⟩ (.slice (some ⟨g4, 0, none⟩) m4 m4)) s4 (some ⟨g4, 0, none⟩) m4 (iv true (x.natAbs / 2 ^ k))) := (Z4.out.setOff HO4q.out _ _).setOff HO4q.out _ _
      have hbw2 : Below w.heap.size w ((v4.setCell ⟨gq, 0, none⟩ (.bool s4)).setCell ⟨gq, 1, none⟩ (.slice (some ⟨g4, 0, none⟩) m4 m4)) := bSet (bSet hbw _ _ _ HGq.out) _ _ _ HGq.out
      refine hK _ _ HJ2.out ?_
      clear hK HJ
      have HJ := HJ2
      clear HJ2 hbw A2 Z4
      clear cq0 cq1 fq0 fq1 hneq
      clear ca0 ca1 fa0 fa1 hnea
      clear cr0 cr1 fr0 fr1 hner
      clear qqa qaq qqr qrq Xq Xa Xr
      generalize ((v4.setCell ⟨gq, 0, none⟩ (.bool s4)).setCell ⟨gq, 1, none⟩ (.slice (some ⟨g4, 0, none⟩) m4 m4)) = Ws0 at *
      have hbw := hbw2
      have Z4 := Z42
      have Xq := Xq2
      have Xa := Xa2
      have Xr := Xr2
      clear hbw2 Z42 Xq2 Xa2 Xr2
      refine wpJ_done (by kernel_rfl) ?_ _
      exact ⟨rfl, gq, s4, g4, m4, p2, m2, by kernel_rfl, Xa.out, Xr.out, Xq.out, Z4.out, HLq.out, HN4.out, HR4.out, HDrq.out, hbw⟩
theorem rfloorshr04 {p : Option Addr} {m : Nat} {w : World} {x : Int} (s : Bool) (h : ZR w s p m x) (hm : m ≤ 16384) (k : Nat) (hk : k ≤ 9223372036854775807) :
    Calls Tryd.prog 31 #[.agg #[.bool s, .slice p m m], .int .i64 k] w fun e w' => ∃ v, e = .returned v ∧ GotR w.heap.size w' v (rFs x k) (m + 4) ∧ Below w.heap.size w w' := by
  rcases Nat.eq_zero_or_pos k with rfl | h0
  · rw [rFs_zero]
    exact rfloorshr04_z s h hm
  · cases s
    · exact rfloorshr04_p h hm k h0 hk
    · by_cases hl : x.natAbs % 2 ^ k = 0
      · exact rfloorshr04_n0 h hm k h0 hk hl
      · exact rfloorshr04_n1 h hm k h0 hk hl
end Go.Proofs.YtionkfnapodhbaaDoor
