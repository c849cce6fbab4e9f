import Derived.Test.YtidggnjnlhjhlaaGreatDoorJ13
import Derived.Test.YtidggnjnlhjhlaaGreatDoorJ8
import Derived.Test.YtidggnjnlhjhlaaGreatDoorJ11
import Derived.Test.YtidggnjnlhjhlaaGreatDoorJ12
import Derived.Laws.Externs
import Derived.Test.YtidggnjnlhjhlaaGreatDoorJ10
namespace Go.Proofs.YtidggnjnlhjhlaaGreatDoor
open Go.RowKit Go.Shelf
set_option maxRecDepth 20000
set_option maxHeartbeats 0
theorem Hid.mk9 {p : Prop} (h : p) : Hid p := h
theorem bits_le {a K : Nat} (h : a < 2 ^ K) : bitsN a ≤ K := by
  by_cases h0 : a = 0
  · subst h0; rw [bitsN_zero]; omega
  · have h1 := bitsN_le a h0
    have h2 := (Nat.pow_lt_pow_iff_right (by decide : 1 < 2)).1 (Nat.lt_of_le_of_lt h1 h)
    omega
theorem hold_vs {s q man b A : Nat} {e f : Int} (hq : q = s / 4503599627370496 - 1) (hm : man = s - q * 4503599627370496) (he : e = -1074 + (q : Int)) (hf : -1074 ≤ f) (hA : A = b * 2 ^ (f + 1074).toNat) : cmpN (man * 2 ^ (e + 1300).toNat) (b * 2 ^ (f + 1300).toNat) = cmpN (vs 4503599627370496 s) A := by
  have e1 : man * 2 ^ (e + 1300).toNat = vs 4503599627370496 s * 2 ^ 226 := by
    unfold vs
    rw [← hq, ← hm, show (e + 1300).toNat = q + 226 by omega, Nat.pow_add, Nat.mul_assoc]
  have e2 : b * 2 ^ (f + 1300).toNat = A * 2 ^ 226 := by rw [hA, show (f + 1300).toNat = (f + 1074).toNat + 226 by omega, Nat.pow_add, Nat.mul_assoc]
  rw [e1, e2, cmpN_mul _ _ _ (Nat.two_pow_pos _)]
theorem hold_hv {q man b A : Nat} {e f : Int} (he : e = -1074 + (q : Int) - 1) (hf : -1074 ≤ f) (hA : A = b * 2 ^ (f + 1074).toNat) : cmpN ((2 * man + 1) * 2 ^ (e + 1300).toNat) (b * 2 ^ (f + 1300).toNat) = cmpN ((2 * man + 1) * 2 ^ q) (2 * A) := by
  have e1 : (2 * man + 1) * 2 ^ (e + 1300).toNat = (2 * man + 1) * 2 ^ q * 2 ^ 225 := by rw [show (e + 1300).toNat = q + 225 by omega, Nat.pow_add, Nat.mul_assoc]
  have e2 : b * 2 ^ (f + 1300).toNat = 2 * A * 2 ^ 225 := by rw [hA, show (f + 1300).toNat = (f + 1074).toNat + (1 + 225) by omega, Nat.pow_add, Nat.pow_add, ← Nat.mul_assoc, ← Nat.mul_assoc, Nat.mul_comm 2]
  rw [e1, e2, cmpN_mul _ _ _ (Nat.two_pow_pos _)]
theorem cmpN_le9 (a b : Nat) : cmpN a b ≤ 0 ↔ a ≤ b := by
  unfold cmpN
  split
  · exact ⟨fun _ => by omega, fun _ => by decide⟩
  · split
    · exact ⟨fun _ => by omega, fun _ => by decide⟩
    · exact ⟨fun h => absurd h (by decide), fun h => by omega⟩
theorem size_ok {w : World} {p1 p2 : Option Addr} {m1 m2 b A : Nat} (k1 : RN w p1 m1 b) (k2 : RN w p2 m2 1) (hb : b ≠ 0) (f : Int) (hf : -1074 ≤ f ∧ f ≤ 1000) (hB : bitsN b ≤ 2200) (hA : A = b * 2 ^ (f + 1074).toNat) (hI : A < vs 4503599627370496 9218868437227405312) :
    Calls Tryz.prog 101 #[FV 9223372036854775808 53 (-1074) 971 9218868437227405312 9221120237041090561, .agg #[.slice p1 m1 m1, .slice p2 m2 m2, .int .i64 f, .bool false]] w fun en w' => en = .returned (U (rg 0 A)) ∧ Below w.heap.size w w' := by
  have N1 : Hid (RN w p1 m1 b) := k1
  have N2 : Hid (RN w p2 m2 1) := k2
  obtain ⟨R, hR⟩ : ∃ R, R = rg 0 A := ⟨_, rfl⟩
  rw [← hR]
  have HC : Hid (b ≠ 0 ∧ (-1074 ≤ f ∧ f ≤ 1000) ∧ bitsN b ≤ 2200 ∧ A = b * 2 ^ (f + 1074).toNat ∧ A < vs 4503599627370496 9218868437227405312 ∧ R = rg 0 A) := ⟨hb, hf, hB, hA, hI, hR⟩
  clear k1 k2 hb hf hB hA hI hR
  go_enter Tryz.func101, Tryz.ntmps101
  go_wp2_with fail
  obtain ⟨W0, hW0⟩ : ∃ W0, W0 = ((w.alloc (.cells #[U 9223372036854775808, .int .i64 53, .int .i64 (-1074), .int .i64 971, U 9218868437227405312, U 9221120237041090561] 119)).alloc (.cells #[.slice p1 m1 m1, .slice p2 m2 m2, .int .i64 f, .bool false] 126)) := ⟨_, rfl⟩
  have Xfm : Hid (B6q W0 (w.heap.size) (U 9223372036854775808) (.int .i64 53) (.int .i64 (-1074)) (.int .i64 971) (U 9218868437227405312) (U 9221120237041090561)) := by rw [hW0]; exact ⟨by go_simp, by go_simp, by go_simp, by go_simp, by go_simp, by go_simp, by go_simp, by go_simp, by go_simp, by go_simp, by go_simp, by go_simp⟩
  have Xv : Hid (B4q W0 (w.heap.size + 1) (.slice p1 m1 m1) (.slice p2 m2 m2) (.int .i64 f) (.bool false)) := by rw [hW0]; exact ⟨by go_simp, by go_simp, by go_simp, by go_simp, by go_simp, by go_simp, by go_simp, by go_simp⟩
  have hb0 : Below w.heap.size w W0 := by rw [hW0]; exact below2 w _ _
  rw [← hW0]
  clear hW0
  have hbw : Below w.heap.size w w := Below.refl _ _
  obtain ⟨gv, hgv⟩ : ∃ g, g = w.heap.size + 1 := ⟨_, rfl⟩
  have HGv : Hid (w.heap.size ≤ gv) := by rw [hgv]; show _ ≤ _; omega
  rw [← hgv] at Xv
  try rw [← hgv]
  obtain ⟨gfm, hgfm⟩ : ∃ g, g = w.heap.size := ⟨_, rfl⟩
  have HGfm : Hid (w.heap.size ≤ gfm) := by rw [hgfm]; show _ ≤ _; omega
  rw [← hgfm] at Xfm
  try rw [← hgfm]
  have HGD : Hid (gfm ≠ gv ∧ gv ≠ gfm) := by rw [hgfm, hgv]; exact ⟨by omega, by omega⟩
  clear hgfm hgv
  replace N1 : Hid (RN W0 p1 m1 b) := N1.out.below hb0
  replace N2 : Hid (RN W0 p2 m2 1) := N2.out.below hb0
  replace hbw := Below.on hbw hb0
  clear hb0
  obtain ⟨V1, hV1⟩ : ∃ W1, W1 = W0.drew := ⟨_, rfl⟩
  have hbd : Below W0.heap.size W0 V1 := by rw [hV1]; exact bDrew1 (Below.refl _ _)
  replace Xfm : Hid _ := Xfm.out.below hbd
  replace Xv : Hid _ := Xv.out.below hbd
  replace N1 : Hid (RN V1 p1 m1 b) := N1.out.below hbd
  replace N2 : Hid (RN V1 p2 m2 1) := N2.out.below hbd
  replace hbw := Below.on hbw hbd
  clear hbd
  have HJ : Hid ((fun W' : World => W'.cell? ⟨gfm, 4, none⟩ = some (U 9218868437227405312)) V1) := Xfm.out.c4
  refine wp_region_J (fun W' => W'.cell? ⟨gfm, 4, none⟩ = some (U 9218868437227405312)) (by kernel_rfl) ?_
  rw [← hV1]
  clear hV1
  refine wpJ_tk 0 (v := ?v1x0) rfl ?hy1x0 HJ.out ?_
  case hy1x0 => (intro W' hJ; have j0 := hJ; go_simp; first | done | with_reducible rfl)
  refine wpJ_tk 1 (v := ?v2x1) rfl ?hy2x1 HJ.out ?_
  case hy2x1 => (intro W' hJ; have j0 := hJ; go_simp; first | done | with_reducible rfl)
  refine wpJ_tk 2 (v := ?v3x2) rfl ?hy3x2 HJ.out ?_
  case hy3x2 => (intro W' hJ; have j0 := hJ; go_simp; first | done | with_reducible rfl)
  refine wpJ_tk 3 (v := ?v4x3) rfl ?hy4x3 HJ.out ?_
  case hy4x3 => (intro W' hJ; have j0 := hJ; go_simp; first | done | with_reducible rfl)
  refine wpJ_tk 4 (v := ?v5x4) rfl ?hy5x4 HJ.out ?_
  case hy5x4 => (intro W' hJ; have j0 := hJ; go_simp; first | done | with_reducible rfl)
  go_simp
  refine wpJ_done (by kernel_rfl) ?_ _
  clear HJ
  go_wp2_with fail
  obtain ⟨N0, hN0⟩ : ∃ N0 : Nat, N0 = 9218868437227405312 := ⟨_, rfl⟩
  go_loopg [5, 6] N0 (fun gk lov hiv wr => ∃ lo hi : Nat, lov = U lo ∧ hiv = U hi ∧ hi = lo + gk + 1 ∧ hi ≤ 9218868437227405312 + 1 ∧ vs 4503599627370496 lo ≤ A ∧ A < vs 4503599627370496 hi ∧ B6q wr gfm (U 9223372036854775808) (.int .i64 53) (.int .i64 (-1074)) (.int .i64 971) (U 9218868437227405312) (U 9221120237041090561) ∧ B4q wr gv (.slice p1 m1 m1) (.slice p2 m2 m2) (.int .i64 f) (.bool false) ∧ RN wr p1 m1 b ∧ RN wr p2 m2 1 ∧ Below w.heap.size w wr)
  case atStart => exact ⟨0, 9218868437227405312 + 1, rfl, rfl, by omega, by omega, by rw [vs_zero]; omega, Nat.lt_trans HC.out.2.2.2.2.1 (vs_mono (by decide) (by decide)), Xfm.out, Xv.out, N1.out, N2.out, hbw⟩
  case round =>
    clear hbw Xfm Xv N1 N2 hN0
    obtain ⟨lo, hi, rfl, rfl, hg, hi1, hlo, hhi, xk, xv, n1, n2, hbw⟩ := hrel
    have Xfm : Hid (B6q wr gfm (U 9223372036854775808) (.int .i64 53) (.int .i64 (-1074)) (.int .i64 971) (U 9218868437227405312) (U 9221120237041090561)) := xk
    have Xv : Hid (B4q wr gv (.slice p1 m1 m1) (.slice p2 m2 m2) (.int .i64 f) (.bool false)) := xv
    have N1 : Hid (RN wr p1 m1 b) := n1
    have N2 : Hid (RN wr p2 m2 1) := n2
    clear xk xv n1 n2
    have HLH : Hid (hi ≤ 9218868437227405313 ∧ vs 4503599627370496 lo ≤ A ∧ A < vs 4503599627370496 hi) := ⟨hi1, hlo, hhi⟩
    clear hi1 hlo hhi
    cases gk with
    | zero =>
      obtain rfl : hi = lo + 1 := by omega
      have w1 : IntKind.u64.wrap (((lo + 1 : Nat) : Int) - (lo : Int)) = 1 := by rw [IntKind.wrap_u64]; have := HLH.out.1; omega
      have HLO : Hid (lo < 9218868437227405312) := by
        refine Nat.lt_of_not_le fun h => ?_
        have h2 : vs 4503599627370496 9218868437227405312 ≤ vs 4503599627370496 lo := by
          rcases Nat.lt_or_eq_of_le h with h6 | h6
          · exact Nat.le_of_lt (vs_mono (by decide) h6)
          · rw [← h6]; exact Nat.le_refl _
        have := HLH.out.2.1; have := HC.out.2.2.2.2.1; omega
      have w2 : ((lo : Int) == 9218868437227405312) = false := by have := HLO.out; simp; omega
      clear hg
      obtain ⟨q, hq⟩ : ∃ q, q = lo / 4503599627370496 - 1 := ⟨_, rfl⟩
      obtain ⟨man, hman⟩ : ∃ man, man = lo - q * 4503599627370496 := ⟨_, rfl⟩
      obtain ⟨ex, hex⟩ : ∃ ex : Int, ex = -1074 + (q : Int) := ⟨_, rfl⟩
      have HPT := rparts_all64 lo (by have := HLO.out; omega)
      rw [← hq, ← hman, ← hex] at HPT
      obtain ⟨ex1, hex1⟩ : ∃ ex1 : Int, ex1 = ex - 1 := ⟨_, rfl⟩
      have HL0 : lo ≠ 0 := by
        intro h0
        have h1 := HLH.out.2.2
        rw [h0, show vs 4503599627370496 (0 + 1) = 1 by decide] at h1
        rw [HC.out.2.2.2.1] at h1
        have h2 : 0 < b * 2 ^ (f + 1074).toNat := Nat.mul_pos (Nat.pos_of_ne_zero HC.out.1) (Nat.two_pow_pos _)
        omega
      have HM0 : Hid (man ≠ 0) := by show _ ≠ _; omega
      clear HL0
      have HM : Hid (man < 9007199254740992 ∧ q ≤ 2046 ∧ (-1300 ≤ ex1 ∧ ex1 ≤ 1100) ∧ (∀ b A f, -1074 ≤ f → A = b * 2 ^ (f + 1074).toNat → cmpN ((2 * man + 1) * 2 ^ (ex1 + 1300).toNat) (b * 2 ^ (f + 1300).toNat) = cmpN ((2 * man + 1) * 2 ^ q) (2 * A)) ∧ rg 0 A = if (2 * man + 1) * 2 ^ q < 2 * A ∨ ((2 * man + 1) * 2 ^ q = 2 * A ∧ lo % 2 = 1) then lo + 1 else lo) := ⟨by have := HLO.out; omega, by have := HLO.out; omega, by have := HLO.out; omega, fun b A f h1 h2 => hold_hv (by omega) h1 h2, rg_by (by rw [HC.out.2.2.2.1]; exact Nat.ne_of_gt (Nat.mul_pos (Nat.pos_of_ne_zero HC.out.1) (Nat.two_pow_pos _))) HLH.out.2.1 HLH.out.2.2 HLO.out hq hman⟩
      have w3 : wrap64 (ex - 1) = ex1 := by have := HLO.out; simp only [wrap64]; omega
      have w4 : IntKind.i64.wrap (ex - 1) = ex1 := by have := HLO.out; simp [IntKind.wrap, IntKind.signed, IntKind.bits]; omega
      clear hq hman hex hex1
      obtain ⟨cfm0, cfm1, cfm2, cfm3, cfm4, cfm5, ffm0, ffm1, ffm2, ffm3, ffm4, ffm5⟩ := Xfm.out
      have hnefm : gfm < wr.heap.size := World.block_lt_of_cell? wr _ cfm0
      go_wp2_with fail
      clear cfm0 cfm1 cfm2 cfm3 cfm4 cfm5 ffm0 ffm1 ffm2 ffm3 ffm4 ffm5 hnefm
      refine (HPT _).mono ?_
      rintro e v1 ⟨rfl, hb1⟩
      replace Xfm : Hid _ := Xfm.out.below hb1
      replace Xv : Hid _ := Xv.out.below hb1
      replace N1 : Hid (RN v1 p1 m1 b) := N1.out.below hb1
      replace N2 : Hid (RN v1 p2 m2 1) := N2.out.below hb1
      replace hbw := Below.on hbw hb1
      clear hb1
      go_wp2_with fail
      obtain ⟨V5, hV5⟩ : ∃ W1, W1 = v1.drew := ⟨_, rfl⟩
      have hbd : Below v1.heap.size v1 V5 := by rw [hV5]; exact bDrew1 (Below.refl _ _)
      replace Xfm : Hid _ := Xfm.out.below hbd
      replace Xv : Hid _ := Xv.out.below hbd
      replace N1 : Hid (RN V5 p1 m1 b) := N1.out.below hbd
      replace N2 : Hid (RN V5 p2 m2 1) := N2.out.below hbd
      replace hbw := Below.on hbw hbd
      clear hbd
      have HJ : Hid ((fun W' : World => W'.cell? ⟨gv, 0, none⟩ = some (.slice p1 m1 m1) ∧ W'.cell? ⟨gv, 1, none⟩ = some (.slice p2 m2 m2) ∧ W'.cell? ⟨gv, 2, none⟩ = some (.int .i64 f) ∧ W'.cell? ⟨gv, 3, none⟩ = some (.bool false)) V5) := ⟨Xv.out.c0, Xv.out.c1, Xv.out.c2, Xv.out.c3⟩
      refine wp_region_J (fun W' => W'.cell? ⟨gv, 0, none⟩ = some (.slice p1 m1 m1) ∧ W'.cell? ⟨gv, 1, none⟩ = some (.slice p2 m2 m2) ∧ W'.cell? ⟨gv, 2, none⟩ = some (.int .i64 f) ∧ W'.cell? ⟨gv, 3, none⟩ = some (.bool false)) (by kernel_rfl) ?_
      rw [← hV5]
      clear hV5
      obtain ⟨c, hc⟩ : ∃ c, c = cmpN ((2 * man + 1) * 2 ^ q) (2 * A) := ⟨_, rfl⟩
      have HCC := Hid.mk9 hc
      clear hc
      refine wpJ_tq 0 rfl HJ.out ?_
      refine wpJ_tq 1 rfl HJ.out ?_
      refine wpJ_tq 6 rfl HJ.out ?_
      refine wpJ_tq 7 rfl HJ.out ?_
      refine wpJ_on 2 rfl fun KJ hK => ?_
      go_simp
      refine (rn_word man (by have := HM.out.1; omega)).mono ?_
      rintro en v12 ⟨p12, m12, rfl, hn12, hb12⟩
      replace Xfm : Hid _ := Xfm.out.below hb12
      replace Xv : Hid _ := Xv.out.below hb12
      replace N1 : Hid (RN v12 p1 m1 b) := N1.out.below hb12
      replace N2 : Hid (RN v12 p2 m2 1) := N2.out.below hb12
      replace hbw := Below.on hbw hb12
      clear hb12
      have N12 : Hid (RN v12 p12 m12 (man)) := hn12
      clear hn12
      refine hK _ _ ⟨Xv.out.c0, Xv.out.c1, Xv.out.c2, Xv.out.c3⟩ ?_
      clear hK
      refine wpJ_on 3 rfl fun KJ hK => ?_
      go_simp
      refine (rn_shl N12.out HM0.out 1 (by decide) (K := 60) (by decide) (by have := HM.out.1; omega)).mono ?_
      rintro en v13 ⟨p13, m13, rfl, hn13, hb13⟩
      replace Xfm : Hid _ := Xfm.out.below hb13
      replace Xv : Hid _ := Xv.out.below hb13
      replace N1 : Hid (RN v13 p1 m1 b) := N1.out.below hb13
      replace N2 : Hid (RN v13 p2 m2 1) := N2.out.below hb13
      replace N12 : Hid (RN v13 p12 m12 (man)) := N12.out.below hb13
      replace hbw := Below.on hbw hb13
      clear hb13
      have N13 : Hid (RN v13 p13 m13 (man * 2 ^ 1)) := hn13
      clear hn13
      refine hK _ _ ⟨Xv.out.c0, Xv.out.c1, Xv.out.c2, Xv.out.c3⟩ ?_
      clear hK
      refine wpJ_on 4 rfl fun KJ hK => ?_
      go_simp
      refine (rn_word 1 (by decide)).mono ?_
      rintro en v14 ⟨p14, m14, rfl, hn14, hb14⟩
      replace Xfm : Hid _ := Xfm.out.below hb14
      replace Xv : Hid _ := Xv.out.below hb14
      replace N1 : Hid (RN v14 p1 m1 b) := N1.out.below hb14
      replace N2 : Hid (RN v14 p2 m2 1) := N2.out.below hb14
      replace N12 : Hid (RN v14 p12 m12 (man)) := N12.out.below hb14
      replace N13 : Hid (RN v14 p13 m13 (man * 2 ^ 1)) := N13.out.below hb14
      replace hbw := Below.on hbw hb14
      clear hb14
      have N14 : Hid (RN v14 p14 m14 (1)) := hn14
      clear hn14
      refine hK _ _ ⟨Xv.out.c0, Xv.out.c1, Xv.out.c2, Xv.out.c3⟩ ?_
      clear hK
      refine wpJ_on 5 rfl fun KJ hK => ?_
      go_simp
      refine (rn_add N13.out N14.out (K := 60) (by decide) (by have := HM.out.1; omega)).mono ?_
      rintro en v15 ⟨p15, m15, rfl, hn15, hb15⟩
      have hn15 := hn15.cast (b := 2 * man + 1) (by omega)
      replace Xfm : Hid _ := Xfm.out.below hb15
      replace Xv : Hid _ := Xv.out.below hb15
      replace N1 : Hid (RN v15 p1 m1 b) := N1.out.below hb15
      replace N2 : Hid (RN v15 p2 m2 1) := N2.out.below hb15
      replace N12 : Hid (RN v15 p12 m12 (man)) := N12.out.below hb15
      replace N13 : Hid (RN v15 p13 m13 (man * 2 ^ 1)) := N13.out.below hb15
      replace N14 : Hid (RN v15 p14 m14 (1)) := N14.out.below hb15
      replace hbw := Below.on hbw hb15
      clear hb15
      have N15 : Hid (RN v15 p15 m15 (2 * man + 1)) := hn15
      clear hn15
      refine hK _ _ ⟨Xv.out.c0, Xv.out.c1, Xv.out.c2, Xv.out.c3⟩ ?_
      clear hK
      refine wpJ_on 8 rfl fun KJ hK => ?_
      go_simp
      refine (hold_ok N15.out N1.out N2.out HC.out.1 ex1 f HM.out.2.2.1 (by have := HC.out.2.1; omega) (by have := bits_le (K := 64) (show 2 * man + 1 < 2 ^ 64 by have := HM.out.1; omega); omega) (by have := HC.out.2.2.1; omega)).mono ?_
      rintro e v16 ⟨rfl, hb16⟩
      rw [HM.out.2.2.2.1 b A f HC.out.2.1.1 HC.out.2.2.2.1, ← HCC.out]
      replace Xfm : Hid _ := Xfm.out.below hb16
      replace Xv : Hid _ := Xv.out.below hb16
      replace N1 : Hid (RN v16 p1 m1 b) := N1.out.below hb16
      replace N2 : Hid (RN v16 p2 m2 1) := N2.out.below hb16
      replace N12 : Hid (RN v16 p12 m12 (man)) := N12.out.below hb16
      replace N13 : Hid (RN v16 p13 m13 (man * 2 ^ 1)) := N13.out.below hb16
      replace N14 : Hid (RN v16 p14 m14 (1)) := N14.out.below hb16
      replace N15 : Hid (RN v16 p15 m15 (2 * man + 1)) := N15.out.below hb16
      replace hbw := Below.on hbw hb16
      clear hb16
      clear HJ
      have HJ : Hid ((fun W' : World => W'.cell? ⟨gv, 0, none⟩ = some (.slice p1 m1 m1) ∧ W'.cell? ⟨gv, 1, none⟩ = some (.slice p2 m2 m2) ∧ W'.cell? ⟨gv, 2, none⟩ = some (.int .i64 f) ∧ W'.cell? ⟨gv, 3, none⟩ = some (.bool false)) v16) := ⟨Xv.out.c0, Xv.out.c1, Xv.out.c2, Xv.out.c3⟩
      refine hK _ _ HJ.out ?_
      clear hK
      refine wpJ_tq 9 rfl HJ.out ?_
      go_simp
      refine wpJ_done (by kernel_rfl) ?_ _
      clear HJ
      rcases Nat.lt_trichotomy ((2 * man + 1) * 2 ^ q) (2 * A) with h1 | h1 | h1
      · obtain rfl : c = -1 := HCC.out.trans (cmpN_lt h1)
        have HRR : Hid (R = lo + 1) := by show _ = _; rw [HC.out.2.2.2.2.2, HM.out.2.2.2.2, if_pos (.inl h1)]
        clear h1 HCC
        have w6 : IntKind.u64.wrap ((lo : Int) + 1) = ((lo + 1 : Nat) : Int) := by rw [IntKind.wrap_u64]; have := HLO.out; omega
        go_wp2_with fail
        rw [HRR.out]
        go_ret
        exact ⟨rfl, hbw⟩
      · obtain rfl : c = 0 := HCC.out.trans (cmpN_eq h1)
        by_cases hod : lo % 2 = 1
        · have HRR : Hid (R = lo + 1) := by show _ = _; rw [HC.out.2.2.2.2.2, HM.out.2.2.2.2, if_pos (.inr ⟨h1, hod⟩)]
          have w7 : (lo : Int) % 2 = 1 := by omega
          clear h1 HCC hod
          have w6 : IntKind.u64.wrap ((lo : Int) + 1) = ((lo + 1 : Nat) : Int) := by rw [IntKind.wrap_u64]; have := HLO.out; omega
          go_wp2_with fail
          rw [HRR.out]
          go_ret
          exact ⟨rfl, hbw⟩
        · have HRR : Hid (R = lo) := by show _ = _; rw [HC.out.2.2.2.2.2, HM.out.2.2.2.2, if_neg (by omega)]
          have w7 : (lo : Int) % 2 = 0 := by omega
          clear h1 HCC hod
          go_wp2_with fail
          rw [HRR.out]
          go_ret
          exact ⟨rfl, hbw⟩
      · obtain rfl : c = 1 := HCC.out.trans (cmpN_gt h1)
        have HRR : Hid (R = lo) := by show _ = _; rw [HC.out.2.2.2.2.2, HM.out.2.2.2.2, if_neg (by omega)]
        clear h1 HCC
        go_wp2_with fail
        rw [HRR.out]
        go_ret
        exact ⟨rfl, hbw⟩
    | succ gj =>
      obtain ⟨d, hd⟩ : ∃ d, d = hi - lo := ⟨_, rfl⟩
      obtain ⟨s, hs⟩ : ∃ s, s = lo + d / 2 := ⟨_, rfl⟩
      have w1 : IntKind.u64.wrap ((hi : Int) - (lo : Int)) = (d : Int) := by rw [IntKind.wrap_u64]; have := HLH.out.1; omega
      obtain ⟨d2, hd2⟩ : ∃ d2, d2 = d / 2 := ⟨_, rfl⟩
      have w4 : IntKind.u64.wrap ((d : Int) / 2) = (d2 : Int) := by rw [IntKind.wrap_u64]; have := HLH.out.1; omega
      have w2 : IntKind.u64.wrap ((lo : Int) + (d2 : Int)) = (s : Int) := by rw [IntKind.wrap_u64]; have := HLH.out.1; omega
      have w3 : decide ((1 : Int) < (d : Int)) = true := decide_eq_true (by omega)
      have HS : Hid (lo < s ∧ s < hi ∧ hi = lo + (gj + 1) + 1) := ⟨by omega, by omega, hg⟩
      clear hg hd hs hd2
      obtain ⟨q, hq⟩ : ∃ q, q = s / 4503599627370496 - 1 := ⟨_, rfl⟩
      obtain ⟨man, hman⟩ : ∃ man, man = s - q * 4503599627370496 := ⟨_, rfl⟩
      obtain ⟨ex, hex⟩ : ∃ ex : Int, ex = -1074 + (q : Int) := ⟨_, rfl⟩
      have HPT := rparts_all64 s (by have := HS.out; have := HLH.out.1; omega)
      rw [← hq, ← hman, ← hex] at HPT
      have HM : Hid (man < 9007199254740992 ∧ q ≤ 2046 ∧ (-1300 ≤ ex ∧ ex ≤ 1100) ∧ ∀ b A f, -1074 ≤ f → A = b * 2 ^ (f + 1074).toNat → cmpN (man * 2 ^ (ex + 1300).toNat) (b * 2 ^ (f + 1300).toNat) = cmpN (vs 4503599627370496 s) A) := ⟨by have := HS.out; have := HLH.out.1; omega, by have := HS.out; have := HLH.out.1; omega, by have := HS.out; have := HLH.out.1; omega, fun b A f h1 h2 => hold_vs hq hman hex h1 h2⟩
      clear hq hman hex
      obtain ⟨cfm0, cfm1, cfm2, cfm3, cfm4, cfm5, ffm0, ffm1, ffm2, ffm3, ffm4, ffm5⟩ := Xfm.out
      have hnefm : gfm < wr.heap.size := World.block_lt_of_cell? wr _ cfm0
      go_wp2_with fail
      clear cfm0 cfm1 cfm2 cfm3 cfm4 cfm5 ffm0 ffm1 ffm2 ffm3 ffm4 ffm5 hnefm
      refine (HPT _).mono ?_
      rintro e v1 ⟨rfl, hb1⟩
      replace Xfm : Hid _ := Xfm.out.below hb1
      replace Xv : Hid _ := Xv.out.below hb1
      replace N1 : Hid (RN v1 p1 m1 b) := N1.out.below hb1
      replace N2 : Hid (RN v1 p2 m2 1) := N2.out.below hb1
      replace hbw := Below.on hbw hb1
      clear hb1
      obtain ⟨cfm0, cfm1, cfm2, cfm3, cfm4, cfm5, ffm0, ffm1, ffm2, ffm3, ffm4, ffm5⟩ := Xfm.out
      have hnefm : gfm < v1.heap.size := World.block_lt_of_cell? v1 _ cfm0
      go_wp2_with fail
      clear cfm0 cfm1 cfm2 cfm3 cfm4 cfm5 ffm0 ffm1 ffm2 ffm3 ffm4 ffm5 hnefm
      obtain ⟨c, hc⟩ : ∃ c, c = cmpN (vs 4503599627370496 s) A := ⟨_, rfl⟩
      have HCC := Hid.mk9 hc
      clear hc
      obtain ⟨V6, hV6⟩ : ∃ W1, W1 = v1.drew := ⟨_, rfl⟩
      have hbd : Below v1.heap.size v1 V6 := by rw [hV6]; exact bDrew1 (Below.refl _ _)
      replace Xfm : Hid _ := Xfm.out.below hbd
      replace Xv : Hid _ := Xv.out.below hbd
      replace N1 : Hid (RN V6 p1 m1 b) := N1.out.below hbd
      replace N2 : Hid (RN V6 p2 m2 1) := N2.out.below hbd
      replace hbw := Below.on hbw hbd
      clear hbd
      have HJ : Hid ((fun W' : World => W'.cell? ⟨gv, 0, none⟩ = some (.slice p1 m1 m1) ∧ W'.cell? ⟨gv, 1, none⟩ = some (.slice p2 m2 m2) ∧ W'.cell? ⟨gv, 2, none⟩ = some (.int .i64 f) ∧ W'.cell? ⟨gv, 3, none⟩ = some (.bool false)) V6) := ⟨Xv.out.c0, Xv.out.c1, Xv.out.c2, Xv.out.c3⟩
      refine wp_region_J (fun W' => W'.cell? ⟨gv, 0, none⟩ = some (.slice p1 m1 m1) ∧ W'.cell? ⟨gv, 1, none⟩ = some (.slice p2 m2 m2) ∧ W'.cell? ⟨gv, 2, none⟩ = some (.int .i64 f) ∧ W'.cell? ⟨gv, 3, none⟩ = some (.bool false)) (by kernel_rfl) ?_
      rw [← hV6]
      clear hV6
      refine wpJ_tq 0 rfl HJ.out ?_
      refine wpJ_tq 1 rfl HJ.out ?_
      refine wpJ_tq 3 rfl HJ.out ?_
      refine wpJ_on 2 rfl fun KJ hK => ?_
      go_simp
      refine (rn_word man (by have := HM.out.1; omega)).mono ?_
      rintro en v9 ⟨p9, m9, rfl, hn9, hb9⟩
      replace Xfm : Hid _ := Xfm.out.below hb9
      replace Xv : Hid _ := Xv.out.below hb9
      replace N1 : Hid (RN v9 p1 m1 b) := N1.out.below hb9
      replace N2 : Hid (RN v9 p2 m2 1) := N2.out.below hb9
      replace hbw := Below.on hbw hb9
      clear hb9
      have N9 : Hid (RN v9 p9 m9 (man)) := hn9
      clear hn9
      refine hK _ _ ⟨Xv.out.c0, Xv.out.c1, Xv.out.c2, Xv.out.c3⟩ ?_
      clear hK
      refine wpJ_on 4 rfl fun KJ hK => ?_
      go_simp
      refine (hold_ok N9.out N1.out N2.out HC.out.1 ex f HM.out.2.2.1 (by have := HC.out.2.1; omega) (by have := bits_le (K := 64) (show man < 2 ^ 64 by have := HM.out.1; omega); omega) (by have := HC.out.2.2.1; omega)).mono ?_
      rintro e v3 ⟨rfl, hb3⟩
      rw [HM.out.2.2.2 b A f HC.out.2.1.1 HC.out.2.2.2.1, ← HCC.out]
      replace Xfm : Hid _ := Xfm.out.below hb3
      replace Xv : Hid _ := Xv.out.below hb3
      replace N1 : Hid (RN v3 p1 m1 b) := N1.out.below hb3
      replace N2 : Hid (RN v3 p2 m2 1) := N2.out.below hb3
      replace N9 : Hid (RN v3 p9 m9 (man)) := N9.out.below hb3
      replace hbw := Below.on hbw hb3
      clear hb3
      clear HJ
      have HJ : Hid ((fun W' : World => W'.cell? ⟨gv, 0, none⟩ = some (.slice p1 m1 m1) ∧ W'.cell? ⟨gv, 1, none⟩ = some (.slice p2 m2 m2) ∧ W'.cell? ⟨gv, 2, none⟩ = some (.int .i64 f) ∧ W'.cell? ⟨gv, 3, none⟩ = some (.bool false)) v3) := ⟨Xv.out.c0, Xv.out.c1, Xv.out.c2, Xv.out.c3⟩
      refine hK _ _ HJ.out ?_
      clear hK
      refine wpJ_tq 5 rfl HJ.out ?_
      go_simp
      refine wpJ_done (by kernel_rfl) ?_ _
      clear HJ
      by_cases hv : vs 4503599627370496 s ≤ A
      · have hc0 : decide (c ≤ 0) = true := decide_eq_true (by rw [HCC.out]; exact (cmpN_le9 _ _).2 hv)
        have hc1 : c ≤ 0 := of_decide_eq_true hc0
        have HV := Hid.mk9 hv
        clear hv
        go_wp2_with fail
        go_roundg (hi - s - 1)
        case measure => have := HS.out; omega
        case rel => exact ⟨s, hi, rfl, rfl, by have := HS.out; omega, by have := HS.out; have := HLH.out.1; omega, HV.out, HLH.out.2.2, Xfm.out, Xv.out, N1.out, N2.out, hbw⟩
      · have hc0 : decide (c ≤ 0) = false := decide_eq_false (by rw [HCC.out, cmpN_le9]; exact hv)
        have hc1 : ¬ c ≤ 0 := of_decide_eq_false hc0
        have HV : Hid (A < vs 4503599627370496 s) := Nat.lt_of_not_le hv
        clear hv
        go_wp2_with fail
        go_roundg (s - lo - 1)
        case measure => have := HS.out; omega
        case rel => exact ⟨lo, s, rfl, rfl, by have := HS.out; omega, by have := HS.out; have := HLH.out.1; omega, HLH.out.2.1, HV.out, Xfm.out, Xv.out, N1.out, N2.out, hbw⟩
theorem size_big {w : World} {p1 p2 : Option Addr} {m1 m2 b A : Nat} (k1 : RN w p1 m1 b) (k2 : RN w p2 m2 1) (hb : b ≠ 0) (f : Int) (hf : -1074 ≤ f ∧ f ≤ 1000) (hB : bitsN b ≤ 2200) (hA : A = b * 2 ^ (f + 1074).toNat) (hI : vs 4503599627370496 9218868437227405312 ≤ A) :
    Calls Tryz.prog 101 #[FV 9223372036854775808 53 (-1074) 971 9218868437227405312 9221120237041090561, .agg #[.slice p1 m1 m1, .slice p2 m2 m2, .int .i64 f, .bool false]] w fun en w' => en = .returned (U 9218868437227405312) ∧ Below w.heap.size w w' := by
  have N1 : Hid (RN w p1 m1 b) := k1
  have N2 : Hid (RN w p2 m2 1) := k2
  have HC : Hid (b ≠ 0 ∧ (-1074 ≤ f ∧ f ≤ 1000) ∧ bitsN b ≤ 2200 ∧ A = b * 2 ^ (f + 1074).toNat ∧ vs 4503599627370496 9218868437227405312 ≤ A) := ⟨hb, hf, hB, hA, hI⟩
  clear k1 k2 hb hf hB hA hI
  go_enter Tryz.func101, Tryz.ntmps101
  go_wp2_with fail
  obtain ⟨W0, hW0⟩ : ∃ W0, W0 = ((w.alloc (.cells #[U 9223372036854775808, .int .i64 53, .int .i64 (-1074), .int .i64 971, U 9218868437227405312, U 9221120237041090561] 119)).alloc (.cells #[.slice p1 m1 m1, .slice p2 m2 m2, .int .i64 f, .bool false] 126)) := ⟨_, rfl⟩
  have Xfm : Hid (B6q W0 (w.heap.size) (U 9223372036854775808) (.int .i64 53) (.int .i64 (-1074)) (.int .i64 971) (U 9218868437227405312) (U 9221120237041090561)) := by rw [hW0]; exact ⟨by go_simp, by go_simp, by go_simp, by go_simp, by go_simp, by go_simp, by go_simp, by go_simp, by go_simp, by go_simp, by go_simp, by go_simp⟩
  have Xv : Hid (B4q W0 (w.heap.size + 1) (.slice p1 m1 m1) (.slice p2 m2 m2) (.int .i64 f) (.bool false)) := by rw [hW0]; exact ⟨by go_simp, by go_simp, by go_simp, by go_simp, by go_simp, by go_simp, by go_simp, by go_simp⟩
  have hb0 : Below w.heap.size w W0 := by rw [hW0]; exact below2 w _ _
  rw [← hW0]
  clear hW0
  have hbw : Below w.heap.size w w := Below.refl _ _
  obtain ⟨gv, hgv⟩ : ∃ g, g = w.heap.size + 1 := ⟨_, rfl⟩
  have HGv : Hid (w.heap.size ≤ gv) := by rw [hgv]; show _ ≤ _; omega
  rw [← hgv] at Xv
  try rw [← hgv]
  obtain ⟨gfm, hgfm⟩ : ∃ g, g = w.heap.size := ⟨_, rfl⟩
  have HGfm : Hid (w.heap.size ≤ gfm) := by rw [hgfm]; show _ ≤ _; omega
  rw [← hgfm] at Xfm
  try rw [← hgfm]
  have HGD : Hid (gfm ≠ gv ∧ gv ≠ gfm) := by rw [hgfm, hgv]; exact ⟨by omega, by omega⟩
  clear hgfm hgv
  replace N1 : Hid (RN W0 p1 m1 b) := N1.out.below hb0
  replace N2 : Hid (RN W0 p2 m2 1) := N2.out.below hb0
  replace hbw := Below.on hbw hb0
  clear hb0
  obtain ⟨V1, hV1⟩ : ∃ W1, W1 = W0.drew := ⟨_, rfl⟩
  have hbd : Below W0.heap.size W0 V1 := by rw [hV1]; exact bDrew1 (Below.refl _ _)
  replace Xfm : Hid _ := Xfm.out.below hbd
  replace Xv : Hid _ := Xv.out.below hbd
  replace N1 : Hid (RN V1 p1 m1 b) := N1.out.below hbd
  replace N2 : Hid (RN V1 p2 m2 1) := N2.out.below hbd
  replace hbw := Below.on hbw hbd
  clear hbd
  have HJ : Hid ((fun W' : World => W'.cell? ⟨gfm, 4, none⟩ = some (U 9218868437227405312)) V1) := Xfm.out.c4
  refine wp_region_J (fun W' => W'.cell? ⟨gfm, 4, none⟩ = some (U 9218868437227405312)) (by kernel_rfl) ?_
  rw [← hV1]
  clear hV1
  refine wpJ_tk 0 (v := ?v1x0) rfl ?hy1x0 HJ.out ?_
  case hy1x0 => (intro W' hJ; have j0 := hJ; go_simp; first | done | with_reducible rfl)
  refine wpJ_tk 1 (v := ?v2x1) rfl ?hy2x1 HJ.out ?_
  case hy2x1 => (intro W' hJ; have j0 := hJ; go_simp; first | done | with_reducible rfl)
  refine wpJ_tk 2 (v := ?v3x2) rfl ?hy3x2 HJ.out ?_
  case hy3x2 => (intro W' hJ; have j0 := hJ; go_simp; first | done | with_reducible rfl)
  refine wpJ_tk 3 (v := ?v4x3) rfl ?hy4x3 HJ.out ?_
  case hy4x3 => (intro W' hJ; have j0 := hJ; go_simp; first | done | with_reducible rfl)
  refine wpJ_tk 4 (v := ?v5x4) rfl ?hy5x4 HJ.out ?_
  case hy5x4 => (intro W' hJ; have j0 := hJ; go_simp; first | done | with_reducible rfl)
  go_simp
  refine wpJ_done (by kernel_rfl) ?_ _
  clear HJ
  go_wp2_with fail
  obtain ⟨N0, hN0⟩ : ∃ N0 : Nat, N0 = 9218868437227405312 := ⟨_, rfl⟩
  go_loopg [5, 6] N0 (fun gk lov hiv wr => ∃ lo hi : Nat, lov = U lo ∧ hiv = U hi ∧ hi = lo + gk + 1 ∧ hi = 9218868437227405312 + 1 ∧ B6q wr gfm (U 9223372036854775808) (.int .i64 53) (.int .i64 (-1074)) (.int .i64 971) (U 9218868437227405312) (U 9221120237041090561) ∧ B4q wr gv (.slice p1 m1 m1) (.slice p2 m2 m2) (.int .i64 f) (.bool false) ∧ RN wr p1 m1 b ∧ RN wr p2 m2 1 ∧ Below w.heap.size w wr)
  case atStart => exact ⟨0, 9218868437227405312 + 1, rfl, rfl, by omega, rfl, Xfm.out, Xv.out, N1.out, N2.out, hbw⟩
  case round =>
    clear hbw Xfm Xv N1 N2 hN0
    obtain ⟨lo, hi, rfl, rfl, hg, hi1, xk, xv, n1, n2, hbw⟩ := hrel
    have Xfm : Hid (B6q wr gfm (U 9223372036854775808) (.int .i64 53) (.int .i64 (-1074)) (.int .i64 971) (U 9218868437227405312) (U 9221120237041090561)) := xk
    have Xv : Hid (B4q wr gv (.slice p1 m1 m1) (.slice p2 m2 m2) (.int .i64 f) (.bool false)) := xv
    have N1 : Hid (RN wr p1 m1 b) := n1
    have N2 : Hid (RN wr p2 m2 1) := n2
    clear xk xv n1 n2
    have HLH : Hid (hi ≤ 9218868437227405313 ∧ hi = 9218868437227405313) := ⟨by omega, by omega⟩
    clear hi1
    cases gk with
    | zero =>
      obtain rfl : lo = 9218868437227405312 := by have := HLH.out; omega
      obtain rfl : hi = 9218868437227405313 := by have := HLH.out; omega
      have w1 : IntKind.u64.wrap (((9218868437227405313 : Nat) : Int) - ((9218868437227405312 : Nat) : Int)) = 1 := by decide
      clear hg
      obtain ⟨cfm0, cfm1, cfm2, cfm3, cfm4, cfm5, ffm0, ffm1, ffm2, ffm3, ffm4, ffm5⟩ := Xfm.out
      have hnefm : gfm < wr.heap.size := World.block_lt_of_cell? wr _ cfm0
      go_wp2_with fail
      clear cfm0 cfm1 cfm2 cfm3 cfm4 cfm5 ffm0 ffm1 ffm2 ffm3 ffm4 ffm5 hnefm
      go_ret
      exact ⟨rfl, hbw⟩
    | succ gj =>
      obtain ⟨d, hd⟩ : ∃ d, d = hi - lo := ⟨_, rfl⟩
      obtain ⟨s, hs⟩ : ∃ s, s = lo + d / 2 := ⟨_, rfl⟩
      have w1 : IntKind.u64.wrap ((hi : Int) - (lo : Int)) = (d : Int) := by rw [IntKind.wrap_u64]; have := HLH.out.1; omega
      obtain ⟨d2, hd2⟩ : ∃ d2, d2 = d / 2 := ⟨_, rfl⟩
      have w4 : IntKind.u64.wrap ((d : Int) / 2) = (d2 : Int) := by rw [IntKind.wrap_u64]; have := HLH.out.1; omega
      have w2 : IntKind.u64.wrap ((lo : Int) + (d2 : Int)) = (s : Int) := by rw [IntKind.wrap_u64]; have := HLH.out.1; omega
      have w3 : decide ((1 : Int) < (d : Int)) = true := decide_eq_true (by omega)
      have HS : Hid (lo < s ∧ s < hi ∧ hi = lo + (gj + 1) + 1) := ⟨by omega, by omega, hg⟩
      clear hg hd hs hd2
      obtain ⟨q, hq⟩ : ∃ q, q = s / 4503599627370496 - 1 := ⟨_, rfl⟩
      obtain ⟨man, hman⟩ : ∃ man, man = s - q * 4503599627370496 := ⟨_, rfl⟩
      obtain ⟨ex, hex⟩ : ∃ ex : Int, ex = -1074 + (q : Int) := ⟨_, rfl⟩
      have HPT := rparts_all64 s (by have := HS.out; have := HLH.out.1; omega)
      rw [← hq, ← hman, ← hex] at HPT
      have HM : Hid (man < 9007199254740992 ∧ q ≤ 2046 ∧ (-1300 ≤ ex ∧ ex ≤ 1100) ∧ ∀ b A f, -1074 ≤ f → A = b * 2 ^ (f + 1074).toNat → cmpN (man * 2 ^ (ex + 1300).toNat) (b * 2 ^ (f + 1300).toNat) = cmpN (vs 4503599627370496 s) A) := ⟨by have := HS.out; have := HLH.out.1; omega, by have := HS.out; have := HLH.out.1; omega, by have := HS.out; have := HLH.out.1; omega, fun b A f h1 h2 => hold_vs hq hman hex h1 h2⟩
      clear hq hman hex
      obtain ⟨cfm0, cfm1, cfm2, cfm3, cfm4, cfm5, ffm0, ffm1, ffm2, ffm3, ffm4, ffm5⟩ := Xfm.out
      have hnefm : gfm < wr.heap.size := World.block_lt_of_cell? wr _ cfm0
      go_wp2_with fail
      clear cfm0 cfm1 cfm2 cfm3 cfm4 cfm5 ffm0 ffm1 ffm2 ffm3 ffm4 ffm5 hnefm
      refine (HPT _).mono ?_
      rintro e v1 ⟨rfl, hb1⟩
      replace Xfm : Hid _ := Xfm.out.below hb1
      replace Xv : Hid _ := Xv.out.below hb1
      replace N1 : Hid (RN v1 p1 m1 b) := N1.out.below hb1
      replace N2 : Hid (RN v1 p2 m2 1) := N2.out.below hb1
      replace hbw := Below.on hbw hb1
      clear hb1
      obtain ⟨cfm0, cfm1, cfm2, cfm3, cfm4, cfm5, ffm0, ffm1, ffm2, ffm3, ffm4, ffm5⟩ := Xfm.out
      have hnefm : gfm < v1.heap.size := World.block_lt_of_cell? v1 _ cfm0
      go_wp2_with fail
      clear cfm0 cfm1 cfm2 cfm3 cfm4 cfm5 ffm0 ffm1 ffm2 ffm3 ffm4 ffm5 hnefm
      obtain ⟨c, hc⟩ : ∃ c, c = cmpN (vs 4503599627370496 s) A := ⟨_, rfl⟩
      have HCC := Hid.mk9 hc
      clear hc
      obtain ⟨V6, hV6⟩ : ∃ W1, W1 = v1.drew := ⟨_, rfl⟩
      have hbd : Below v1.heap.size v1 V6 := by rw [hV6]; exact bDrew1 (Below.refl _ _)
      replace Xfm : Hid _ := Xfm.out.below hbd
      replace Xv : Hid _ := Xv.out.below hbd
      replace N1 : Hid (RN V6 p1 m1 b) := N1.out.below hbd
      replace N2 : Hid (RN V6 p2 m2 1) := N2.out.below hbd
      replace hbw := Below.on hbw hbd
      clear hbd
      have HJ : Hid ((fun W' : World => W'.cell? ⟨gv, 0, none⟩ = some (.slice p1 m1 m1) ∧ W'.cell? ⟨gv, 1, none⟩ = some (.slice p2 m2 m2) ∧ W'.cell? ⟨gv, 2, none⟩ = some (.int .i64 f) ∧ W'.cell? ⟨gv, 3, none⟩ = some (.bool false)) V6) := ⟨Xv.out.c0, Xv.out.c1, Xv.out.c2, Xv.out.c3⟩
      refine wp_region_J (fun W' => W'.cell? ⟨gv, 0, none⟩ = some (.slice p1 m1 m1) ∧ W'.cell? ⟨gv, 1, none⟩ = some (.slice p2 m2 m2) ∧ W'.cell? ⟨gv, 2, none⟩ = some (.int .i64 f) ∧ W'.cell? ⟨gv, 3, none⟩ = some (.bool false)) (by kernel_rfl) ?_
      rw [← hV6]
      clear hV6
      refine wpJ_tq 0 rfl HJ.out ?_
      refine wpJ_tq 1 rfl HJ.out ?_
      refine wpJ_tq 3 rfl HJ.out ?_
      refine wpJ_on 2 rfl fun KJ hK => ?_
      go_simp
      refine (rn_word man (by have := HM.out.1; omega)).mono ?_
      rintro en v9 ⟨p9, m9, rfl, hn9, hb9⟩
      replace Xfm : Hid _ := Xfm.out.below hb9
      replace Xv : Hid _ := Xv.out.below hb9
      replace N1 : Hid (RN v9 p1 m1 b) := N1.out.below hb9
      replace N2 : Hid (RN v9 p2 m2 1) := N2.out.below hb9
      replace hbw := Below.on hbw hb9
      clear hb9
      have N9 : Hid (RN v9 p9 m9 (man)) := hn9
      clear hn9
      refine hK _ _ ⟨Xv.out.c0, Xv.out.c1, Xv.out.c2, Xv.out.c3⟩ ?_
      clear hK
      refine wpJ_on 4 rfl fun KJ hK => ?_
      go_simp
      refine (hold_ok N9.out N1.out N2.out HC.out.1 ex f HM.out.2.2.1 (by have := HC.out.2.1; omega) (by have := bits_le (K := 64) (show man < 2 ^ 64 by have := HM.out.1; omega); omega) (by have := HC.out.2.2.1; omega)).mono ?_
      rintro e v3 ⟨rfl, hb3⟩
      rw [HM.out.2.2.2 b A f HC.out.2.1.1 HC.out.2.2.2.1, ← HCC.out]
      replace Xfm : Hid _ := Xfm.out.below hb3
      replace Xv : Hid _ := Xv.out.below hb3
      replace N1 : Hid (RN v3 p1 m1 b) := N1.out.below hb3
      replace N2 : Hid (RN v3 p2 m2 1) := N2.out.below hb3
      replace N9 : Hid (RN v3 p9 m9 (man)) := N9.out.below hb3
      replace hbw := Below.on hbw hb3
      clear hb3
      clear HJ
      have HJ : Hid ((fun W' : World => W'.cell? ⟨gv, 0, none⟩ = some (.slice p1 m1 m1) ∧ W'.cell? ⟨gv, 1, none⟩ = some (.slice p2 m2 m2) ∧ W'.cell? ⟨gv, 2, none⟩ = some (.int .i64 f) ∧ W'.cell? ⟨gv, 3, none⟩ = some (.bool false)) v3) := ⟨Xv.out.c0, Xv.out.c1, Xv.out.c2, Xv.out.c3⟩
      refine hK _ _ HJ.out ?_
      clear hK
      refine wpJ_tq 5 rfl HJ.out ?_
      go_simp
      refine wpJ_done (by kernel_rfl) ?_ _
      clear HJ
      have hv : vs 4503599627370496 s ≤ A := by
        refine Nat.le_trans ?_ HC.out.2.2.2.2
        rcases Nat.lt_or_eq_of_le (show s ≤ 9218868437227405312 by have := HS.out; have := HLH.out; omega) with h6 | h6
        · exact Nat.le_of_lt (vs_mono (by decide) h6)
        · rw [h6]; exact Nat.le_refl _
      have hc0 : decide (c ≤ 0) = true := decide_eq_true (by rw [HCC.out]; exact (cmpN_le9 _ _).2 hv)
      have hc1 : c ≤ 0 := of_decide_eq_true hc0
      clear hv
      go_wp2_with fail
      go_roundg (hi - s - 1)
      case measure => have := HS.out; omega
      case rel => exact ⟨s, hi, rfl, rfl, by have := HS.out; omega, by have := HLH.out; omega, Xfm.out, Xv.out, N1.out, N2.out, hbw⟩
def toldN (z : Int) (A : Nat) : Nat := if z < 0 then 9223372036854775808 + rg 0 A else rg 0 A
theorem ZR.rn {w : World} {s : Bool} {p : Option Addr} {m : Nat} {z : Int} (h : ZR w s p m z) (hm : m ≤ 4000) : RN w p m z.natAbs := ⟨h.ex, hm⟩
theorem rg_top9 (n : Nat) : rg 0 n ≤ 9218868437227405312 := by
  unfold rg
  split
  · omega
  · exact Nat.min_le_right _ _
theorem signed_ok (z : Int) (s : Bool) (hs : s = decide (z < 0)) (A : Nat) (w : World) :
    Calls Tryz.prog 100 #[FV 9223372036854775808 53 (-1074) 971 9218868437227405312 9221120237041090561, .bool s, U (rg 0 A)] w fun en w' => en = .returned (U (toldN z A)) ∧ Below w.heap.size w w' := by
  have hr := rg_top9 A
  obtain ⟨R, hR⟩ : ∃ R, R = toldN z A := ⟨_, rfl⟩
  have HR : Hid (R = toldN z A) := hR
  rw [← hR]
  unfold toldN at hR
  generalize rg 0 A = r at hR hr ⊢
  have w1 : IntKind.u64.wrap (9223372036854775808 + (r : Int)) = (((9223372036854775808 + r : Nat)) : Int) := by rw [IntKind.wrap_u64]; omega
  have hR2 : R = if s then 9223372036854775808 + r else r := by rw [hR, hs]; by_cases h : z < 0 <;> simp [h]
  have HR2 : Hid (R = if s then 9223372036854775808 + r else r) := hR2
  clear hR hR2 hs hr HR
  cases s
  · go_enter Tryz.func100, Tryz.ntmps100
    go_wp2_with fail
    have h3 : R = r := by have := HR2.out; simpa using this
    rw [h3]
    go_ret
    exact ⟨rfl, below1 w _⟩
  · go_enter Tryz.func100, Tryz.ntmps100
    go_wp2_with fail
    have h3 : R = 9223372036854775808 + r := by have := HR2.out; simpa using this
    rw [h3]
    go_ret
    exact ⟨rfl, below1 w _⟩
theorem rg_big {A : Nat} (h : vs 4503599627370496 9218868437227405312 ≤ A) : rg 0 A = 9218868437227405312 := by
  obtain ⟨c, hc⟩ : ∃ c, c = 2046 := ⟨_, rfl⟩
  have hv := vs_E c 4503599627370496 (by omega) (by omega)
  rw [show c * 4503599627370496 + 4503599627370496 = 9218868437227405312 by subst hc; rfl] at hv
  rw [hv] at h
  have e1 : 4503599627370496 * 2 ^ c = 2 ^ (c + 52) := by rw [show 4503599627370496 = 2 ^ 52 by decide, ← Nat.pow_add, Nat.add_comm]
  rw [e1] at h
  have h0 : A ≠ 0 := by have := Nat.two_pow_pos (c + 52); omega
  have hl : c + 52 ≤ A.log2 := (Nat.le_log2 h0).2 h
  unfold rg
  rw [if_neg h0, Nat.sub_zero]
  obtain ⟨L, hL⟩ : ∃ L, L = A.log2 - 52 := ⟨_, rfl⟩
  rw [← hL]
  have h3 : 4503599627370496 ≤ rne A L := by
    refine le_rne A L _ (Nat.le_trans ?_ (Nat.log2_self_le h0))
    rw [show 4503599627370496 = 2 ^ 52 by decide, ← Nat.pow_add]
    exact p2le (by omega)
  clear h hv e1
  exact Nat.min_eq_right (by omega)
theorem size_all {w : World} {p1 p2 : Option Addr} {m1 m2 b A : Nat} (k1 : RN w p1 m1 b) (k2 : RN w p2 m2 1) (hb : b ≠ 0) (f : Int) (hf : -1074 ≤ f ∧ f ≤ 1000) (hB : bitsN b ≤ 2200) (hA : A = b * 2 ^ (f + 1074).toNat) : Calls Tryz.prog 101 #[FV 9223372036854775808 53 (-1074) 971 9218868437227405312 9221120237041090561, .agg #[.slice p1 m1 m1, .slice p2 m2 m2, .int .i64 f, .bool false]] w fun en w' => en = .returned (U (rg 0 A)) ∧ Below w.heap.size w w' := by
  rcases Nat.lt_or_ge A (vs 4503599627370496 9218868437227405312) with h | h
  · exact size_ok k1 k2 hb f hf hB hA h
  · rw [rg_big h]
    exact size_big k1 k2 hb f hf hB hA h
theorem told_a {w : World} {p : Option Addr} {m : Nat} {z : Int} (s : Bool) (h : ZR w s p m z) (hm : m ≤ 4000) (hz : z ≠ 0) (e : Int) (he : -1074 ≤ e ∧ e ≤ 1000) (hB : bitsN z.natAbs ≤ 2200) {A : Nat} (hA : A = z.natAbs * 2 ^ (e + 1074).toNat)  :
    Calls Tryz.prog 69 #[.int .i64 64, .agg #[.bool s, .slice p m m], .int .i64 e] w fun en w' => en = .returned (U (toldN z A)) ∧ Below w.heap.size w w' := by
  have NA : Hid (RN w p m z.natAbs) := h.rn hm
  have hm0 : ((m : Int) == 0) = false := by have := h.zero; simp; omega
  have HC : Hid (z.natAbs ≠ 0 ∧ (-1074 ≤ e ∧ e ≤ 1000) ∧ bitsN z.natAbs ≤ 2200 ∧ A = z.natAbs * 2 ^ (e + 1074).toNat ∧ s = decide (z < 0)) := ⟨by omega, he, hB, hA, h.sg⟩
  clear h hm hz he hB hA
  go_enter Tryz.func69, Tryz.ntmps69
  go_wp2_with fail
  obtain ⟨W0, hW0⟩ : ∃ W0, W0 = (w.alloc (.cells #[.bool s, .slice p m m] 87)) := ⟨_, rfl⟩
  have Xm : Hid (Box W0 (w.heap.size) (.bool s) (.slice p m m)) := by rw [hW0]; exact ⟨by go_simp, by go_simp, by go_simp, by go_simp⟩
  have hb0 : Below w.heap.size w W0 := by rw [hW0]; exact below1 w _
  rw [← hW0]
  clear hW0
  have hbw : Below w.heap.size w w := Below.refl _ _
  obtain ⟨gm, hgm⟩ : ∃ g, g = w.heap.size := ⟨_, rfl⟩
  have HGm : Hid (w.heap.size ≤ gm) := by rw [hgm]; show _ ≤ _; omega
  rw [← hgm] at Xm
  try rw [← hgm]
  clear hgm
  replace NA : Hid (RN W0 p m z.natAbs) := NA.out.below hb0
  replace hbw := Below.on hbw hb0
  clear hb0
  refine (rof_64 _).mono ?_
  rintro e v1 ⟨rfl, hb1⟩
  replace Xm : Hid _ := Xm.out.below hb1
  replace NA : Hid (RN v1 p m z.natAbs) := NA.out.below hb1
  replace hbw := Below.on hbw hb1
  clear hb1
  obtain ⟨cm0, cm1, fm0, fm1⟩ := Xm.out
  have hnem := Xm.out.lt
  go_wp2_with fail
  clear cm0 cm1 fm0 fm1 hnem
  have Xfm0 : Hid (B6q (v1.alloc (.cells #[U 9223372036854775808, .int .i64 53, .int .i64 (-1074), .int .i64 971, U 9218868437227405312, U 9221120237041090561] 119)) v1.heap.size (U 9223372036854775808) (.int .i64 53) (.int .i64 (-1074)) (.int .i64 971) (U 9218868437227405312) (U 9221120237041090561)) := B6q.new v1 _ _ _ _ _ _ _
  have hbn : Below v1.heap.size v1 (v1.alloc (.cells #[U 9223372036854775808, .int .i64 53, .int .i64 (-1074), .int .i64 971, U 9218868437227405312, U 9221120237041090561] 119)) := below1 v1 _
  generalize v1.alloc (.cells #[U 9223372036854775808, .int .i64 53, .int .i64 (-1074), .int .i64 971, U 9218868437227405312, U 9221120237041090561] 119) = Wf at *
  have HGfm : Hid (w.heap.size ≤ v1.heap.size) := hbw.size
  replace Xm : Hid _ := Xm.out.below hbn
  replace NA : Hid (RN Wf p m z.natAbs) := NA.out.below hbn
  replace hbw := Below.on hbw hbn
  clear hbn
  generalize v1.heap.size = gfm at *
  have Xfm := Xfm0
  clear Xfm0
  obtain ⟨V1, hV1⟩ : ∃ W1, W1 = Wf.drew := ⟨_, rfl⟩
  have hbd : Below Wf.heap.size Wf V1 := by rw [hV1]; exact bDrew1 (Below.refl _ _)
  replace Xm : Hid _ := Xm.out.below hbd
  replace Xfm : Hid _ := Xfm.out.below hbd
  replace NA : Hid (RN V1 p m z.natAbs) := NA.out.below hbd
  replace hbw := Below.on hbw hbd
  clear hbd
  have HJ : Hid ((fun W' : World => W'.cell? ⟨gfm, 0, none⟩ = some (U 9223372036854775808) ∧ W'.cell? ⟨gfm, 1, none⟩ = some (.int .i64 53) ∧ W'.cell? ⟨gfm, 2, none⟩ = some (.int .i64 (-1074)) ∧ W'.cell? ⟨gfm, 3, none⟩ = some (.int .i64 971) ∧ W'.cell? ⟨gfm, 4, none⟩ = some (U 9218868437227405312) ∧ W'.cell? ⟨gfm, 5, none⟩ = some (U 9221120237041090561) ∧ W'.cell? ⟨gm, 0, none⟩ = some (.bool s) ∧ W'.cell? ⟨gm, 1, none⟩ = some (.slice p m m)) V1) := ⟨Xfm.out.c0, Xfm.out.c1, Xfm.out.c2, Xfm.out.c3, Xfm.out.c4, Xfm.out.c5, Xm.out.c0, Xm.out.c1⟩
  refine wp_region_J (fun W' => W'.cell? ⟨gfm, 0, none⟩ = some (U 9223372036854775808) ∧ W'.cell? ⟨gfm, 1, none⟩ = some (.int .i64 53) ∧ W'.cell? ⟨gfm, 2, none⟩ = some (.int .i64 (-1074)) ∧ W'.cell? ⟨gfm, 3, none⟩ = some (.int .i64 971) ∧ W'.cell? ⟨gfm, 4, none⟩ = some (U 9218868437227405312) ∧ W'.cell? ⟨gfm, 5, none⟩ = some (U 9221120237041090561) ∧ W'.cell? ⟨gm, 0, none⟩ = some (.bool s) ∧ W'.cell? ⟨gm, 1, none⟩ = some (.slice p m m)) (by kernel_rfl) ?_
  rw [← hV1]
  clear hV1
  refine wpJ_tq 0 rfl HJ.out ?_
  refine wpJ_tq 1 rfl HJ.out ?_
  refine wpJ_tq 2 rfl HJ.out ?_
  refine wpJ_tq 3 rfl HJ.out ?_
  refine wpJ_tq 4 rfl HJ.out ?_
  go_simp
  refine wpJ_tq 5 rfl HJ.out ?_
  refine wpJ_tq 7 rfl HJ.out ?_
  refine wpJ_on 6 rfl fun KJ hK => ?_
  go_simp
  refine (rn_word 1 (by decide)).mono ?_
  rintro en v2 ⟨p2, m2, rfl, hn2, hb2⟩
  replace Xm : Hid _ := Xm.out.below hb2
  replace Xfm : Hid _ := Xfm.out.below hb2
  replace NA : Hid (RN v2 p m z.natAbs) := NA.out.below hb2
  replace hbw := Below.on hbw hb2
  clear hb2
  have N2 : Hid (RN v2 p2 m2 (1)) := hn2
  clear hn2
  clear HJ
  have HJ : Hid ((fun W' : World => W'.cell? ⟨gfm, 0, none⟩ = some (U 9223372036854775808) ∧ W'.cell? ⟨gfm, 1, none⟩ = some (.int .i64 53) ∧ W'.cell? ⟨gfm, 2, none⟩ = some (.int .i64 (-1074)) ∧ W'.cell? ⟨gfm, 3, none⟩ = some (.int .i64 971) ∧ W'.cell? ⟨gfm, 4, none⟩ = some (U 9218868437227405312) ∧ W'.cell? ⟨gfm, 5, none⟩ = some (U 9221120237041090561) ∧ W'.cell? ⟨gm, 0, none⟩ = some (.bool s) ∧ W'.cell? ⟨gm, 1, none⟩ = some (.slice p m m)) v2) := ⟨Xfm.out.c0, Xfm.out.c1, Xfm.out.c2, Xfm.out.c3, Xfm.out.c4, Xfm.out.c5, Xm.out.c0, Xm.out.c1⟩
  refine hK _ _ HJ.out ?_
  clear hK
  refine wpJ_tq 8 rfl HJ.out ?_
  refine wpJ_on 9 rfl fun KJ hK => ?_
  go_simp
  refine (size_all NA.out N2.out HC.out.1 e HC.out.2.1 HC.out.2.2.1 HC.out.2.2.2.1).mono ?_
  rintro e v3 ⟨rfl, hb3⟩
  replace Xm : Hid _ := Xm.out.below hb3
  replace Xfm : Hid _ := Xfm.out.below hb3
  replace NA : Hid (RN v3 p m z.natAbs) := NA.out.below hb3
  replace N2 : Hid (RN v3 p2 m2 (1)) := N2.out.below hb3
  replace hbw := Below.on hbw hb3
  clear hb3
  refine hK _ _ ⟨Xfm.out.c0, Xfm.out.c1, Xfm.out.c2, Xfm.out.c3, Xfm.out.c4, Xfm.out.c5, Xm.out.c0, Xm.out.c1⟩ ?_
  clear hK
  refine wpJ_on 10 rfl fun KJ hK => ?_
  go_simp
  refine (signed_ok z s HC.out.2.2.2.2 A _).mono ?_
  rintro e v4 ⟨rfl, hb4⟩
  replace Xm : Hid _ := Xm.out.below hb4
  replace Xfm : Hid _ := Xfm.out.below hb4
  replace NA : Hid (RN v4 p m z.natAbs) := NA.out.below hb4
  replace N2 : Hid (RN v4 p2 m2 (1)) := N2.out.below hb4
  replace hbw := Below.on hbw hb4
  clear hb4
  clear HJ
  have HJ : Hid ((fun W' : World => W'.cell? ⟨gfm, 0, none⟩ = some (U 9223372036854775808) ∧ W'.cell? ⟨gfm, 1, none⟩ = some (.int .i64 53) ∧ W'.cell? ⟨gfm, 2, none⟩ = some (.int .i64 (-1074)) ∧ W'.cell? ⟨gfm, 3, none⟩ = some (.int .i64 971) ∧ W'.cell? ⟨gfm, 4, none⟩ = some (U 9218868437227405312) ∧ W'.cell? ⟨gfm, 5, none⟩ = some (U 9221120237041090561) ∧ W'.cell? ⟨gm, 0, none⟩ = some (.bool s) ∧ W'.cell? ⟨gm, 1, none⟩ = some (.slice p m m)) v4) := ⟨Xfm.out.c0, Xfm.out.c1, Xfm.out.c2, Xfm.out.c3, Xfm.out.c4, Xfm.out.c5, Xm.out.c0, Xm.out.c1⟩
  refine hK _ _ HJ.out ?_
  clear hK
  refine wpJ_tq 11 rfl HJ.out ?_
  go_simp
  refine wpJ_done (by kernel_rfl) ?_ _
  clear HJ
  go_wp2_with fail
  go_ret
  exact ⟨rfl, hbw⟩
end Go.Proofs.YtidggnjnlhjhlaaGreatDoor
namespace Go.Proofs.YtidggnjnlhjhlaaGreatDoor
open Go.RowKit
set_option maxRecDepth 20000
set_option maxHeartbeats 0
theorem ordI (x y : Int) : compare x y = if x < y then .lt else if x = y then .eq else .gt := rfl
theorem ordI_mul (x y : Int) {k : Nat} (hk : 0 < k) : compare (x * (k : Int)) (y * (k : Int)) = compare x y := by
  have hk' : (0 : Int) < (k : Int) := by omega
  rw [ordI, ordI]
  have h1 : (x * (k : Int) < y * (k : Int)) ↔ x < y := ⟨fun h => Int.lt_of_mul_lt_mul_right h (Int.le_of_lt hk'), fun h => Int.mul_lt_mul_of_pos_right h hk'⟩
  have h2 : (x * (k : Int) = y * (k : Int)) ↔ x = y := ⟨fun h => Int.eq_of_mul_eq_mul_right (by omega) h, fun h => by rw [h]⟩
  simp only [h1, h2]
theorem order_fin {a b : Nat} (ha : Fin64 a) (hb : Fin64 b) : Ieee.double.order a b = some (compare (ux a) (ux b)) := by
  obtain ⟨m, q, h1, h2⟩ := read_fin ha.lt ha.fin
  obtain ⟨n, r, h3, h4⟩ := read_fin hb.lt hb.fin
  unfold Ieee.Format.order
  rw [h1, h3, ux_of h2, ux_of h4]
  unfold Ieee.Datum.order
  dsimp only
  obtain ⟨d, hd⟩ : ∃ d, d = min q r := ⟨_, rfl⟩
  have e1 : (-1074 + (q : Int) - min (-1074 + (q : Int)) (-1074 + (r : Int))).toNat = q - d := by omega
  have e2 : (-1074 + (r : Int) - min (-1074 + (q : Int)) (-1074 + (r : Int))).toNat = r - d := by omega
  rw [e1, e2, ← ordI_mul _ _ (p2pos d), signed_up, signed_up, show q - d + d = q by omega, show r - d + d = r by omega]
def InfP (r : Nat) : Prop := r % 9223372036854775808 = 9218868437227405312
theorem three64 (r : Nat) (h : r < 18446744073709551616) : Fin64 r ∨ InfP r ∨ NanP r := by
  unfold InfP NanP
  rcases Nat.lt_trichotomy (r % 9223372036854775808) 9218868437227405312 with h1 | h1 | h1
  · exact .inl ⟨h, h1⟩
  · exact .inr (.inl h1)
  · exact .inr (.inr h1)
theorem read_inf {b : Nat} (h : InfP b) : Ieee.double.read b = .infinity (b / 9223372036854775808 % 2 == 1) := by
  have e1 : Ieee.double.leastPlace = -1074 := by decide
  have e2 : Ieee.double.binade = 4503599627370496 := by decide
  have e3 : Ieee.double.infRung = 9218868437227405312 := by decide
  have e4 : Ieee.double.signWeight = 9223372036854775808 := by decide
  unfold InfP at h
  unfold Ieee.Format.read
  rw [e1, e2, e3, e4]
  dsimp only
  rw [h]
  simp
theorem read_nan {b : Nat} (h : NanP b) : ∃ s m, Ieee.double.read b = .nan s m := by
  have e2 : Ieee.double.binade = 4503599627370496 := by decide
  have e3 : Ieee.double.infRung = 9218868437227405312 := by decide
  have e4 : Ieee.double.signWeight = 9223372036854775808 := by decide
  unfold NanP at h
  unfold Ieee.Format.read
  rw [e2, e3, e4]
  dsimp only
  rw [if_neg (by omega), if_neg (by omega), if_neg (by omega)]
  exact ⟨_, _, rfl⟩
theorem order_nan {a b : Nat} (h : NanP a ∨ NanP b) : Ieee.double.order a b = none := by
  unfold Ieee.Format.order
  rcases h with h | h
  · obtain ⟨s, m, hr⟩ := read_nan h; rw [hr]; rfl
  · obtain ⟨s, m, hr⟩ := read_nan h; rw [hr]
    cases Ieee.double.read a <;> rfl
theorem order_inf {a b : Nat} (h : InfP a) (hb : Fin64 b) : Ieee.double.order a b = some .lt ∨ Ieee.double.order a b = some .gt := by
  unfold Ieee.Format.order
  obtain ⟨n, r, h3, h4⟩ := read_fin hb.lt hb.fin
  rw [read_inf h, h3]
  unfold Ieee.Datum.order
  cases (a / 9223372036854775808 % 2 == 1)
  · exact .inr rfl
  · exact .inl rfl
def rv (X : Int) : Int := if X < 0 then -(vs 4503599627370496 (rg 0 X.natAbs) : Int) else (vs 4503599627370496 (rg 0 X.natAbs) : Int)
theorem sm_word2 {X : Int} {neg : Bool} (h1 : rg 0 X.natAbs < 9218868437227405312) (hn : X ≠ 0 → neg = decide (X < 0)) : Fin64 (Ieee.double.word neg (rg 0 X.natAbs)) ∧ ux (Ieee.double.word neg (rg 0 X.natAbs)) = rv X ∧ Rn 53 X (rv X) := by
  obtain ⟨a, b, c⟩ := word_facts neg h1
  have hc : ux (Ieee.double.word neg (rg 0 X.natAbs)) = rv X := by
    rw [c]
    unfold rv
    by_cases h0 : X = 0
    · subst h0
      have h3 : vs 4503599627370496 (rg 0 (Int.natAbs 0)) = 0 := by rw [show rg 0 (Int.natAbs 0) = 0 from rfl]; simp [vs]
      rw [h3]; cases neg <;> simp
    · rw [hn h0]; by_cases h3 : X < 0 <;> simp [h3]
  refine ⟨⟨a, by rw [b]; exact h1⟩, hc, ?_⟩
  have h2 := rg_rn X.natAbs h1
  unfold rv
  by_cases h3 : X < 0
  · rw [if_pos h3]
    have := h2.neg
    rw [show -((X.natAbs : Nat) : Int) = X by omega] at this
    exact this
  · rw [if_neg h3]
    rw [show ((X.natAbs : Nat) : Int) = X by omega] at h2
    exact h2
theorem rg_top (n : Nat) : rg 0 n ≤ 9218868437227405312 := by
  unfold rg
  split
  · omega
  · exact Nat.min_le_right ..
theorem fl_add_any {a b : Nat} (ha : Fin64 a) (hb : Fin64 b) : ∃ r, floatBits .add .f64 a b = some r ∧ ((Fin64 r ∧ ux r = rv (ux a + ux b) ∧ Rn 53 (ux a + ux b) (ux r)) ∨ InfP r) ∧ (rg 0 (ux a + ux b).natAbs < 9218868437227405312 ↔ Fin64 r) := by
  obtain ⟨m, q, h1, h2⟩ := read_fin ha.lt ha.fin
  obtain ⟨n, t, h3, h4⟩ := read_fin hb.lt hb.fin
  have hX : ux a + ux b = Ieee.signed (decide (9223372036854775808 ≤ a)) m q + Ieee.signed (decide (9223372036854775808 ≤ b)) n t := by rw [ux_of h2, ux_of h4]
  refine ⟨Ieee.double.word (if ux a + ux b = 0 then decide (9223372036854775808 ≤ a) && decide (9223372036854775808 ≤ b) else decide (ux a + ux b < 0)) (rg 0 (ux a + ux b).natAbs), ?_, ?_⟩
  · show ((Ieee.double.read a).sum (Ieee.double.read b)).map Ieee.double.write = _
    rw [h1, h3]
    exact sum_fin _ _ _ _ _ _ _ hX
  · rcases Nat.lt_or_ge (rg 0 (ux a + ux b).natAbs) 9218868437227405312 with h | h
    · obtain ⟨f1, f2, f3⟩ := sm_word2 (neg := if ux a + ux b = 0 then decide (9223372036854775808 ≤ a) && decide (9223372036854775808 ≤ b) else decide (ux a + ux b < 0)) h fun h0 => if_neg h0
      exact ⟨.inl ⟨f1, f2, by rw [f2]; exact f3⟩, fun _ => f1, fun _ => h⟩
    · have h5 : rg 0 (ux a + ux b).natAbs = 9218868437227405312 := Nat.le_antisymm (rg_top _) h
      have e4 : Ieee.double.signWeight = 9223372036854775808 := by decide
      have h6 : InfP (Ieee.double.word (if ux a + ux b = 0 then decide (9223372036854775808 ≤ a) && decide (9223372036854775808 ≤ b) else decide (ux a + ux b < 0)) (rg 0 (ux a + ux b).natAbs)) := by
        rw [h5]
        unfold InfP Ieee.Format.word
        rw [e4]
        cases (if ux a + ux b = 0 then decide (9223372036854775808 ≤ a) && decide (9223372036854775808 ≤ b) else decide (ux a + ux b < 0)) <;> simp
      refine ⟨.inr h6, fun h7 => absurd h7 (by omega), fun h7 => ?_⟩
      have h8 := h7.fin
      unfold InfP at h6
      omega
theorem fl_add_not {a b : Nat} (ha : Fin64 a) (hb : ¬ Fin64 b) (hlt : b < 18446744073709551616) : floatBits .add .f64 a b = none ∨ ∃ r, floatBits .add .f64 a b = some r ∧ InfP r := by
  obtain ⟨m, q, h1, h2⟩ := read_fin ha.lt ha.fin
  rcases three64 b hlt with h | h | h
  · exact absurd h hb
  · refine .inr ?_
    have e : floatBits .add .f64 a b = ((Ieee.double.read a).sum (Ieee.double.read b)).map Ieee.double.write := rfl
    rw [e, h1, read_inf h]
    cases (b / 9223372036854775808 % 2 == 1)
    · exact ⟨_, rfl, by unfold InfP; decide⟩
    · exact ⟨_, rfl, by unfold InfP; decide⟩
  · refine .inl ?_
    have e : floatBits .add .f64 a b = ((Ieee.double.read a).sum (Ieee.double.read b)).map Ieee.double.write := rfl
    obtain ⟨s, k, hr⟩ := read_nan h
    rw [e, h1, hr]; rfl
structure DdF (h l : Nat) : Prop where
  hi : Fin64 h
  lo : Fin64 l
  fit : rg 0 (ux h + ux l).natAbs < 9218868437227405312
  eq : rv (ux h + ux l) = ux h
theorem DdF.rn {h l : Nat} (d : DdF h l) : Rn 53 (ux h + ux l) (ux h) := by
  have := (sm_word2 (neg := decide (ux h + ux l < 0)) d.fit fun _ => rfl).2.2
  rw [d.eq] at this
  exact this
theorem form_iff {h l r : Nat} (hh : Fin64 h) (hl : l < 18446744073709551616) (F : FlR .add h l r) : Ieee.double.order r h = some .eq ↔ DdF h l := by
  by_cases hf : Fin64 l
  · obtain ⟨r', e1, e2, e3⟩ := fl_add_any hh hf
    obtain rfl : r = r' := F.some _ e1
    rcases e2 with ⟨f1, f2, f3⟩ | h6
    · rw [order_fin f1 hh, f2, ordI]
      constructor
      · intro h7
        refine ⟨hh, hf, e3.2 f1, ?_⟩
        split at h7
        · cases h7
        · split at h7
          · assumption
          · cases h7
      · intro d
        rw [if_neg (by rw [d.eq]; omega), if_pos d.eq]
    · constructor
      · intro h7
        rcases order_inf h6 hh with h8 | h8 <;> rw [h8] at h7 <;> cases h7
      · intro d
        have h8 := (e3.1 d.fit).fin
        unfold InfP at h6
        omega
  · constructor
    · intro h7
      rcases fl_add_not hh hf hl with h8 | ⟨r', h8, h9⟩
      · rw [order_nan (.inl (F.none h8))] at h7; cases h7
      · obtain rfl : r = r' := F.some _ h8
        rcases order_inf h9 hh with h8 | h8 <;> rw [h8] at h7 <;> cases h7
    · intro d
      exact absurd d.lo hf
theorem dd_order {h l h' l' : Nat} (d : DdF h l) (d' : DdF h' l') :
    compare (ux h + ux l) (ux h' + ux l') = if ux h = ux h' then compare (ux l) (ux l') else compare (ux h) (ux h') := by
  have key : ∀ {X X' H H' : Int}, Rn 53 X H → Rn 53 X' H' → H < H' → X ≤ X' := fun {X X' H H'} a a' hlt => by
    have h1 := a.2 H' a'.1
    have h2 := a'.2 H a.1
    omega
  have key2 : ∀ {a b c e : Nat}, DdF a b → DdF c e → ux a < ux c → ux a + ux b < ux c + ux e := fun {a b c e} x y hlt => by
    have h1 := key x.rn y.rn hlt
    rcases Int.lt_or_eq_of_le h1 with h2 | h2
    · exact h2
    · have h3 := x.eq
      rw [h2, y.eq] at h3
      omega
  by_cases he : ux h = ux h'
  · rw [if_pos he, ordI, ordI, he]
    simp only [Int.add_lt_add_iff_left, Int.add_right_inj]
  · rw [if_neg he, ordI, ordI]
    rcases Int.lt_or_gt_of_ne he with h1 | h1
    · rw [if_pos (key2 d d' h1), if_pos h1]
    · have h2 := key2 d' d h1
      rw [if_neg (by omega), if_neg (by omega), if_neg (by omega), if_neg (by omega)]
def flipS (b : Nat) : Nat := if 9223372036854775808 ≤ b then b - 9223372036854775808 else b + 9223372036854775808
theorem flip_ux {b : Nat} (hb : b < 18446744073709551616) : ux (flipS b) = -ux b ∧ flipS b < 18446744073709551616 ∧ flipS b % 9223372036854775808 = b % 9223372036854775808 := by
  rw [ux_eq, ux_eq]
  unfold flipS
  split
  · rename_i h
    rw [if_neg (by omega), show (b - 9223372036854775808) % 9223372036854775808 = b % 9223372036854775808 by omega]
    exact ⟨by omega, by omega, rfl⟩
  · rename_i h
    rw [if_pos (by omega), show (b + 9223372036854775808) % 9223372036854775808 = b % 9223372036854775808 by omega]
    exact ⟨by omega, by omega, rfl⟩
theorem rv_neg (X : Int) : rv (-X) = -rv X := by
  unfold rv
  rw [Int.natAbs_neg]
  rcases Int.lt_trichotomy X 0 with h | h | h
  · rw [if_neg (by omega), if_pos h]; omega
  · subst h
    have h3 : vs 4503599627370496 (rg 0 (Int.natAbs 0)) = 0 := by rw [show rg 0 (Int.natAbs 0) = 0 from rfl]; simp [vs]
    rw [h3]; simp
  · rw [if_pos (by omega), if_neg (by omega)]
theorem Fin64.flipS {b : Nat} (h : Fin64 b) : Fin64 (flipS b) := by
  obtain ⟨_, h2, h3⟩ := flip_ux h.lt
  exact ⟨h2, by rw [h3]; exact h.fin⟩
theorem DdF.neg {h l : Nat} (d : DdF h l) : DdF (flipS h) (flipS l) := by
  have h1 := (flip_ux d.hi.lt).1
  have h2 := (flip_ux d.lo.lt).1
  have h3 : ux (flipS h) + ux (flipS l) = -(ux h + ux l) := by rw [h1, h2]; omega
  refine ⟨d.hi.flipS, d.lo.flipS, ?_, ?_⟩
  · rw [h3, Int.natAbs_neg]; exact d.fit
  · rw [h3, rv_neg, d.eq, h1]
end Go.Proofs.YtidggnjnlhjhlaaGreatDoor
namespace Go.Proofs.YtidggnjnlhjhlaaGreatDoor
open Go.RowKit Go.Shelf
set_option maxRecDepth 20000
set_option maxHeartbeats 0
structure B3q (W : World) (g : Nat) (v0 v1 v2 : Value) : Prop where
  c0 : W.cell? ⟨g, 0, none⟩ = some v0
  c1 : W.cell? ⟨g, 1, none⟩ = some v1
  c2 : W.cell? ⟨g, 2, none⟩ = some v2
  f0 : W.frozen? ⟨g, 0, none⟩ = false
  f1 : W.frozen? ⟨g, 1, none⟩ = false
  f2 : W.frozen? ⟨g, 2, none⟩ = false
theorem B3q.lt {w : World} {g : Nat} {a b c : Value} (h : B3q w g a b c) : g < w.heap.size := World.block_lt_of_cell? w _ h.c0
theorem B3q.below {W W' : World} {g : Nat} {v0 v1 v2 : Value} (h : B3q W g v0 v1 v2) (hb : Below W.heap.size W W') : B3q W' g v0 v1 v2 := by
  have hl : g < W.heap.size := World.block_lt_of_cell? W _ h.c0
  exact ⟨(hb.cell (p := ⟨g, 0, none⟩) hl).trans h.c0, (hb.cell (p := ⟨g, 1, none⟩) hl).trans h.c1, (hb.cell (p := ⟨g, 2, none⟩) hl).trans h.c2, (hb.frozen (p := ⟨g, 0, none⟩) hl).trans h.f0, (hb.frozen (p := ⟨g, 1, none⟩) hl).trans h.f1, (hb.frozen (p := ⟨g, 2, none⟩) hl).trans h.f2⟩
theorem B3q.new (w : World) (ty : TypeId) (v0 v1 v2 : Value) : B3q (w.alloc (.cells #[v0, v1, v2] ty)) w.heap.size v0 v1 v2 := ⟨by go_simp, by go_simp, by go_simp, by go_simp, by go_simp, by go_simp⟩
abbrev DV (s : Bool) (p : Option Addr) (m c : Nat) (e : Int) : Value := .agg #[.bool s, .slice p m c, .int .i64 e]
def DFm (z e : Int) : Prop := (z = 0 ∧ e = 0) ∨ (z % 2 = 1 ∧ -1048576 ≤ e ∧ e ≤ 1048576)
structure DN (w : World) (s : Bool) (p : Option Addr) (m c : Nat) (e z : Int) : Prop where
  zn : ZN w s p m c z
  fm : DFm z e
theorem DN.below {w w' : World} {s : Bool} {p : Option Addr} {m c : Nat} {e z : Int} (h : DN w s p m c e z) (hb : Below w.heap.size w w') : DN w' s p m c e z := ⟨h.zn.below hb, h.fm⟩
def dv (z e : Int) : Int := z * ((2 ^ (e + 4194304).toNat : Nat) : Int)
theorem pow_pos_int (k : Nat) : ((2 ^ k : Nat) : Int) ≠ 0 := by
  have : 0 < 2 ^ k := Nat.pow_pos (by omega)
  intro h
  have := Int.ofNat.inj h
  omega
theorem dpow_split {a b : Nat} (h : a ≤ b) : ((2 ^ b : Nat) : Int) = ((2 ^ (b - a) : Nat) : Int) * ((2 ^ a : Nat) : Int) := by
  have : 2 ^ b = 2 ^ (b - a) * 2 ^ a := by rw [← Nat.pow_add, Nat.sub_add_cancel h]
  rw [this, Int.natCast_mul]
theorem dv_zero (e : Int) : dv 0 e = 0 := by unfold dv; rw [Int.zero_mul]
theorem dv_eq_zero {z e : Int} (h : dv z e = 0) : z = 0 := by
  unfold dv at h
  exact (Int.mul_eq_zero.1 h).resolve_right (pow_pos_int _)
theorem odd_ne {z z' : Int} {a b : Nat} (hz : z % 2 = 1) (h : z * ((2 ^ a : Nat) : Int) = z' * ((2 ^ b : Nat) : Int)) : b ≤ a := by
  refine Nat.le_of_not_lt fun hlt => ?_
  rw [dpow_split (Nat.le_of_lt hlt), ← Int.mul_assoc] at h
  have h1 := Int.eq_of_mul_eq_mul_right (pow_pos_int a) h
  obtain ⟨k, hk⟩ : ∃ k, b - a = k + 1 := ⟨b - a - 1, by omega⟩
  rw [hk, Nat.pow_succ, Int.natCast_mul] at h1
  have h2 : z = (z' * ((2 ^ k : Nat) : Int)) * 2 := by rw [h1, Int.mul_assoc]; rfl
  generalize z' * ((2 ^ k : Nat) : Int) = q at h2
  omega
theorem dv_inj {z e z' e' : Int} (h : DFm z e) (h' : DFm z' e') (hv : dv z e = dv z' e') : z = z' ∧ e = e' := by
  rcases h with ⟨rfl, rfl⟩ | ⟨h1, h2, h3⟩
  · rw [dv_zero] at hv
    have := dv_eq_zero hv.symm
    subst this
    rcases h' with ⟨_, rfl⟩ | ⟨k1, _⟩
    · exact ⟨rfl, rfl⟩
    · omega
  · rcases h' with ⟨rfl, rfl⟩ | ⟨k1, k2, k3⟩
    · rw [dv_zero] at hv
      have := dv_eq_zero hv
      subst this
      omega
    · unfold dv at hv
      have a1 := odd_ne h1 hv
      have a2 := odd_ne k1 hv.symm
      have he : e = e' := by omega
      subst he
      exact ⟨Int.eq_of_mul_eq_mul_right (pow_pos_int _) hv, rfl⟩
theorem dv_shift {z e f : Int} (h : f ≤ e) (hf : -4194304 ≤ f) : dv z e = dv (z * ((2 ^ (e - f).toNat : Nat) : Int)) f := by
  unfold dv
  rw [dpow_split (a := (f + 4194304).toNat) (b := (e + 4194304).toNat) (by omega), ← Int.mul_assoc, show (e + 4194304).toNat - (f + 4194304).toNat = (e - f).toNat from by omega]
theorem dv_add (x y e : Int) : dv (x + y) e = dv x e + dv y e := by unfold dv; rw [Int.add_mul]
theorem dv_neg (x e : Int) : dv (-x) e = - dv x e := by unfold dv; rw [Int.neg_mul]
theorem own_set3 {B b : Nat} {w' : World} {p : Option Addr} {m : Nat} {zs : List Nat} (h : Own B w' p m zs) {r : Nat} (hr : r < B) (hb : b ≤ B) (v0 v1 v2 : Value) : Own b (((w'.setCell ⟨r, 0, none⟩ v0).setCell ⟨r, 1, none⟩ v1).setCell ⟨r, 2, none⟩ v2) p m zs :=
  (((h.setOld _ _ _ hr).setOld _ _ _ hr).setOld _ _ _ hr).mono hb
def AnsD (B : Nat) (w' : World) (v : Value) (z e : Int) : Prop :=
  ∃ p m zs, v = DV (decide (z < 0)) p m m e ∧ Own B w' p m zs ∧ Nf B64 zs z.natAbs ∧ m ≤ 8192
theorem AnsD.dn {B : Nat} {w' : World} {v : Value} {z e : Int} (h : AnsD B w' v z e) (hf : DFm z e) : ∃ s p m, v = DV s p m m e ∧ DN w' s p m m e z := by
  obtain ⟨p, m, zs, rfl, ho, hn, hm⟩ := h
  exact ⟨_, p, m, rfl, ⟨⟨zs, Num.of ho hn hm⟩, rfl⟩, hf⟩
theorem tz_split {z : Int} {k : Nat} (hz : z ≠ 0) (h : TzO z.natAbs k) : fl (decide (z < 0)) z.natAbs (2 ^ k) % 2 = 1 ∧ fl (decide (z < 0)) z.natAbs (2 ^ k) * ((2 ^ k : Nat) : Int) = z ∧ (fl (decide (z < 0)) z.natAbs (2 ^ k)).natAbs ≤ z.natAbs := by
  rcases h with ⟨h0, _⟩ | ⟨_, h1, h2⟩
  · omega
  · have hd := Nat.div_add_mod z.natAbs (2 ^ k)
    rw [h1, Nat.add_zero, Nat.mul_comm] at hd
    have hle := Nat.div_le_self z.natAbs (2 ^ k)
    unfold fl
    rw [h1]
    generalize z.natAbs / 2 ^ k = q at *
    have hc : (q : Int) * ((2 ^ k : Nat) : Int) = (z.natAbs : Int) := by rw [← Int.natCast_mul, hd]
    by_cases hs : z < 0
    · rw [decide_eq_true hs]
      simp only [ne_eq, not_true_eq_false, decide_false, Bool.and_false, Bool.toNat_false, Nat.add_zero, iv, if_true]
      refine ⟨by omega, by rw [Int.neg_mul, hc]; omega, by omega⟩
    · rw [decide_eq_false hs]
      simp only [ne_eq, not_true_eq_false, decide_false, Bool.and_false, Bool.toNat_false, Nat.add_zero, iv]
      refine ⟨?_, ?_, ?_⟩
      · show (q : Int) % 2 = 1; omega
      · show (q : Int) * _ = z; rw [hc]; omega
      · show (q : Int).natAbs ≤ _; omega
theorem patternOf_64 (b : Nat) (hb : b < 2 * 9223372036854775808) (w : World) :
    Calls Tryz.prog 168 #[.int .i64 64, U b] w fun en w' => en = .returned (.tuple #[PV 64 53 (-1074) (decide (9223372036854775808 ≤ b)) (b % 9223372036854775808), .int .i64 0]) ∧ Below w.heap.size w w' := by
  have hl : bl_bitsN b ≤ 64 := bl_le (by omega)
  have e1 : bits BinOp.and IntKind.u64 (b : Int) 9223372036854775808 = _ := sign_and b 9223372036854775808 63 (by decide) (by decide) hb
  have e2 : bits BinOp.andNot IntKind.u64 (b : Int) 9223372036854775808 = _ := sign_andNot b 9223372036854775808 63 (by decide) (by decide) hb
  obtain ⟨z, hz⟩ : ∃ z, z = b % 9223372036854775808 := ⟨_, rfl⟩
  obtain ⟨s, hs⟩ : ∃ s, s = decide (9223372036854775808 ≤ b) := ⟨_, rfl⟩
  obtain ⟨y, hy⟩ : ∃ y, y = (if 9223372036854775808 ≤ b then 9223372036854775808 else 0) := ⟨_, rfl⟩
  rw [← hz] at e2 ⊢
  rw [← hy] at e1
  rw [← hs]
  have hys2 : ((y : Int) == 0) = !s := by
    rw [hy, hs]
    by_cases h : 9223372036854775808 ≤ b <;> simp [h]
  have hys : ((y : Int) != 0) = s := by simp [bne, hys2]
  obtain ⟨ln, hll⟩ : ∃ l, l = bl_bitsN b := ⟨_, rfl⟩
  rw [← hll] at hl
  have hltb : decide ((64 : Int) < (ln : Int)) = false := decide_eq_false (by omega)
  have HLL : Hid (bl_bitsN b = ln) := hll.symm
  have HBB : Hid (b < B64) := by show b < B64; rw [B64_eq]; omega
  clear hz hs hy hl hb hll
  go_enter Tryz.func168, Tryz.ntmps168
  go_wp2_with fail
  obtain ⟨W0, hW0⟩ : ∃ W0, W0 = (w.alloc (.cells #[.int .i64 0, .int .i64 0, .int .i64 0, .bool false, .int .u64 0] 161)) := ⟨_, rfl⟩
  have Xr : Hid (B5q W0 (w.heap.size) (.int .i64 0) (.int .i64 0) (.int .i64 0) (.bool false) (.int .u64 0)) := by rw [hW0]; exact ⟨by go_simp, by go_simp, by go_simp, by go_simp, by go_simp, by go_simp, by go_simp, by go_simp, by go_simp, by go_simp⟩
  have hb0 : Below w.heap.size w W0 := by rw [hW0]; exact below1 w _
  rw [← hW0]
  clear hW0
  have hbw : Below w.heap.size w w := Below.refl _ _
  obtain ⟨gr, hgr⟩ : ∃ g, g = w.heap.size := ⟨_, rfl⟩
  have HGr : Hid (w.heap.size ≤ gr) := by rw [hgr]; show _ ≤ _; omega
  rw [← hgr] at Xr
  try rw [← hgr]
  clear hgr
  replace hbw := Below.on hbw hb0
  clear hb0
  refine (of_64 _).mono ?_
  rintro e v1 ⟨rfl, hb1⟩
  replace Xr : Hid _ := Xr.out.below hb1
  replace hbw := Below.on hbw hb1
  clear hb1
  go_wp2_with fail
  have HDr : Hid (gr ≠ v1.heap.size) := Nat.ne_of_lt Xr.out.lt
  have Xg0 : Hid (B3q (v1.alloc (.cells #[.int .i64 64, .int .i64 53, .int .i64 (-1074)] 159)) v1.heap.size (.int .i64 64) (.int .i64 53) (.int .i64 (-1074))) := B3q.new v1 _ _ _ _
  have hbn : Below v1.heap.size v1 (v1.alloc (.cells #[.int .i64 64, .int .i64 53, .int .i64 (-1074)] 159)) := below1 v1 _
  generalize v1.alloc (.cells #[.int .i64 64, .int .i64 53, .int .i64 (-1074)] 159) = Wg at *
  have HGg : Hid (w.heap.size ≤ v1.heap.size) := hbw.size
  replace Xr : Hid _ := Xr.out.below hbn
  replace hbw := Below.on hbw hbn
  clear hbn
  generalize v1.heap.size = gg at *
  have Xg := Xg0
  clear Xg0
  obtain ⟨W3, hW3⟩ : ∃ W1, W1 = Wg.drew := ⟨_, rfl⟩
  have hbd : Below Wg.heap.size Wg W3 := by rw [hW3]; exact bDrew1 (Below.refl _ _)
  replace Xr : Hid _ := Xr.out.below hbd
  replace Xg : Hid _ := Xg.out.below hbd
  replace hbw := Below.on hbw hbd
  clear hbd
  have HJ : Hid ((fun W' : World => W'.cell? ⟨gg, 0, none⟩ = some (.int .i64 64)) W3) := Xg.out.c0
  refine wp_region_J (fun W' => W'.cell? ⟨gg, 0, none⟩ = some (.int .i64 64)) (by kernel_rfl) ?_
  rw [← hW3]
  clear hW3
  refine wpJ_tk 0 (v := ?v15x0) rfl ?hy15x0 HJ.out ?_
  case hy15x0 => (intro W' hJ; have j0 := hJ; go_simp; first | done | with_reducible rfl)
  refine wpJ_tk 2 (v := ?v16x2) rfl ?hy16x2 HJ.out ?_
  case hy16x2 => (intro W' hJ; have j0 := hJ; go_simp; first | done | with_reducible rfl)
  refine wpJ_tk 3 (v := ?v17x3) rfl ?hy17x3 HJ.out ?_
  case hy17x3 => (intro W' hJ; have j0 := hJ; go_simp; first | done | with_reducible rfl)
  refine wpJ_on 1 rfl fun KJ hK => ?_
  go_simp
  refine (bl_len_any b _ HBB.out).mono ?_
  rintro e2 v2 ⟨rfl, hw⟩
  obtain rfl := hw.symm
  clear hw
  rw [HLL.out]
  clear HJ
  have HJ : Hid ((fun W' : World => W'.cell? ⟨gg, 0, none⟩ = some (.int .i64 64)) W3) := Xg.out.c0
  refine hK _ _ HJ.out ?_
  clear hK
  refine wpJ_tk 4 (v := ?v18x4) rfl ?hy18x4 HJ.out ?_
  case hy18x4 => (intro W' hJ; have j0 := hJ; go_simp; first | done | with_reducible rfl)
  refine wpJ_done (by kernel_rfl) ?_ _
  clear HJ
  obtain ⟨cg0, cg1, cg2, fg0, fg1, fg2⟩ := Xg.out
  have hneg : gg < W3.heap.size := World.block_lt_of_cell? W3 _ cg0
  go_wp2_with fail
  clear cg0 cg1 cg2 fg0 fg1 fg2 hneg
  obtain ⟨W6, hW6⟩ : ∃ W1, W1 = W3.drew := ⟨_, rfl⟩
  have hbd : Below W3.heap.size W3 W6 := by rw [hW6]; exact bDrew1 (Below.refl _ _)
  replace Xr : Hid _ := Xr.out.below hbd
  replace Xg : Hid _ := Xg.out.below hbd
  replace hbw := Below.on hbw hbd
  clear hbd
  have HJ : Hid ((fun W' : World => W'.cell? ⟨gg, 0, none⟩ = some (.int .i64 64) ∧ W'.cell? ⟨gg, 1, none⟩ = some (.int .i64 53) ∧ W'.cell? ⟨gg, 2, none⟩ = some (.int .i64 (-1074))) W6) := ⟨Xg.out.c0, Xg.out.c1, Xg.out.c2⟩
  refine wp_region_J (fun W' => W'.cell? ⟨gg, 0, none⟩ = some (.int .i64 64) ∧ W'.cell? ⟨gg, 1, none⟩ = some (.int .i64 53) ∧ W'.cell? ⟨gg, 2, none⟩ = some (.int .i64 (-1074))) (by kernel_rfl) ?_
  rw [← hW6]
  clear hW6
  refine wpJ_tq 0 rfl HJ.out ?_
  refine wpJ_tq 1 rfl HJ.out ?_
  refine wpJ_tq 2 rfl HJ.out ?_
  refine wpJ_tq 6 rfl HJ.out ?_
  refine wpJ_tq 7 rfl HJ.out ?_
  refine wpJ_on 3 rfl fun KJ hK => ?_
  go_simp
  refine (sign_64 _).mono ?_
  rintro e v4 ⟨rfl, hb4⟩
  replace Xr : Hid _ := Xr.out.below hb4
  replace Xg : Hid _ := Xg.out.below hb4
  replace hbw := Below.on hbw hb4
  clear hb4
  clear HJ
  have HJ : Hid ((fun W' : World => W'.cell? ⟨gg, 0, none⟩ = some (.int .i64 64) ∧ W'.cell? ⟨gg, 1, none⟩ = some (.int .i64 53) ∧ W'.cell? ⟨gg, 2, none⟩ = some (.int .i64 (-1074))) v4) := ⟨Xg.out.c0, Xg.out.c1, Xg.out.c2⟩
  refine hK _ _ HJ.out ?_
  clear hK
  refine wpJ_tq 4 rfl HJ.out ?_
  refine wpJ_tq 5 rfl HJ.out ?_
  refine wpJ_on 8 rfl fun KJ hK => ?_
  go_simp
  refine (sign_64 _).mono ?_
  rintro e v5 ⟨rfl, hb5⟩
  replace Xr : Hid _ := Xr.out.below hb5
  replace Xg : Hid _ := Xg.out.below hb5
  replace hbw := Below.on hbw hb5
  clear hb5
  clear HJ
  have HJ : Hid ((fun W' : World => W'.cell? ⟨gg, 0, none⟩ = some (.int .i64 64) ∧ W'.cell? ⟨gg, 1, none⟩ = some (.int .i64 53) ∧ W'.cell? ⟨gg, 2, none⟩ = some (.int .i64 (-1074))) v5) := ⟨Xg.out.c0, Xg.out.c1, Xg.out.c2⟩
  refine hK _ _ HJ.out ?_
  clear hK
  refine wpJ_tq 9 rfl HJ.out ?_
  refine wpJ_tq 10 rfl HJ.out ?_
  obtain ⟨cr0, cr1, cr2, cr3, cr4, fr0, fr1, fr2, fr3, fr4⟩ := Xr.out
  have hner : gr < v5.heap.size := World.block_lt_of_cell? v5 _ cr0
  obtain ⟨cg0, cg1, cg2, fg0, fg1, fg2⟩ := Xg.out
  have hneg : gg < v5.heap.size := World.block_lt_of_cell? v5 _ cg0
  have qa := HDr.out
  have qb : gg ≠ gr := fun h => qa h.symm
  refine wpJ_on 11 rfl fun KJ hK => ?_
  go_simp
  have HJ2 : Hid ((fun W' : World => W'.cell? ⟨gg, 0, none⟩ = some (.int .i64 64) ∧ W'.cell? ⟨gg, 1, none⟩ = some (.int .i64 53) ∧ W'.cell? ⟨gg, 2, none⟩ = some (.int .i64 (-1074))) (((((v5.setCell ⟨gr, 0, none⟩ (.int .i64 64)).setCell ⟨gr, 1, none⟩ (.int .i64 53)).setCell ⟨gr, 2, none⟩ (.int .i64 (-1074))).setCell ⟨gr, 3, none⟩ (.bool s)).setCell ⟨gr, 4, none⟩ (U z))) := ⟨by go_simp, by go_simp, by go_simp⟩
  refine hK _ _ HJ2.out ?_
  clear hK HJ
  have HJ := HJ2
  clear HJ2
  refine wpJ_tq 12 rfl HJ.out ?_
  refine wpJ_done (by kernel_rfl) ?_ _
  clear HJ
  go_wp2_with fail
  refine bodyPost_ret (v := .tuple #[PV 64 53 (-1074) s z, .int .i64 0]) (by rw [results_ct rfl]; go_simp) rfl ⟨rfl, ?_⟩
  exact bSet (bSet (bSet (bSet (bSet hbw _ _ _ HGr.out) _ _ _ HGr.out) _ _ _ HGr.out) _ _ _ HGr.out) _ _ _ HGr.out
theorem vs_max {r : Nat} (h : r < 9218868437227405312) : vs 4503599627370496 r ≤ MaxU := by
  obtain ⟨K, hK⟩ : ∃ K, K = 2045 := ⟨_, rfl⟩
  rw [MaxU_eq hK]
  unfold vs
  refine Nat.mul_le_mul (by omega) (p2le (by omega))
theorem ux_pos {r : Nat} (h : r < 9223372036854775808) : ux r = (vs 4503599627370496 r : Int) := by
  rw [ux_eq, if_neg (by omega), Nat.mod_eq_of_lt h]
theorem ux_max : ux 9218868437227405311 = (MaxU : Int) := by
  rw [ux_pos (by decide)]
  have h : vs 4503599627370496 9218868437227405311 = MaxU := by decide +kernel
  rw [h]
theorem order_max {r : Nat} (h : r < 9218868437227405312) : FloatKind.f64.format.order r 9218868437227405311 = some .lt ∨ FloatKind.f64.format.order r 9218868437227405311 = some .eq := by
  have e : FloatKind.f64.format.order r 9218868437227405311 = Ieee.double.order r 9218868437227405311 := rfl
  rw [e, order_fin ⟨by omega, by omega⟩ ⟨by decide, by decide⟩, ux_max, ux_pos (by omega), ordI]
  have := vs_max h
  rcases Nat.lt_or_eq_of_le this with h1 | h1
  · rw [if_pos (by omega)]; exact .inl rfl
  · rw [if_neg (by omega), if_pos (by omega)]; exact .inr rfl
theorem order_inf_max : FloatKind.f64.format.order 9218868437227405312 9218868437227405311 = some .gt := by decide +kernel
theorem mabs (x : Nat) (hx : x < 18446744073709551616) (w : World) : Calls Tryz.prog 119 #[Fv x] w fun en w' => en = .returned (Fv (x % 9223372036854775808)) ∧ w' = w := by
  have bo1 : ∀ w, (callFunc 57 #[Fv x]).run Tryz.prog w = .ok (.value (.int .u64 (x : Int))) w := fun w => bitsOf x w
  have br3 : bits BinOp.andNot IntKind.u64 (x : Int) 9223372036854775808 = ((x % 9223372036854775808 : Nat) : Int) := sign_andNot x 9223372036854775808 63 (by decide) (by omega) (by omega)
  generalize x % 9223372036854775808 = y at br3 ⊢
  have fb2 : ∀ w, (callFunc 58 #[.int .u64 (y : Int)]).run Tryz.prog w = .ok (.value (Fv y)) w := fun w => frombits _ w
  go_enter Tryz.func119, Tryz.ntmps119
  go_wp2_with fail
  go_ret
  exact ⟨rfl, rfl⟩
theorem isinf (x : Nat) (hx : x < 18446744073709551616) (w : World) : Calls Tryz.prog 85 #[Fv x, .int .i64 0] w fun en w' => en = .returned (.bool (decide (x % 9223372036854775808 = 9218868437227405312))) ∧ w' = w := by
  have HX := mabs x hx
  generalize hy : x % 9223372036854775808 = y at HX ⊢
  have hc : ∃ o, FloatKind.f64.format.order y 9218868437227405311 = o ∧ (o == some .gt) = decide (y = 9218868437227405312) := by
    rcases Nat.lt_trichotomy y 9218868437227405312 with h | h | h
    · have : decide (y = 9218868437227405312) = false := decide_eq_false (by omega)
      rcases order_max h with h1 | h1
      · exact ⟨_, h1, by rw [this]; rfl⟩
      · exact ⟨_, h1, by rw [this]; rfl⟩
    · subst h; exact ⟨_, order_inf_max, by simp⟩
    · have : decide (y = 9218868437227405312) = false := decide_eq_false (by omega)
      exact ⟨none, order_nan (.inl (by unfold NanP; omega)), by rw [this]; rfl⟩
  obtain ⟨o, ho, hb⟩ := hc
  rw [← hb]
  clear hb hy hx
  go_enter Tryz.func85, Tryz.ntmps85
  go_wp2_with fail
  refine (HX _).mono ?_
  rintro e v9 ⟨rfl, hw⟩
  obtain rfl := hw.symm
  clear hw
  rcases o with _ | _ | _ | _
  all_goals
    go_wp2_with fail
    go_ret
    exact ⟨by kernel_rfl, rfl⟩
theorem isnan (x : Nat) (hx : x < 18446744073709551616) (w : World) : Calls Tryz.prog 86 #[Fv x] w fun en w' => en = .returned (.bool (decide (9218868437227405312 < x % 9223372036854775808))) ∧ w' = w := by
  have hc : ∃ o, FloatKind.f64.format.order x x = o ∧ (o != some .eq) = decide (9218868437227405312 < x % 9223372036854775808) := by
    rcases three64 x hx with h | h | h
    · refine ⟨_, order_fin h h, ?_⟩
      rw [ordI, if_neg (by omega), if_pos rfl, decide_eq_false (by have := h.fin; omega)]; rfl
    · refine ⟨some .eq, ?_, ?_⟩
      · show Ieee.double.order x x = _
        unfold Ieee.Format.order
        rw [read_inf h]
        unfold Ieee.Datum.order
        cases (x / 9223372036854775808 % 2 == 1) <;> rfl
      · unfold InfP at h
        rw [decide_eq_false (by omega)]; rfl
    · refine ⟨none, order_nan (.inl h), ?_⟩
      unfold NanP at h
      rw [decide_eq_true h]; rfl
  obtain ⟨o, ho, hb⟩ := hc
  rw [← hb]
  clear hb hx
  go_enter Tryz.func86, Tryz.ntmps86
  rcases o with _ | _ | _ | _
  all_goals
    go_wp2_with fail
    go_ret
    exact ⟨by kernel_rfl, rfl⟩
def finB (x : Nat) : Bool := decide (x % 9223372036854775808 < 9218868437227405312)
theorem ddfinite (x : Nat) (hx : x < 18446744073709551616) (w : World) : Calls Tryz.prog 59 #[Fv x] w fun en w' => en = .returned (.bool (finB x)) ∧ w' = w := by
  have H1 := isinf x hx
  have H2 := isnan x hx
  unfold finB
  generalize x % 9223372036854775808 = y at H1 H2 ⊢
  rcases Nat.lt_trichotomy y 9218868437227405312 with h | h | h
  · rw [decide_eq_true h]
    rw [decide_eq_false (show ¬ y = 9218868437227405312 by omega)] at H1
    rw [decide_eq_false (show ¬ 9218868437227405312 < y by omega)] at H2
    clear h hx
    go_enter Tryz.func59, Tryz.ntmps59
    go_wp2_with fail
    refine (H1 _).mono ?_
    rintro e v9 ⟨rfl, hw⟩
    obtain rfl := hw.symm
    clear hw
    go_wp2_with fail
    refine (H2 _).mono ?_
    rintro e v9 ⟨rfl, hw⟩
    obtain rfl := hw.symm
    clear hw
    go_wp2_with fail
    go_ret
    exact ⟨rfl, rfl⟩
  · rw [decide_eq_false (show ¬ y < 9218868437227405312 by omega)]
    rw [decide_eq_true h] at H1
    clear h hx H2
    go_enter Tryz.func59, Tryz.ntmps59
    go_wp2_with fail
    refine (H1 _).mono ?_
    rintro e v9 ⟨rfl, hw⟩
    obtain rfl := hw.symm
    clear hw
    go_wp2_with fail
    go_ret
    exact ⟨rfl, rfl⟩
  · rw [decide_eq_false (show ¬ y < 9218868437227405312 by omega)]
    rw [decide_eq_false (show ¬ y = 9218868437227405312 by omega)] at H1
    rw [decide_eq_true h] at H2
    clear h hx
    go_enter Tryz.func59, Tryz.ntmps59
    go_wp2_with fail
    refine (H1 _).mono ?_
    rintro e v9 ⟨rfl, hw⟩
    obtain rfl := hw.symm
    clear hw
    go_wp2_with fail
    refine (H2 _).mono ?_
    rintro e v9 ⟨rfl, hw⟩
    obtain rfl := hw.symm
    clear hw
    go_wp2_with fail
    go_ret
    exact ⟨rfl, rfl⟩
theorem finB_iff {x : Nat} (hx : x < 18446744073709551616) : finB x = true ↔ Fin64 x := by
  unfold finB
  rw [decide_eq_true_iff]
  exact ⟨fun h => ⟨hx, h⟩, fun h => h.fin⟩
def ddB (h l : Nat) : Bool := decide (h < 18446744073709551616) && decide (l < 18446744073709551616) && finB h && finB l && decide (rg 0 (ux h + ux l).natAbs < 9218868437227405312) && decide (rv (ux h + ux l) = ux h)
theorem ddB_iff {h l : Nat} : ddB h l = true ↔ DdF h l := by
  unfold ddB finB
  simp only [Bool.and_eq_true, decide_eq_true_iff]
  exact ⟨fun ⟨⟨⟨⟨⟨h1, h2⟩, h3⟩, h4⟩, h5⟩, h6⟩ => ⟨⟨h1, h3⟩, ⟨h2, h4⟩, h5, h6⟩, fun d => ⟨⟨⟨⟨⟨d.hi.lt, d.lo.lt⟩, d.hi.fin⟩, d.lo.fin⟩, d.fit⟩, d.eq⟩⟩
theorem ddB_not {h l : Nat} (hf : finB h = false) : ddB h l = false := by
  cases hb : ddB h l with
  | false => rfl
  | true =>
    have d := ddB_iff.1 hb
    have := (finB_iff d.hi.lt).2 d.hi
    rw [hf] at this
    cases this
theorem belowDn {B : Nat} {a w : World} (h : Below B a w) (n : Nat) : Below B a (w.drewN n) := ⟨h.os, h.tape, h.output, h.size, h.block⟩
theorem ddform (h l : Nat) (hh : h < 18446744073709551616) (hl : l < 18446744073709551616) (w : World) : Calls Tryz.prog 37 #[.agg #[Fv h, Fv l]] w fun en w' => en = .returned (.bool (ddB h l)) ∧ Below w.heap.size w w' := by
  have hSF : ∀ (w : World) (a : Addr) (b : Nat), (store a (Fv b)).run Tryz.prog w = stored Tryz.prog w a (Fv b) .plain := fun w a b => run_store _ w a (Fv b) _ rfl
  have H1 := ddfinite h hh
  cases hfb : finB h with
  | false =>
    rw [ddB_not hfb]
    rw [hfb] at H1
    clear hfb
    go_enter Tryz.func37, Tryz.ntmps37
    go_wp2_with fail
    refine (H1 _).mono ?_
    rintro e v9 ⟨rfl, hw⟩
    obtain rfl := hw.symm
    clear hw
    go_wp2_with fail
    go_ret
    exact ⟨rfl, bwAlloc w _⟩
  | true =>
    rw [hfb] at H1
    have hF := (finB_iff hh).1 hfb
    obtain ⟨r, n, hr, F⟩ := fop (P := Tryz.prog) .add (.inl rfl) 30 h l (w.alloc (Obj.cells #[Fv h, Fv l] 32))
    have hfm := form_iff hF hl F
    obtain ⟨o, ho⟩ : ∃ o, FloatKind.f64.format.order r h = o := ⟨_, rfl⟩
    have hb : ddB h l = (o == some .eq) := by
      rw [Bool.eq_iff_iff, ddB_iff, ← hfm, beq_iff_eq, ← ho]; rfl
    rw [hb]
    clear hb hfm F hF hfb hh hl
    go_enter Tryz.func37, Tryz.ntmps37
    go_wp2_with fail
    refine (H1 _).mono ?_
    rintro e v9 ⟨rfl, hw⟩
    obtain rfl := hw.symm
    clear hw
    rcases o with _ | _ | _ | _
    all_goals
      go_wp2_with fail
      go_ret
      exact ⟨by kernel_rfl, belowDn (bwAlloc w _) n⟩
def OkB (en : Ending) (c : Prop) : Prop := ∃ r, en = .returned (.bool r) ∧ (r = true → c)
theorem finite20 (b : Nat) (w : World) :
    Calls Tryz.prog 66 #[U b] w fun en w' => en = .returned (.bool (decide (b % 9223372036854775808 < 9218868437227405312))) ∧ w' = w := by
  obtain ⟨s, hs⟩ : ∃ s, s = b % 9223372036854775808 := ⟨_, rfl⟩
  have hm : (b : Int) % 9223372036854775808 = (s : Int) := by omega
  rw [← hs]
  obtain ⟨r, hr⟩ : ∃ r, r = decide (s < 9218868437227405312) := ⟨_, rfl⟩
  rw [← hr]
  have hd : decide ((s : Int) < 9218868437227405312) = r := by rw [hr]; exact decide_eq_decide.2 (by omega)
  clear hs hr
  go_enter Tryz.func66, Tryz.ntmps66
  go_wp2_with fail
  go_ret
  exact ⟨rfl, rfl⟩
theorem nought20 (b : Nat) (w : World) :
    Calls Tryz.prog 22 #[U b] w fun en w' => en = .returned (.bool (decide (b % 9223372036854775808 = 0))) ∧ w' = w := by
  obtain ⟨s, hs⟩ : ∃ s, s = b % 9223372036854775808 := ⟨_, rfl⟩
  have hm : (b : Int) % 9223372036854775808 = (s : Int) := by omega
  rw [← hs]
  obtain ⟨r, hr⟩ : ∃ r, r = decide (s = 0) := ⟨_, rfl⟩
  rw [← hr]
  have hd : ((s : Int) == 0) = r := by
    rw [hr]
    by_cases h : s = 0
    · subst h; rfl
    · rw [decide_eq_false h]; simp; omega
  clear hs hr
  go_enter Tryz.func22, Tryz.ntmps22
  go_wp2_with fail
  go_ret
  exact ⟨rfl, rfl⟩
theorem number20 {b : Nat} (w : World) :
    Calls Tryz.prog 90 #[U b] w fun en w' => ∃ v, en = .returned v ∧ GotR w.heap.size w' v (ux b) 2200 ∧ Below w.heap.size w w' := by
  go_enter Tryz.func90, Tryz.ntmps90
  go_wp2_with fail
  obtain ⟨W0, hW0⟩ : ∃ W0, W0 = (w.alloc (.cells #[.bool false, .slice none 0 0] 87)) := ⟨_, rfl⟩
  have Xr : Hid (Box W0 (w.heap.size) (.bool false) (.slice none 0 0)) := by rw [hW0]; exact ⟨by go_simp, by go_simp, by go_simp, by go_simp⟩
  have hb0 : Below w.heap.size w W0 := by rw [hW0]; exact below1 w _
  rw [← hW0]
  clear hW0
  have hbw : Below w.heap.size w w := Below.refl _ _
  obtain ⟨gr, hgr⟩ : ∃ g, g = w.heap.size := ⟨_, rfl⟩
  have HGr : Hid (w.heap.size ≤ gr) := by rw [hgr]; show _ ≤ _; omega
  rw [← hgr] at Xr
  try rw [← hgr]
  clear hgr
  replace hbw := Below.on hbw hb0
  clear hb0
  refine (rof_64 _).mono ?_
  rintro e v1 ⟨rfl, hb1⟩
  replace Xr : Hid _ := Xr.out.below hb1
  replace hbw := Below.on hbw hb1
  clear hb1
  go_wp2_with fail
  have Xfm0 : Hid (B6q (v1.alloc (.cells #[U 9223372036854775808, .int .i64 53, .int .i64 (-1074), .int .i64 971, U 9218868437227405312, U 9221120237041090561] 119)) v1.heap.size (U 9223372036854775808) (.int .i64 53) (.int .i64 (-1074)) (.int .i64 971) (U 9218868437227405312) (U 9221120237041090561)) := B6q.new v1 _ _ _ _ _ _ _
  have hbn : Below v1.heap.size v1 (v1.alloc (.cells #[U 9223372036854775808, .int .i64 53, .int .i64 (-1074), .int .i64 971, U 9218868437227405312, U 9221120237041090561] 119)) := below1 v1 _
  generalize v1.alloc (.cells #[U 9223372036854775808, .int .i64 53, .int .i64 (-1074), .int .i64 971, U 9218868437227405312, U 9221120237041090561] 119) = Wf at *
  have HGfm : Hid (w.heap.size ≤ v1.heap.size) := hbw.size
  replace Xr : Hid _ := Xr.out.below hbn
  replace hbw := Below.on hbw hbn
  clear hbn
  generalize v1.heap.size = gfm at *
  have Xfm := Xfm0
  clear Xfm0
  obtain ⟨cfm0, cfm1, cfm2, cfm3, cfm4, cfm5, ffm0, ffm1, ffm2, ffm3, ffm4, ffm5⟩ := Xfm.out
  have hnefm : gfm < Wf.heap.size := World.block_lt_of_cell? Wf _ cfm0
  go_wp2_with fail
  clear cfm0 cfm1 cfm2 cfm3 cfm4 cfm5 ffm0 ffm1 ffm2 ffm3 ffm4 ffm5 hnefm
  have HRB : Hid (gr < Wf.heap.size ∧ w.heap.size ≤ Wf.heap.size) := ⟨Xr.out.lt, hbw.size⟩
  refine (rwhole_64 _).mono ?_
  rintro e v2 ⟨v, rfl, hv, hb2⟩
  obtain ⟨s2, g2, m2, rfl, hg2, hz2, hl2⟩ := hv
  try clear hv
  have HN2 : Hid (Wf.heap.size ≤ g2) := hg2
  have HB2 : Hid (Wf.heap.size ≤ v2.heap.size) := hb2.size
  replace Xr : Hid _ := Xr.out.below hb2
  replace Xfm : Hid _ := Xfm.out.below hb2
  replace hbw := Below.on hbw hb2
  clear hb2
  have Z2 : Hid (ZR v2 s2 (some ⟨g2, 0, none⟩) m2 (ux b)) := hz2
  have HL2 : Hid (m2 ≤ 2200) := hl2
  clear hz2 hl2 hg2
  obtain ⟨cr0, cr1, fr0, fr1⟩ := Xr.out
  have hner := Xr.out.lt
  go_wp2_with fail
  refine bodyPost_ret (v := .agg #[.bool s2, .slice (some ⟨g2, 0, none⟩) m2 m2]) (by rw [results_cell1 rfl]; go_simp) rfl ⟨_, rfl, ⟨s2, g2, m2, rfl, Nat.le_trans HRB.out.2 HN2.out, ?_, HL2.out⟩, ?_⟩
  · have := HN2.out; have := HRB.out.1
    exact (Z2.out.set _ _ _ (by omega)).set _ _ _ (by omega)
  · exact bSet (bSet hbw _ _ _ HGr.out) _ _ _ HGr.out
theorem sum20 {h l : Nat} (w : World) :
    Calls Tryz.prog 67 #[.agg #[.int .u64 (h : Int), .int .u64 (l : Int)]] w fun en w' => ∃ v, en = .returned v ∧ GotR w.heap.size w' v (ux h + ux l) 2201 ∧ Below w.heap.size w w' := by
  go_enter Tryz.func67, Tryz.ntmps67
  go_wp2_with fail
  obtain ⟨W0, hW0⟩ : ∃ W0, W0 = ((w.alloc (.cells #[.int .u64 (h : Int), .int .u64 (l : Int)] 28)).alloc (.cells #[.bool false, .slice none 0 0] 87)) := ⟨_, rfl⟩
  have Xa : Hid (Box W0 (w.heap.size) (.int .u64 (h : Int)) (.int .u64 (l : Int))) := by rw [hW0]; exact ⟨by go_simp, by go_simp, by go_simp, by go_simp⟩
  have Xr : Hid (Box W0 (w.heap.size + 1) (.bool false) (.slice none 0 0)) := by rw [hW0]; exact ⟨by go_simp, by go_simp, by go_simp, by go_simp⟩
  have hb0 : Below w.heap.size w W0 := by rw [hW0]; exact below2 w _ _
  rw [← hW0]
  clear hW0
  have hbw : Below w.heap.size w w := Below.refl _ _
  obtain ⟨gr, hgr⟩ : ∃ g, g = w.heap.size + 1 := ⟨_, rfl⟩
  have HGr : Hid (w.heap.size ≤ gr) := by rw [hgr]; show _ ≤ _; omega
  rw [← hgr] at Xr
  try rw [← hgr]
  obtain ⟨ga, hga⟩ : ∃ g, g = w.heap.size := ⟨_, rfl⟩
  have HGa : Hid (w.heap.size ≤ ga) := by rw [hga]; show _ ≤ _; omega
  rw [← hga] at Xa
  try rw [← hga]
  have HGD : Hid (ga ≠ gr ∧ gr ≠ ga) := by rw [hga, hgr]; exact ⟨by omega, by omega⟩
  clear hga hgr
  replace hbw := Below.on hbw hb0
  clear hb0
  obtain ⟨V1, hV1⟩ : ∃ W1, W1 = W0.drew := ⟨_, rfl⟩
  have hbd : Below W0.heap.size W0 V1 := by rw [hV1]; exact bDrew1 (Below.refl _ _)
  replace Xa : Hid _ := Xa.out.below hbd
  replace Xr : Hid _ := Xr.out.below hbd
  replace hbw := Below.on hbw hbd
  clear hbd
  have HJ : Hid ((fun W' : World => W'.cell? ⟨ga, 0, none⟩ = some (.int .u64 (h : Int)) ∧ W'.cell? ⟨ga, 1, none⟩ = some (.int .u64 (l : Int))) V1) := ⟨Xa.out.c0, Xa.out.c1⟩
  refine wp_region_J (fun W' => W'.cell? ⟨ga, 0, none⟩ = some (.int .u64 (h : Int)) ∧ W'.cell? ⟨ga, 1, none⟩ = some (.int .u64 (l : Int))) (by kernel_rfl) ?_
  rw [← hV1]
  clear hV1
  refine wpJ_tq 0 rfl HJ.out ?_
  refine wpJ_tq 1 rfl HJ.out ?_
  refine wpJ_tq 3 rfl HJ.out ?_
  refine wpJ_tq 4 rfl HJ.out ?_
  refine wpJ_on 2 rfl fun KJ hK => ?_
  go_simp
  refine (number20 _).mono ?_
  rintro e v1 ⟨v, rfl, hv, hb1⟩
  obtain ⟨s1, g1, m1, rfl, hg1, hz1, hl1⟩ := hv
  try clear hv
  have HN1 : Hid (V1.heap.size ≤ g1) := hg1
  have HB1 : Hid (V1.heap.size ≤ v1.heap.size) := hb1.size
  replace Xa : Hid _ := Xa.out.below hb1
  replace Xr : Hid _ := Xr.out.below hb1
  replace hbw := Below.on hbw hb1
  clear hb1
  have Z1 : Hid (ZR v1 s1 (some ⟨g1, 0, none⟩) m1 (ux h)) := hz1
  have HL1 : Hid (m1 ≤ 2200) := hl1
  clear hz1 hl1 hg1
  refine hK _ _ ⟨Xa.out.c0, Xa.out.c1⟩ ?_
  clear hK
  refine wpJ_on 5 rfl fun KJ hK => ?_
  go_simp
  refine (number20 _).mono ?_
  rintro e v2 ⟨v, rfl, hv, hb2⟩
  obtain ⟨s2, g2, m2, rfl, hg2, hz2, hl2⟩ := hv
  try clear hv
  have HN2 : Hid (v1.heap.size ≤ g2) := hg2
  have HB2 : Hid (v1.heap.size ≤ v2.heap.size) := hb2.size
  replace Xa : Hid _ := Xa.out.below hb2
  replace Xr : Hid _ := Xr.out.below hb2
  replace Z1 : Hid _ := Z1.out.below hb2
  replace hbw := Below.on hbw hb2
  clear hb2
  have Z2 : Hid (ZR v2 s2 (some ⟨g2, 0, none⟩) m2 (ux l)) := hz2
  have HL2 : Hid (m2 ≤ 2200) := hl2
  clear hz2 hl2 hg2
  refine hK _ _ ⟨Xa.out.c0, Xa.out.c1⟩ ?_
  clear hK
  refine wpJ_on 6 rfl fun KJ hK => ?_
  go_simp
  have HRB : Hid (gr < v2.heap.size ∧ w.heap.size ≤ v2.heap.size) := ⟨Xr.out.lt, hbw.size⟩
  refine (radd04 s1 s2 Z1.out Z2.out (by have := HL1.out; omega) (by have := HL2.out; omega)).mono ?_
  rintro e v3 ⟨v, rfl, hv, hb3⟩
  obtain ⟨s3, g3, m3, rfl, hg3, hz3, hl3⟩ := hv
  try clear hv
  have HN3 : Hid (v2.heap.size ≤ g3) := hg3
  have HB3 : Hid (v2.heap.size ≤ v3.heap.size) := hb3.size
  replace Xa : Hid _ := Xa.out.below hb3
  replace Xr : Hid _ := Xr.out.below hb3
  replace Z1 : Hid _ := Z1.out.below hb3
  replace Z2 : Hid _ := Z2.out.below hb3
  replace hbw := Below.on hbw hb3
  clear hb3
  have Z3 : Hid (ZR v3 s3 (some ⟨g3, 0, none⟩) m3 (ux h + ux l)) := hz3
  have HL3 : Hid (m3 ≤ max m1 m2 + 1) := hl3
  clear hz3 hl3 hg3
  refine hK _ _ ⟨Xa.out.c0, Xa.out.c1⟩ ?_
  clear hK
  obtain ⟨cr0, cr1, fr0, fr1⟩ := Xr.out
  have hner := Xr.out.lt
  obtain ⟨ca0, ca1, fa0, fa1⟩ := Xa.out
  have hnea := Xa.out.lt
  obtain ⟨hgd0, hgd1⟩ := HGD.out
  refine wpJ_on 7 rfl fun KJ hK => ?_
  go_simp
  have HJ2 : Hid ((fun W' : World => W'.cell? ⟨ga, 0, none⟩ = some (.int .u64 (h : Int)) ∧ W'.cell? ⟨ga, 1, none⟩ = some (.int .u64 (l : Int))) ((v3.setCell ⟨gr, 0, none⟩ (.bool s3)).setCell ⟨gr, 1, none⟩ (.slice (some ⟨g3, 0, none⟩) m3 m3))) := ⟨by go_simp, by go_simp⟩
  refine hK _ _ HJ2.out ?_
  clear hK HJ
  have HJ := HJ2
  clear HJ2
  refine wpJ_done (by kernel_rfl) ?_ _
  clear HJ
  go_wp2_with fail
  refine bodyPost_ret (v := .agg #[.bool s3, .slice (some ⟨g3, 0, none⟩) m3 m3]) (by rw [results_cell1 rfl]; go_simp) rfl ⟨_, rfl, ⟨s3, g3, m3, rfl, Nat.le_trans HRB.out.2 HN3.out, ?_, by have := HL1.out; have := HL2.out; have := HL3.out; omega⟩, ?_⟩
  · have := HN3.out; have := HRB.out.1
    exact (Z3.out.set _ _ _ (by omega)).set _ _ _ (by omega)
  · exact bSet (bSet hbw _ _ _ HGr.out) _ _ _ HGr.out
theorem ddf_told {h l : Nat} (fh : Fin64 h) (fl : Fin64 l) (_h0 : ux h + ux l ≠ 0) (ht : toldN (ux h + ux l) ((ux h + ux l).natAbs * 2 ^ 0) = h) : DdF h l := by
  rw [Nat.pow_zero, Nat.mul_one] at ht
  unfold toldN at ht
  have hr := rg_top9 (ux h + ux l).natAbs
  have hf := fh.fin
  by_cases h4 : ux h + ux l < 0
  · rw [if_pos h4] at ht
    have h5 : h % 9223372036854775808 = rg 0 (ux h + ux l).natAbs := by omega
    refine ⟨fh, fl, by rw [← h5]; exact hf, ?_⟩
    unfold rv
    rw [if_pos h4, ← h5, ux_eq h, if_pos (by omega)]
  · rw [if_neg h4] at ht
    have h5 : h % 9223372036854775808 = rg 0 (ux h + ux l).natAbs := by omega
    refine ⟨fh, fl, by rw [← h5]; exact hf, ?_⟩
    unfold rv
    rw [if_neg h4, ← h5, ux_eq h, if_neg (by omega)]
theorem ddf_nought {h l : Nat} (fh : Fin64 h) (fl : Fin64 l) (h0 : ux h + ux l = 0) (hn : h % 9223372036854775808 = 0) : DdF h l := by
  refine ⟨fh, fl, by rw [h0]; decide, ?_⟩
  rw [h0]
  unfold rv
  rw [if_neg (by omega), ux_eq, hn, show rg 0 (0 : Int).natAbs = 0 from rfl, vs_zero]
  split <;> rfl
theorem ux_bits (h l : Nat) : bitsN (ux h + ux l).natAbs ≤ 2200 := by
  obtain ⟨L, hL⟩ : ∃ L, L = 2150 := ⟨_, rfl⟩
  have h1 := svS_lt (S := 9223372036854775808) (H := 4503599627370496) h (L := L) (a := 52) (c := 2048) (by decide) (by decide) (by decide) (by decide) (by omega)
  have h2 := svS_lt (S := 9223372036854775808) (H := 4503599627370496) l (L := L) (a := 52) (c := 2048) (by decide) (by decide) (by decide) (by decide) (by omega)
  have h3 : (ux h + ux l).natAbs < 2 ^ (L + 1) := by
    rw [Nat.pow_succ]
    have e1 : (ux h).natAbs < 2 ^ L := h1
    have e2 : (ux l).natAbs < 2 ^ L := h2
    omega
  have h4 := bits_le h3
  omega
theorem docform20 (h l : Nat) (hh : h < 18446744073709551616) (hl : l < 18446744073709551616) (w : World) :
    Calls Tryz.prog 39 #[.agg #[.int .u64 (h : Int), .int .u64 (l : Int)]] w fun en w' => OkB en (DdF h l) ∧ Below w.heap.size w w' := by
  have HB : Hid (h < 18446744073709551616 ∧ l < 18446744073709551616) := ⟨hh, hl⟩
  clear hh hl
  go_enter Tryz.func39, Tryz.ntmps39
  go_wp2_with fail
  obtain ⟨W0, hW0⟩ : ∃ W0, W0 = (w.alloc (.cells #[.int .u64 (h : Int), .int .u64 (l : Int)] 28)) := ⟨_, rfl⟩
  have Xa : Hid (Box W0 (w.heap.size) (.int .u64 (h : Int)) (.int .u64 (l : Int))) := by rw [hW0]; exact ⟨by go_simp, by go_simp, by go_simp, by go_simp⟩
  have hb0 : Below w.heap.size w W0 := by rw [hW0]; exact below1 w _
  rw [← hW0]
  clear hW0
  have hbw : Below w.heap.size w w := Below.refl _ _
  obtain ⟨ga, hga⟩ : ∃ g, g = w.heap.size := ⟨_, rfl⟩
  have HGa : Hid (w.heap.size ≤ ga) := by rw [hga]; show _ ≤ _; omega
  rw [← hga] at Xa
  try rw [← hga]
  clear hga
  replace hbw := Below.on hbw hb0
  clear hb0
  obtain ⟨ca0, ca1, fa0, fa1⟩ := Xa.out
  have hnea := Xa.out.lt
  go_wp2_with fail
  clear ca0 ca1 fa0 fa1 hnea
  refine (finite20 h _).mono ?_
  rintro e9 v9 ⟨rfl, hw⟩
  obtain rfl := hw.symm
  clear hw
  by_cases f1 : h % 9223372036854775808 < 9218868437227405312
  · rw [decide_eq_true f1]
    obtain ⟨ca0, ca1, fa0, fa1⟩ := Xa.out
    have hnea := Xa.out.lt
    go_wp2_with fail
    clear ca0 ca1 fa0 fa1 hnea
    refine (finite20 l _).mono ?_
    rintro e9 v9 ⟨rfl, hw⟩
    obtain rfl := hw.symm
    clear hw
    by_cases f2 : l % 9223372036854775808 < 9218868437227405312
    · rw [decide_eq_true f2]
      have HFF : Hid (Fin64 h ∧ Fin64 l) := ⟨⟨HB.out.1, f1⟩, ⟨HB.out.2, f2⟩⟩
      clear f1 f2
      obtain ⟨ca0, ca1, fa0, fa1⟩ := Xa.out
      have hnea := Xa.out.lt
      go_wp2_with fail
      clear ca0 ca1 fa0 fa1 hnea
      refine (sum20 _).mono ?_
      rintro e v1 ⟨v, rfl, hv, hb1⟩
      obtain ⟨s1, g1, m1, rfl, hg1, hz1, hl1⟩ := hv
      try clear hv
      have HN1 : Hid (W0.heap.size ≤ g1) := hg1
      have HB1 : Hid (W0.heap.size ≤ v1.heap.size) := hb1.size
      replace Xa : Hid _ := Xa.out.below hb1
      replace hbw := Below.on hbw hb1
      clear hb1
      have Z1 : Hid (ZR v1 s1 (some ⟨g1, 0, none⟩) m1 (ux h + ux l)) := hz1
      have HL1 : Hid (m1 ≤ 2201) := hl1
      clear hz1 hl1 hg1
      go_wp2_with fail
      have Xs0 : Hid (Box (v1.alloc (.cells #[.bool s1, .slice (some ⟨g1, 0, none⟩) m1 m1] 87)) v1.heap.size (.bool s1) (.slice (some ⟨g1, 0, none⟩) m1 m1)) := Box.new v1 _ _ _
      have hbn : Below v1.heap.size v1 (v1.alloc (.cells #[.bool s1, .slice (some ⟨g1, 0, none⟩) m1 m1] 87)) := below1 v1 _
      generalize v1.alloc (.cells #[.bool s1, .slice (some ⟨g1, 0, none⟩) m1 m1] 87) = Ws at *
      have HGs : Hid (w.heap.size ≤ v1.heap.size) := hbw.size
      replace Xa : Hid _ := Xa.out.below hbn
      replace Z1 : Hid _ := Z1.out.below hbn
      replace hbw := Below.on hbw hbn
      clear hbn
      generalize v1.heap.size = gs at *
      have Xs := Xs0
      clear Xs0
      obtain ⟨cs0, cs1, fs0, fs1⟩ := Xs.out
      have hnes := Xs.out.lt
      go_wp2_with fail
      clear cs0 cs1 fs0 fs1 hnes
      refine (rsign04 s1 Z1.out).mono ?_
      rintro e v2 ⟨rfl, hb2⟩
      replace Xa : Hid _ := Xa.out.below hb2
      replace Xs : Hid _ := Xs.out.below hb2
      replace Z1 : Hid _ := Z1.out.below hb2
      replace hbw := Below.on hbw hb2
      clear hb2
      by_cases h0 : ux h + ux l = 0
      · rw [show sgnI (ux h + ux l) = 0 by rw [h0]; rfl]
        have H0 := Hid.mk9 h0
        clear h0
        obtain ⟨ca0, ca1, fa0, fa1⟩ := Xa.out
        have hnea := Xa.out.lt
        go_wp2_with fail
        clear ca0 ca1 fa0 fa1 hnea
        refine (nought20 h _).mono ?_
        rintro e9 v9 ⟨rfl, hw⟩
        obtain rfl := hw.symm
        clear hw
        obtain ⟨r, hr⟩ : ∃ r, r = decide (h % 9223372036854775808 = 0) := ⟨_, rfl⟩
        rw [← hr]
        have HRR := Hid.mk9 hr
        clear hr
        go_wp2_with fail
        go_ret
        exact ⟨⟨r, rfl, fun h9 => ddf_nought HFF.out.1 HFF.out.2 H0.out (of_decide_eq_true (HRR.out.symm.trans h9))⟩, hbw⟩
      · have hs9 : (sgnI (ux h + ux l) == 0) = false := by
          rcases Int.lt_trichotomy (ux h + ux l) 0 with q | q | q
          · rw [show sgnI (ux h + ux l) = -1 from if_pos q]; rfl
          · exact absurd q h0
          · rw [show sgnI (ux h + ux l) = 1 by unfold sgnI; rw [if_neg (by omega), if_neg (by omega)]]; rfl
        obtain ⟨sg, hsg⟩ : ∃ sg, sg = sgnI (ux h + ux l) := ⟨_, rfl⟩
        rw [← hsg] at hs9 ⊢
        clear hsg
        have H0 := Hid.mk9 h0
        clear h0
        go_wp2_with fail
        obtain ⟨T, hT⟩ : ∃ T, T = toldN (ux h + ux l) ((ux h + ux l).natAbs * 2 ^ 0) := ⟨_, rfl⟩
        have HTT := Hid.mk9 hT
        clear hT
        obtain ⟨V7, hV7⟩ : ∃ W1, W1 = v2.drew := ⟨_, rfl⟩
        have hbd : Below v2.heap.size v2 V7 := by rw [hV7]; exact bDrew1 (Below.refl _ _)
        replace Xa : Hid _ := Xa.out.below hbd
        replace Xs : Hid _ := Xs.out.below hbd
        replace Z1 : Hid _ := Z1.out.below hbd
        replace hbw := Below.on hbw hbd
        clear hbd
        have HJ : Hid ((fun W' : World => W'.cell? ⟨gs, 0, none⟩ = some (.bool s1) ∧ W'.cell? ⟨gs, 1, none⟩ = some (.slice (some ⟨g1, 0, none⟩) m1 m1) ∧ W'.cell? ⟨ga, 0, none⟩ = some (.int .u64 (h : Int))) V7) := ⟨Xs.out.c0, Xs.out.c1, Xa.out.c0⟩
        refine wp_region_J (fun W' => W'.cell? ⟨gs, 0, none⟩ = some (.bool s1) ∧ W'.cell? ⟨gs, 1, none⟩ = some (.slice (some ⟨g1, 0, none⟩) m1 m1) ∧ W'.cell? ⟨ga, 0, none⟩ = some (.int .u64 (h : Int))) (by kernel_rfl) ?_
        rw [← hV7]
        clear hV7
        refine wpJ_tq 0 rfl HJ.out ?_
        refine wpJ_tq 2 rfl HJ.out ?_
        refine wpJ_tq 3 rfl HJ.out ?_
        refine wpJ_on 1 rfl fun KJ hK => ?_
        go_simp
        refine (told_a s1 Z1.out (by have := HL1.out; omega) H0.out (-1074) (by decide) (ux_bits h l) rfl).mono ?_
        rintro e v3 ⟨rfl, hb3⟩
        rw [show ((-1074 : Int) + 1074).toNat = 0 from rfl, ← HTT.out]
        replace Xa : Hid _ := Xa.out.below hb3
        replace Xs : Hid _ := Xs.out.below hb3
        replace Z1 : Hid _ := Z1.out.below hb3
        replace hbw := Below.on hbw hb3
        clear hb3
        clear HJ
        have HJ : Hid ((fun W' : World => W'.cell? ⟨gs, 0, none⟩ = some (.bool s1) ∧ W'.cell? ⟨gs, 1, none⟩ = some (.slice (some ⟨g1, 0, none⟩) m1 m1) ∧ W'.cell? ⟨ga, 0, none⟩ = some (.int .u64 (h : Int))) v3) := ⟨Xs.out.c0, Xs.out.c1, Xa.out.c0⟩
        refine hK _ _ HJ.out ?_
        clear hK
        refine wpJ_tq 4 rfl HJ.out ?_
        refine wpJ_tq 5 rfl HJ.out ?_
        go_simp
        refine wpJ_done (by kernel_rfl) ?_ _
        clear HJ
        go_wp2_with fail
        go_ret
        exact ⟨⟨_, rfl, fun h9 => ddf_told HFF.out.1 HFF.out.2 H0.out (by rw [← HTT.out]; exact Int.ofNat.inj (by simpa using h9))⟩, hbw⟩
    · rw [decide_eq_false f2]
      obtain ⟨ca0, ca1, fa0, fa1⟩ := Xa.out
      have hnea := Xa.out.lt
      go_wp2_with fail
      clear ca0 ca1 fa0 fa1 hnea
      go_ret
      exact ⟨⟨false, rfl, fun h9 => by cases h9⟩, hbw⟩
  · rw [decide_eq_false f1]
    obtain ⟨ca0, ca1, fa0, fa1⟩ := Xa.out
    have hnea := Xa.out.lt
    go_wp2_with fail
    clear ca0 ca1 fa0 fa1 hnea
    go_ret
    exact ⟨⟨false, rfl, fun h9 => by cases h9⟩, hbw⟩
end Go.Proofs.YtidggnjnlhjhlaaGreatDoor
namespace Go.Proofs.YtidggnjnlhjhlaaGreatDoor
open Go.RowKit
set_option maxRecDepth 20000
set_option maxHeartbeats 0
variable {P : Program} {md : Region.Mode} {ops : Array Oper} {Q : Exit → Act → World → Prop} {J : World → Prop} {L : Nat}

def ClosedL (md : Region.Mode) (ops : Array Oper) (listed : Array Bool) : Prop :=
  ∀ (k : Nat) (o : Oper), ops[k]? = some o → listed.getD k false = true → ∀ e ∈ o.after, Region.binds md e = true → listed.getD e.on false = true
theorem ClosedL.step {listed : Array Bool} (h : ClosedL md ops listed) {j : Nat} (hj : j ∈ Region.ready md ops listed) : ClosedL md ops (listed.setIfInBounds j true) := by
  intro k o ho hk e he hb
  obtain ⟨h0, oj, hoj, hall⟩ := mem_ready.1 hj
  by_cases hjk : j = k
  · subst hjk
    rw [hoj] at ho
    obtain rfl := Option.some.inj ho
    exact getD_set_true (hall e he hb)
  · rw [getD_set_ne false hjk] at hk
    exact getD_set_true (h k o ho hk e he hb)
end Go.Proofs.YtidggnjnlhjhlaaGreatDoor
namespace Go.Proofs.YtidggnjnlhjhlaaGreatDoor
open Go.RowKit Go.Shelf
set_option maxRecDepth 20000
set_option maxHeartbeats 0
def ordV : Ordering → Int
  | .lt => -1
  | .eq => 0
  | .gt => 1
theorem cisnan (x : Nat) (hx : Fin64 x) (w : World) : Calls Tryz.prog 87 #[Fv x] w fun en w' => en = .returned (.bool false) ∧ w' = w := by
  have ho : FloatKind.f64.format.order x x = some .eq := by
    show Ieee.double.order x x = _
    rw [order_fin hx hx, ordI, if_neg (by omega), if_pos rfl]
  clear hx
  go_enter Tryz.func87, Tryz.ntmps87
  go_wp2_with fail
  go_ret
  exact ⟨by kernel_rfl, rfl⟩
theorem ccompare (x y : Nat) (hx : Fin64 x) (hy : Fin64 y) (w : World) : Calls Tryz.prog 60 #[Fv x, Fv y] w fun en w' => en = .returned (.int .i64 (ordV (compare (ux x) (ux y)))) ∧ w' = w := by
  have N1 := cisnan x hx
  have N2 := cisnan y hy
  have ho : FloatKind.f64.format.order x y = some (compare (ux x) (ux y)) := order_fin hx hy
  generalize compare (ux x) (ux y) = o at ho ⊢
  clear hx hy
  go_enter Tryz.func60, Tryz.ntmps60
  go_wp2_with fail
  refine (N1 _).mono ?_
  rintro e v9 ⟨rfl, hw⟩
  obtain rfl := hw.symm
  clear hw
  go_wp2_with fail
  refine (N2 _).mono ?_
  rintro e v9 ⟨rfl, hw⟩
  obtain rfl := hw.symm
  clear hw
  rcases o with _ | _ | _
  all_goals
    go_wp2_with fail
    go_ret
    exact ⟨by kernel_rfl, rfl⟩
theorem stF (w : World) (a : Addr) (b : Nat) : (store a (Fv b)).run Tryz.prog w = stored Tryz.prog w a (Fv b) .plain := run_store _ w a (Fv b) _ rfl
theorem xorT (x : Nat) (h : x < 2 ^ 63) : x ^^^ 2 ^ 63 = 2 ^ 63 + x := by
  refine Nat.eq_of_testBit_eq fun j => ?_
  rw [Nat.testBit_xor, Nat.testBit_two_pow]
  rcases Nat.lt_trichotomy j 63 with hj | rfl | hj
  · rw [Nat.testBit_two_pow_add_gt hj, decide_eq_false (by omega)]; simp
  · rw [Nat.testBit_two_pow_add_eq]; simp
  · have h1 : 2 ^ 64 ≤ 2 ^ j := p2le (by omega)
    rw [Nat.testBit_lt_two_pow (show x < 2 ^ j by omega), Nat.testBit_lt_two_pow (show 2 ^ 63 + x < 2 ^ j by omega), decide_eq_false (by omega)]; rfl
theorem ngx_is (b : Nat) (hb : b < 18446744073709551616) : Op.negFloat .f64 b = flipS b := by
  unfold Op.negFloat flipS
  rw [show 2 ^ (FloatKind.f64.format.exponentBits + FloatKind.f64.format.fractionBits) = 2 ^ 63 from rfl]
  split
  · rename_i h
    have h1 : b = (b - 9223372036854775808) ^^^ 2 ^ 63 := by
      rw [xorT _ (by omega)]; omega
    generalize hc : b - 9223372036854775808 = c at h1 ⊢
    rw [h1, Nat.xor_assoc, Nat.xor_self, Nat.xor_zero]
  · rename_i h
    rw [xorT _ (by omega)]; omega
theorem ngS (b : Nat) (hb : b < 18446744073709551616) (w : World) : (Op.unary UnOp.neg (Fv b)).run Tryz.prog w = .ok (Fv (flipS b)) w := by
  rw [← ngx_is b hb]; rfl
theorem ddneg (h l : Nat) (hh : h < 18446744073709551616) (hl : l < 18446744073709551616) (w : World) : Calls Tryz.prog 54 #[.agg #[Fv h, Fv l]] w fun en w' => en = .returned (.agg #[Fv (flipS h), Fv (flipS l)]) ∧ Below w.heap.size w w' := by
  have hSF : ∀ (w : World) (a : Addr) (b : Nat), (store a (Fv b)).run Tryz.prog w = stored Tryz.prog w a (Fv b) .plain := stF
  have n1 := ngS h hh
  have n2 := ngS l hl
  go_enter Tryz.func54, Tryz.ntmps54
  go_wp2_with fail
  refine bodyPost_ret (v := .agg #[Fv (flipS h), Fv (flipS l)]) (by rw [results_cell1 rfl]; go_simp) rfl ⟨rfl, ?_⟩
  exact (bwAlloc w _).alloc (bwAlloc w _).size _
def cmpD (h l h' l' : Nat) : Int := if ddB h l && ddB h' l' then ordV (compare (ux h + ux l) (ux h' + ux l')) else 0
theorem cmpD_eq {h l h' l' : Nat} (d : DdF h l) (d' : DdF h' l') : cmpD h l h' l' = if compare (ux h) (ux h') = .eq then ordV (compare (ux l) (ux l')) else ordV (compare (ux h) (ux h')) := by
  unfold cmpD
  rw [ddB_iff.2 d, ddB_iff.2 d', dd_order d d', ordI (ux h) (ux h')]
  simp only [Bool.and_self, if_true]
  rcases Int.lt_trichotomy (ux h) (ux h') with h1 | h1 | h1
  · rw [if_neg (by omega), if_pos h1, if_neg (by decide)]
  · rw [h1]; simp
  · rw [if_neg (by omega), if_neg (by omega), if_neg (by omega), if_neg (by decide)]
theorem ddcmp (h l h' l' : Nat) (hh : h < 18446744073709551616) (hl : l < 18446744073709551616) (hh' : h' < 18446744073709551616) (hl' : l' < 18446744073709551616) (w : World) : Calls Tryz.prog 31 #[.agg #[Fv h, Fv l], .agg #[Fv h', Fv l']] w fun en w' => en = .returned (.int .i64 (cmpD h l h' l')) ∧ Below w.heap.size w w' := by
  have H1 := ddform h l hh hl
  have H2 := ddform h' l' hh' hl'
  cases hA : ddB h l with
  | false =>
    rw [show cmpD h l h' l' = 0 by unfold cmpD; rw [hA]; rfl]
    rw [hA] at H1
    clear hA H2 hh hl hh' hl'
    go_enter Tryz.func31, Tryz.ntmps31
    go_wp2_with fail
    obtain ⟨W0, hW0⟩ : ∃ W0, W0 = ((w.alloc (.cells #[Fv h, Fv l] 32)).alloc (.cells #[Fv h', Fv l'] 32)) := ⟨_, rfl⟩
    have Xa : Hid (Box W0 (w.heap.size) (Fv h) (Fv l)) := by rw [hW0]; exact ⟨by go_simp, by go_simp, by go_simp, by go_simp⟩
    have Xb : Hid (Box W0 (w.heap.size + 1) (Fv h') (Fv l')) := by rw [hW0]; exact ⟨by go_simp, by go_simp, by go_simp, by go_simp⟩
    have hb0 : Below w.heap.size w W0 := by rw [hW0]; exact below2 w _ _
    rw [← hW0]
    clear hW0
    have hbw : Below w.heap.size w w := Below.refl _ _
    obtain ⟨gb, hgb⟩ : ∃ g, g = w.heap.size + 1 := ⟨_, rfl⟩
    have HGb : Hid (w.heap.size ≤ gb) := by rw [hgb]; show _ ≤ _; omega
    rw [← hgb] at Xb
    try rw [← hgb]
    obtain ⟨ga, hga⟩ : ∃ g, g = w.heap.size := ⟨_, rfl⟩
    have HGa : Hid (w.heap.size ≤ ga) := by rw [hga]; show _ ≤ _; omega
    rw [← hga] at Xa
    try rw [← hga]
    have HGD : Hid (ga ≠ gb ∧ gb ≠ ga) := by rw [hga, hgb]; exact ⟨by omega, by omega⟩
    clear hga hgb
    replace hbw := Below.on hbw hb0
    clear hb0
    obtain ⟨hgd0, hgd1⟩ := HGD.out
    refine (H1 _).mono ?_
    rintro e v1 ⟨rfl, hb1⟩
    replace Xa : Hid _ := Xa.out.below hb1
    replace Xb : Hid _ := Xb.out.below hb1
    replace hbw := Below.on hbw hb1
    clear hb1
    obtain ⟨ca0, ca1, fa0, fa1⟩ := Xa.out
    have hnea := Xa.out.lt
    obtain ⟨cb0, cb1, fb0, fb1⟩ := Xb.out
    have hneb := Xb.out.lt
    go_wp2_with fail
    clear ca0 ca1 fa0 fa1 hnea
    clear cb0 cb1 fb0 fb1 hneb
    go_ret
    exact ⟨by kernel_rfl, hbw⟩
  | true =>
  cases hB : ddB h' l' with
  | false =>
    rw [show cmpD h l h' l' = 0 by unfold cmpD; rw [hA, hB]; rfl]
    rw [hA] at H1
    rw [hB] at H2
    clear hA hB hh hl hh' hl'
    go_enter Tryz.func31, Tryz.ntmps31
    go_wp2_with fail
    obtain ⟨W0, hW0⟩ : ∃ W0, W0 = ((w.alloc (.cells #[Fv h, Fv l] 32)).alloc (.cells #[Fv h', Fv l'] 32)) := ⟨_, rfl⟩
    have Xa : Hid (Box W0 (w.heap.size) (Fv h) (Fv l)) := by rw [hW0]; exact ⟨by go_simp, by go_simp, by go_simp, by go_simp⟩
    have Xb : Hid (Box W0 (w.heap.size + 1) (Fv h') (Fv l')) := by rw [hW0]; exact ⟨by go_simp, by go_simp, by go_simp, by go_simp⟩
    have hb0 : Below w.heap.size w W0 := by rw [hW0]; exact below2 w _ _
    rw [← hW0]
    clear hW0
    have hbw : Below w.heap.size w w := Below.refl _ _
    obtain ⟨gb, hgb⟩ : ∃ g, g = w.heap.size + 1 := ⟨_, rfl⟩
    have HGb : Hid (w.heap.size ≤ gb) := by rw [hgb]; show _ ≤ _; omega
    rw [← hgb] at Xb
    try rw [← hgb]
    obtain ⟨ga, hga⟩ : ∃ g, g = w.heap.size := ⟨_, rfl⟩
    have HGa : Hid (w.heap.size ≤ ga) := by rw [hga]; show _ ≤ _; omega
    rw [← hga] at Xa
    try rw [← hga]
    have HGD : Hid (ga ≠ gb ∧ gb ≠ ga) := by rw [hga, hgb]; exact ⟨by omega, by omega⟩
    clear hga hgb
    replace hbw := Below.on hbw hb0
    clear hb0
    obtain ⟨hgd0, hgd1⟩ := HGD.out
    refine (H1 _).mono ?_
    rintro e v1 ⟨rfl, hb1⟩
    replace Xa : Hid _ := Xa.out.below hb1
    replace Xb : Hid _ := Xb.out.below hb1
    replace hbw := Below.on hbw hb1
    clear hb1
    obtain ⟨ca0, ca1, fa0, fa1⟩ := Xa.out
    have hnea := Xa.out.lt
    obtain ⟨cb0, cb1, fb0, fb1⟩ := Xb.out
    have hneb := Xb.out.lt
    go_wp2_with fail
    clear ca0 ca1 fa0 fa1 hnea
    clear cb0 cb1 fb0 fb1 hneb
    refine (H2 _).mono ?_
    rintro e v2 ⟨rfl, hb2⟩
    replace Xa : Hid _ := Xa.out.below hb2
    replace Xb : Hid _ := Xb.out.below hb2
    replace hbw := Below.on hbw hb2
    clear hb2
    obtain ⟨ca0, ca1, fa0, fa1⟩ := Xa.out
    have hnea := Xa.out.lt
    obtain ⟨cb0, cb1, fb0, fb1⟩ := Xb.out
    have hneb := Xb.out.lt
    go_wp2_with fail
    clear ca0 ca1 fa0 fa1 hnea
    clear cb0 cb1 fb0 fb1 hneb
    go_ret
    exact ⟨by kernel_rfl, hbw⟩
  | true =>
    have d := ddB_iff.1 hA
    have d' := ddB_iff.1 hB
    rw [cmpD_eq d d']
    rw [hA] at H1
    rw [hB] at H2
    have C1 := ccompare h h' d.hi d'.hi
    have C2 := ccompare l l' d.lo d'.lo
    generalize compare (ux h) (ux h') = o at C1 ⊢
    generalize ordV (compare (ux l) (ux l')) = k at C2 ⊢
    clear d d' hA hB hh hl hh' hl'
    go_enter Tryz.func31, Tryz.ntmps31
    go_wp2_with fail
    obtain ⟨W0, hW0⟩ : ∃ W0, W0 = ((w.alloc (.cells #[Fv h, Fv l] 32)).alloc (.cells #[Fv h', Fv l'] 32)) := ⟨_, rfl⟩
    have Xa : Hid (Box W0 (w.heap.size) (Fv h) (Fv l)) := by rw [hW0]; exact ⟨by go_simp, by go_simp, by go_simp, by go_simp⟩
    have Xb : Hid (Box W0 (w.heap.size + 1) (Fv h') (Fv l')) := by rw [hW0]; exact ⟨by go_simp, by go_simp, by go_simp, by go_simp⟩
    have hb0 : Below w.heap.size w W0 := by rw [hW0]; exact below2 w _ _
    rw [← hW0]
    clear hW0
    have hbw : Below w.heap.size w w := Below.refl _ _
    obtain ⟨gb, hgb⟩ : ∃ g, g = w.heap.size + 1 := ⟨_, rfl⟩
    have HGb : Hid (w.heap.size ≤ gb) := by rw [hgb]; show _ ≤ _; omega
    rw [← hgb] at Xb
    try rw [← hgb]
    obtain ⟨ga, hga⟩ : ∃ g, g = w.heap.size := ⟨_, rfl⟩
    have HGa : Hid (w.heap.size ≤ ga) := by rw [hga]; show _ ≤ _; omega
    rw [← hga] at Xa
    try rw [← hga]
    have HGD : Hid (ga ≠ gb ∧ gb ≠ ga) := by rw [hga, hgb]; exact ⟨by omega, by omega⟩
    clear hga hgb
    replace hbw := Below.on hbw hb0
    clear hb0
    obtain ⟨hgd0, hgd1⟩ := HGD.out
    refine (H1 _).mono ?_
    rintro e v1 ⟨rfl, hb1⟩
    replace Xa : Hid _ := Xa.out.below hb1
    replace Xb : Hid _ := Xb.out.below hb1
    replace hbw := Below.on hbw hb1
    clear hb1
    obtain ⟨ca0, ca1, fa0, fa1⟩ := Xa.out
    have hnea := Xa.out.lt
    obtain ⟨cb0, cb1, fb0, fb1⟩ := Xb.out
    have hneb := Xb.out.lt
    go_wp2_with fail
    clear ca0 ca1 fa0 fa1 hnea
    clear cb0 cb1 fb0 fb1 hneb
    refine (H2 _).mono ?_
    rintro e v2 ⟨rfl, hb2⟩
    replace Xa : Hid _ := Xa.out.below hb2
    replace Xb : Hid _ := Xb.out.below hb2
    replace hbw := Below.on hbw hb2
    clear hb2
    obtain ⟨ca0, ca1, fa0, fa1⟩ := Xa.out
    have hnea := Xa.out.lt
    obtain ⟨cb0, cb1, fb0, fb1⟩ := Xb.out
    have hneb := Xb.out.lt
    go_wp2_with fail
    clear ca0 ca1 fa0 fa1 hnea
    clear cb0 cb1 fb0 fb1 hneb
    refine (C1 _).mono ?_
    rintro e v9 ⟨rfl, hw⟩
    obtain rfl := hw.symm
    clear hw
    rcases o with _ | _ | _
    · dsimp only [ordV]
      obtain ⟨ca0, ca1, fa0, fa1⟩ := Xa.out
      have hnea := Xa.out.lt
      obtain ⟨cb0, cb1, fb0, fb1⟩ := Xb.out
      have hneb := Xb.out.lt
      go_wp2_with fail
      clear ca0 ca1 fa0 fa1 hnea
      clear cb0 cb1 fb0 fb1 hneb
      go_ret
      exact ⟨by first | rfl | kernel_rfl, hbw⟩
    · dsimp only [ordV]
      obtain ⟨ca0, ca1, fa0, fa1⟩ := Xa.out
      have hnea := Xa.out.lt
      obtain ⟨cb0, cb1, fb0, fb1⟩ := Xb.out
      have hneb := Xb.out.lt
      go_wp2_with fail
      clear ca0 ca1 fa0 fa1 hnea
      clear cb0 cb1 fb0 fb1 hneb
      refine (C2 _).mono ?_
      rintro e v9 ⟨rfl, hw⟩
      obtain rfl := hw.symm
      clear hw
      obtain ⟨ca0, ca1, fa0, fa1⟩ := Xa.out
      have hnea := Xa.out.lt
      obtain ⟨cb0, cb1, fb0, fb1⟩ := Xb.out
      have hneb := Xb.out.lt
      go_wp2_with fail
      clear ca0 ca1 fa0 fa1 hnea
      clear cb0 cb1 fb0 fb1 hneb
      go_ret
      exact ⟨by first | rfl | kernel_rfl, hbw⟩
    · dsimp only [ordV]
      obtain ⟨ca0, ca1, fa0, fa1⟩ := Xa.out
      have hnea := Xa.out.lt
      obtain ⟨cb0, cb1, fb0, fb1⟩ := Xb.out
      have hneb := Xb.out.lt
      go_wp2_with fail
      clear ca0 ca1 fa0 fa1 hnea
      clear cb0 cb1 fb0 fb1 hneb
      go_ret
      exact ⟨by first | rfl | kernel_rfl, hbw⟩
end Go.Proofs.YtidggnjnlhjhlaaGreatDoor
