import Derived.Test.YtionkfnapodhbaaDoorJ12
import Derived.Test.YtionkfnapodhbaaDoorJ18
import Derived.Test.YtionkfnapodhbaaDoorJ8
import Derived.Test.YtionkfnapodhbaaDoorJ11
import Derived.Test.YtionkfnapodhbaaDoorJ10
import Derived.Laws.Externs
namespace Go.Proofs.YtionkfnapodhbaaDoor
open Go.RowKit Go.Shelf
set_option maxRecDepth 20000
set_option maxHeartbeats 0
theorem size_big {w : World} {p1 p2 : Option Addr} {m1 m2 b A : Nat} (k1 : RN w p1 m1 b) (k2 : RN w p2 m2 1) (hb : b ≠ 0) (f : Int) (hf : -1074 ≤ f ∧ f ≤ 1000) (hB : bitsN b ≤ 2200) (hA : A = b * 2 ^ (f + 1074).toNat) (hI : vs 4503599627370496 9218868437227405312 ≤ A) :
    Calls Tryd.prog 28 #[FV 9223372036854775808 53 (-1074) 971 9218868437227405312 9221120237041090561, .agg #[.slice p1 m1 m1, .slice p2 m2 m2, .int .i64 f, .bool false]] w fun en w' => en = .returned (U 9218868437227405312) ∧ Below w.heap.size w w' := by
  have N1 : Hid (RN w p1 m1 b) := k1
  have N2 : Hid (RN w p2 m2 1) := k2
  have HC : Hid (b ≠ 0 ∧ (-1074 ≤ f ∧ f ≤ 1000) ∧ bitsN b ≤ 2200 ∧ A = b * 2 ^ (f + 1074).toNat ∧ vs 4503599627370496 9218868437227405312 ≤ A) := ⟨hb, hf, hB, hA, hI⟩
  clear k1 k2 hb hf hB hA hI
  go_enter Tryd.func28, Tryd.ntmps28
  go_wp2_with fail
  obtain ⟨W0, hW0⟩ : ∃ W0, W0 = ((w.alloc (.cells #[U 9223372036854775808, .int .i64 53, .int .i64 (-1074), .int .i64 971, U 9218868437227405312, U 9221120237041090561] 64)).alloc (.cells #[.slice p1 m1 m1, .slice p2 m2 m2, .int .i64 f, .bool false] 70)) := ⟨_, rfl⟩
  have Xfm : Hid (B6q W0 (w.heap.size) (U 9223372036854775808) (.int .i64 53) (.int .i64 (-1074)) (.int .i64 971) (U 9218868437227405312) (U 9221120237041090561)) := by rw [hW0]; exact ⟨by go_simp, by go_simp, by go_simp, by go_simp, by go_simp, by go_simp, by go_simp, by go_simp, by go_simp, by go_simp, by go_simp, by go_simp⟩
  have Xv : Hid (B4q W0 (w.heap.size + 1) (.slice p1 m1 m1) (.slice p2 m2 m2) (.int .i64 f) (.bool false)) := by rw [hW0]; exact ⟨by go_simp, by go_simp, by go_simp, by go_simp, by go_simp, by go_simp, by go_simp, by go_simp⟩
  have hb0 : Below w.heap.size w W0 := by rw [hW0]; exact below2 w _ _
  rw [← hW0]
  clear hW0
  have hbw : Below w.heap.size w w := Below.refl _ _
  obtain ⟨gv, hgv⟩ : ∃ g, g = w.heap.size + 1 := ⟨_, rfl⟩
  have HGv : Hid (w.heap.size ≤ gv) := by rw [hgv]; show _ ≤ _; omega
  rw [← hgv] at Xv
  try rw [← hgv]
  obtain ⟨gfm, hgfm⟩ : ∃ g, g = w.heap.size := ⟨_, rfl⟩
  have HGfm : Hid (w.heap.size ≤ gfm) := by rw [hgfm]; show _ ≤ _; omega
  rw [← hgfm] at Xfm
  try rw [← hgfm]
  have HGD : Hid (gfm ≠ gv ∧ gv ≠ gfm) := by rw [hgfm, hgv]; exact ⟨by omega, by omega⟩
  clear hgfm hgv
  replace N1 : Hid (RN W0 p1 m1 b) := N1.out.below hb0
  replace N2 : Hid (RN W0 p2 m2 1) := N2.out.below hb0
  replace hbw := Below.on hbw hb0
  clear hb0
  obtain ⟨V1, hV1⟩ : ∃ W1, W1 = W0.drew := ⟨_, rfl⟩
  have hbd : Below W0.heap.size W0 V1 := by rw [hV1]; exact bDrew1 (Below.refl _ _)
  replace Xfm : Hid _ := Xfm.out.below hbd
  replace Xv : Hid _ := Xv.out.below hbd
  replace N1 : Hid (RN V1 p1 m1 b) := N1.out.below hbd
  replace N2 : Hid (RN V1 p2 m2 1) := N2.out.below hbd
  replace hbw := Below.on hbw hbd
  clear hbd
  have HJ : Hid ((fun W' : World => W'.cell? ⟨gfm, 4, none⟩ = some (U 9218868437227405312)) V1) := Xfm.out.c4
  refine wp_region_J (fun W' => W'.cell? ⟨gfm, 4, none⟩ = some (U 9218868437227405312)) (by kernel_rfl) ?_
  rw [← hV1]
  clear hV1
  refine wpJ_tk 0 (v := ?v1x0) rfl ?hy1x0 HJ.out ?_
  case hy1x0 => (intro W' hJ; have j0 := hJ; go_simp; first | done | with_reducible rfl)
  refine wpJ_tk 1 (v := ?v2x1) rfl ?hy2x1 HJ.out ?_
  case hy2x1 => (intro W' hJ; have j0 := hJ; go_simp; first | done | with_reducible rfl)
  refine wpJ_tk 2 (v := ?v3x2) rfl ?hy3x2 HJ.out ?_
  case hy3x2 => (intro W' hJ; have j0 := hJ; go_simp; first | done | with_reducible rfl)
  refine wpJ_tk 3 (v := ?v4x3) rfl ?hy4x3 HJ.out ?_
  case hy4x3 => (intro W' hJ; have j0 := hJ; go_simp; first | done | with_reducible rfl)
  refine wpJ_tk 4 (v := ?v5x4) rfl ?hy5x4 HJ.out ?_
  case hy5x4 => (intro W' hJ; have j0 := hJ; go_simp; first | done | with_reducible rfl)
  go_simp
  refine wpJ_done (by kernel_rfl) ?_ _
  clear HJ
  go_wp2_with fail
  obtain ⟨N0, hN0⟩ : ∃ N0 : Nat, N0 = 9218868437227405312 := ⟨_, rfl⟩
  go_loopg [5, 6] N0 (fun gk lov hiv wr => ∃ lo hi : Nat, lov = U lo ∧ hiv = U hi ∧ hi = lo + gk + 1 ∧ hi = 9218868437227405312 + 1 ∧ B6q wr gfm (U 9223372036854775808) (.int .i64 53) (.int .i64 (-1074)) (.int .i64 971) (U 9218868437227405312) (U 9221120237041090561) ∧ B4q wr gv (.slice p1 m1 m1) (.slice p2 m2 m2) (.int .i64 f) (.bool false) ∧ RN wr p1 m1 b ∧ RN wr p2 m2 1 ∧ Below w.heap.size w wr)
  case atStart => exact ⟨0, 9218868437227405312 + 1, rfl, rfl, by omega, rfl, Xfm.out, Xv.out, N1.out, N2.out, hbw⟩
  case round =>
    clear hbw Xfm Xv N1 N2 hN0
    obtain ⟨lo, hi, rfl, rfl, hg, hi1, xk, xv, n1, n2, hbw⟩ := hrel
    have Xfm : Hid (B6q wr gfm (U 9223372036854775808) (.int .i64 53) (.int .i64 (-1074)) (.int .i64 971) (U 9218868437227405312) (U 9221120237041090561)) := xk
    have Xv : Hid (B4q wr gv (.slice p1 m1 m1) (.slice p2 m2 m2) (.int .i64 f) (.bool false)) := xv
    have N1 : Hid (RN wr p1 m1 b) := n1
    have N2 : Hid (RN wr p2 m2 1) := n2
    clear xk xv n1 n2
    have HLH : Hid (hi ≤ 9218868437227405313 ∧ hi = 9218868437227405313) := ⟨by omega, by omega⟩
    clear hi1
    cases gk with
    | zero =>
      obtain rfl : lo = 9218868437227405312 := by have := HLH.out; omega
      obtain rfl : hi = 9218868437227405313 := by have := HLH.out; omega
      have w1 : IntKind.u64.wrap (((9218868437227405313 : Nat) : Int) - ((9218868437227405312 : Nat) : Int)) = 1 := by decide
      clear hg
      obtain ⟨cfm0, cfm1, cfm2, cfm3, cfm4, cfm5, ffm0, ffm1, ffm2, ffm3, ffm4, ffm5⟩ := Xfm.out
      have hnefm : gfm < wr.heap.size := World.block_lt_of_cell? wr _ cfm0
      go_wp2_with fail
      clear cfm0 cfm1 cfm2 cfm3 cfm4 cfm5 ffm0 ffm1 ffm2 ffm3 ffm4 ffm5 hnefm
      go_ret
      exact ⟨rfl, hbw⟩
    | succ gj =>
      obtain ⟨d, hd⟩ : ∃ d, d = hi - lo := ⟨_, rfl⟩
      obtain ⟨s, hs⟩ : ∃ s, s = lo + d / 2 := ⟨_, rfl⟩
      have w1 : IntKind.u64.wrap ((hi : Int) - (lo : Int)) = (d : Int) := by rw [IntKind.wrap_u64]; have := HLH.out.1; omega
      obtain ⟨d2, hd2⟩ : ∃ d2, d2 = d / 2 := ⟨_, rfl⟩
      have w4 : IntKind.u64.wrap ((d : Int) / 2) = (d2 : Int) := by rw [IntKind.wrap_u64]; have := HLH.out.1; omega
      have w2 : IntKind.u64.wrap ((lo : Int) + (d2 : Int)) = (s : Int) := by rw [IntKind.wrap_u64]; have := HLH.out.1; omega
      have w3 : decide ((1 : Int) < (d : Int)) = true := decide_eq_true (by omega)
      have HS : Hid (lo < s ∧ s < hi ∧ hi = lo + (gj + 1) + 1) := ⟨by omega, by omega, hg⟩
      clear hg hd hs hd2
      obtain ⟨q, hq⟩ : ∃ q, q = s / 4503599627370496 - 1 := ⟨_, rfl⟩
      obtain ⟨man, hman⟩ : ∃ man, man = s - q * 4503599627370496 := ⟨_, rfl⟩
      obtain ⟨ex, hex⟩ : ∃ ex : Int, ex = -1074 + (q : Int) := ⟨_, rfl⟩
      have HPT := rparts_all64 s (by have := HS.out; have := HLH.out.1; omega)
      rw [← hq, ← hman, ← hex] at HPT
      have HM : Hid (man < 9007199254740992 ∧ q ≤ 2046 ∧ (-1300 ≤ ex ∧ ex ≤ 1100) ∧ ∀ b A f, -1074 ≤ f → A = b * 2 ^ (f + 1074).toNat → cmpN (man * 2 ^ (ex + 1300).toNat) (b * 2 ^ (f + 1300).toNat) = cmpN (vs 4503599627370496 s) A) := ⟨by have := HS.out; have := HLH.out.1; omega, by have := HS.out; have := HLH.out.1; omega, by have := HS.out; have := HLH.out.1; omega, fun b A f h1 h2 => hold_vs hq hman hex h1 h2⟩
      clear hq hman hex
      obtain ⟨cfm0, cfm1, cfm2, cfm3, cfm4, cfm5, ffm0, ffm1, ffm2, ffm3, ffm4, ffm5⟩ := Xfm.out
      have hnefm : gfm < wr.heap.size := World.block_lt_of_cell? wr _ cfm0
      go_wp2_with fail
      clear cfm0 cfm1 cfm2 cfm3 cfm4 cfm5 ffm0 ffm1 ffm2 ffm3 ffm4 ffm5 hnefm
      refine (HPT _).mono ?_
      rintro e v1 ⟨rfl, hb1⟩
      replace Xfm : Hid _ := Xfm.out.below hb1
      replace Xv : Hid _ := Xv.out.below hb1
      replace N1 : Hid (RN v1 p1 m1 b) := N1.out.below hb1
      replace N2 : Hid (RN v1 p2 m2 1) := N2.out.below hb1
      replace hbw := Below.on hbw hb1
      clear hb1
      obtain ⟨cfm0, cfm1, cfm2, cfm3, cfm4, cfm5, ffm0, ffm1, ffm2, ffm3, ffm4, ffm5⟩ := Xfm.out
      have hnefm : gfm < v1.heap.size := World.block_lt_of_cell? v1 _ cfm0
      go_wp2_with fail
      clear cfm0 cfm1 cfm2 cfm3 cfm4 cfm5 ffm0 ffm1 ffm2 ffm3 ffm4 ffm5 hnefm
      obtain ⟨c, hc⟩ : ∃ c, c = cmpN (vs 4503599627370496 s) A := ⟨_, rfl⟩
      have HCC := Hid.mk9 hc
      clear hc
      obtain ⟨V6, hV6⟩ : ∃ W1, W1 = v1.drew := ⟨_, rfl⟩
      have hbd : Below v1.heap.size v1 V6 := by rw [hV6]; exact bDrew1 (Below.refl _ _)
      replace Xfm : Hid _ := Xfm.out.below hbd
      replace Xv : Hid _ := Xv.out.below hbd
      replace N1 : Hid (RN V6 p1 m1 b) := N1.out.below hbd
      replace N2 : Hid (RN V6 p2 m2 1) := N2.out.below hbd
      replace hbw := Below.on hbw hbd
      clear hbd
      have HJ : Hid ((fun W' : World => W'.cell? ⟨gv, 0, none⟩ = some (.slice p1 m1 m1) ∧ W'.cell? ⟨gv, 1, none⟩ = some (.slice p2 m2 m2) ∧ W'.cell? ⟨gv, 2, none⟩ = some (.int .i64 f) ∧ W'.cell? ⟨gv, 3, none⟩ = some (.bool false)) V6) := ⟨Xv.out.c0, Xv.out.c1, Xv.out.c2, Xv.out.c3⟩
      refine wp_region_J (fun W' => W'.cell? ⟨gv, 0, none⟩ = some (.slice p1 m1 m1) ∧ W'.cell? ⟨gv, 1, none⟩ = some (.slice p2 m2 m2) ∧ W'.cell? ⟨gv, 2, none⟩ = some (.int .i64 f) ∧ W'.cell? ⟨gv, 3, none⟩ = some (.bool false)) (by kernel_rfl) ?_
      rw [← hV6]
      clear hV6
      refine wpJ_tq 0 rfl HJ.out ?_
      refine wpJ_tq 1 rfl HJ.out ?_
      refine wpJ_tq 3 rfl HJ.out ?_
      refine wpJ_on 2 rfl fun KJ hK => ?_
      go_simp
      refine (rn_word man (by have := HM.out.1; omega)).mono ?_
      rintro en v9 ⟨p9, m9, rfl, hn9, hb9⟩
      replace Xfm : Hid _ := Xfm.out.below hb9
      replace Xv : Hid _ := Xv.out.below hb9
      replace N1 : Hid (RN v9 p1 m1 b) := N1.out.below hb9
      replace N2 : Hid (RN v9 p2 m2 1) := N2.out.below hb9
      replace hbw := Below.on hbw hb9
      clear hb9
      have N9 : Hid (RN v9 p9 m9 (man)) := hn9
      clear hn9
      refine hK _ _ ⟨Xv.out.c0, Xv.out.c1, Xv.out.c2, Xv.out.c3⟩ ?_
      clear hK
      refine wpJ_on 4 rfl fun KJ hK => ?_
      go_simp
      refine (hold_ok N9.out N1.out N2.out HC.out.1 ex f HM.out.2.2.1 (by have := HC.out.2.1; omega) (by have := bits_le (K := 64) (show man < 2 ^ 64 by have := HM.out.1; omega); omega) (by have := HC.out.2.2.1; omega)).mono ?_
      rintro e v3 ⟨rfl, hb3⟩
      rw [HM.out.2.2.2 b A f HC.out.2.1.1 HC.out.2.2.2.1, ← HCC.out]
      replace Xfm : Hid _ := Xfm.out.below hb3
      replace Xv : Hid _ := Xv.out.below hb3
      replace N1 : Hid (RN v3 p1 m1 b) := N1.out.below hb3
      replace N2 : Hid (RN v3 p2 m2 1) := N2.out.below hb3
      replace N9 : Hid (RN v3 p9 m9 (man)) := N9.out.below hb3
      replace hbw := Below.on hbw hb3
      clear hb3
      clear HJ
      have HJ : Hid ((fun W' : World => W'.cell? ⟨gv, 0, none⟩ = some (.slice p1 m1 m1) ∧ W'.cell? ⟨gv, 1, none⟩ = some (.slice p2 m2 m2) ∧ W'.cell? ⟨gv, 2, none⟩ = some (.int .i64 f) ∧ W'.cell? ⟨gv, 3, none⟩ = some (.bool false)) v3) := ⟨Xv.out.c0, Xv.out.c1, Xv.out.c2, Xv.out.c3⟩
      refine hK _ _ HJ.out ?_
      clear hK
      refine wpJ_tq 5 rfl HJ.out ?_
      go_simp
      refine wpJ_done (by kernel_rfl) ?_ _
      clear HJ
      have hv : vs 4503599627370496 s ≤ A := by
        refine Nat.le_trans ?_ HC.out.2.2.2.2
        rcases Nat.lt_or_eq_of_le (show s ≤ 9218868437227405312 by have := HS.out; have := HLH.out; omega) with h6 | h6
        · exact Nat.le_of_lt (vs_mono (by decide) h6)
        · rw [h6]; exact Nat.le_refl _
      have hc0 : decide (c ≤ 0) = true := decide_eq_true (by rw [HCC.out]; exact (cmpN_le9 _ _).2 hv)
      have hc1 : c ≤ 0 := of_decide_eq_true hc0
      clear hv
      go_wp2_with fail
      go_roundg (hi - s - 1)
      case measure => have := HS.out; omega
      case rel => exact ⟨s, hi, rfl, rfl, by have := HS.out; omega, by have := HLH.out; omega, Xfm.out, Xv.out, N1.out, N2.out, hbw⟩
theorem rg_big {A : Nat} (h : vs 4503599627370496 9218868437227405312 ≤ A) : rg 0 A = 9218868437227405312 := by
  obtain ⟨c, hc⟩ : ∃ c, c = 2046 := ⟨_, rfl⟩
  have hv := vs_E c 4503599627370496 (by omega) (by omega)
  rw [show c * 4503599627370496 + 4503599627370496 = 9218868437227405312 by subst hc; rfl] at hv
  rw [hv] at h
  have e1 : 4503599627370496 * 2 ^ c = 2 ^ (c + 52) := by rw [show 4503599627370496 = 2 ^ 52 by decide, ← Nat.pow_add, Nat.add_comm]
  rw [e1] at h
  have h0 : A ≠ 0 := by have := Nat.two_pow_pos (c + 52); omega
  have hl : c + 52 ≤ A.log2 := (Nat.le_log2 h0).2 h
  unfold rg
  rw [if_neg h0, Nat.sub_zero]
  obtain ⟨L, hL⟩ : ∃ L, L = A.log2 - 52 := ⟨_, rfl⟩
  rw [← hL]
  have h3 : 4503599627370496 ≤ rne A L := by
    refine le_rne A L _ (Nat.le_trans ?_ (Nat.log2_self_le h0))
    rw [show 4503599627370496 = 2 ^ 52 by decide, ← Nat.pow_add]
    exact p2le (by omega)
  clear h hv e1
  exact Nat.min_eq_right (by omega)
theorem size_all {w : World} {p1 p2 : Option Addr} {m1 m2 b A : Nat} (k1 : RN w p1 m1 b) (k2 : RN w p2 m2 1) (hb : b ≠ 0) (f : Int) (hf : -1074 ≤ f ∧ f ≤ 1000) (hB : bitsN b ≤ 2200) (hA : A = b * 2 ^ (f + 1074).toNat) : Calls Tryd.prog 28 #[FV 9223372036854775808 53 (-1074) 971 9218868437227405312 9221120237041090561, .agg #[.slice p1 m1 m1, .slice p2 m2 m2, .int .i64 f, .bool false]] w fun en w' => en = .returned (U (rg 0 A)) ∧ Below w.heap.size w w' := by
  rcases Nat.lt_or_ge A (vs 4503599627370496 9218868437227405312) with h | h
  · exact size_ok k1 k2 hb f hf hB hA h
  · rw [rg_big h]
    exact size_big k1 k2 hb f hf hB hA h
theorem told_a {w : World} {p : Option Addr} {m : Nat} {z : Int} (s : Bool) (h : ZR w s p m z) (hm : m ≤ 4000) (hz : z ≠ 0) (e : Int) (he : -1074 ≤ e ∧ e ≤ 1000) (hB : bitsN z.natAbs ≤ 2200) {A : Nat} (hA : A = z.natAbs * 2 ^ (e + 1074).toNat)  :
    Calls Tryd.prog 19 #[.int .i64 64, .agg #[.bool s, .slice p m m], .int .i64 e] w fun en w' => en = .returned (U (toldN z A)) ∧ Below w.heap.size w w' := by
  have NA : Hid (RN w p m z.natAbs) := h.rn hm
  have hm0 : ((m : Int) == 0) = false := by have := h.zero; simp; omega
  have HC : Hid (z.natAbs ≠ 0 ∧ (-1074 ≤ e ∧ e ≤ 1000) ∧ bitsN z.natAbs ≤ 2200 ∧ A = z.natAbs * 2 ^ (e + 1074).toNat ∧ s = decide (z < 0)) := ⟨by omega, he, hB, hA, h.sg⟩
  clear h hm hz he hB hA
  go_enter Tryd.func19, Tryd.ntmps19
  go_wp2_with fail
  obtain ⟨W0, hW0⟩ : ∃ W0, W0 = (w.alloc (.cells #[.bool s, .slice p m m] 50)) := ⟨_, rfl⟩
  have Xm : Hid (Box W0 (w.heap.size) (.bool s) (.slice p m m)) := by rw [hW0]; exact ⟨by go_simp, by go_simp, by go_simp, by go_simp⟩
  have hb0 : Below w.heap.size w W0 := by rw [hW0]; exact below1 w _
  rw [← hW0]
  clear hW0
  have hbw : Below w.heap.size w w := Below.refl _ _
  obtain ⟨gm, hgm⟩ : ∃ g, g = w.heap.size := ⟨_, rfl⟩
  have HGm : Hid (w.heap.size ≤ gm) := by rw [hgm]; show _ ≤ _; omega
  rw [← hgm] at Xm
  try rw [← hgm]
  clear hgm
  replace NA : Hid (RN W0 p m z.natAbs) := NA.out.below hb0
  replace hbw := Below.on hbw hb0
  clear hb0
  refine (rof_64 _).mono ?_
  rintro e v1 ⟨rfl, hb1⟩
  replace Xm : Hid _ := Xm.out.below hb1
  replace NA : Hid (RN v1 p m z.natAbs) := NA.out.below hb1
  replace hbw := Below.on hbw hb1
  clear hb1
  obtain ⟨cm0, cm1, fm0, fm1⟩ := Xm.out
  have hnem := Xm.out.lt
  go_wp2_with fail
  clear cm0 cm1 fm0 fm1 hnem
  have Xfm0 : Hid (B6q (v1.alloc (.cells #[U 9223372036854775808, .int .i64 53, .int .i64 (-1074), .int .i64 971, U 9218868437227405312, U 9221120237041090561] 64)) v1.heap.size (U 9223372036854775808) (.int .i64 53) (.int .i64 (-1074)) (.int .i64 971) (U 9218868437227405312) (U 9221120237041090561)) := B6q.new v1 _ _ _ _ _ _ _
  have hbn : Below v1.heap.size v1 (v1.alloc (.cells #[U 9223372036854775808, .int .i64 53, .int .i64 (-1074), .int .i64 971, U 9218868437227405312, U 9221120237041090561] 64)) := below1 v1 _
  generalize v1.alloc (.cells #[U 9223372036854775808, .int .i64 53, .int .i64 (-1074), .int .i64 971, U 9218868437227405312, U 9221120237041090561] 64) = Wf at *
  have HGfm : Hid (w.heap.size ≤ v1.heap.size) := hbw.size
  replace Xm : Hid _ := Xm.out.below hbn
  replace NA : Hid (RN Wf p m z.natAbs) := NA.out.below hbn
  replace hbw := Below.on hbw hbn
  clear hbn
  generalize v1.heap.size = gfm at *
  have Xfm := Xfm0
  clear Xfm0
  obtain ⟨V1, hV1⟩ : ∃ W1, W1 = Wf.drew := ⟨_, rfl⟩
  have hbd : Below Wf.heap.size Wf V1 := by rw [hV1]; exact bDrew1 (Below.refl _ _)
  replace Xm : Hid _ := Xm.out.below hbd
  replace Xfm : Hid _ := Xfm.out.below hbd
  replace NA : Hid (RN V1 p m z.natAbs) := NA.out.below hbd
  replace hbw := Below.on hbw hbd
  clear hbd
  have HJ : Hid ((fun W' : World => W'.cell? ⟨gfm, 0, none⟩ = some (U 9223372036854775808) ∧ W'.cell? ⟨gfm, 1, none⟩ = some (.int .i64 53) ∧ W'.cell? ⟨gfm, 2, none⟩ = some (.int .i64 (-1074)) ∧ W'.cell? ⟨gfm, 3, none⟩ = some (.int .i64 971) ∧ W'.cell? ⟨gfm, 4, none⟩ = some (U 9218868437227405312) ∧ W'.cell? ⟨gfm, 5, none⟩ = some (U 9221120237041090561) ∧ W'.cell? ⟨gm, 0, none⟩ = some (.bool s) ∧ W'.cell? ⟨gm, 1, none⟩ = some (.slice p m m)) V1) := ⟨Xfm.out.c0, Xfm.out.c1, Xfm.out.c2, Xfm.out.c3, Xfm.out.c4, Xfm.out.c5, Xm.out.c0, Xm.out.c1⟩
  refine wp_region_J (fun W' => W'.cell? ⟨gfm, 0, none⟩ = some (U 9223372036854775808) ∧ W'.cell? ⟨gfm, 1, none⟩ = some (.int .i64 53) ∧ W'.cell? ⟨gfm, 2, none⟩ = some (.int .i64 (-1074)) ∧ W'.cell? ⟨gfm, 3, none⟩ = some (.int .i64 971) ∧ W'.cell? ⟨gfm, 4, none⟩ = some (U 9218868437227405312) ∧ W'.cell? ⟨gfm, 5, none⟩ = some (U 9221120237041090561) ∧ W'.cell? ⟨gm, 0, none⟩ = some (.bool s) ∧ W'.cell? ⟨gm, 1, none⟩ = some (.slice p m m)) (by kernel_rfl) ?_
  rw [← hV1]
  clear hV1
  refine wpJ_tq 0 rfl HJ.out ?_
  refine wpJ_tq 1 rfl HJ.out ?_
  refine wpJ_tq 2 rfl HJ.out ?_
  refine wpJ_tq 3 rfl HJ.out ?_
  refine wpJ_tq 4 rfl HJ.out ?_
  go_simp
  refine wpJ_tq 5 rfl HJ.out ?_
  refine wpJ_tq 7 rfl HJ.out ?_
  refine wpJ_on 6 rfl fun KJ hK => ?_
  go_simp
  refine (rn_word 1 (by decide)).mono ?_
  rintro en v2 ⟨p2, m2, rfl, hn2, hb2⟩
  replace Xm : Hid _ := Xm.out.below hb2
  replace Xfm : Hid _ := Xfm.out.below hb2
  replace NA : Hid (RN v2 p m z.natAbs) := NA.out.below hb2
  replace hbw := Below.on hbw hb2
  clear hb2
  have N2 : Hid (RN v2 p2 m2 (1)) := hn2
  clear hn2
  clear HJ
  have HJ : Hid ((fun W' : World => W'.cell? ⟨gfm, 0, none⟩ = some (U 9223372036854775808) ∧ W'.cell? ⟨gfm, 1, none⟩ = some (.int .i64 53) ∧ W'.cell? ⟨gfm, 2, none⟩ = some (.int .i64 (-1074)) ∧ W'.cell? ⟨gfm, 3, none⟩ = some (.int .i64 971) ∧ W'.cell? ⟨gfm, 4, none⟩ = some (U 9218868437227405312) ∧ W'.cell? ⟨gfm, 5, none⟩ = some (U 9221120237041090561) ∧ W'.cell? ⟨gm, 0, none⟩ = some (.bool s) ∧ W'.cell? ⟨gm, 1, none⟩ = some (.slice p m m)) v2) := ⟨Xfm.out.c0, Xfm.out.c1, Xfm.out.c2, Xfm.out.c3, Xfm.out.c4, Xfm.out.c5, Xm.out.c0, Xm.out.c1⟩
  refine hK _ _ HJ.out ?_
  clear hK
  refine wpJ_tq 8 rfl HJ.out ?_
  refine wpJ_on 9 rfl fun KJ hK => ?_
  go_simp
  refine (size_all NA.out N2.out HC.out.1 e HC.out.2.1 HC.out.2.2.1 HC.out.2.2.2.1).mono ?_
  rintro e v3 ⟨rfl, hb3⟩
  replace Xm : Hid _ := Xm.out.below hb3
  replace Xfm : Hid _ := Xfm.out.below hb3
  replace NA : Hid (RN v3 p m z.natAbs) := NA.out.below hb3
  replace N2 : Hid (RN v3 p2 m2 (1)) := N2.out.below hb3
  replace hbw := Below.on hbw hb3
  clear hb3
  refine hK _ _ ⟨Xfm.out.c0, Xfm.out.c1, Xfm.out.c2, Xfm.out.c3, Xfm.out.c4, Xfm.out.c5, Xm.out.c0, Xm.out.c1⟩ ?_
  clear hK
  refine wpJ_on 10 rfl fun KJ hK => ?_
  go_simp
  refine (signed_ok z s HC.out.2.2.2.2 A _).mono ?_
  rintro e v4 ⟨rfl, hb4⟩
  replace Xm : Hid _ := Xm.out.below hb4
  replace Xfm : Hid _ := Xfm.out.below hb4
  replace NA : Hid (RN v4 p m z.natAbs) := NA.out.below hb4
  replace N2 : Hid (RN v4 p2 m2 (1)) := N2.out.below hb4
  replace hbw := Below.on hbw hb4
  clear hb4
  clear HJ
  have HJ : Hid ((fun W' : World => W'.cell? ⟨gfm, 0, none⟩ = some (U 9223372036854775808) ∧ W'.cell? ⟨gfm, 1, none⟩ = some (.int .i64 53) ∧ W'.cell? ⟨gfm, 2, none⟩ = some (.int .i64 (-1074)) ∧ W'.cell? ⟨gfm, 3, none⟩ = some (.int .i64 971) ∧ W'.cell? ⟨gfm, 4, none⟩ = some (U 9218868437227405312) ∧ W'.cell? ⟨gfm, 5, none⟩ = some (U 9221120237041090561) ∧ W'.cell? ⟨gm, 0, none⟩ = some (.bool s) ∧ W'.cell? ⟨gm, 1, none⟩ = some (.slice p m m)) v4) := ⟨Xfm.out.c0, Xfm.out.c1, Xfm.out.c2, Xfm.out.c3, Xfm.out.c4, Xfm.out.c5, Xm.out.c0, Xm.out.c1⟩
  refine hK _ _ HJ.out ?_
  clear hK
  refine wpJ_tq 11 rfl HJ.out ?_
  go_simp
  refine wpJ_done (by kernel_rfl) ?_ _
  clear HJ
  go_wp2_with fail
  go_ret
  exact ⟨rfl, hbw⟩
theorem of16_1 {w : World} {p : Option Addr} {m j : Nat} (h : ZR w false p m (j : Int)) (hm : m ≤ 4000) (hj1 : 1 ≤ j) (hj2 : j < 53) {q : Nat} (hq : q = eQ j) :
    Calls Tryd.prog 17 #[.int .i64 1, .agg #[.bool false, .slice p m m], .int .i64 (-6), .int .i64 300] w fun en w' => ∃ v, en = .returned v ∧ GotN w.heap.size w' v (eX 1 j - 8) (eX 1 j + 8) (q : Int) 60 ∧ Below w.heap.size w w' := by
  have HA : Hid (ZR w false p m (j : Int) ∧ m ≤ 4000 ∧ 1 ≤ j ∧ j < 53 ∧ q = eQ j) := ⟨h, hm, hj1, hj2, hq⟩
  clear h hm hj1 hj2 hq
  go_enter Tryd.func17, Tryd.ntmps17
  go_wp2_with fail
  obtain ⟨W0, hW0⟩ : ∃ W0, W0 = ((w.alloc (.cells #[.bool false, .slice p m m] 50)).alloc (.cells #[.bool false, .slice none 0 0, .bool false, .slice none 0 0, .int .i64 0] 52)) := ⟨_, rfl⟩
  have Xm : Hid (Box W0 (w.heap.size) (.bool false) (.slice p m m)) := by rw [hW0]; exact ⟨by go_simp, by go_simp, by go_simp, by go_simp⟩
  have Xr : Hid (B5q W0 (w.heap.size + 1) (.bool false) (.slice none 0 0) (.bool false) (.slice none 0 0) (.int .i64 0)) := by rw [hW0]; exact ⟨by go_simp, by go_simp, by go_simp, by go_simp, by go_simp, by go_simp, by go_simp, by go_simp, by go_simp, by go_simp⟩
  have hb0 : Below w.heap.size w W0 := by rw [hW0]; exact below2 w _ _
  rw [← hW0]
  clear hW0
  have hbw : Below w.heap.size w w := Below.refl _ _
  obtain ⟨gr, hgr⟩ : ∃ g, g = w.heap.size + 1 := ⟨_, rfl⟩
  have HGr : Hid (w.heap.size ≤ gr) := by rw [hgr]; show _ ≤ _; omega
  rw [← hgr] at Xr
  try rw [← hgr]
  obtain ⟨gm, hgm⟩ : ∃ g, g = w.heap.size := ⟨_, rfl⟩
  have HGm : Hid (w.heap.size ≤ gm) := by rw [hgm]; show _ ≤ _; omega
  rw [← hgm] at Xm
  try rw [← hgm]
  have HGD : Hid (gm ≠ gr ∧ gr ≠ gm) := by rw [hgm, hgr]; exact ⟨by omega, by omega⟩
  clear hgm hgr
  replace hbw := Below.on hbw hb0
  clear hb0
  obtain ⟨cm0, cm1, fm0, fm1⟩ := Xm.out
  have hnem := Xm.out.lt
  go_wp2_with fail
  clear cm0 cm1 fm0 fm1 hnem
  have HGR9 : Hid (gr < W0.heap.size ∧ w.heap.size ≤ W0.heap.size) := ⟨Xr.out.lt, hbw.size⟩
  refine (encl_1 (HA.out.1.below hbw) HA.out.2.1 HA.out.2.2.1 HA.out.2.2.2.1 HA.out.2.2.2.2).mono ?_
  rintro e9 v5 ⟨v, rfl, ⟨s5, g5, m5, s6, g6, m6, rfl, hg5, hg6, hz5, hz6, hl5, hl6⟩, hb5⟩
  replace Xm : Hid _ := Xm.out.below hb5
  replace Xr : Hid _ := Xr.out.below hb5
  replace hbw := Below.on hbw hb5
  clear hb5
  have Z5 : Hid (ZR v5 s5 (some ⟨g5, 0, none⟩) m5 (eX 1 j - 8)) := hz5
  have Z6 : Hid (ZR v5 s6 (some ⟨g6, 0, none⟩) m6 (eX 1 j + 8)) := hz6
  have HGW5 : Hid (w.heap.size ≤ g5 ∧ w.heap.size ≤ g6 ∧ gr < g5 ∧ gr < g6 ∧ m5 ≤ 60 ∧ m6 ≤ 60) := by have h1 := HGR9.out; exact ⟨by omega, by omega, by omega, by omega, hl5, hl6⟩
  clear hg5 hg6 hl5 hl6 hz5 hz6
  obtain ⟨cr0, cr1, cr2, cr3, cr4, fr0, fr1, fr2, fr3, fr4⟩ := Xr.out
  have hner : gr < v5.heap.size := World.block_lt_of_cell? v5 _ cr0
  go_wp2_with fail
  refine bodyPost_ret (v := .agg #[.bool s5, .slice (some ⟨g5, 0, none⟩) m5 m5, .bool s6, .slice (some ⟨g6, 0, none⟩) m6 m6, .int .i64 q]) (by rw [results_cell1 rfl]; go_simp) rfl ⟨_, rfl, ⟨s5, g5, m5, s6, g6, m6, rfl, HGW5.out.1, HGW5.out.2.1, ?_, ?_, HGW5.out.2.2.2.2.1, HGW5.out.2.2.2.2.2⟩, ?_⟩
  · have h := HGW5.out
    exact ((((Z5.out.set _ _ _ (by omega)).set _ _ _ (by omega)).set _ _ _ (by omega)).set _ _ _ (by omega)).set _ _ _ (by omega)
  · have h := HGW5.out
    exact ((((Z6.out.set _ _ _ (by omega)).set _ _ _ (by omega)).set _ _ _ (by omega)).set _ _ _ (by omega)).set _ _ _ (by omega)
  · exact bSet (bSet (bSet (bSet (bSet (hbw) _ _ _ HGr.out) _ _ _ HGr.out) _ _ _ HGr.out) _ _ _ HGr.out) _ _ _ HGr.out
theorem of16_2 {w : World} {p : Option Addr} {m j : Nat} (h : ZR w false p m (j : Int)) (hm : m ≤ 4000) (hj1 : 1 ≤ j) (hj2 : j < 53) {q : Nat} (hq : q = eQ j) :
    Calls Tryd.prog 17 #[.int .i64 2, .agg #[.bool false, .slice p m m], .int .i64 (-6), .int .i64 300] w fun en w' => ∃ v, en = .returned v ∧ GotN w.heap.size w' v (eX 2 j - 8) (eX 2 j + 8) (q : Int) 60 ∧ Below w.heap.size w w' := by
  have HA : Hid (ZR w false p m (j : Int) ∧ m ≤ 4000 ∧ 1 ≤ j ∧ j < 53 ∧ q = eQ j) := ⟨h, hm, hj1, hj2, hq⟩
  clear h hm hj1 hj2 hq
  go_enter Tryd.func17, Tryd.ntmps17
  go_wp2_with fail
  obtain ⟨W0, hW0⟩ : ∃ W0, W0 = ((w.alloc (.cells #[.bool false, .slice p m m] 50)).alloc (.cells #[.bool false, .slice none 0 0, .bool false, .slice none 0 0, .int .i64 0] 52)) := ⟨_, rfl⟩
  have Xm : Hid (Box W0 (w.heap.size) (.bool false) (.slice p m m)) := by rw [hW0]; exact ⟨by go_simp, by go_simp, by go_simp, by go_simp⟩
  have Xr : Hid (B5q W0 (w.heap.size + 1) (.bool false) (.slice none 0 0) (.bool false) (.slice none 0 0) (.int .i64 0)) := by rw [hW0]; exact ⟨by go_simp, by go_simp, by go_simp, by go_simp, by go_simp, by go_simp, by go_simp, by go_simp, by go_simp, by go_simp⟩
  have hb0 : Below w.heap.size w W0 := by rw [hW0]; exact below2 w _ _
  rw [← hW0]
  clear hW0
  have hbw : Below w.heap.size w w := Below.refl _ _
  obtain ⟨gr, hgr⟩ : ∃ g, g = w.heap.size + 1 := ⟨_, rfl⟩
  have HGr : Hid (w.heap.size ≤ gr) := by rw [hgr]; show _ ≤ _; omega
  rw [← hgr] at Xr
  try rw [← hgr]
  obtain ⟨gm, hgm⟩ : ∃ g, g = w.heap.size := ⟨_, rfl⟩
  have HGm : Hid (w.heap.size ≤ gm) := by rw [hgm]; show _ ≤ _; omega
  rw [← hgm] at Xm
  try rw [← hgm]
  have HGD : Hid (gm ≠ gr ∧ gr ≠ gm) := by rw [hgm, hgr]; exact ⟨by omega, by omega⟩
  clear hgm hgr
  replace hbw := Below.on hbw hb0
  clear hb0
  obtain ⟨cm0, cm1, fm0, fm1⟩ := Xm.out
  have hnem := Xm.out.lt
  go_wp2_with fail
  clear cm0 cm1 fm0 fm1 hnem
  have HGR9 : Hid (gr < W0.heap.size ∧ w.heap.size ≤ W0.heap.size) := ⟨Xr.out.lt, hbw.size⟩
  refine (encl_2 (HA.out.1.below hbw) HA.out.2.1 HA.out.2.2.1 HA.out.2.2.2.1 HA.out.2.2.2.2).mono ?_
  rintro e9 v5 ⟨v, rfl, ⟨s5, g5, m5, s6, g6, m6, rfl, hg5, hg6, hz5, hz6, hl5, hl6⟩, hb5⟩
  replace Xm : Hid _ := Xm.out.below hb5
  replace Xr : Hid _ := Xr.out.below hb5
  replace hbw := Below.on hbw hb5
  clear hb5
  have Z5 : Hid (ZR v5 s5 (some ⟨g5, 0, none⟩) m5 (eX 2 j - 8)) := hz5
  have Z6 : Hid (ZR v5 s6 (some ⟨g6, 0, none⟩) m6 (eX 2 j + 8)) := hz6
  have HGW5 : Hid (w.heap.size ≤ g5 ∧ w.heap.size ≤ g6 ∧ gr < g5 ∧ gr < g6 ∧ m5 ≤ 60 ∧ m6 ≤ 60) := by have h1 := HGR9.out; exact ⟨by omega, by omega, by omega, by omega, hl5, hl6⟩
  clear hg5 hg6 hl5 hl6 hz5 hz6
  obtain ⟨cr0, cr1, cr2, cr3, cr4, fr0, fr1, fr2, fr3, fr4⟩ := Xr.out
  have hner : gr < v5.heap.size := World.block_lt_of_cell? v5 _ cr0
  go_wp2_with fail
  refine bodyPost_ret (v := .agg #[.bool s5, .slice (some ⟨g5, 0, none⟩) m5 m5, .bool s6, .slice (some ⟨g6, 0, none⟩) m6 m6, .int .i64 q]) (by rw [results_cell1 rfl]; go_simp) rfl ⟨_, rfl, ⟨s5, g5, m5, s6, g6, m6, rfl, HGW5.out.1, HGW5.out.2.1, ?_, ?_, HGW5.out.2.2.2.2.1, HGW5.out.2.2.2.2.2⟩, ?_⟩
  · have h := HGW5.out
    exact ((((Z5.out.set _ _ _ (by omega)).set _ _ _ (by omega)).set _ _ _ (by omega)).set _ _ _ (by omega)).set _ _ _ (by omega)
  · have h := HGW5.out
    exact ((((Z6.out.set _ _ _ (by omega)).set _ _ _ (by omega)).set _ _ _ (by omega)).set _ _ _ (by omega)).set _ _ _ (by omega)
  · exact bSet (bSet (bSet (bSet (bSet (hbw) _ _ _ HGr.out) _ _ _ HGr.out) _ _ _ HGr.out) _ _ _ HGr.out) _ _ _ HGr.out
def scQ (Q b : Nat) : Int := iv (decide (9223372036854775808 ≤ b)) (b % 9223372036854775808 - (b % 9223372036854775808 / 4503599627370496 - 1) * 4503599627370496) * 2 ^ (b % 9223372036854775808 / 4503599627370496 - 1 + Q - 1074)
theorem rscQ {b Q : Nat} (hQ : Q ≤ 400) (hlo : 1074 ≤ b % 9223372036854775808 / 4503599627370496 - 1 + Q) (w : World) :
    Calls Tryd.prog 20 #[U b, .int .i64 Q] w fun en w' => ∃ v, en = .returned v ∧ GotR w.heap.size w' v (scQ Q b) 40000 ∧ Below w.heap.size w w' := by
  obtain ⟨q, hq⟩ : ∃ q, q = b % 9223372036854775808 / 4503599627370496 - 1 := ⟨_, rfl⟩
  obtain ⟨man, hman⟩ : ∃ man, man = b % 9223372036854775808 - q * 4503599627370496 := ⟨_, rfl⟩
  obtain ⟨neg, hneg⟩ : ∃ neg, neg = decide (9223372036854775808 ≤ b) := ⟨_, rfl⟩
  obtain ⟨s, hs⟩ : ∃ s, s = b % 9223372036854775808 := ⟨_, rfl⟩
  obtain ⟨sh, hsh⟩ : ∃ sh, sh = q + Q - 1074 := ⟨_, rfl⟩
  have hv2 : iv neg man * 2 ^ sh = scQ Q b := by unfold scQ; rw [← hq, ← hman, ← hneg, ← hsh]
  rw [← hq] at hlo
  have hq9 : q ≤ 2048 := by omega
  obtain ⟨ex, hex⟩ : ∃ ex : Int, ex = (-1074 : Int) + (q : Int) := ⟨_, rfl⟩
  have e2 : wrap64 (ex + (Q : Int)) = (sh : Int) := by rw [hex]; simp only [wrap64]; omega
  have e3 : IntKind.i64.wrap (ex + (Q : Int)) = (sh : Int) := by rw [hex]; simp [IntKind.wrap, IntKind.signed, IntKind.bits]; omega
  have e4 : decide ((sh : Int) < 0) = false := decide_eq_false (by omega)
  have HV : Hid (iv neg man * 2 ^ sh = scQ Q b ∧ sh ≤ 4096 ∧ man < B64 ∧ b % 9223372036854775808 = s ∧ decide (9223372036854775808 ≤ b) = neg ∧ s < 9223372036854775808 ∧ s / 4503599627370496 - 1 = q ∧ s - q * 4503599627370496 = man ∧ (-1074 : Int) + (q : Int) = ex) := ⟨hv2, by omega, by rw [B64_eq]; omega, hs.symm, hneg.symm, by omega, by rw [hs]; exact hq.symm, by rw [hs]; exact hman.symm, hex.symm⟩
  clear hq hman hneg hs hv2 hq9 hex hsh hlo hQ
  go_enter Tryd.func20, Tryd.ntmps20
  go_wp2_with fail
  obtain ⟨W0, hW0⟩ : ∃ W0, W0 = (w.alloc (.cells #[.bool false, .slice none 0 0] 50)) := ⟨_, rfl⟩
  have Xr : Hid (Box W0 (w.heap.size) (.bool false) (.slice none 0 0)) := by rw [hW0]; exact ⟨by go_simp, by go_simp, by go_simp, by go_simp⟩
  have hb0 : Below w.heap.size w W0 := by rw [hW0]; exact below1 w _
  rw [← hW0]
  clear hW0
  have hbw : Below w.heap.size w w := Below.refl _ _
  obtain ⟨gr, hgr⟩ : ∃ g, g = w.heap.size := ⟨_, rfl⟩
  have HGr : Hid (w.heap.size ≤ gr) := by rw [hgr]; show _ ≤ _; omega
  rw [← hgr] at Xr
  try rw [← hgr]
  clear hgr
  replace hbw := Below.on hbw hb0
  clear hb0
  refine (rof_64 _).mono ?_
  rintro e v1 ⟨rfl, hb1⟩
  replace Xr : Hid _ := Xr.out.below hb1
  replace hbw := Below.on hbw hb1
  clear hb1
  go_wp2_with fail
  have Xk0 : Hid (B6q (v1.alloc (.cells #[U 9223372036854775808, .int .i64 53, .int .i64 (-1074), .int .i64 971, U 9218868437227405312, U 9221120237041090561] 64)) v1.heap.size (U 9223372036854775808) (.int .i64 53) (.int .i64 (-1074)) (.int .i64 971) (U 9218868437227405312) (U 9221120237041090561)) := B6q.new v1 _ _ _ _ _ _ _
  have hbn : Below v1.heap.size v1 (v1.alloc (.cells #[U 9223372036854775808, .int .i64 53, .int .i64 (-1074), .int .i64 971, U 9218868437227405312, U 9221120237041090561] 64)) := below1 v1 _
  generalize v1.alloc (.cells #[U 9223372036854775808, .int .i64 53, .int .i64 (-1074), .int .i64 971, U 9218868437227405312, U 9221120237041090561] 64) = Wk at *
  have HGk : Hid (w.heap.size ≤ v1.heap.size) := hbw.size
  replace Xr : Hid _ := Xr.out.below hbn
  replace hbw := Below.on hbw hbn
  clear hbn
  generalize v1.heap.size = gk at *
  have Xk := Xk0
  clear Xk0
  refine (cut_any (by decide) (by decide) b _).mono ?_
  rintro e v2 ⟨rfl, hb2⟩
  rw [HV.out.2.2.2.1, HV.out.2.2.2.2.1]
  replace Xr : Hid _ := Xr.out.below hb2
  replace Xk : Hid _ := Xk.out.below hb2
  replace hbw := Below.on hbw hb2
  clear hb2
  obtain ⟨ck0, ck1, ck2, ck3, ck4, ck5, fk0, fk1, fk2, fk3, fk4, fk5⟩ := Xk.out
  have hnek : gk < v2.heap.size := World.block_lt_of_cell? v2 _ ck0
  go_wp2_with fail
  clear ck0 ck1 ck2 ck3 ck4 ck5 fk0 fk1 fk2 fk3 fk4 fk5 hnek
  refine (rparts_all64 s HV.out.2.2.2.2.2.1 _).mono ?_
  rintro e v3 ⟨rfl, hb3⟩
  rw [HV.out.2.2.2.2.2.2.1, HV.out.2.2.2.2.2.2.2.1, HV.out.2.2.2.2.2.2.2.2]
  replace Xr : Hid _ := Xr.out.below hb3
  replace Xk : Hid _ := Xk.out.below hb3
  replace hbw := Below.on hbw hb3
  clear hb3
  obtain ⟨ck0, ck1, ck2, ck3, ck4, ck5, fk0, fk1, fk2, fk3, fk4, fk5⟩ := Xk.out
  have hnek : gk < v3.heap.size := World.block_lt_of_cell? v3 _ ck0
  go_wp2_with fail
  clear ck0 ck1 ck2 ck3 ck4 ck5 fk0 fk1 fk2 fk3 fk4 fk5 hnek
  refine (rword man HV.out.2.2.1 _).mono ?_
  rintro e v5 ⟨g5, z5, rfl, hl5, hA5, hN5, hb5⟩
  replace Xr : Hid _ := Xr.out.below hb5
  replace Xk : Hid _ := Xk.out.below hb5
  replace hbw := Below.on hbw hb5
  clear hb5
  have A5 : Hid (At32 v5 (some ⟨g5, 0, none⟩) z5.length z5.length z5) := hA5
  have N5 : Hid (Nf B32 z5 man ∧ z5.length ≤ 2) := ⟨hN5, hl5⟩
  clear hA5 hN5 hl5
  obtain ⟨l5, hl5⟩ : ∃ l9, l9 = z5.length := ⟨_, rfl⟩
  rw [← hl5] at A5 N5 ⊢
  clear hl5
  go_wp2_with fail
  refine (rmk_any neg A5.out N5.out.1 (by have := N5.out.2; omega)).mono ?_
  rintro e v6 ⟨v, rfl, hv, hb6⟩
  obtain ⟨s6, g6, m6, rfl, hg6, hz6, hl6⟩ := hv
  try clear hv
  have HN6 : Hid (v5.heap.size ≤ g6) := hg6
  have HB6 : Hid (v5.heap.size ≤ v6.heap.size) := hb6.size
  replace Xr : Hid _ := Xr.out.below hb6
  replace Xk : Hid _ := Xk.out.below hb6
  replace A5 : Hid _ := A5.out.below hb6
  replace hbw := Below.on hbw hb6
  clear hb6
  have Z6 : Hid (ZR v6 s6 (some ⟨g6, 0, none⟩) m6 (iv neg man)) := hz6
  have HL6 : Hid (m6 ≤ l5) := hl6
  clear hz6 hl6 hg6
  clear A5
  go_wp2_with fail
  have HRB : Hid (gr < v6.heap.size ∧ w.heap.size ≤ v6.heap.size) := ⟨Xr.out.lt, hbw.size⟩
  refine (rshl04 s6 Z6.out (by have := HL6.out; have := N5.out.2; omega) sh (.inl (by have := HV.out.2.1; omega))).mono ?_
  rintro e v7 ⟨v, rfl, hv, hb7⟩
  rw [HV.out.1] at hv
  obtain ⟨s7, g7, m7, rfl, hg7, hz7, hl7⟩ := hv
  try clear hv
  have HN7 : Hid (v6.heap.size ≤ g7) := hg7
  have HB7 : Hid (v6.heap.size ≤ v7.heap.size) := hb7.size
  replace Xr : Hid _ := Xr.out.below hb7
  replace Xk : Hid _ := Xk.out.below hb7
  replace Z6 : Hid _ := Z6.out.below hb7
  replace hbw := Below.on hbw hb7
  clear hb7
  have Z7 : Hid (ZR v7 s7 (some ⟨g7, 0, none⟩) m7 (scQ Q b)) := hz7
  have HL7 : Hid (m7 ≤ 40000) := hl7
  clear hz7 hl7 hg7
  clear Z6
  obtain ⟨cr0, cr1, fr0, fr1⟩ := Xr.out
  have hner := Xr.out.lt
  go_wp2_with fail
  refine bodyPost_ret (v := .agg #[.bool s7, .slice (some ⟨g7, 0, none⟩) m7 m7]) (by rw [results_cell1 rfl]; go_simp) rfl ⟨_, rfl, ⟨s7, g7, m7, rfl, Nat.le_trans HRB.out.2 HN7.out, ?_, HL7.out⟩, ?_⟩
  · have := HN7.out; have := HRB.out.1
    exact (Z7.out.set _ _ _ (by omega)).set _ _ _ (by omega)
  · exact bSet (bSet hbw _ _ _ HGr.out) _ _ _ HGr.out
theorem hv_w {q : Nat} {e : Int} (he : e = -(q : Int)) (hq : q ≤ 400) : wrap64 (-(q : Int)) = e ∧ IntKind.i64.wrap (-(q : Int)) = e ∧ (-1074 ≤ e ∧ e ≤ 1000) ∧ (e + 1074).toNat = 1074 - q := by
  refine ⟨?_, ?_, by omega, by omega⟩
  all_goals first | (simp only [wrap64]; omega) | (simp [IntKind.wrap, IntKind.signed, IntKind.bits]; omega)
theorem told_q {w : World} {p : Option Addr} {m : Nat} {z e : Int} (s : Bool) (h : ZR w s p m z) (hm : m ≤ 4000) (hz : z ≠ 0) (he : -1074 ≤ e ∧ e ≤ 1000) (hB : bitsN z.natAbs ≤ 2200) {k a : Nat} (hk : (e + 1074).toNat = k) (ha : toldN z (z.natAbs * 2 ^ k) = a) :
    Calls Tryd.prog 19 #[.int .i64 64, .agg #[.bool s, .slice p m m], .int .i64 e] w fun en w' => en = .returned (U a) ∧ Below w.heap.size w w' := by
  have h1 := told_a s h hm hz e he hB (A := z.natAbs * 2 ^ k) (by rw [hk])
  rw [ha] at h1
  exact h1
theorem halves_1 {w : World} {j q a b E : Nat} {lo hi sc : Int} (hj1 : 1 ≤ j) (hj2 : j < 53) (hq : q = eQ j) (hq4 : q ≤ 400) (hlo : eX 1 j - 8 = lo) (hhi : eX 1 j + 8 = hi) (hsc : scQ q a = sc) (ha3 : 1074 ≤ a % 9223372036854775808 / 4503599627370496 - 1 + q) (hE : E = 32 * 60) (ht0 : toldN (lo) ((lo).natAbs * 2 ^ (1074 - q)) = a) (hn0 : lo ≠ 0) (hb0 : bitsN (lo).natAbs ≤ 2200) (hs0 : (lo).natAbs < 2 ^ E) (ht1 : toldN (hi) ((hi).natAbs * 2 ^ (1074 - q)) = a) (hn1 : hi ≠ 0) (hb1 : bitsN (hi).natAbs ≤ 2200) (hs1 : (hi).natAbs < 2 ^ E) (ht2 : toldN (lo - sc) ((lo - sc).natAbs * 2 ^ (1074 - q)) = b) (hn2 : lo - sc ≠ 0) (hb2 : bitsN (lo - sc).natAbs ≤ 2200) (hs2 : (lo - sc).natAbs < 2 ^ E) (ht3 : toldN (hi - sc) ((hi - sc).natAbs * 2 ^ (1074 - q)) = b) (hn3 : hi - sc ≠ 0) (hb3 : bitsN (hi - sc).natAbs ≤ 2200) (hs3 : (hi - sc).natAbs < 2 ^ E) :
    Calls Tryd.prog 10 #[.int .i64 1, .int .i64 j] w fun en w' => en = .returned (.tuple #[U a, U b]) ∧ Below w.heap.size w w' := by
  obtain ⟨e, he⟩ : ∃ e : Int, e = -(q : Int) := ⟨_, rfl⟩
  have HW := Hid.mk9 (hv_w he hq4)
  have HJ9 : Hid (1 ≤ j ∧ j < 53 ∧ q = eQ j ∧ q ≤ 400) := ⟨hj1, hj2, hq, hq4⟩
  have HV := Hid.mk9 (And.intro hlo (And.intro hhi (And.intro hsc (And.intro ha3 hE))))
  have HT0 := Hid.mk9 (And.intro ht0 (And.intro hn0 (And.intro hb0 hs0)))
  have HT1 := Hid.mk9 (And.intro ht1 (And.intro hn1 (And.intro hb1 hs1)))
  have HT2 := Hid.mk9 (And.intro ht2 (And.intro hn2 (And.intro hb2 hs2)))
  have HT3 := Hid.mk9 (And.intro ht3 (And.intro hn3 (And.intro hb3 hs3)))
  clear hj1 hj2 hq hq4 hlo hhi hsc ha3 hE he ht0 hn0 hb0 hs0 ht1 hn1 hb1 hs1 ht2 hn2 hb2 hs2 ht3 hn3 hb3 hs3
  go_enter Tryd.func10, Tryd.ntmps10
  go_wp2_with fail
  have hbw : Below w.heap.size w w := Below.refl _ _
  refine wp_loop_rounds 1 ?_
  rw [rounds_succ]
  go_wp2_with fail
  refine (rof04 (j : Int) _ (by have := HJ9.out; omega) (by have := HJ9.out; omega)).mono ?_
  rintro e9 v1 ⟨s1, g1, m1, rfl, hz1, hl1, hb1⟩
  obtain rfl : s1 = false := hz1.sg.trans (decide_eq_false (by omega))
  replace hbw := Below.on hbw hb1
  clear hb1
  have Z1 : Hid (ZR v1 false (some ⟨g1, 0, none⟩) m1 (j : Int)) := hz1
  have HL1 : Hid (m1 ≤ 3) := hl1
  clear hz1 hl1
  go_wp2_with fail
  refine (of16_1 Z1.out (by have := HL1.out; omega) HJ9.out.1 HJ9.out.2.1 HJ9.out.2.2.1).mono ?_
  rintro e9 v2 ⟨v, rfl, ⟨s2, g2, m2, s3, g3, m3, rfl, hg2, hg3, hz2, hz3, hl2, hl3⟩, hb2⟩
  rw [HV.out.1] at hz2
  rw [HV.out.2.1] at hz3
  replace Z1 : Hid _ := Z1.out.below hb2
  replace hbw := Below.on hbw hb2
  clear hb2
  have Z2 : Hid (ZR v2 s2 (some ⟨g2, 0, none⟩) m2 lo) := hz2
  have Z3 : Hid (ZR v2 s3 (some ⟨g3, 0, none⟩) m3 hi) := hz3
  have HL2 : Hid (m2 ≤ 60 ∧ m3 ≤ 60) := ⟨hl2, hl3⟩
  clear hz2 hz3 hl2 hl3 hg2 hg3
  clear Z1
  obtain ⟨w1, w2, _⟩ := HW.out
  go_wp2_with fail
  clear w1 w2
  have Xv0 : Hid (B5q (v2.alloc (.cells #[.bool s2, .slice (some ⟨g2, 0, none⟩) m2 m2, .bool s3, .slice (some ⟨g3, 0, none⟩) m3 m3, .int .i64 q] 52)) v2.heap.size (.bool s2) (.slice (some ⟨g2, 0, none⟩) m2 m2) (.bool s3) (.slice (some ⟨g3, 0, none⟩) m3 m3) (.int .i64 q)) := B5q.new v2 _ _ _ _ _ _
  have hbn : Below v2.heap.size v2 (v2.alloc (.cells #[.bool s2, .slice (some ⟨g2, 0, none⟩) m2 m2, .bool s3, .slice (some ⟨g3, 0, none⟩) m3 m3, .int .i64 q] 52)) := below1 v2 _
  generalize v2.alloc (.cells #[.bool s2, .slice (some ⟨g2, 0, none⟩) m2 m2, .bool s3, .slice (some ⟨g3, 0, none⟩) m3 m3, .int .i64 q] 52) = Wv at *
  have HGv : Hid (w.heap.size ≤ v2.heap.size) := hbw.size
  replace Z2 : Hid _ := Z2.out.below hbn
  replace Z3 : Hid _ := Z3.out.below hbn
  replace hbw := Below.on hbw hbn
  clear hbn
  generalize v2.heap.size = gv at *
  have Xv := Xv0
  clear Xv0
  refine (told_q s2 Z2.out (by have := HL2.out; omega) HT0.out.2.1 HW.out.2.2.1 HT0.out.2.2.1 HW.out.2.2.2 HT0.out.1).mono ?_
  rintro e v4 ⟨rfl, hb4⟩
  replace Xv : Hid _ := Xv.out.below hb4
  replace Z2 : Hid _ := Z2.out.below hb4
  replace Z3 : Hid _ := Z3.out.below hb4
  replace hbw := Below.on hbw hb4
  clear hb4
  obtain ⟨w1, w2, _⟩ := HW.out
  obtain ⟨cv0, cv1, cv2, cv3, cv4, fv0, fv1, fv2, fv3, fv4⟩ := Xv.out
  have hnev : gv < v4.heap.size := World.block_lt_of_cell? v4 _ cv0
  go_wp2_with fail
  clear cv0 cv1 cv2 cv3 cv4 fv0 fv1 fv2 fv3 fv4 hnev
  clear w1 w2
  refine (told_q s3 Z3.out (by have := HL2.out; omega) HT1.out.2.1 HW.out.2.2.1 HT1.out.2.2.1 HW.out.2.2.2 HT1.out.1).mono ?_
  rintro e v5 ⟨rfl, hb5⟩
  replace Xv : Hid _ := Xv.out.below hb5
  replace Z2 : Hid _ := Z2.out.below hb5
  replace Z3 : Hid _ := Z3.out.below hb5
  replace hbw := Below.on hbw hb5
  clear hb5
  obtain ⟨cv0, cv1, cv2, cv3, cv4, fv0, fv1, fv2, fv3, fv4⟩ := Xv.out
  have hnev : gv < v5.heap.size := World.block_lt_of_cell? v5 _ cv0
  go_wp2_with fail
  clear cv0 cv1 cv2 cv3 cv4 fv0 fv1 fv2 fv3 fv4 hnev
  refine (rscQ HJ9.out.2.2.2 HV.out.2.2.2.1 _).mono ?_
  rintro e v7 ⟨v, rfl, hv, hb7⟩
  rw [HV.out.2.2.1] at hv
  obtain ⟨s7, g7, m7, rfl, hg7, hz7, hl7⟩ := hv
  try clear hv
  have HN7 : Hid (v5.heap.size ≤ g7) := hg7
  have HB7 : Hid (v5.heap.size ≤ v7.heap.size) := hb7.size
  replace Xv : Hid _ := Xv.out.below hb7
  replace Z2 : Hid _ := Z2.out.below hb7
  replace Z3 : Hid _ := Z3.out.below hb7
  replace hbw := Below.on hbw hb7
  clear hb7
  have Z7 : Hid (ZR v7 s7 (some ⟨g7, 0, none⟩) m7 (sc)) := hz7
  have HL7 : Hid (m7 ≤ 40000) := hl7
  clear hz7 hl7 hg7
  go_wp2_with fail
  have Xh0 : Hid (Box (v7.alloc (.cells #[.bool s7, .slice (some ⟨g7, 0, none⟩) m7 m7] 50)) v7.heap.size (.bool s7) (.slice (some ⟨g7, 0, none⟩) m7 m7)) := Box.new v7 _ _ _
  have hbn : Below v7.heap.size v7 (v7.alloc (.cells #[.bool s7, .slice (some ⟨g7, 0, none⟩) m7 m7] 50)) := below1 v7 _
  generalize v7.alloc (.cells #[.bool s7, .slice (some ⟨g7, 0, none⟩) m7 m7] 50) = Wh at *
  have HGh : Hid (w.heap.size ≤ v7.heap.size) := hbw.size
  replace Xv : Hid _ := Xv.out.below hbn
  replace Z2 : Hid _ := Z2.out.below hbn
  replace Z3 : Hid _ := Z3.out.below hbn
  replace Z7 : Hid _ := Z7.out.below hbn
  replace hbw := Below.on hbw hbn
  clear hbn
  generalize v7.heap.size = gh at *
  have Xh := Xh0
  clear Xh0
  obtain ⟨cv0, cv1, cv2, cv3, cv4, fv0, fv1, fv2, fv3, fv4⟩ := Xv.out
  have hnev : gv < Wh.heap.size := World.block_lt_of_cell? Wh _ cv0
  obtain ⟨ch0, ch1, fh0, fh1⟩ := Xh.out
  have hneh := Xh.out.lt
  go_wp2_with fail
  clear cv0 cv1 cv2 cv3 cv4 fv0 fv1 fv2 fv3 fv4 hnev
  clear ch0 ch1 fh0 fh1 hneh
  obtain ⟨w1, w2, _⟩ := HW.out
  obtain ⟨V1, hV1⟩ : ∃ W1, W1 = Wh.drew := ⟨_, rfl⟩
  have hbd : Below Wh.heap.size Wh V1 := by rw [hV1]; exact bDrew1 (Below.refl _ _)
  replace Xv : Hid _ := Xv.out.below hbd
  replace Xh : Hid _ := Xh.out.below hbd
  replace Z2 : Hid _ := Z2.out.below hbd
  replace Z3 : Hid _ := Z3.out.below hbd
  replace Z7 : Hid _ := Z7.out.below hbd
  replace hbw := Below.on hbw hbd
  clear hbd
  have HJ : Hid ((fun W' : World => W'.cell? ⟨gv, 0, none⟩ = some (.bool s2) ∧ W'.cell? ⟨gv, 1, none⟩ = some (.slice (some ⟨g2, 0, none⟩) m2 m2) ∧ W'.cell? ⟨gv, 4, none⟩ = some (.int .i64 q) ∧ W'.cell? ⟨gh, 0, none⟩ = some (.bool s7) ∧ W'.cell? ⟨gh, 1, none⟩ = some (.slice (some ⟨g7, 0, none⟩) m7 m7)) V1) := ⟨Xv.out.c0, Xv.out.c1, Xv.out.c4, Xh.out.c0, Xh.out.c1⟩
  refine wp_region_J (fun W' => W'.cell? ⟨gv, 0, none⟩ = some (.bool s2) ∧ W'.cell? ⟨gv, 1, none⟩ = some (.slice (some ⟨g2, 0, none⟩) m2 m2) ∧ W'.cell? ⟨gv, 4, none⟩ = some (.int .i64 q) ∧ W'.cell? ⟨gh, 0, none⟩ = some (.bool s7) ∧ W'.cell? ⟨gh, 1, none⟩ = some (.slice (some ⟨g7, 0, none⟩) m7 m7)) (by kernel_rfl) ?_
  rw [← hV1]
  clear hV1
  refine wpJ_tq 0 rfl HJ.out ?_
  refine wpJ_tq 1 rfl HJ.out ?_
  refine wpJ_tq 2 rfl HJ.out ?_
  refine wpJ_tq 4 rfl HJ.out ?_
  refine wpJ_tq 5 rfl HJ.out ?_
  go_simp
  refine wpJ_tq 6 rfl HJ.out ?_
  refine wpJ_on 3 rfl fun KJ hK => ?_
  go_simp
  refine (rsub04 s2 s7 Z2.out Z7.out (by have := HL2.out; omega) (by have := HL7.out; omega)).mono ?_
  rintro e v8 ⟨v, rfl, hv, hb8⟩
  obtain ⟨s8, g8, m8, rfl, hg8, hz8, hl8⟩ := hv
  try clear hv
  have HN8 : Hid (V1.heap.size ≤ g8) := hg8
  have HB8 : Hid (V1.heap.size ≤ v8.heap.size) := hb8.size
  replace Xv : Hid _ := Xv.out.below hb8
  replace Xh : Hid _ := Xh.out.below hb8
  replace Z2 : Hid _ := Z2.out.below hb8
  replace Z3 : Hid _ := Z3.out.below hb8
  replace Z7 : Hid _ := Z7.out.below hb8
  replace hbw := Below.on hbw hb8
  clear hb8
  have Z8 : Hid (ZR v8 s8 (some ⟨g8, 0, none⟩) m8 (lo - sc)) := hz8
  have HL8 : Hid (m8 ≤ max m2 m7 + 1) := hl8
  clear hz8 hl8 hg8
  refine hK _ _ ⟨Xv.out.c0, Xv.out.c1, Xv.out.c4, Xh.out.c0, Xh.out.c1⟩ ?_
  clear hK
  refine wpJ_on 7 rfl fun KJ hK => ?_
  go_simp
  have HM8 : Hid (m8 ≤ 60) := zr_len32 Z8.out (E := E) HV.out.2.2.2.2 HT2.out.2.2.2
  refine (told_q s8 Z8.out (by have := HM8.out; omega) HT2.out.2.1 HW.out.2.2.1 HT2.out.2.2.1 HW.out.2.2.2 HT2.out.1).mono ?_
  rintro e v9 ⟨rfl, hb9⟩
  replace Xv : Hid _ := Xv.out.below hb9
  replace Xh : Hid _ := Xh.out.below hb9
  replace Z2 : Hid _ := Z2.out.below hb9
  replace Z3 : Hid _ := Z3.out.below hb9
  replace Z7 : Hid _ := Z7.out.below hb9
  replace Z8 : Hid _ := Z8.out.below hb9
  replace hbw := Below.on hbw hb9
  clear hb9
  clear HJ
  have HJ : Hid ((fun W' : World => W'.cell? ⟨gv, 0, none⟩ = some (.bool s2) ∧ W'.cell? ⟨gv, 1, none⟩ = some (.slice (some ⟨g2, 0, none⟩) m2 m2) ∧ W'.cell? ⟨gv, 4, none⟩ = some (.int .i64 q) ∧ W'.cell? ⟨gh, 0, none⟩ = some (.bool s7) ∧ W'.cell? ⟨gh, 1, none⟩ = some (.slice (some ⟨g7, 0, none⟩) m7 m7)) v9) := ⟨Xv.out.c0, Xv.out.c1, Xv.out.c4, Xh.out.c0, Xh.out.c1⟩
  refine hK _ _ HJ.out ?_
  clear hK
  refine wpJ_tq 8 rfl HJ.out ?_
  go_simp
  refine wpJ_done (by kernel_rfl) ?_ _
  clear HJ
  clear w1 w2
  obtain ⟨cv0, cv1, cv2, cv3, cv4, fv0, fv1, fv2, fv3, fv4⟩ := Xv.out
  have hnev : gv < v9.heap.size := World.block_lt_of_cell? v9 _ cv0
  obtain ⟨ch0, ch1, fh0, fh1⟩ := Xh.out
  have hneh := Xh.out.lt
  go_wp2_with fail
  clear cv0 cv1 cv2 cv3 cv4 fv0 fv1 fv2 fv3 fv4 hnev
  clear ch0 ch1 fh0 fh1 hneh
  obtain ⟨w1, w2, _⟩ := HW.out
  obtain ⟨V2, hV2⟩ : ∃ W1, W1 = v9.drew := ⟨_, rfl⟩
  have hbd : Below v9.heap.size v9 V2 := by rw [hV2]; exact bDrew1 (Below.refl _ _)
  replace Xv : Hid _ := Xv.out.below hbd
  replace Xh : Hid _ := Xh.out.below hbd
  replace Z2 : Hid _ := Z2.out.below hbd
  replace Z3 : Hid _ := Z3.out.below hbd
  replace Z7 : Hid _ := Z7.out.below hbd
  replace Z8 : Hid _ := Z8.out.below hbd
  replace hbw := Below.on hbw hbd
  clear hbd
  have HJ : Hid ((fun W' : World => W'.cell? ⟨gv, 2, none⟩ = some (.bool s3) ∧ W'.cell? ⟨gv, 3, none⟩ = some (.slice (some ⟨g3, 0, none⟩) m3 m3) ∧ W'.cell? ⟨gv, 4, none⟩ = some (.int .i64 q) ∧ W'.cell? ⟨gh, 0, none⟩ = some (.bool s7) ∧ W'.cell? ⟨gh, 1, none⟩ = some (.slice (some ⟨g7, 0, none⟩) m7 m7)) V2) := ⟨Xv.out.c2, Xv.out.c3, Xv.out.c4, Xh.out.c0, Xh.out.c1⟩
  refine wp_region_J (fun W' => W'.cell? ⟨gv, 2, none⟩ = some (.bool s3) ∧ W'.cell? ⟨gv, 3, none⟩ = some (.slice (some ⟨g3, 0, none⟩) m3 m3) ∧ W'.cell? ⟨gv, 4, none⟩ = some (.int .i64 q) ∧ W'.cell? ⟨gh, 0, none⟩ = some (.bool s7) ∧ W'.cell? ⟨gh, 1, none⟩ = some (.slice (some ⟨g7, 0, none⟩) m7 m7)) (by kernel_rfl) ?_
  rw [← hV2]
  clear hV2
  refine wpJ_tq 0 rfl HJ.out ?_
  refine wpJ_tq 1 rfl HJ.out ?_
  refine wpJ_tq 2 rfl HJ.out ?_
  refine wpJ_tq 3 rfl HJ.out ?_
  refine wpJ_tq 5 rfl HJ.out ?_
  go_simp
  refine wpJ_tq 6 rfl HJ.out ?_
  refine wpJ_tq 7 rfl HJ.out ?_
  refine wpJ_on 4 rfl fun KJ hK => ?_
  go_simp
  refine (rsub04 s3 s7 Z3.out Z7.out (by have := HL2.out; omega) (by have := HL7.out; omega)).mono ?_
  rintro e v10 ⟨v, rfl, hv, hb10⟩
  obtain ⟨s10, g10, m10, rfl, hg10, hz10, hl10⟩ := hv
  try clear hv
  have HN10 : Hid (V2.heap.size ≤ g10) := hg10
  have HB10 : Hid (V2.heap.size ≤ v10.heap.size) := hb10.size
  replace Xv : Hid _ := Xv.out.below hb10
  replace Xh : Hid _ := Xh.out.below hb10
  replace Z2 : Hid _ := Z2.out.below hb10
  replace Z3 : Hid _ := Z3.out.below hb10
  replace Z7 : Hid _ := Z7.out.below hb10
  replace Z8 : Hid _ := Z8.out.below hb10
  replace hbw := Below.on hbw hb10
  clear hb10
  have Z10 : Hid (ZR v10 s10 (some ⟨g10, 0, none⟩) m10 (hi - sc)) := hz10
  have HL10 : Hid (m10 ≤ max m3 m7 + 1) := hl10
  clear hz10 hl10 hg10
  refine hK _ _ ⟨Xv.out.c2, Xv.out.c3, Xv.out.c4, Xh.out.c0, Xh.out.c1⟩ ?_
  clear hK
  refine wpJ_on 8 rfl fun KJ hK => ?_
  go_simp
  have HM10 : Hid (m10 ≤ 60) := zr_len32 Z10.out (E := E) HV.out.2.2.2.2 HT3.out.2.2.2
  refine (told_q s10 Z10.out (by have := HM10.out; omega) HT3.out.2.1 HW.out.2.2.1 HT3.out.2.2.1 HW.out.2.2.2 HT3.out.1).mono ?_
  rintro e v11 ⟨rfl, hb11⟩
  replace Xv : Hid _ := Xv.out.below hb11
  replace Xh : Hid _ := Xh.out.below hb11
  replace Z2 : Hid _ := Z2.out.below hb11
  replace Z3 : Hid _ := Z3.out.below hb11
  replace Z7 : Hid _ := Z7.out.below hb11
  replace Z8 : Hid _ := Z8.out.below hb11
  replace Z10 : Hid _ := Z10.out.below hb11
  replace hbw := Below.on hbw hb11
  clear hb11
  clear HJ
  have HJ : Hid ((fun W' : World => W'.cell? ⟨gv, 2, none⟩ = some (.bool s3) ∧ W'.cell? ⟨gv, 3, none⟩ = some (.slice (some ⟨g3, 0, none⟩) m3 m3) ∧ W'.cell? ⟨gv, 4, none⟩ = some (.int .i64 q) ∧ W'.cell? ⟨gh, 0, none⟩ = some (.bool s7) ∧ W'.cell? ⟨gh, 1, none⟩ = some (.slice (some ⟨g7, 0, none⟩) m7 m7)) v11) := ⟨Xv.out.c2, Xv.out.c3, Xv.out.c4, Xh.out.c0, Xh.out.c1⟩
  refine hK _ _ HJ.out ?_
  clear hK
  refine wpJ_tq 9 rfl HJ.out ?_
  go_simp
  refine wpJ_done (by kernel_rfl) ?_ _
  clear HJ
  clear w1 w2
  go_wp2_with fail
  go_ret2
  exact ⟨rfl, hbw⟩
theorem halves_2 {w : World} {j q a b E : Nat} {lo hi sc : Int} (hj1 : 1 ≤ j) (hj2 : j < 53) (hq : q = eQ j) (hq4 : q ≤ 400) (hlo : eX 2 j - 8 = lo) (hhi : eX 2 j + 8 = hi) (hsc : scQ q a = sc) (ha3 : 1074 ≤ a % 9223372036854775808 / 4503599627370496 - 1 + q) (hE : E = 32 * 60) (ht0 : toldN (lo) ((lo).natAbs * 2 ^ (1074 - q)) = a) (hn0 : lo ≠ 0) (hb0 : bitsN (lo).natAbs ≤ 2200) (hs0 : (lo).natAbs < 2 ^ E) (ht1 : toldN (hi) ((hi).natAbs * 2 ^ (1074 - q)) = a) (hn1 : hi ≠ 0) (hb1 : bitsN (hi).natAbs ≤ 2200) (hs1 : (hi).natAbs < 2 ^ E) (ht2 : toldN (lo - sc) ((lo - sc).natAbs * 2 ^ (1074 - q)) = b) (hn2 : lo - sc ≠ 0) (hb2 : bitsN (lo - sc).natAbs ≤ 2200) (hs2 : (lo - sc).natAbs < 2 ^ E) (ht3 : toldN (hi - sc) ((hi - sc).natAbs * 2 ^ (1074 - q)) = b) (hn3 : hi - sc ≠ 0) (hb3 : bitsN (hi - sc).natAbs ≤ 2200) (hs3 : (hi - sc).natAbs < 2 ^ E) :
    Calls Tryd.prog 10 #[.int .i64 2, .int .i64 j] w fun en w' => en = .returned (.tuple #[U a, U b]) ∧ Below w.heap.size w w' := by
  obtain ⟨e, he⟩ : ∃ e : Int, e = -(q : Int) := ⟨_, rfl⟩
  have HW := Hid.mk9 (hv_w he hq4)
  have HJ9 : Hid (1 ≤ j ∧ j < 53 ∧ q = eQ j ∧ q ≤ 400) := ⟨hj1, hj2, hq, hq4⟩
  have HV := Hid.mk9 (And.intro hlo (And.intro hhi (And.intro hsc (And.intro ha3 hE))))
  have HT0 := Hid.mk9 (And.intro ht0 (And.intro hn0 (And.intro hb0 hs0)))
  have HT1 := Hid.mk9 (And.intro ht1 (And.intro hn1 (And.intro hb1 hs1)))
  have HT2 := Hid.mk9 (And.intro ht2 (And.intro hn2 (And.intro hb2 hs2)))
  have HT3 := Hid.mk9 (And.intro ht3 (And.intro hn3 (And.intro hb3 hs3)))
  clear hj1 hj2 hq hq4 hlo hhi hsc ha3 hE he ht0 hn0 hb0 hs0 ht1 hn1 hb1 hs1 ht2 hn2 hb2 hs2 ht3 hn3 hb3 hs3
  go_enter Tryd.func10, Tryd.ntmps10
  go_wp2_with fail
  have hbw : Below w.heap.size w w := Below.refl _ _
  refine wp_loop_rounds 1 ?_
  rw [rounds_succ]
  go_wp2_with fail
  refine (rof04 (j : Int) _ (by have := HJ9.out; omega) (by have := HJ9.out; omega)).mono ?_
  rintro e9 v1 ⟨s1, g1, m1, rfl, hz1, hl1, hb1⟩
  obtain rfl : s1 = false := hz1.sg.trans (decide_eq_false (by omega))
  replace hbw := Below.on hbw hb1
  clear hb1
  have Z1 : Hid (ZR v1 false (some ⟨g1, 0, none⟩) m1 (j : Int)) := hz1
  have HL1 : Hid (m1 ≤ 3) := hl1
  clear hz1 hl1
  go_wp2_with fail
  refine (of16_2 Z1.out (by have := HL1.out; omega) HJ9.out.1 HJ9.out.2.1 HJ9.out.2.2.1).mono ?_
  rintro e9 v2 ⟨v, rfl, ⟨s2, g2, m2, s3, g3, m3, rfl, hg2, hg3, hz2, hz3, hl2, hl3⟩, hb2⟩
  rw [HV.out.1] at hz2
  rw [HV.out.2.1] at hz3
  replace Z1 : Hid _ := Z1.out.below hb2
  replace hbw := Below.on hbw hb2
  clear hb2
  have Z2 : Hid (ZR v2 s2 (some ⟨g2, 0, none⟩) m2 lo) := hz2
  have Z3 : Hid (ZR v2 s3 (some ⟨g3, 0, none⟩) m3 hi) := hz3
  have HL2 : Hid (m2 ≤ 60 ∧ m3 ≤ 60) := ⟨hl2, hl3⟩
  clear hz2 hz3 hl2 hl3 hg2 hg3
  clear Z1
  obtain ⟨w1, w2, _⟩ := HW.out
  go_wp2_with fail
  clear w1 w2
  have Xv0 : Hid (B5q (v2.alloc (.cells #[.bool s2, .slice (some ⟨g2, 0, none⟩) m2 m2, .bool s3, .slice (some ⟨g3, 0, none⟩) m3 m3, .int .i64 q] 52)) v2.heap.size (.bool s2) (.slice (some ⟨g2, 0, none⟩) m2 m2) (.bool s3) (.slice (some ⟨g3, 0, none⟩) m3 m3) (.int .i64 q)) := B5q.new v2 _ _ _ _ _ _
  have hbn : Below v2.heap.size v2 (v2.alloc (.cells #[.bool s2, .slice (some ⟨g2, 0, none⟩) m2 m2, .bool s3, .slice (some ⟨g3, 0, none⟩) m3 m3, .int .i64 q] 52)) := below1 v2 _
  generalize v2.alloc (.cells #[.bool s2, .slice (some ⟨g2, 0, none⟩) m2 m2, .bool s3, .slice (some ⟨g3, 0, none⟩) m3 m3, .int .i64 q] 52) = Wv at *
  have HGv : Hid (w.heap.size ≤ v2.heap.size) := hbw.size
  replace Z2 : Hid _ := Z2.out.below hbn
  replace Z3 : Hid _ := Z3.out.below hbn
  replace hbw := Below.on hbw hbn
  clear hbn
  generalize v2.heap.size = gv at *
  have Xv := Xv0
  clear Xv0
  refine (told_q s2 Z2.out (by have := HL2.out; omega) HT0.out.2.1 HW.out.2.2.1 HT0.out.2.2.1 HW.out.2.2.2 HT0.out.1).mono ?_
  rintro e v4 ⟨rfl, hb4⟩
  replace Xv : Hid _ := Xv.out.below hb4
  replace Z2 : Hid _ := Z2.out.below hb4
  replace Z3 : Hid _ := Z3.out.below hb4
  replace hbw := Below.on hbw hb4
  clear hb4
  obtain ⟨w1, w2, _⟩ := HW.out
  obtain ⟨cv0, cv1, cv2, cv3, cv4, fv0, fv1, fv2, fv3, fv4⟩ := Xv.out
  have hnev : gv < v4.heap.size := World.block_lt_of_cell? v4 _ cv0
  go_wp2_with fail
  clear cv0 cv1 cv2 cv3 cv4 fv0 fv1 fv2 fv3 fv4 hnev
  clear w1 w2
  refine (told_q s3 Z3.out (by have := HL2.out; omega) HT1.out.2.1 HW.out.2.2.1 HT1.out.2.2.1 HW.out.2.2.2 HT1.out.1).mono ?_
  rintro e v5 ⟨rfl, hb5⟩
  replace Xv : Hid _ := Xv.out.below hb5
  replace Z2 : Hid _ := Z2.out.below hb5
  replace Z3 : Hid _ := Z3.out.below hb5
  replace hbw := Below.on hbw hb5
  clear hb5
  obtain ⟨cv0, cv1, cv2, cv3, cv4, fv0, fv1, fv2, fv3, fv4⟩ := Xv.out
  have hnev : gv < v5.heap.size := World.block_lt_of_cell? v5 _ cv0
  go_wp2_with fail
  clear cv0 cv1 cv2 cv3 cv4 fv0 fv1 fv2 fv3 fv4 hnev
  refine (rscQ HJ9.out.2.2.2 HV.out.2.2.2.1 _).mono ?_
  rintro e v7 ⟨v, rfl, hv, hb7⟩
  rw [HV.out.2.2.1] at hv
  obtain ⟨s7, g7, m7, rfl, hg7, hz7, hl7⟩ := hv
  try clear hv
  have HN7 : Hid (v5.heap.size ≤ g7) := hg7
  have HB7 : Hid (v5.heap.size ≤ v7.heap.size) := hb7.size
  replace Xv : Hid _ := Xv.out.below hb7
  replace Z2 : Hid _ := Z2.out.below hb7
  replace Z3 : Hid _ := Z3.out.below hb7
  replace hbw := Below.on hbw hb7
  clear hb7
  have Z7 : Hid (ZR v7 s7 (some ⟨g7, 0, none⟩) m7 (sc)) := hz7
  have HL7 : Hid (m7 ≤ 40000) := hl7
  clear hz7 hl7 hg7
  go_wp2_with fail
  have Xh0 : Hid (Box (v7.alloc (.cells #[.bool s7, .slice (some ⟨g7, 0, none⟩) m7 m7] 50)) v7.heap.size (.bool s7) (.slice (some ⟨g7, 0, none⟩) m7 m7)) := Box.new v7 _ _ _
  have hbn : Below v7.heap.size v7 (v7.alloc (.cells #[.bool s7, .slice (some ⟨g7, 0, none⟩) m7 m7] 50)) := below1 v7 _
  generalize v7.alloc (.cells #[.bool s7, .slice (some ⟨g7, 0, none⟩) m7 m7] 50) = Wh at *
  have HGh : Hid (w.heap.size ≤ v7.heap.size) := hbw.size
  replace Xv : Hid _ := Xv.out.below hbn
  replace Z2 : Hid _ := Z2.out.below hbn
  replace Z3 : Hid _ := Z3.out.below hbn
  replace Z7 : Hid _ := Z7.out.below hbn
  replace hbw := Below.on hbw hbn
  clear hbn
  generalize v7.heap.size = gh at *
  have Xh := Xh0
  clear Xh0
  obtain ⟨cv0, cv1, cv2, cv3, cv4, fv0, fv1, fv2, fv3, fv4⟩ := Xv.out
  have hnev : gv < Wh.heap.size := World.block_lt_of_cell? Wh _ cv0
  obtain ⟨ch0, ch1, fh0, fh1⟩ := Xh.out
  have hneh := Xh.out.lt
  go_wp2_with fail
  clear cv0 cv1 cv2 cv3 cv4 fv0 fv1 fv2 fv3 fv4 hnev
  clear ch0 ch1 fh0 fh1 hneh
  obtain ⟨w1, w2, _⟩ := HW.out
  obtain ⟨V1, hV1⟩ : ∃ W1, W1 = Wh.drew := ⟨_, rfl⟩
  have hbd : Below Wh.heap.size Wh V1 := by rw [hV1]; exact bDrew1 (Below.refl _ _)
  replace Xv : Hid _ := Xv.out.below hbd
  replace Xh : Hid _ := Xh.out.below hbd
  replace Z2 : Hid _ := Z2.out.below hbd
  replace Z3 : Hid _ := Z3.out.below hbd
  replace Z7 : Hid _ := Z7.out.below hbd
  replace hbw := Below.on hbw hbd
  clear hbd
  have HJ : Hid ((fun W' : World => W'.cell? ⟨gv, 0, none⟩ = some (.bool s2) ∧ W'.cell? ⟨gv, 1, none⟩ = some (.slice (some ⟨g2, 0, none⟩) m2 m2) ∧ W'.cell? ⟨gv, 4, none⟩ = some (.int .i64 q) ∧ W'.cell? ⟨gh, 0, none⟩ = some (.bool s7) ∧ W'.cell? ⟨gh, 1, none⟩ = some (.slice (some ⟨g7, 0, none⟩) m7 m7)) V1) := ⟨Xv.out.c0, Xv.out.c1, Xv.out.c4, Xh.out.c0, Xh.out.c1⟩
  refine wp_region_J (fun W' => W'.cell? ⟨gv, 0, none⟩ = some (.bool s2) ∧ W'.cell? ⟨gv, 1, none⟩ = some (.slice (some ⟨g2, 0, none⟩) m2 m2) ∧ W'.cell? ⟨gv, 4, none⟩ = some (.int .i64 q) ∧ W'.cell? ⟨gh, 0, none⟩ = some (.bool s7) ∧ W'.cell? ⟨gh, 1, none⟩ = some (.slice (some ⟨g7, 0, none⟩) m7 m7)) (by kernel_rfl) ?_
  rw [← hV1]
  clear hV1
  refine wpJ_tq 0 rfl HJ.out ?_
  refine wpJ_tq 1 rfl HJ.out ?_
  refine wpJ_tq 2 rfl HJ.out ?_
  refine wpJ_tq 4 rfl HJ.out ?_
  refine wpJ_tq 5 rfl HJ.out ?_
  go_simp
  refine wpJ_tq 6 rfl HJ.out ?_
  refine wpJ_on 3 rfl fun KJ hK => ?_
  go_simp
  refine (rsub04 s2 s7 Z2.out Z7.out (by have := HL2.out; omega) (by have := HL7.out; omega)).mono ?_
  rintro e v8 ⟨v, rfl, hv, hb8⟩
  obtain ⟨s8, g8, m8, rfl, hg8, hz8, hl8⟩ := hv
  try clear hv
  have HN8 : Hid (V1.heap.size ≤ g8) := hg8
  have HB8 : Hid (V1.heap.size ≤ v8.heap.size) := hb8.size
  replace Xv : Hid _ := Xv.out.below hb8
  replace Xh : Hid _ := Xh.out.below hb8
  replace Z2 : Hid _ := Z2.out.below hb8
  replace Z3 : Hid _ := Z3.out.below hb8
  replace Z7 : Hid _ := Z7.out.below hb8
  replace hbw := Below.on hbw hb8
  clear hb8
  have Z8 : Hid (ZR v8 s8 (some ⟨g8, 0, none⟩) m8 (lo - sc)) := hz8
  have HL8 : Hid (m8 ≤ max m2 m7 + 1) := hl8
  clear hz8 hl8 hg8
  refine hK _ _ ⟨Xv.out.c0, Xv.out.c1, Xv.out.c4, Xh.out.c0, Xh.out.c1⟩ ?_
  clear hK
  refine wpJ_on 7 rfl fun KJ hK => ?_
  go_simp
  have HM8 : Hid (m8 ≤ 60) := zr_len32 Z8.out (E := E) HV.out.2.2.2.2 HT2.out.2.2.2
  refine (told_q s8 Z8.out (by have := HM8.out; omega) HT2.out.2.1 HW.out.2.2.1 HT2.out.2.2.1 HW.out.2.2.2 HT2.out.1).mono ?_
  rintro e v9 ⟨rfl, hb9⟩
  replace Xv : Hid _ := Xv.out.below hb9
  replace Xh : Hid _ := Xh.out.below hb9
  replace Z2 : Hid _ := Z2.out.below hb9
  replace Z3 : Hid _ := Z3.out.below hb9
  replace Z7 : Hid _ := Z7.out.below hb9
  replace Z8 : Hid _ := Z8.out.below hb9
  replace hbw := Below.on hbw hb9
  clear hb9
  clear HJ
  have HJ : Hid ((fun W' : World => W'.cell? ⟨gv, 0, none⟩ = some (.bool s2) ∧ W'.cell? ⟨gv, 1, none⟩ = some (.slice (some ⟨g2, 0, none⟩) m2 m2) ∧ W'.cell? ⟨gv, 4, none⟩ = some (.int .i64 q) ∧ W'.cell? ⟨gh, 0, none⟩ = some (.bool s7) ∧ W'.cell? ⟨gh, 1, none⟩ = some (.slice (some ⟨g7, 0, none⟩) m7 m7)) v9) := ⟨Xv.out.c0, Xv.out.c1, Xv.out.c4, Xh.out.c0, Xh.out.c1⟩
  refine hK _ _ HJ.out ?_
  clear hK
  refine wpJ_tq 8 rfl HJ.out ?_
  go_simp
  refine wpJ_done (by kernel_rfl) ?_ _
  clear HJ
  clear w1 w2
  obtain ⟨cv0, cv1, cv2, cv3, cv4, fv0, fv1, fv2, fv3, fv4⟩ := Xv.out
  have hnev : gv < v9.heap.size := World.block_lt_of_cell? v9 _ cv0
  obtain ⟨ch0, ch1, fh0, fh1⟩ := Xh.out
  have hneh := Xh.out.lt
  go_wp2_with fail
  clear cv0 cv1 cv2 cv3 cv4 fv0 fv1 fv2 fv3 fv4 hnev
  clear ch0 ch1 fh0 fh1 hneh
  obtain ⟨w1, w2, _⟩ := HW.out
  obtain ⟨V2, hV2⟩ : ∃ W1, W1 = v9.drew := ⟨_, rfl⟩
  have hbd : Below v9.heap.size v9 V2 := by rw [hV2]; exact bDrew1 (Below.refl _ _)
  replace Xv : Hid _ := Xv.out.below hbd
  replace Xh : Hid _ := Xh.out.below hbd
  replace Z2 : Hid _ := Z2.out.below hbd
  replace Z3 : Hid _ := Z3.out.below hbd
  replace Z7 : Hid _ := Z7.out.below hbd
  replace Z8 : Hid _ := Z8.out.below hbd
  replace hbw := Below.on hbw hbd
  clear hbd
  have HJ : Hid ((fun W' : World => W'.cell? ⟨gv, 2, none⟩ = some (.bool s3) ∧ W'.cell? ⟨gv, 3, none⟩ = some (.slice (some ⟨g3, 0, none⟩) m3 m3) ∧ W'.cell? ⟨gv, 4, none⟩ = some (.int .i64 q) ∧ W'.cell? ⟨gh, 0, none⟩ = some (.bool s7) ∧ W'.cell? ⟨gh, 1, none⟩ = some (.slice (some ⟨g7, 0, none⟩) m7 m7)) V2) := ⟨Xv.out.c2, Xv.out.c3, Xv.out.c4, Xh.out.c0, Xh.out.c1⟩
  refine wp_region_J (fun W' => W'.cell? ⟨gv, 2, none⟩ = some (.bool s3) ∧ W'.cell? ⟨gv, 3, none⟩ = some (.slice (some ⟨g3, 0, none⟩) m3 m3) ∧ W'.cell? ⟨gv, 4, none⟩ = some (.int .i64 q) ∧ W'.cell? ⟨gh, 0, none⟩ = some (.bool s7) ∧ W'.cell? ⟨gh, 1, none⟩ = some (.slice (some ⟨g7, 0, none⟩) m7 m7)) (by kernel_rfl) ?_
  rw [← hV2]
  clear hV2
  refine wpJ_tq 0 rfl HJ.out ?_
  refine wpJ_tq 1 rfl HJ.out ?_
  refine wpJ_tq 2 rfl HJ.out ?_
  refine wpJ_tq 3 rfl HJ.out ?_
  refine wpJ_tq 5 rfl HJ.out ?_
  go_simp
  refine wpJ_tq 6 rfl HJ.out ?_
  refine wpJ_tq 7 rfl HJ.out ?_
  refine wpJ_on 4 rfl fun KJ hK => ?_
  go_simp
  refine (rsub04 s3 s7 Z3.out Z7.out (by have := HL2.out; omega) (by have := HL7.out; omega)).mono ?_
  rintro e v10 ⟨v, rfl, hv, hb10⟩
  obtain ⟨s10, g10, m10, rfl, hg10, hz10, hl10⟩ := hv
  try clear hv
  have HN10 : Hid (V2.heap.size ≤ g10) := hg10
  have HB10 : Hid (V2.heap.size ≤ v10.heap.size) := hb10.size
  replace Xv : Hid _ := Xv.out.below hb10
  replace Xh : Hid _ := Xh.out.below hb10
  replace Z2 : Hid _ := Z2.out.below hb10
  replace Z3 : Hid _ := Z3.out.below hb10
  replace Z7 : Hid _ := Z7.out.below hb10
  replace Z8 : Hid _ := Z8.out.below hb10
  replace hbw := Below.on hbw hb10
  clear hb10
  have Z10 : Hid (ZR v10 s10 (some ⟨g10, 0, none⟩) m10 (hi - sc)) := hz10
  have HL10 : Hid (m10 ≤ max m3 m7 + 1) := hl10
  clear hz10 hl10 hg10
  refine hK _ _ ⟨Xv.out.c2, Xv.out.c3, Xv.out.c4, Xh.out.c0, Xh.out.c1⟩ ?_
  clear hK
  refine wpJ_on 8 rfl fun KJ hK => ?_
  go_simp
  have HM10 : Hid (m10 ≤ 60) := zr_len32 Z10.out (E := E) HV.out.2.2.2.2 HT3.out.2.2.2
  refine (told_q s10 Z10.out (by have := HM10.out; omega) HT3.out.2.1 HW.out.2.2.1 HT3.out.2.2.1 HW.out.2.2.2 HT3.out.1).mono ?_
  rintro e v11 ⟨rfl, hb11⟩
  replace Xv : Hid _ := Xv.out.below hb11
  replace Xh : Hid _ := Xh.out.below hb11
  replace Z2 : Hid _ := Z2.out.below hb11
  replace Z3 : Hid _ := Z3.out.below hb11
  replace Z7 : Hid _ := Z7.out.below hb11
  replace Z8 : Hid _ := Z8.out.below hb11
  replace Z10 : Hid _ := Z10.out.below hb11
  replace hbw := Below.on hbw hb11
  clear hb11
  clear HJ
  have HJ : Hid ((fun W' : World => W'.cell? ⟨gv, 2, none⟩ = some (.bool s3) ∧ W'.cell? ⟨gv, 3, none⟩ = some (.slice (some ⟨g3, 0, none⟩) m3 m3) ∧ W'.cell? ⟨gv, 4, none⟩ = some (.int .i64 q) ∧ W'.cell? ⟨gh, 0, none⟩ = some (.bool s7) ∧ W'.cell? ⟨gh, 1, none⟩ = some (.slice (some ⟨g7, 0, none⟩) m7 m7)) v11) := ⟨Xv.out.c2, Xv.out.c3, Xv.out.c4, Xh.out.c0, Xh.out.c1⟩
  refine hK _ _ HJ.out ?_
  clear hK
  refine wpJ_tq 9 rfl HJ.out ?_
  go_simp
  refine wpJ_done (by kernel_rfl) ?_ _
  clear HJ
  clear w1 w2
  go_wp2_with fail
  go_ret2
  exact ⟨rfl, hbw⟩
end Go.Proofs.YtionkfnapodhbaaDoor
namespace Go.Proofs.YtionkfnapodhbaaDoor
open Go.RowKit
set_option maxRecDepth 20000
set_option maxHeartbeats 0
theorem ordI (x y : Int) : compare x y = if x < y then .lt else if x = y then .eq else .gt := rfl
theorem ordI_mul (x y : Int) {k : Nat} (hk : 0 < k) : compare (x * (k : Int)) (y * (k : Int)) = compare x y := by
  have hk' : (0 : Int) < (k : Int) := by omega
  rw [ordI, ordI]
  have h1 : (x * (k : Int) < y * (k : Int)) ↔ x < y := ⟨fun h => Int.lt_of_mul_lt_mul_right h (Int.le_of_lt hk'), fun h => Int.mul_lt_mul_of_pos_right h hk'⟩
  have h2 : (x * (k : Int) = y * (k : Int)) ↔ x = y := ⟨fun h => Int.eq_of_mul_eq_mul_right (by omega) h, fun h => by rw [h]⟩
  simp only [h1, h2]
theorem order_fin {a b : Nat} (ha : Fin64 a) (hb : Fin64 b) : Ieee.double.order a b = some (compare (ux a) (ux b)) := by
  obtain ⟨m, q, h1, h2⟩ := read_fin ha.lt ha.fin
  obtain ⟨n, r, h3, h4⟩ := read_fin hb.lt hb.fin
  unfold Ieee.Format.order
  rw [h1, h3, ux_of h2, ux_of h4]
  unfold Ieee.Datum.order
  dsimp only
  obtain ⟨d, hd⟩ : ∃ d, d = min q r := ⟨_, rfl⟩
  have e1 : (-1074 + (q : Int) - min (-1074 + (q : Int)) (-1074 + (r : Int))).toNat = q - d := by omega
  have e2 : (-1074 + (r : Int) - min (-1074 + (q : Int)) (-1074 + (r : Int))).toNat = r - d := by omega
  rw [e1, e2, ← ordI_mul _ _ (p2pos d), signed_up, signed_up, show q - d + d = q by omega, show r - d + d = r by omega]
def InfP (r : Nat) : Prop := r % 9223372036854775808 = 9218868437227405312
theorem three64 (r : Nat) (h : r < 18446744073709551616) : Fin64 r ∨ InfP r ∨ NanP r := by
  unfold InfP NanP
  rcases Nat.lt_trichotomy (r % 9223372036854775808) 9218868437227405312 with h1 | h1 | h1
  · exact .inl ⟨h, h1⟩
  · exact .inr (.inl h1)
  · exact .inr (.inr h1)
theorem read_inf {b : Nat} (h : InfP b) : Ieee.double.read b = .infinity (b / 9223372036854775808 % 2 == 1) := by
  have e1 : Ieee.double.leastPlace = -1074 := by decide
  have e2 : Ieee.double.binade = 4503599627370496 := by decide
  have e3 : Ieee.double.infRung = 9218868437227405312 := by decide
  have e4 : Ieee.double.signWeight = 9223372036854775808 := by decide
  unfold InfP at h
  unfold Ieee.Format.read
  rw [e1, e2, e3, e4]
  dsimp only
  rw [h]
  simp
theorem read_nan {b : Nat} (h : NanP b) : ∃ s m, Ieee.double.read b = .nan s m := by
  have e2 : Ieee.double.binade = 4503599627370496 := by decide
  have e3 : Ieee.double.infRung = 9218868437227405312 := by decide
  have e4 : Ieee.double.signWeight = 9223372036854775808 := by decide
  unfold NanP at h
  unfold Ieee.Format.read
  rw [e2, e3, e4]
  dsimp only
  rw [if_neg (by omega), if_neg (by omega), if_neg (by omega)]
  exact ⟨_, _, rfl⟩
theorem order_nan {a b : Nat} (h : NanP a ∨ NanP b) : Ieee.double.order a b = none := by
  unfold Ieee.Format.order
  rcases h with h | h
  · obtain ⟨s, m, hr⟩ := read_nan h; rw [hr]; rfl
  · obtain ⟨s, m, hr⟩ := read_nan h; rw [hr]
    cases Ieee.double.read a <;> rfl
def rv (X : Int) : Int := if X < 0 then -(vs 4503599627370496 (rg 0 X.natAbs) : Int) else (vs 4503599627370496 (rg 0 X.natAbs) : Int)
theorem sm_word2 {X : Int} {neg : Bool} (h1 : rg 0 X.natAbs < 9218868437227405312) (hn : X ≠ 0 → neg = decide (X < 0)) : Fin64 (Ieee.double.word neg (rg 0 X.natAbs)) ∧ ux (Ieee.double.word neg (rg 0 X.natAbs)) = rv X ∧ Rn 53 X (rv X) := by
  obtain ⟨a, b, c⟩ := word_facts neg h1
  have hc : ux (Ieee.double.word neg (rg 0 X.natAbs)) = rv X := by
    rw [c]
    unfold rv
    by_cases h0 : X = 0
    · subst h0
      have h3 : vs 4503599627370496 (rg 0 (Int.natAbs 0)) = 0 := by rw [show rg 0 (Int.natAbs 0) = 0 from rfl]; simp [vs]
      rw [h3]; cases neg <;> simp
    · rw [hn h0]; by_cases h3 : X < 0 <;> simp [h3]
  refine ⟨⟨a, by rw [b]; exact h1⟩, hc, ?_⟩
  have h2 := rg_rn X.natAbs h1
  unfold rv
  by_cases h3 : X < 0
  · rw [if_pos h3]
    have := h2.neg
    rw [show -((X.natAbs : Nat) : Int) = X by omega] at this
    exact this
  · rw [if_neg h3]
    rw [show ((X.natAbs : Nat) : Int) = X by omega] at h2
    exact h2
structure DdF (h l : Nat) : Prop where
  hi : Fin64 h
  lo : Fin64 l
  fit : rg 0 (ux h + ux l).natAbs < 9218868437227405312
  eq : rv (ux h + ux l) = ux h
theorem DdF.rn {h l : Nat} (d : DdF h l) : Rn 53 (ux h + ux l) (ux h) := by
  have := (sm_word2 (neg := decide (ux h + ux l < 0)) d.fit fun _ => rfl).2.2
  rw [d.eq] at this
  exact this
def flipS (b : Nat) : Nat := if 9223372036854775808 ≤ b then b - 9223372036854775808 else b + 9223372036854775808
theorem flip_ux {b : Nat} (hb : b < 18446744073709551616) : ux (flipS b) = -ux b ∧ flipS b < 18446744073709551616 ∧ flipS b % 9223372036854775808 = b % 9223372036854775808 := by
  rw [ux_eq, ux_eq]
  unfold flipS
  split
  · rename_i h
    rw [if_neg (by omega), show (b - 9223372036854775808) % 9223372036854775808 = b % 9223372036854775808 by omega]
    exact ⟨by omega, by omega, rfl⟩
  · rename_i h
    rw [if_pos (by omega), show (b + 9223372036854775808) % 9223372036854775808 = b % 9223372036854775808 by omega]
    exact ⟨by omega, by omega, rfl⟩
theorem rv_neg (X : Int) : rv (-X) = -rv X := by
  unfold rv
  rw [Int.natAbs_neg]
  rcases Int.lt_trichotomy X 0 with h | h | h
  · rw [if_neg (by omega), if_pos h]; omega
  · subst h
    have h3 : vs 4503599627370496 (rg 0 (Int.natAbs 0)) = 0 := by rw [show rg 0 (Int.natAbs 0) = 0 from rfl]; simp [vs]
    rw [h3]; simp
  · rw [if_pos (by omega), if_neg (by omega)]
theorem Fin64.flipS {b : Nat} (h : Fin64 b) : Fin64 (flipS b) := by
  obtain ⟨_, h2, h3⟩ := flip_ux h.lt
  exact ⟨h2, by rw [h3]; exact h.fin⟩
theorem DdF.neg {h l : Nat} (d : DdF h l) : DdF (flipS h) (flipS l) := by
  have h1 := (flip_ux d.hi.lt).1
  have h2 := (flip_ux d.lo.lt).1
  have h3 : ux (flipS h) + ux (flipS l) = -(ux h + ux l) := by rw [h1, h2]; omega
  refine ⟨d.hi.flipS, d.lo.flipS, ?_, ?_⟩
  · rw [h3, Int.natAbs_neg]; exact d.fit
  · rw [h3, rv_neg, d.eq, h1]
end Go.Proofs.YtionkfnapodhbaaDoor
namespace Go.Proofs.YtionkfnapodhbaaDoor
open Go.RowKit Go.Shelf
set_option maxRecDepth 20000
set_option maxHeartbeats 0
structure B3q (W : World) (g : Nat) (v0 v1 v2 : Value) : Prop where
  c0 : W.cell? ⟨g, 0, none⟩ = some v0
  c1 : W.cell? ⟨g, 1, none⟩ = some v1
  c2 : W.cell? ⟨g, 2, none⟩ = some v2
  f0 : W.frozen? ⟨g, 0, none⟩ = false
  f1 : W.frozen? ⟨g, 1, none⟩ = false
  f2 : W.frozen? ⟨g, 2, none⟩ = false
theorem B3q.lt {w : World} {g : Nat} {a b c : Value} (h : B3q w g a b c) : g < w.heap.size := World.block_lt_of_cell? w _ h.c0
theorem B3q.below {W W' : World} {g : Nat} {v0 v1 v2 : Value} (h : B3q W g v0 v1 v2) (hb : Below W.heap.size W W') : B3q W' g v0 v1 v2 := by
  have hl : g < W.heap.size := World.block_lt_of_cell? W _ h.c0
  exact ⟨(hb.cell (p := ⟨g, 0, none⟩) hl).trans h.c0, (hb.cell (p := ⟨g, 1, none⟩) hl).trans h.c1, (hb.cell (p := ⟨g, 2, none⟩) hl).trans h.c2, (hb.frozen (p := ⟨g, 0, none⟩) hl).trans h.f0, (hb.frozen (p := ⟨g, 1, none⟩) hl).trans h.f1, (hb.frozen (p := ⟨g, 2, none⟩) hl).trans h.f2⟩
theorem B3q.new (w : World) (ty : TypeId) (v0 v1 v2 : Value) : B3q (w.alloc (.cells #[v0, v1, v2] ty)) w.heap.size v0 v1 v2 := ⟨by go_simp, by go_simp, by go_simp, by go_simp, by go_simp, by go_simp⟩
def DFm (z e : Int) : Prop := (z = 0 ∧ e = 0) ∨ (z % 2 = 1 ∧ -1048576 ≤ e ∧ e ≤ 1048576)
structure DN (w : World) (s : Bool) (p : Option Addr) (m c : Nat) (e z : Int) : Prop where
  zn : ZN w s p m c z
  fm : DFm z e
theorem DN.below {w w' : World} {s : Bool} {p : Option Addr} {m c : Nat} {e z : Int} (h : DN w s p m c e z) (hb : Below w.heap.size w w') : DN w' s p m c e z := ⟨h.zn.below hb, h.fm⟩
def dv (z e : Int) : Int := z * ((2 ^ (e + 4194304).toNat : Nat) : Int)
theorem vs_max {r : Nat} (h : r < 9218868437227405312) : vs 4503599627370496 r ≤ MaxU := by
  obtain ⟨K, hK⟩ : ∃ K, K = 2045 := ⟨_, rfl⟩
  rw [MaxU_eq hK]
  unfold vs
  refine Nat.mul_le_mul (by omega) (p2le (by omega))
theorem ux_pos {r : Nat} (h : r < 9223372036854775808) : ux r = (vs 4503599627370496 r : Int) := by
  rw [ux_eq, if_neg (by omega), Nat.mod_eq_of_lt h]
theorem ux_max : ux 9218868437227405311 = (MaxU : Int) := by
  rw [ux_pos (by decide)]
  have h : vs 4503599627370496 9218868437227405311 = MaxU := by decide +kernel
  rw [h]
theorem order_max {r : Nat} (h : r < 9218868437227405312) : FloatKind.f64.format.order r 9218868437227405311 = some .lt ∨ FloatKind.f64.format.order r 9218868437227405311 = some .eq := by
  have e : FloatKind.f64.format.order r 9218868437227405311 = Ieee.double.order r 9218868437227405311 := rfl
  rw [e, order_fin ⟨by omega, by omega⟩ ⟨by decide, by decide⟩, ux_max, ux_pos (by omega), ordI]
  have := vs_max h
  rcases Nat.lt_or_eq_of_le this with h1 | h1
  · rw [if_pos (by omega)]; exact .inl rfl
  · rw [if_neg (by omega), if_pos (by omega)]; exact .inr rfl
theorem order_inf_max : FloatKind.f64.format.order 9218868437227405312 9218868437227405311 = some .gt := by decide +kernel
theorem mabs (x : Nat) (hx : x < 18446744073709551616) (w : World) : Calls Tryd.prog 12 #[Fv x] w fun en w' => en = .returned (Fv (x % 9223372036854775808)) ∧ w' = w := by
  have bo1 : ∀ w, (callFunc 11 #[Fv x]).run Tryd.prog w = .ok (.value (.int .u64 (x : Int))) w := fun w => bitsOf x w
  have br3 : bits BinOp.andNot IntKind.u64 (x : Int) 9223372036854775808 = ((x % 9223372036854775808 : Nat) : Int) := sign_andNot x 9223372036854775808 63 (by decide) (by omega) (by omega)
  generalize x % 9223372036854775808 = y at br3 ⊢
  have fb2 : ∀ w, (callFunc 16 #[.int .u64 (y : Int)]).run Tryd.prog w = .ok (.value (Fv y)) w := fun w => frombits _ w
  go_enter Tryd.func12, Tryd.ntmps12
  go_wp2_with fail
  go_ret
  exact ⟨rfl, rfl⟩
theorem isinf (x : Nat) (hx : x < 18446744073709551616) (w : World) : Calls Tryd.prog 14 #[Fv x, .int .i64 0] w fun en w' => en = .returned (.bool (decide (x % 9223372036854775808 = 9218868437227405312))) ∧ w' = w := by
  have HX := mabs x hx
  generalize hy : x % 9223372036854775808 = y at HX ⊢
  have hc : ∃ o, FloatKind.f64.format.order y 9218868437227405311 = o ∧ (o == some .gt) = decide (y = 9218868437227405312) := by
    rcases Nat.lt_trichotomy y 9218868437227405312 with h | h | h
    · have : decide (y = 9218868437227405312) = false := decide_eq_false (by omega)
      rcases order_max h with h1 | h1
      · exact ⟨_, h1, by rw [this]; rfl⟩
      · exact ⟨_, h1, by rw [this]; rfl⟩
    · subst h; exact ⟨_, order_inf_max, by simp⟩
    · have : decide (y = 9218868437227405312) = false := decide_eq_false (by omega)
      exact ⟨none, order_nan (.inl (by unfold NanP; omega)), by rw [this]; rfl⟩
  obtain ⟨o, ho, hb⟩ := hc
  rw [← hb]
  clear hb hy hx
  go_enter Tryd.func14, Tryd.ntmps14
  go_wp2_with fail
  refine (HX _).mono ?_
  rintro e v9 ⟨rfl, hw⟩
  obtain rfl := hw.symm
  clear hw
  rcases o with _ | _ | _ | _
  all_goals
    go_wp2_with fail
    go_ret
    exact ⟨by kernel_rfl, rfl⟩
theorem isnan (x : Nat) (hx : x < 18446744073709551616) (w : World) : Calls Tryd.prog 13 #[Fv x] w fun en w' => en = .returned (.bool (decide (9218868437227405312 < x % 9223372036854775808))) ∧ w' = w := by
  have hc : ∃ o, FloatKind.f64.format.order x x = o ∧ (o != some .eq) = decide (9218868437227405312 < x % 9223372036854775808) := by
    rcases three64 x hx with h | h | h
    · refine ⟨_, order_fin h h, ?_⟩
      rw [ordI, if_neg (by omega), if_pos rfl, decide_eq_false (by have := h.fin; omega)]; rfl
    · refine ⟨some .eq, ?_, ?_⟩
      · show Ieee.double.order x x = _
        unfold Ieee.Format.order
        rw [read_inf h]
        unfold Ieee.Datum.order
        cases (x / 9223372036854775808 % 2 == 1) <;> rfl
      · unfold InfP at h
        rw [decide_eq_false (by omega)]; rfl
    · refine ⟨none, order_nan (.inl h), ?_⟩
      unfold NanP at h
      rw [decide_eq_true h]; rfl
  obtain ⟨o, ho, hb⟩ := hc
  rw [← hb]
  clear hb hx
  go_enter Tryd.func13, Tryd.ntmps13
  rcases o with _ | _ | _ | _
  all_goals
    go_wp2_with fail
    go_ret
    exact ⟨by kernel_rfl, rfl⟩
theorem exp_and (b E : Nat) (h : b / 4503599627370496 = E) (hE : E < 2048) : bits BinOp.and IntKind.u64 ((b : Int) / 4503599627370496) 2047 = (E : Int) := by
  have h1 : (b : Int) / 4503599627370496 = (E : Int) := by omega
  rw [h1, show (2047 : Int) = ((2047 : Nat) : Int) from rfl, bits_and_u64_nat E 2047 (by omega) (by omega), show (2047 : Nat) = 2 ^ 11 - 1 by decide, Nat.and_two_pow_sub_one_eq_mod, Nat.mod_eq_of_lt (by simpa using hE)]
theorem sign_and0 (b : Nat) (h : b < 9223372036854775808) : bits BinOp.and IntKind.u64 (b : Int) 9223372036854775808 = 0 := by
  have h1 := bits_and_u64_nat b 9223372036854775808 (by omega) (by omega)
  rw [show ((9223372036854775808 : Nat) : Int) = 9223372036854775808 from rfl] at h1
  have h2 : b &&& 9223372036854775808 = 0 := by
    apply Nat.eq_of_testBit_eq
    intro i
    rw [Nat.testBit_and, show (9223372036854775808 : Nat) = 2 ^ 63 by decide, Nat.testBit_two_pow, Nat.zero_testBit]
    by_cases hi : 63 = i
    · subst hi; rw [Nat.testBit_lt_two_pow (by simpa using h)]; rfl
    · rw [decide_eq_false hi, Bool.and_false]
  rw [h1, h2]
  rfl
theorem mround_low (b : Nat) (hb : b < 4602678819172646912) (w : World) :
    Calls Tryd.prog 15 #[Fv b] w fun en w' => en = .returned (Fv 0) ∧ w' = w := by
  have bo1 : ∀ w, (callFunc 11 #[Fv b]).run Tryd.prog w = .ok (.value (.int .u64 (b : Int))) w := fun w => bitsOf b w
  have fb1 : ∀ w, (callFunc 16 #[.int .u64 0]).run Tryd.prog w = .ok (.value (Fv 0)) w := fun w => frombits 0 w
  obtain ⟨E, hE⟩ : ∃ E, E = b / 4503599627370496 := ⟨_, rfl⟩
  have e0 := exp_and b E hE.symm (by omega)
  have e1 : decide ((E : Int) < 1023) = true := decide_eq_true (by omega)
  have e2 : ((E : Int) == 1022) = false := by simp; omega
  have e3 := sign_and0 b (by omega)
  clear hb hE
  go_enter Tryd.func15, Tryd.ntmps15
  go_wp2_with fail
  go_ret
  exact ⟨rfl, rfl⟩
theorem mround_half (b : Nat) (hb : 4602678819172646912 ≤ b) (hb2 : b < 4607182418800017408) (w : World) :
    Calls Tryd.prog 15 #[Fv b] w fun en w' => en = .returned (Fv 4607182418800017408) ∧ w' = w := by
  have bo1 : ∀ w, (callFunc 11 #[Fv b]).run Tryd.prog w = .ok (.value (.int .u64 (b : Int))) w := fun w => bitsOf b w
  have fb2 : ∀ w, (callFunc 16 #[.int .u64 4607182418800017408]).run Tryd.prog w = .ok (.value (Fv 4607182418800017408)) w := fun w => frombits 4607182418800017408 w
  have e0 := exp_and b 1022 (by omega) (by omega)
  rw [show ((1022 : Nat) : Int) = 1022 from rfl] at e0
  have e3 := sign_and0 b (by omega)
  have e4 : bits BinOp.or IntKind.u64 0 4607182418800017408 = 4607182418800017408 := by kernel_rfl
  clear hb hb2
  go_enter Tryd.func15, Tryd.ntmps15
  go_wp2_with fail
  go_ret
  exact ⟨rfl, rfl⟩
theorem mround_0 (b f j : Nat) (hf : f < 4503599627370496) (hb : b = 1023 * 4503599627370496 + f) (hj : j = (4503599627370496 + f + 2251799813685248) / 4503599627370496) (w : World) :
    Calls Tryd.prog 15 #[Fv b] w fun en w' => en = .returned (Fv (1022 * 4503599627370496 + j * 4503599627370496)) ∧ w' = w := by
  have bo1 : ∀ w, (callFunc 11 #[Fv b]).run Tryd.prog w = .ok (.value (.int .u64 (b : Int))) w := fun w => bitsOf b w
  have hR := round_pat 0 f b j (by omega) hf hb hj
  obtain ⟨R, hRe⟩ : ∃ R, R = 1022 * 4503599627370496 + j * 4503599627370496 := ⟨_, rfl⟩
  have hR2 : (b + 2251799813685248) / 4503599627370496 * 4503599627370496 = R := by rw [hRe]; exact hR.1
  have e0 := exp_and b 1023 (by omega) (by omega)
  rw [show ((1023 : Nat) : Int) = 1023 from rfl] at e0
  obtain ⟨b2, hb2⟩ : ∃ b2, b2 = b + 2251799813685248 := ⟨_, rfl⟩
  have e1 : IntKind.u64.wrap ((b : Int) + 2251799813685248) = (b2 : Int) := by rw [IntKind.wrap_u64]; omega
  have e2 : bits BinOp.andNot IntKind.u64 (b2 : Int) 4503599627370495 = (R : Int) := by
    have h1 := low_andNot b2 52 (by omega)
    rw [show ((2 ^ 52 - 1 : Nat) : Int) = 4503599627370495 from by decide, show (2 : Nat) ^ 52 = 4503599627370496 by decide, hb2, hR2] at h1
    rw [hb2]; exact h1
  have fb1 : ∀ w, (callFunc 16 #[.int .u64 (R : Int)]).run Tryd.prog w = .ok (.value (Fv R)) w := fun w => frombits R w
  rw [← hRe]
  clear hR hRe hR2 hf hb hj hb2
  go_enter Tryd.func15, Tryd.ntmps15
  go_wp2_with fail
  go_ret
  exact ⟨rfl, rfl⟩
theorem mround_1 (b f j : Nat) (hf : f < 4503599627370496) (hb : b = 1024 * 4503599627370496 + f) (hj : j = (4503599627370496 + f + 1125899906842624) / 2251799813685248) (w : World) :
    Calls Tryd.prog 15 #[Fv b] w fun en w' => en = .returned (Fv (1023 * 4503599627370496 + j * 2251799813685248)) ∧ w' = w := by
  have bo1 : ∀ w, (callFunc 11 #[Fv b]).run Tryd.prog w = .ok (.value (.int .u64 (b : Int))) w := fun w => bitsOf b w
  have hR := round_pat 1 f b j (by omega) hf hb hj
  obtain ⟨R, hRe⟩ : ∃ R, R = 1023 * 4503599627370496 + j * 2251799813685248 := ⟨_, rfl⟩
  have hR2 : (b + 1125899906842624) / 2251799813685248 * 2251799813685248 = R := by rw [hRe]; exact hR.1
  have e0 := exp_and b 1024 (by omega) (by omega)
  rw [show ((1024 : Nat) : Int) = 1024 from rfl] at e0
  obtain ⟨b2, hb2⟩ : ∃ b2, b2 = b + 1125899906842624 := ⟨_, rfl⟩
  have e1 : IntKind.u64.wrap ((b : Int) + 1125899906842624) = (b2 : Int) := by rw [IntKind.wrap_u64]; omega
  have e2 : bits BinOp.andNot IntKind.u64 (b2 : Int) 2251799813685247 = (R : Int) := by
    have h1 := low_andNot b2 51 (by omega)
    rw [show ((2 ^ 51 - 1 : Nat) : Int) = 2251799813685247 from by decide, show (2 : Nat) ^ 51 = 2251799813685248 by decide, hb2, hR2] at h1
    rw [hb2]; exact h1
  have fb1 : ∀ w, (callFunc 16 #[.int .u64 (R : Int)]).run Tryd.prog w = .ok (.value (Fv R)) w := fun w => frombits R w
  rw [← hRe]
  clear hR hRe hR2 hf hb hj hb2
  go_enter Tryd.func15, Tryd.ntmps15
  go_wp2_with fail
  go_ret
  exact ⟨rfl, rfl⟩
theorem mround_2 (b f j : Nat) (hf : f < 4503599627370496) (hb : b = 1025 * 4503599627370496 + f) (hj : j = (4503599627370496 + f + 562949953421312) / 1125899906842624) (w : World) :
    Calls Tryd.prog 15 #[Fv b] w fun en w' => en = .returned (Fv (1024 * 4503599627370496 + j * 1125899906842624)) ∧ w' = w := by
  have bo1 : ∀ w, (callFunc 11 #[Fv b]).run Tryd.prog w = .ok (.value (.int .u64 (b : Int))) w := fun w => bitsOf b w
  have hR := round_pat 2 f b j (by omega) hf hb hj
  obtain ⟨R, hRe⟩ : ∃ R, R = 1024 * 4503599627370496 + j * 1125899906842624 := ⟨_, rfl⟩
  have hR2 : (b + 562949953421312) / 1125899906842624 * 1125899906842624 = R := by rw [hRe]; exact hR.1
  have e0 := exp_and b 1025 (by omega) (by omega)
  rw [show ((1025 : Nat) : Int) = 1025 from rfl] at e0
  obtain ⟨b2, hb2⟩ : ∃ b2, b2 = b + 562949953421312 := ⟨_, rfl⟩
  have e1 : IntKind.u64.wrap ((b : Int) + 562949953421312) = (b2 : Int) := by rw [IntKind.wrap_u64]; omega
  have e2 : bits BinOp.andNot IntKind.u64 (b2 : Int) 1125899906842623 = (R : Int) := by
    have h1 := low_andNot b2 50 (by omega)
    rw [show ((2 ^ 50 - 1 : Nat) : Int) = 1125899906842623 from by decide, show (2 : Nat) ^ 50 = 1125899906842624 by decide, hb2, hR2] at h1
    rw [hb2]; exact h1
  have fb1 : ∀ w, (callFunc 16 #[.int .u64 (R : Int)]).run Tryd.prog w = .ok (.value (Fv R)) w := fun w => frombits R w
  rw [← hRe]
  clear hR hRe hR2 hf hb hj hb2
  go_enter Tryd.func15, Tryd.ntmps15
  go_wp2_with fail
  go_ret
  exact ⟨rfl, rfl⟩
theorem mround_3 (b f j : Nat) (hf : f < 4503599627370496) (hb : b = 1026 * 4503599627370496 + f) (hj : j = (4503599627370496 + f + 281474976710656) / 562949953421312) (w : World) :
    Calls Tryd.prog 15 #[Fv b] w fun en w' => en = .returned (Fv (1025 * 4503599627370496 + j * 562949953421312)) ∧ w' = w := by
  have bo1 : ∀ w, (callFunc 11 #[Fv b]).run Tryd.prog w = .ok (.value (.int .u64 (b : Int))) w := fun w => bitsOf b w
  have hR := round_pat 3 f b j (by omega) hf hb hj
  obtain ⟨R, hRe⟩ : ∃ R, R = 1025 * 4503599627370496 + j * 562949953421312 := ⟨_, rfl⟩
  have hR2 : (b + 281474976710656) / 562949953421312 * 562949953421312 = R := by rw [hRe]; exact hR.1
  have e0 := exp_and b 1026 (by omega) (by omega)
  rw [show ((1026 : Nat) : Int) = 1026 from rfl] at e0
  obtain ⟨b2, hb2⟩ : ∃ b2, b2 = b + 281474976710656 := ⟨_, rfl⟩
  have e1 : IntKind.u64.wrap ((b : Int) + 281474976710656) = (b2 : Int) := by rw [IntKind.wrap_u64]; omega
  have e2 : bits BinOp.andNot IntKind.u64 (b2 : Int) 562949953421311 = (R : Int) := by
    have h1 := low_andNot b2 49 (by omega)
    rw [show ((2 ^ 49 - 1 : Nat) : Int) = 562949953421311 from by decide, show (2 : Nat) ^ 49 = 562949953421312 by decide, hb2, hR2] at h1
    rw [hb2]; exact h1
  have fb1 : ∀ w, (callFunc 16 #[.int .u64 (R : Int)]).run Tryd.prog w = .ok (.value (Fv R)) w := fun w => frombits R w
  rw [← hRe]
  clear hR hRe hR2 hf hb hj hb2
  go_enter Tryd.func15, Tryd.ntmps15
  go_wp2_with fail
  go_ret
  exact ⟨rfl, rfl⟩
theorem mround_4 (b f j : Nat) (hf : f < 4503599627370496) (hb : b = 1027 * 4503599627370496 + f) (hj : j = (4503599627370496 + f + 140737488355328) / 281474976710656) (w : World) :
    Calls Tryd.prog 15 #[Fv b] w fun en w' => en = .returned (Fv (1026 * 4503599627370496 + j * 281474976710656)) ∧ w' = w := by
  have bo1 : ∀ w, (callFunc 11 #[Fv b]).run Tryd.prog w = .ok (.value (.int .u64 (b : Int))) w := fun w => bitsOf b w
  have hR := round_pat 4 f b j (by omega) hf hb hj
  obtain ⟨R, hRe⟩ : ∃ R, R = 1026 * 4503599627370496 + j * 281474976710656 := ⟨_, rfl⟩
  have hR2 : (b + 140737488355328) / 281474976710656 * 281474976710656 = R := by rw [hRe]; exact hR.1
  have e0 := exp_and b 1027 (by omega) (by omega)
  rw [show ((1027 : Nat) : Int) = 1027 from rfl] at e0
  obtain ⟨b2, hb2⟩ : ∃ b2, b2 = b + 140737488355328 := ⟨_, rfl⟩
  have e1 : IntKind.u64.wrap ((b : Int) + 140737488355328) = (b2 : Int) := by rw [IntKind.wrap_u64]; omega
  have e2 : bits BinOp.andNot IntKind.u64 (b2 : Int) 281474976710655 = (R : Int) := by
    have h1 := low_andNot b2 48 (by omega)
    rw [show ((2 ^ 48 - 1 : Nat) : Int) = 281474976710655 from by decide, show (2 : Nat) ^ 48 = 281474976710656 by decide, hb2, hR2] at h1
    rw [hb2]; exact h1
  have fb1 : ∀ w, (callFunc 16 #[.int .u64 (R : Int)]).run Tryd.prog w = .ok (.value (Fv R)) w := fun w => frombits R w
  rw [← hRe]
  clear hR hRe hR2 hf hb hj hb2
  go_enter Tryd.func15, Tryd.ntmps15
  go_wp2_with fail
  go_ret
  exact ⟨rfl, rfl⟩
theorem mround_5 (b f j : Nat) (hf : f < 4503599627370496) (hb : b = 1028 * 4503599627370496 + f) (hj : j = (4503599627370496 + f + 70368744177664) / 140737488355328) (w : World) :
    Calls Tryd.prog 15 #[Fv b] w fun en w' => en = .returned (Fv (1027 * 4503599627370496 + j * 140737488355328)) ∧ w' = w := by
  have bo1 : ∀ w, (callFunc 11 #[Fv b]).run Tryd.prog w = .ok (.value (.int .u64 (b : Int))) w := fun w => bitsOf b w
  have hR := round_pat 5 f b j (by omega) hf hb hj
  obtain ⟨R, hRe⟩ : ∃ R, R = 1027 * 4503599627370496 + j * 140737488355328 := ⟨_, rfl⟩
  have hR2 : (b + 70368744177664) / 140737488355328 * 140737488355328 = R := by rw [hRe]; exact hR.1
  have e0 := exp_and b 1028 (by omega) (by omega)
  rw [show ((1028 : Nat) : Int) = 1028 from rfl] at e0
  obtain ⟨b2, hb2⟩ : ∃ b2, b2 = b + 70368744177664 := ⟨_, rfl⟩
  have e1 : IntKind.u64.wrap ((b : Int) + 70368744177664) = (b2 : Int) := by rw [IntKind.wrap_u64]; omega
  have e2 : bits BinOp.andNot IntKind.u64 (b2 : Int) 140737488355327 = (R : Int) := by
    have h1 := low_andNot b2 47 (by omega)
    rw [show ((2 ^ 47 - 1 : Nat) : Int) = 140737488355327 from by decide, show (2 : Nat) ^ 47 = 140737488355328 by decide, hb2, hR2] at h1
    rw [hb2]; exact h1
  have fb1 : ∀ w, (callFunc 16 #[.int .u64 (R : Int)]).run Tryd.prog w = .ok (.value (Fv R)) w := fun w => frombits R w
  rw [← hRe]
  clear hR hRe hR2 hf hb hj hb2
  go_enter Tryd.func15, Tryd.ntmps15
  go_wp2_with fail
  go_ret
  exact ⟨rfl, rfl⟩
theorem ux_64 {K : Nat} (hK : K = 1074) : ux 4634204016564240384 = ((64 * 2 ^ K : Nat) : Int) := by
  obtain ⟨c, hc⟩ : ∃ c, c = 1028 := ⟨_, rfl⟩
  rw [ux_pos (by decide)]
  have h := vs_E c 4503599627370496 (by omega) (by omega)
  rw [show c * 4503599627370496 + 4503599627370496 = 4634204016564240384 by subst hc; rfl] at h
  rw [h]
  have e : 4503599627370496 * 2 ^ c = 64 * 2 ^ K := by
    rw [show 4503599627370496 = 2 ^ 52 by decide, show 64 = 2 ^ 6 by decide, ← Nat.pow_add, ← Nat.pow_add, show 52 + c = 6 + K by clear h; omega]
  rw [e]
theorem word_false (r : Nat) : Ieee.double.word false r = r := by unfold Ieee.Format.word; simp
theorem mul64 (s : Nat) (hs : s ≤ 4605493568939753472) : floatBits .mul .f64 4634204016564240384 s = some (rg 0 (64 * vs 4503599627370496 s)) := by
  obtain ⟨K, hK⟩ : ∃ K, K = 1074 := ⟨_, rfl⟩
  rw [fmul_any ⟨by decide, by decide⟩ ⟨by omega, by omega⟩, ux_64 hK, ux_pos (by omega), Int.natAbs_natCast, Int.natAbs_natCast, ← hK, show 64 * 2 ^ K * vs 4503599627370496 s = 64 * vs 4503599627370496 s * 2 ^ K by rw [Nat.mul_assoc, Nat.mul_comm (2 ^ K), ← Nat.mul_assoc], rgc_int, decide_eq_false (show ¬ 9223372036854775808 ≤ 4634204016564240384 by decide), decide_eq_false (show ¬ 9223372036854775808 ≤ s by omega), Bool.xor_false, word_false]
theorem order_top (s : Nat) (hs : s < 9218868437227405312) : FloatKind.f64.format.order s 4605493568939753472 = some (if s < 4605493568939753472 then .lt else if s = 4605493568939753472 then .eq else .gt) := by
  have e : FloatKind.f64.format.order s 4605493568939753472 = Ieee.double.order s 4605493568939753472 := rfl
  rw [e, order_fin ⟨by omega, by omega⟩ ⟨by decide, by decide⟩, ux_pos (by omega), ux_pos (by omega), ordI]
  rcases Nat.lt_trichotomy s 4605493568939753472 with h | h | h
  · have := vs_mono (H := 4503599627370496) (by decide) h
    rw [if_pos (by omega), if_pos h]
  · subst h; rw [if_neg (by omega), if_pos rfl, if_neg (by omega), if_pos rfl]
  · have := vs_mono (H := 4503599627370496) (by decide) h
    rw [if_neg (by omega), if_neg (by omega), if_neg (by omega), if_neg (by omega)]
theorem mround_all {K : Nat} (hK : K = 1074) (s : Nat) (hs : s ≤ 4605493568939753472) (w : World) : Calls Tryd.prog 15 #[Fv (rg 0 (64 * vs 4503599627370496 s))] w fun en w' => ∃ R, en = .returned (Fv R) ∧ w' = w ∧ floatToIntVal .f64 R .i64 = some (plcN K s : Int) := by
  by_cases h1 : s < 4575657221408423936
  · have hP : rg 0 (64 * vs 4503599627370496 s) < 4602678819172646912 := by
      by_cases h2 : s < 4503599627370496
      · have := rg_64_low h2; omega
      · rw [rg_64 (by omega) (by omega)]; omega
    refine (mround_low _ hP w).mono ?_
    rintro en w' ⟨rfl, rfl⟩
    exact ⟨0, rfl, rfl, by rw [plc_low hK h1]; decide +kernel⟩
  rw [rg_64 (by omega) (by omega)]
  by_cases h2 : s < 4580160821035794432
  · refine (mround_half _ (by omega) (by omega) w).mono ?_
    rintro en w' ⟨rfl, rfl⟩
    refine ⟨_, rfl, rfl, ?_⟩
    have hp := plc_at K 1015 0 (s - 1016 * 4503599627370496) (by omega) (by omega) rfl hK
    rw [show (1016 + 0) * 4503599627370496 + (s - 1016 * 4503599627370496) = s by omega] at hp
    rw [hp, show (4503599627370496 + (s - 1016 * 4503599627370496) + 2 ^ (52 - 0)) / 2 ^ (53 - 0) = 1 by simp only [Nat.reducePow, Nat.reduceSub]; omega]
    decide +kernel
  by_cases h3 : s < 4584664420663164928
  · obtain ⟨f, hf⟩ : ∃ f, f = s - 1017 * 4503599627370496 := ⟨_, rfl⟩
    obtain ⟨j, hj⟩ : ∃ j, j = (4503599627370496 + f + 2251799813685248) / 4503599627370496 := ⟨_, rfl⟩
    refine (mround_0 _ f j (by omega) (by omega) hj w).mono ?_
    rintro en w' ⟨rfl, rfl⟩
    refine ⟨_, rfl, rfl, ?_⟩
    have hp := plc_at K 1016 1 f (by omega) (by omega) rfl hK
    rw [show (1016 + 1) * 4503599627370496 + f = s by omega, show (4503599627370496 + f + 2 ^ (52 - 1)) / 2 ^ (53 - 1) = j by simp only [Nat.reducePow, Nat.reduceSub]; omega] at hp
    rw [hp]
    have hc := conv_all 0 (by omega) j (by omega) (by simp only [Nat.reducePow]; omega) (by simp only [Nat.reduceAdd, Nat.reducePow]; omega)
    simp only [Nat.reducePow, Nat.reduceSub, Nat.reduceAdd, Nat.reduceMul] at hc ⊢
    exact hc
  by_cases h4 : s < 4589168020290535424
  · obtain ⟨f, hf⟩ : ∃ f, f = s - 1018 * 4503599627370496 := ⟨_, rfl⟩
    obtain ⟨j, hj⟩ : ∃ j, j = (4503599627370496 + f + 1125899906842624) / 2251799813685248 := ⟨_, rfl⟩
    refine (mround_1 _ f j (by omega) (by omega) hj w).mono ?_
    rintro en w' ⟨rfl, rfl⟩
    refine ⟨_, rfl, rfl, ?_⟩
    have hp := plc_at K 1017 2 f (by omega) (by omega) rfl hK
    rw [show (1016 + 2) * 4503599627370496 + f = s by omega, show (4503599627370496 + f + 2 ^ (52 - 2)) / 2 ^ (53 - 2) = j by simp only [Nat.reducePow, Nat.reduceSub]; omega] at hp
    rw [hp]
    have hc := conv_all 1 (by omega) j (by omega) (by simp only [Nat.reducePow]; omega) (by simp only [Nat.reduceAdd, Nat.reducePow]; omega)
    simp only [Nat.reducePow, Nat.reduceSub, Nat.reduceAdd, Nat.reduceMul] at hc ⊢
    exact hc
  by_cases h5 : s < 4593671619917905920
  · obtain ⟨f, hf⟩ : ∃ f, f = s - 1019 * 4503599627370496 := ⟨_, rfl⟩
    obtain ⟨j, hj⟩ : ∃ j, j = (4503599627370496 + f + 562949953421312) / 1125899906842624 := ⟨_, rfl⟩
    refine (mround_2 _ f j (by omega) (by omega) hj w).mono ?_
    rintro en w' ⟨rfl, rfl⟩
    refine ⟨_, rfl, rfl, ?_⟩
    have hp := plc_at K 1018 3 f (by omega) (by omega) rfl hK
    rw [show (1016 + 3) * 4503599627370496 + f = s by omega, show (4503599627370496 + f + 2 ^ (52 - 3)) / 2 ^ (53 - 3) = j by simp only [Nat.reducePow, Nat.reduceSub]; omega] at hp
    rw [hp]
    have hc := conv_all 2 (by omega) j (by omega) (by simp only [Nat.reducePow]; omega) (by simp only [Nat.reduceAdd, Nat.reducePow]; omega)
    simp only [Nat.reducePow, Nat.reduceSub, Nat.reduceAdd, Nat.reduceMul] at hc ⊢
    exact hc
  by_cases h6 : s < 4598175219545276416
  · obtain ⟨f, hf⟩ : ∃ f, f = s - 1020 * 4503599627370496 := ⟨_, rfl⟩
    obtain ⟨j, hj⟩ : ∃ j, j = (4503599627370496 + f + 281474976710656) / 562949953421312 := ⟨_, rfl⟩
    refine (mround_3 _ f j (by omega) (by omega) hj w).mono ?_
    rintro en w' ⟨rfl, rfl⟩
    refine ⟨_, rfl, rfl, ?_⟩
    have hp := plc_at K 1019 4 f (by omega) (by omega) rfl hK
    rw [show (1016 + 4) * 4503599627370496 + f = s by omega, show (4503599627370496 + f + 2 ^ (52 - 4)) / 2 ^ (53 - 4) = j by simp only [Nat.reducePow, Nat.reduceSub]; omega] at hp
    rw [hp]
    have hc := conv_all 3 (by omega) j (by omega) (by simp only [Nat.reducePow]; omega) (by simp only [Nat.reduceAdd, Nat.reducePow]; omega)
    simp only [Nat.reducePow, Nat.reduceSub, Nat.reduceAdd, Nat.reduceMul] at hc ⊢
    exact hc
  by_cases h7 : s < 4602678819172646912
  · obtain ⟨f, hf⟩ : ∃ f, f = s - 1021 * 4503599627370496 := ⟨_, rfl⟩
    obtain ⟨j, hj⟩ : ∃ j, j = (4503599627370496 + f + 140737488355328) / 281474976710656 := ⟨_, rfl⟩
    refine (mround_4 _ f j (by omega) (by omega) hj w).mono ?_
    rintro en w' ⟨rfl, rfl⟩
    refine ⟨_, rfl, rfl, ?_⟩
    have hp := plc_at K 1020 5 f (by omega) (by omega) rfl hK
    rw [show (1016 + 5) * 4503599627370496 + f = s by omega, show (4503599627370496 + f + 2 ^ (52 - 5)) / 2 ^ (53 - 5) = j by simp only [Nat.reducePow, Nat.reduceSub]; omega] at hp
    rw [hp]
    have hc := conv_all 4 (by omega) j (by omega) (by simp only [Nat.reducePow]; omega) (by simp only [Nat.reduceAdd, Nat.reducePow]; omega)
    simp only [Nat.reducePow, Nat.reduceSub, Nat.reduceAdd, Nat.reduceMul] at hc ⊢
    exact hc
  · obtain ⟨f, hf⟩ : ∃ f, f = s - 1022 * 4503599627370496 := ⟨_, rfl⟩
    obtain ⟨j, hj⟩ : ∃ j, j = (4503599627370496 + f + 70368744177664) / 140737488355328 := ⟨_, rfl⟩
    refine (mround_5 _ f j (by omega) (by omega) hj w).mono ?_
    rintro en w' ⟨rfl, rfl⟩
    refine ⟨_, rfl, rfl, ?_⟩
    have hp := plc_at K 1021 6 f (by omega) (by omega) rfl hK
    rw [show (1016 + 6) * 4503599627370496 + f = s by omega, show (4503599627370496 + f + 2 ^ (52 - 6)) / 2 ^ (53 - 6) = j by simp only [Nat.reducePow, Nat.reduceSub]; omega] at hp
    rw [hp]
    have hc := conv_all 5 (by omega) j (by omega) (by simp only [Nat.reducePow]; omega) (by simp only [Nat.reduceAdd, Nat.reducePow]; omega)
    simp only [Nat.reducePow, Nat.reduceSub, Nat.reduceAdd, Nat.reduceMul] at hc ⊢
    exact hc
theorem place_ok {K : Nat} (hK : K = 1074) (x : Nat) (hx : x < 18446744073709551616) (hl : x % 9223372036854775808 ≤ 4605493568939753472) (w : World) :
    Calls Tryd.prog 8 #[Fv x] w fun en w' => en = .returned (.tuple #[.int .i64 (plcN K (x % 9223372036854775808) : Int), .int .i64 0]) ∧ Below w.heap.size w w' := by
  have HA := mabs x hx
  have HN := isnan x hx
  have HI := isinf x hx
  obtain ⟨s, hs⟩ : ∃ s, s = x % 9223372036854775808 := ⟨_, rfl⟩
  rw [← hs] at HA HN HI
  have ho := order_top s (by omega)
  rw [decide_eq_false (show ¬ 9218868437227405312 < s by omega)] at HN
  rw [decide_eq_false (show ¬ s = 9218868437227405312 by omega)] at HI
  have ho2 : (∃ o, FloatKind.f64.format.order s 4605493568939753472 = some o ∧ (o = .lt ∨ o = .eq)) := by
    by_cases h : s < 4605493568939753472
    · rw [if_pos h] at ho; exact ⟨_, ho, .inl rfl⟩
    · rw [if_neg h, if_pos (by omega)] at ho; exact ⟨_, ho, .inr rfl⟩
  clear ho
  obtain ⟨o, ho, hoo⟩ := ho2
  have HR := mround_all hK s (by omega)
  have hm := mul64 s (by omega)
  rw [← hs]
  obtain ⟨q, hq⟩ : ∃ q, q = plcN K s := ⟨_, rfl⟩
  rw [← hq]
  rw [← hq] at HR
  generalize rg 0 (64 * vs 4503599627370496 s) = P at HR hm
  have fm : ∀ w, (binOp .mul 24 (Fv 4634204016564240384) (Fv s)).run Tryd.prog w = .ok (Fv P) w := fun w => run_float_arith w .mul 24 .f64 4634204016564240384 s P hm
  have hbw : Below w.heap.size w w := Below.refl _ _
  clear hs hl hq hm hK
  go_enter Tryd.func8, Tryd.ntmps8
  go_wp2_with fail
  refine (HA _).mono ?_
  rintro e v9 ⟨rfl, hw⟩
  obtain rfl := hw.symm
  clear hw
  go_wp2_with fail
  refine (HN _).mono ?_
  rintro e v9 ⟨rfl, hw⟩
  obtain rfl := hw.symm
  clear hw
  go_wp2_with fail
  refine (HI _).mono ?_
  rintro e v9 ⟨rfl, hw⟩
  obtain rfl := hw.symm
  clear hw
  rcases hoo with rfl | rfl
  · go_wp2_with fail
    refine (HR _).mono ?_
    rintro e v9 ⟨R, rfl, hw, hR⟩
    obtain rfl := hw.symm
    clear hw
    have hcv : ∀ w, (convert 24 3 (Fv R)).run Tryd.prog w = .ok (.int .i64 (q : Int)) w := fun w => run_convert_float_int w 24 3 .f64 .i64 R (q : Int) (by kernel_rfl) Tryd.underlying3 hR
    go_wp2_with fail
    go_ret2
    exact ⟨rfl, hbw⟩
  · go_wp2_with fail
    refine (HR _).mono ?_
    rintro e v9 ⟨R, rfl, hw, hR⟩
    obtain rfl := hw.symm
    clear hw
    have hcv : ∀ w, (convert 24 3 (Fv R)).run Tryd.prog w = .ok (.int .i64 (q : Int)) w := fun w => run_convert_float_int w 24 3 .f64 .i64 R (q : Int) (by kernel_rfl) Tryd.underlying3 hR
    go_wp2_with fail
    go_ret2
    exact ⟨rfl, hbw⟩
theorem stFs (w : World) (a : Addr) (b : Nat) : (store a (Fv b)).run Tryd.prog w = stored Tryd.prog w a (Fv b) .plain := run_store _ w a (Fv b) _ rfl
def SN : List Nat := [0, 0, 4580160454536392405, 13547579073368098678, 4584662954719242351, 13563949304181312226, 4586913746847464361, 13566418493652244858, 4589162157373738715, 13565635294520691561, 4590288195321689435, 13571915860097451659, 4591409928847315172, 4340058461531295770, 4592530015553861917, 4350074286710082760, 4593648181988224566, 13567934672008572987, 4594217887542005423, 13575801550145022373, 4594774641278281419, 4351741018788776849, 4595330026238453491, 13575806695459752374, 4595883906833248949, 4343065779550066627, 4596436147840664338, 4348722683634062205, 4596986614438977945, 4353223431030508715, 4597535172239664592, 13574744420402360258, 4598081687320204663, 13574233591919817400, 4598400622901027894, 13581162171891704500, 4598671637851060342, 4356212803758837748, 4598941432118424735, 4350852416605968391, 4599209939836720088, 4323523077633180570, 4599477095453637920, 4357271923058577069, 4599742833746965911, 4352666692703215819, 4600007089840510967, 13582162211903916717, 4600269799219937812, 13575796336720852686, 4600530897748519241, 4357413022124190944, 4600790321682794181, 13580214217610903384, 4601048007688129738, 13572214364228865741, 4601303892854183447, 13581416402800735513, 4601557914710261923, 4350934527179136935, 4601810011240572191, 13574689896800117400, 4602060120899361946, 4355214790318226842, 4602308182625945072, 13571467409308189309, 4602554135859608727, 4348745855762497699, 4602738369863522645, 13583657803099765505, 4602859148183212033, 13584816096337794294, 4602978782988901435, 4363303634146990465, 4603097245073468848, 4351425392996656264, 4603214505516095308, 4355590242459458906, 4603330535689325499, 4359101603699473614, 4603445307266056734, 13587258310203108016, 4603558792226454607, 4363824495314211675, 4603670962864793643, 13578651590041733032, 4603781791796221242, 13572694174990798784, 4603891251963443307, 13583961949702083845, 4603999316643329889, 4332702558478714268, 4604105959453439260, 13584475955338184753, 4604211154358458803, 4349496730363867543, 4604314875676561165, 4362137232034453386, 4604417098085674105, 13587040772166132762, 4604517796629662511, 13584747444859885030, 4604616946724421089, 13578607042041458003, 4604714524163876216, 13578955971649868450]
def TabSN (w : World) : Prop := ∀ j, j < 106 → w.cell? ⟨0, j, none⟩ = some (U (SN.getD j 0))
theorem TabSN.below {w w' : World} (h : TabSN w) (hb : Below w.heap.size w w') : TabSN w' := by
  intro j hj
  have h1 := h j hj
  have hl : 0 < w.heap.size := World.block_lt_of_cell? w _ h1
  exact (hb.cell (p := ⟨0, j, none⟩) hl).trans h1
def CN : List Nat := [4607182418800017408, 0, 4607181319310759071, 4360199296339566323, 4607178021111408595, 13583900207205620571, 4607172525007174047, 13580802267923385695, 4607164832339850451, 4360373087281693295, 4607154944987492207, 13577437272034865047, 4607142865363954587, 4360356363645614299, 4607128596418304433, 4354598035789022892, 4607112141634100179, 4362696058276736952, 4607093505028541395, 13570800116725065577, 4607072691151488040, 4362962654239356002, 4607049705084349686, 13586345316221922070, 4607024552438844956, 13584713310975483060, 4606997239355631511, 4354481718263263700, 4606967772502806894, 13574441066790794388, 4606936159074280607, 4358239809693653067, 4606902406788017825, 4363209716120537853, 4606866523884155164, 13568216631309222833, 4606828519122988968, 13582908836409922622, 4606788401782836611, 13583461530133150952, 4606746181657771328, 13584618491671399955, 4606701869055231132, 13584699945613158451, 4606655474793502401, 13571140830922498923, 4606607010199078750, 13586847198672795332, 4606556487103895826, 4347296784401157429, 4606503917842442716, 4363977163357160349, 4606449315248750656, 13584934786183195703, 4606392692653259782, 4359027992459594717, 4606334063879564703, 4361936029453593101, 4606273443241039662, 4351864918935878296, 4606210845537344132, 4357993302370877731, 4606146286050809694, 13574337134639884416, 4606079780542709072, 13585268877995206696, 4606011345249408245, 4355855762229825693, 4605940996878402574, 4347198757411991008, 4605868752604237902, 4348506336573684245, 4605794630064317638, 4355505676600721602, 4605718647354596837, 4362012674173089484, 4605640823025164333, 4353219448755111826, 4605561176075713999, 13584701159983126121, 4605479725950906245, 13583368851881006598, 4605396492535620884, 4361493040018204585, 4605311496150102525, 13583066472705394221, 4605224757544999671, 13578632912864623495, 4605136297896298752, 4361846053882066113, 4605046138800154310, 4355887936269445597, 4604954302267616605, 13577764333051586782, 4604860810719257935, 13577354343185313384, 4604765686979698975, 13576144875971963077, 4604668954272036472, 4360651779814366337, 4604570636212173661, 4355362127650550962, 4604470756803054778, 13572015408658218103, 4604369340428805087, 4360729798899938000]
def TabCN (w : World) : Prop := ∀ j, j < 106 → w.cell? ⟨1, j, none⟩ = some (U (CN.getD j 0))
theorem TabCN.below {w w' : World} (h : TabCN w) (hb : Below w.heap.size w w') : TabCN w' := by
  intro j hj
  have h1 := h j hj
  have hl : 1 < w.heap.size := World.block_lt_of_cell? w _ h1
  exact (hb.cell (p := ⟨1, j, none⟩) hl).trans h1
structure TabT (w : World) : Prop where
  s : TabSN w
  c : TabCN w
theorem TabT.below {w w' : World} (h : TabT w) (hb : Below w.heap.size w w') : TabT w' := ⟨h.s.below hb, h.c.below hb⟩
theorem tpair (h l : Nat) (w : World) :
    Calls Tryd.prog 9 #[.int .u64 (h : Int), .int .u64 (l : Int)] w fun en w' => en = .returned (.agg #[Fv h, Fv l]) ∧ Below w.heap.size w w' := by
  have hSF : ∀ (w : World) (a : Addr) (b : Nat), (store a (Fv b)).run Tryd.prog w = stored Tryd.prog w a (Fv b) .plain := stFs
  have b1 : ∀ w, (callFunc 16 #[.int .u64 (h : Int)]).run Tryd.prog w = .ok (.value (Fv h)) w := fun w => frombits h w
  have b2 : ∀ w, (callFunc 16 #[.int .u64 (l : Int)]).run Tryd.prog w = .ok (.value (Fv l)) w := fun w => frombits l w
  go_enter Tryd.func9, Tryd.ntmps9
  go_wp2_with fail
  refine bodyPost_ret (v := .agg #[Fv h, Fv l]) (by rw [results_cell1 rfl]; go_simp) rfl ⟨rfl, below1 w _⟩
theorem results_cct {fn : Func} {p q a : Tmp} {t1 t2 : TypeId} (h : fn.results = #[.cell p t1, .cell q t2, .tmp a]) (tmps : Array Value) (P : Program) (w : World) :
    (results fn tmps).run P w = ((asAddr (tmps.getD p undef)).run P w).andThen fun x w₁ => ((loadVar t1 x).run P w₁).andThen fun v w₂ => ((asAddr (tmps.getD q undef)).run P w₂).andThen fun y w₃ => ((loadVar t2 y).run P w₃).andThen fun u w₄ => .ok (.tuple #[v, u, tmps.getD a undef]) w₄ := by
  simp only [results, h]
  simp [Sem.run_bind, Result.andThen]
theorem row_ok (j : Nat) (hj : j < 53) {a b c d : Nat} (ha : a = SN.getD (2 * j) 0) (hb : b = SN.getD (2 * j + 1) 0) (hc : c = CN.getD (2 * j) 0) (hd : d = CN.getD (2 * j + 1) 0) (w : World) (hT : TabT w) :
    Calls Tryd.prog 5 #[.int .i64 (j : Int)] w fun en w' => en = .returned (.tuple #[.agg #[Fv a, Fv b], .agg #[Fv c, Fv d], .int .i64 0]) ∧ Below w.heap.size w w' := by
  have hSF : ∀ (w : World) (a : Addr) (b : Nat), (store a (Fv b)).run Tryd.prog w = stored Tryd.prog w a (Fv b) .plain := stFs
  have t1 := hT.s (2 * j) (by omega)
  have t2 := hT.s (2 * j + 1) (by omega)
  have t3 := hT.c (2 * j) (by omega)
  have t4 := hT.c (2 * j + 1) (by omega)
  rw [← ha] at t1
  rw [← hb] at t2
  rw [← hc] at t3
  rw [← hd] at t4
  obtain ⟨k0, hk0⟩ : ∃ k, k = 2 * j := ⟨_, rfl⟩
  obtain ⟨k1, hk1⟩ : ∃ k, k = 2 * j + 1 := ⟨_, rfl⟩
  rw [← hk0] at t1 t3
  rw [← hk1] at t2 t4
  have i1 : ¬ (j : Int) < 0 := by omega
  have i2 : ¬ (52 : Int) < (j : Int) := by omega
  have w0 : wrap64 (2 * (j : Int)) = (k0 : Int) := by simp only [wrap64]; omega
  have w1 : wrap64 ((k0 : Int) + 1) = (k1 : Int) := by simp only [wrap64]; omega
  have v0 : IntKind.i64.wrap (2 * (j : Int)) = (k0 : Int) := by simp [IntKind.wrap, IntKind.signed, IntKind.bits]; omega
  have v1 : IntKind.i64.wrap ((k0 : Int) + 1) = (k1 : Int) := by simp [IntKind.wrap, IntKind.signed, IntKind.bits]; omega
  have r0 : (0 : Int) ≤ (k0 : Int) := by omega
  have r1 : (k0 : Int) < 106 := by omega
  have r2 : (0 : Int) ≤ (k1 : Int) := by omega
  have r3 : (k1 : Int) < 106 := by omega
  have q1 : 0 < w.heap.size := World.block_lt_of_cell? w _ t1
  have q2 : 1 < w.heap.size := World.block_lt_of_cell? w _ t3
  have Q1 : Hid (0 < w.heap.size ∧ 1 < w.heap.size) := ⟨q1, q2⟩
  have T1 : Hid (∀ W, Below w.heap.size w W → W.cell? ⟨0, k0, none⟩ = some (U a)) := fun W h => (h.cell (p := ⟨0, k0, none⟩) q1).trans t1
  have T2 : Hid (∀ W, Below w.heap.size w W → W.cell? ⟨0, k1, none⟩ = some (U b)) := fun W h => (h.cell (p := ⟨0, k1, none⟩) q1).trans t2
  have T3 : Hid (∀ W, Below w.heap.size w W → W.cell? ⟨1, k0, none⟩ = some (U c)) := fun W h => (h.cell (p := ⟨1, k0, none⟩) q2).trans t3
  have T4 : Hid (∀ W, Below w.heap.size w W → W.cell? ⟨1, k1, none⟩ = some (U d)) := fun W h => (h.cell (p := ⟨1, k1, none⟩) q2).trans t4
  clear ha hb hc hd hk0 hk1 hj hT t1 t2 t3 t4 q1 q2
  go_enter Tryd.func5, Tryd.ntmps5
  go_wp2_with fail
  obtain ⟨W0, hW0⟩ : ∃ W0, W0 = ((w.alloc (.cells #[Fv 0, Fv 0] 26)).alloc (.cells #[Fv 0, Fv 0] 26)) := ⟨_, rfl⟩
  have Xr : Hid (Box W0 (w.heap.size) (Fv 0) (Fv 0)) := by rw [hW0]; exact ⟨by go_simp, by go_simp, by go_simp, by go_simp⟩
  have Xq : Hid (Box W0 (w.heap.size + 1) (Fv 0) (Fv 0)) := by rw [hW0]; exact ⟨by go_simp, by go_simp, by go_simp, by go_simp⟩
  have hb0 : Below w.heap.size w W0 := by rw [hW0]; exact below2 w _ _
  rw [← hW0]
  clear hW0
  have hbw : Below w.heap.size w w := Below.refl _ _
  obtain ⟨gq, hgq⟩ : ∃ g, g = w.heap.size + 1 := ⟨_, rfl⟩
  have HGq : Hid (w.heap.size ≤ gq) := by rw [hgq]; show _ ≤ _; omega
  rw [← hgq] at Xq
  try rw [← hgq]
  obtain ⟨gr, hgr⟩ : ∃ g, g = w.heap.size := ⟨_, rfl⟩
  have HGr : Hid (w.heap.size ≤ gr) := by rw [hgr]; show _ ≤ _; omega
  rw [← hgr] at Xr
  try rw [← hgr]
  have HGD : Hid (gr ≠ gq ∧ gq ≠ gr) := by rw [hgr, hgq]; exact ⟨by omega, by omega⟩
  clear hgr hgq
  replace hbw := Below.on hbw hb0
  clear hb0
  obtain ⟨V1, hV1⟩ : ∃ W1, W1 = W0.drew := ⟨_, rfl⟩
  have hbd : Below W0.heap.size W0 V1 := by rw [hV1]; exact bDrew1 (Below.refl _ _)
  replace Xr : Hid _ := Xr.out.below hbd
  replace Xq : Hid _ := Xq.out.below hbd
  replace hbw := Below.on hbw hbd
  clear hbd
  have HJ : Hid ((fun W' : World => W'.cell? ⟨0, k0, none⟩ = some (U a) ∧ W'.cell? ⟨0, k1, none⟩ = some (U b) ∧ W'.cell? ⟨1, k0, none⟩ = some (U c) ∧ W'.cell? ⟨1, k1, none⟩ = some (U d)) V1) := ⟨T1.out _ hbw, T2.out _ hbw, T3.out _ hbw, T4.out _ hbw⟩
  refine wp_region_J (fun W' => W'.cell? ⟨0, k0, none⟩ = some (U a) ∧ W'.cell? ⟨0, k1, none⟩ = some (U b) ∧ W'.cell? ⟨1, k0, none⟩ = some (U c) ∧ W'.cell? ⟨1, k1, none⟩ = some (U d)) (by kernel_rfl) ?_
  rw [← hV1]
  clear hV1
  refine wpJ_tq 0 rfl HJ.out ?_
  refine wpJ_tq 1 rfl HJ.out ?_
  refine wpJ_tq 2 rfl HJ.out ?_
  refine wpJ_tq 3 rfl HJ.out ?_
  refine wpJ_tq 4 rfl HJ.out ?_
  go_simp
  refine wpJ_tq 5 rfl HJ.out ?_
  refine wpJ_tq 6 rfl HJ.out ?_
  refine wpJ_tq 7 rfl HJ.out ?_
  refine wpJ_tq 8 rfl HJ.out ?_
  refine wpJ_tq 10 rfl HJ.out ?_
  go_simp
  refine wpJ_tq 11 rfl HJ.out ?_
  refine wpJ_tq 12 rfl HJ.out ?_
  refine wpJ_tq 13 rfl HJ.out ?_
  refine wpJ_tq 14 rfl HJ.out ?_
  refine wpJ_tq 15 rfl HJ.out ?_
  go_simp
  refine wpJ_tq 16 rfl HJ.out ?_
  refine wpJ_tq 17 rfl HJ.out ?_
  refine wpJ_tq 18 rfl HJ.out ?_
  refine wpJ_on 9 rfl fun KJ hK => ?_
  go_simp
  refine (tpair a b _).mono ?_
  rintro e v1 ⟨rfl, hb1⟩
  replace Xr : Hid _ := Xr.out.below hb1
  replace Xq : Hid _ := Xq.out.below hb1
  replace hbw := Below.on hbw hb1
  clear hb1
  refine hK _ _ ⟨T1.out _ hbw, T2.out _ hbw, T3.out _ hbw, T4.out _ hbw⟩ ?_
  clear hK
  refine wpJ_on 19 rfl fun KJ hK => ?_
  go_simp
  refine (tpair c d _).mono ?_
  rintro e v2 ⟨rfl, hb2⟩
  replace Xr : Hid _ := Xr.out.below hb2
  replace Xq : Hid _ := Xq.out.below hb2
  replace hbw := Below.on hbw hb2
  clear hb2
  refine hK _ _ ⟨T1.out _ hbw, T2.out _ hbw, T3.out _ hbw, T4.out _ hbw⟩ ?_
  clear hK
  obtain ⟨cr0, cr1, fr0, fr1⟩ := Xr.out
  have hner := Xr.out.lt
  obtain ⟨cq0, cq1, fq0, fq1⟩ := Xq.out
  have hneq := Xq.out.lt
  obtain ⟨hgd0, hgd1⟩ := HGD.out
  have z1 := T1.out _ hbw
  have z2 := T2.out _ hbw
  have z3 := T3.out _ hbw
  have z4 := T4.out _ hbw
  have hz1 : 0 ≠ gr := by have := HGr.out; have := Q1.out.1; omega
  have hz2 : 1 ≠ gr := by have := HGr.out; have := Q1.out.2; omega
  have hz3 : 0 ≠ gq := by have := HGq.out; have := Q1.out.1; omega
  have hz4 : 1 ≠ gq := by have := HGq.out; have := Q1.out.2; omega
  have hz5 := hz1.symm
  have hz6 := hz2.symm
  have hz7 := hz3.symm
  have hz8 := hz4.symm
  refine wpJ_on 20 rfl fun KJ hK => ?_
  go_simp
  have HJ2 : Hid ((fun W' : World => W'.cell? ⟨0, k0, none⟩ = some (U a) ∧ W'.cell? ⟨0, k1, none⟩ = some (U b) ∧ W'.cell? ⟨1, k0, none⟩ = some (U c) ∧ W'.cell? ⟨1, k1, none⟩ = some (U d)) ((v2.setCell ⟨gr, 0, none⟩ (Fv a)).setCell ⟨gr, 1, none⟩ (Fv b))) := ⟨by go_simp, by go_simp, by go_simp, by go_simp⟩
  refine hK _ _ HJ2.out ?_
  clear hK HJ
  have HJ := HJ2
  clear HJ2
  refine wpJ_on 21 rfl fun KJ hK => ?_
  go_simp
  have HJ2 : Hid ((fun W' : World => W'.cell? ⟨0, k0, none⟩ = some (U a) ∧ W'.cell? ⟨0, k1, none⟩ = some (U b) ∧ W'.cell? ⟨1, k0, none⟩ = some (U c) ∧ W'.cell? ⟨1, k1, none⟩ = some (U d)) ((((v2.setCell ⟨gr, 0, none⟩ (Fv a)).setCell ⟨gr, 1, none⟩ (Fv b)).setCell ⟨gq, 0, none⟩ (Fv c)).setCell ⟨gq, 1, none⟩ (Fv d))) := ⟨by go_simp, by go_simp, by go_simp, by go_simp⟩
  refine hK _ _ HJ2.out ?_
  clear hK HJ
  have HJ := HJ2
  clear HJ2
  refine wpJ_tq 22 rfl HJ.out ?_
  refine wpJ_done (by kernel_rfl) ?_ _
  clear HJ
  go_wp2_with fail
  refine bodyPost_ret (v := .tuple #[.agg #[Fv a, Fv b], .agg #[Fv c, Fv d], .int .i64 0]) (by rw [results_cct rfl]; go_simp) rfl ⟨rfl, ?_⟩
  exact bSet (bSet (bSet (bSet (hbw) _ _ _ HGr.out) _ _ _ HGr.out) _ _ _ HGq.out) _ _ _ HGq.out
end Go.Proofs.YtionkfnapodhbaaDoor
