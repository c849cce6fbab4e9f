import Derived.Test.YtpnpdngfjgdgfaaJ10
import Derived.Test.YtpnpdngfjgdgfaaJ8
namespace Go.Proofs.Ytpnpdngfjgdgfaa
open Go.RowKit Go.Shelf
set_option maxRecDepth 20000
set_option maxHeartbeats 0
theorem cmpN_lt0 {a b : Nat} (h : a < b) : cmpN a b = -1 := by unfold cmpN; rw [if_pos h]
theorem zr_bits {w : World} {s : Bool} {p : Option Addr} {m : Nat} {z : Int} (h : ZR w s p m z) : bitsN z.natAbs ≤ 32 * m := by
  obtain ⟨zs, hA, hN⟩ := h.ex
  have h1 := valB_lt B32_pos hN.dig
  rw [hN.val, hA.len, B32_pow] at h1
  exact bits_le_of h1
def Sh26 (z : Int) : Prop := ∃ q : Nat, ((2 ^ q : Nat) : Int) ∣ z ∧ z.natAbs ≤ 2 ^ (26 + q)
theorem Sh26.unscale {x : Int} {t : Nat} (h : Sh26 (x * ((2 ^ t : Nat) : Int))) : Sh26 x := Fl.unscale (p := 26) h
theorem short_bits {z : Int} {k : Nat} (h : Sh26 z) (_h0 : z ≠ 0) (hk : TzIs z.natAbs k) : bitsN z.natAbs ≤ 26 + k := by
  obtain ⟨q, h1, h2⟩ := h
  have h3 : z.natAbs % 2 ^ q = 0 := Nat.mod_eq_zero_of_dvd (dvd_abs h1)
  have h4 : q ≤ k := hk.ge h3
  refine bits_le_of (Nat.lt_of_le_of_ne (Nat.le_trans h2 (p2le (by omega))) fun h5 => ?_)
  have h6 : z.natAbs % 2 ^ (k + 1) = 0 := by
    rw [h5]; exact Nat.mod_eq_zero_of_dvd (Nat.pow_dvd_pow 2 (by omega))
  have := hk.ge h6
  omega
theorem rzerosK {w : World} {s : Bool} {p : Option Addr} {m k : Nat} {z : Int} (h : ZR w s p m z) (h1 : z ≠ 0 → TzIs z.natAbs k) (h2 : z = 0 → k = 0) (hm : m ≤ 10000) : Calls Try.prog 54 #[.slice p m m] w fun e w' => e = .returned (.int .i64 k) ∧ w' = w := by
  obtain ⟨zs, hA, hN⟩ := h.ex
  by_cases h0 : z = 0
  · have hm0 := h.zero.2 h0
    rw [h2 h0, hm0]
    exact rzeros_nil p 0 w
  · exact rzeros_any hA hN (by omega) (h1 h0) (by omega)
theorem short_k {w : World} {s : Bool} {p : Option Addr} {m : Nat} {z : Int} (h : ZR w s p m z) (hm : m ≤ 10000) (hs : Sh26 z) : ∃ k : Nat, (z ≠ 0 → TzIs z.natAbs k) ∧ (z = 0 → k = 0) ∧ bitsN z.natAbs ≤ 26 + k ∧ bitsN z.natAbs ≤ 320000 ∧ k ≤ 320000 := by
  have hb := zr_bits h
  by_cases h0 : z = 0
  · subst h0
    exact ⟨0, fun h => absurd rfl h, fun _ => rfl, Nat.zero_le _, Nat.zero_le _, Nat.zero_le _⟩
  · obtain ⟨k, hk⟩ := TzIs.ex z.natAbs (by omega)
    refine ⟨k, fun _ => hk, fun h => absurd h h0, short_bits hs h0 hk, by omega, ?_⟩
    have h1 : 2 ^ k ≤ z.natAbs := Nat.le_of_dvd (by omega) (Nat.dvd_of_mod_eq_zero hk.1)
    have h2 := p2lt (Nat.lt_of_le_of_lt h1 (bitsN_lt z.natAbs))
    omega
theorem rshort {p : Option Addr} {m : Nat} {w : World} {z : Int} (s : Bool) (h : ZR w s p m z) (hm : m ≤ 10000) (hs : Sh26 z) :
    Calls Try.prog 40 #[.agg #[.bool s, .slice p m m], .int .i64 26] w fun en w' => en = .returned (.bool true) ∧ Below w.heap.size w w' := by
  have HA : Hid (ZR w s p m z) := h
  obtain ⟨k, hk⟩ := short_k h hm hs
  obtain ⟨bz, hbz⟩ : ∃ bz, bz = bitsN z.natAbs := ⟨_, rfl⟩
  rw [← hbz] at hk
  have w1 : IntKind.i64.wrap ((bz : Int) - (k : Int)) = (bz : Int) - (k : Int) := by have h1 := hk.2.2.2.1; have h2 := hk.2.2.2.2; simp [IntKind.wrap, IntKind.signed, IntKind.bits]; omega
  have d1 : decide ((bz : Int) - (k : Int) ≤ 26) = true := decide_eq_true (by have := hk.2.2.1; omega)
  have HK : Hid ((z ≠ 0 → TzIs z.natAbs k) ∧ (z = 0 → k = 0) ∧ bz = bitsN z.natAbs ∧ m ≤ 10000) := ⟨hk.1, hk.2.1, hbz, hm⟩
  clear hk hbz
  clear h hm hs
  go_enter Try.func40, Try.ntmps40
  go_wp2_with fail
  obtain ⟨W0, hW0⟩ : ∃ W0, W0 = (w.alloc (.cells #[.bool s, .slice p m m] 43)) := ⟨_, rfl⟩
  have Xv : Hid (Box W0 (w.heap.size) (.bool s) (.slice p m m)) := by rw [hW0]; exact ⟨by go_simp, by go_simp, by go_simp, by go_simp⟩
  have hb0 : Below w.heap.size w W0 := by rw [hW0]; exact below1 w _
  rw [← hW0]
  clear hW0
  have hbw : Below w.heap.size w w := Below.refl _ _
  obtain ⟨gv, hgv⟩ : ∃ g, g = w.heap.size := ⟨_, rfl⟩
  have HGv : Hid (w.heap.size ≤ gv) := by rw [hgv]; show _ ≤ _; omega
  rw [← hgv] at Xv
  try rw [← hgv]
  clear hgv
  replace HA : Hid _ := HA.out.below hb0
  replace hbw := Below.on hbw hb0
  clear hb0
  obtain ⟨W1, hW1⟩ : ∃ W1, W1 = W0.drew := ⟨_, rfl⟩
  have hbd : Below W0.heap.size W0 W1 := by rw [hW1]; exact bDrew1 (Below.refl _ _)
  replace Xv : Hid _ := Xv.out.below hbd
  replace HA : Hid _ := HA.out.below hbd
  replace hbw := Below.on hbw hbd
  clear hbd
  have HJ : Hid ((fun W' : World => W'.cell? ⟨gv, 0, none⟩ = some (.bool s) ∧ W'.cell? ⟨gv, 1, none⟩ = some (.slice p m m)) W1) := ⟨Xv.out.c0, Xv.out.c1⟩
  refine wp_region_J (fun W' => W'.cell? ⟨gv, 0, none⟩ = some (.bool s) ∧ W'.cell? ⟨gv, 1, none⟩ = some (.slice p m m)) (by kernel_rfl) ?_
  rw [← hW1]
  clear hW1
  refine wpJ_tq 0 rfl HJ.out ?_
  refine wpJ_tq 1 rfl HJ.out ?_
  refine wpJ_tq 3 rfl HJ.out ?_
  refine wpJ_tq 4 rfl HJ.out ?_
  refine wpJ_tq 7 rfl HJ.out ?_
  refine wpJ_on 2 rfl fun KJ hK => ?_
  go_simp
  obtain ⟨zs, hA, hN⟩ := HA.out.ex
  refine (rbits_any hA hN (by have := HK.out.2.2.2; omega)).mono ?_
  rintro e1 v5 ⟨rfl, hw⟩
  obtain rfl := hw.symm
  clear hw hA hN
  rw [← HK.out.2.2.1]
  refine hK _ _ ⟨Xv.out.c0, Xv.out.c1⟩ ?_
  clear hK
  refine wpJ_on 5 rfl fun KJ hK => ?_
  go_simp
  refine (rzerosK HA.out HK.out.1 HK.out.2.1 (by have := HK.out.2.2.2; omega)).mono ?_
  rintro e1 v6 ⟨rfl, hw⟩
  obtain rfl := hw.symm
  clear hw
  clear HJ
  have HJ : Hid ((fun W' : World => W'.cell? ⟨gv, 0, none⟩ = some (.bool s) ∧ W'.cell? ⟨gv, 1, none⟩ = some (.slice p m m)) W1) := ⟨Xv.out.c0, Xv.out.c1⟩
  refine hK _ _ HJ.out ?_
  clear hK
  refine wpJ_tq 6 rfl HJ.out ?_
  refine wpJ_tq 8 rfl HJ.out ?_
  refine wpJ_tq 9 rfl HJ.out ?_
  refine wpJ_done (by kernel_rfl) ?_ _
  clear HJ
  go_wp2_with fail
  go_ret
  exact ⟨rfl, hbw⟩
theorem rsplits {a h l : Nat} {w : World} (H : a % 9223372036854775808 ≤ 9088264048033660928 → Fin64 h ∧ Fin64 l ∧ ((ux a = 0 ∧ ux h = 0 ∧ ux l = 0) ∨ ∃ i, Hlv a h l i)) :
    Calls Try.prog 21 #[U a, U h, U l] w fun en w' => en = .returned (.bool true) ∧ Below w.heap.size w w' := by
  have HS0 : Hid (a % 9223372036854775808 ≤ 9088264048033660928 → Fin64 h ∧ Fin64 l ∧ ((ux a = 0 ∧ ux h = 0 ∧ ux l = 0) ∨ ∃ i, Hlv a h l i)) := H
  clear H
  have hbw : Below w.heap.size w w := Below.refl _ _
  go_enter Try.func21, Try.ntmps21
  go_wp2_with fail
  refine (ratmost a 2018 995 (by omega) (by omega) _).mono ?_
  rintro e' w' ⟨rfl, hw⟩
  obtain rfl := hw.symm
  clear hw
  by_cases h1 : a % 9223372036854775808 ≤ 2018 * 4503599627370496
  · rw [decide_eq_true h1]
    have HS : Hid (Fin64 h ∧ Fin64 l ∧ ((ux a = 0 ∧ ux h = 0 ∧ ux l = 0) ∨ ∃ i, Hlv a h l i)) := HS0.out (by omega)
    clear HS0 h1
    go_wp2_with fail
    refine (rfin h _).mono ?_
    rintro e' w' ⟨rfl, hw⟩
    obtain rfl := hw.symm
    clear hw
    rw [decide_eq_true HS.out.1.fin]
    go_wp2_with fail
    refine (rfin l _).mono ?_
    rintro e' w' ⟨rfl, hw⟩
    obtain rfl := hw.symm
    clear hw
    rw [decide_eq_true HS.out.2.1.fin]
    go_wp2_with fail
    refine (runits _).mono ?_
    rintro e v1 ⟨v, rfl, hv, hb1⟩
    obtain ⟨s1, g1, m1, rfl, hg1, hz1, hl1⟩ := hv
    have HN1 : Hid (w.heap.size ≤ g1) := hg1
    have HB1 : Hid (w.heap.size ≤ v1.heap.size) := hb1.size
    replace hbw := Below.on hbw hb1
    clear hb1
    have Z1 : Hid (ZR v1 s1 (some ⟨g1, 0, none⟩) m1 (ux h)) := hz1
    have HL1 : Hid (m1 ≤ 2200) := hl1
    clear hz1 hl1 hg1
    go_wp2_with fail
    refine (runits _).mono ?_
    rintro e v2 ⟨v, rfl, hv, hb2⟩
    obtain ⟨s2, g2, m2, rfl, hg2, hz2, hl2⟩ := hv
    have HN2 : Hid (v1.heap.size ≤ g2) := hg2
    have HB2 : Hid (v1.heap.size ≤ v2.heap.size) := hb2.size
    replace Z1 : Hid _ := Z1.out.below hb2
    replace hbw := Below.on hbw hb2
    clear hb2
    have Z2 : Hid (ZR v2 s2 (some ⟨g2, 0, none⟩) m2 (ux l)) := hz2
    have HL2 : Hid (m2 ≤ 2200) := hl2
    clear hz2 hl2 hg2
    go_wp2_with fail
    refine (runits _).mono ?_
    rintro e v3 ⟨v, rfl, hv, hb3⟩
    obtain ⟨s3, g3, m3, rfl, hg3, hz3, hl3⟩ := hv
    have HN3 : Hid (v2.heap.size ≤ g3) := hg3
    have HB3 : Hid (v2.heap.size ≤ v3.heap.size) := hb3.size
    replace Z1 : Hid _ := Z1.out.below hb3
    replace Z2 : Hid _ := Z2.out.below hb3
    replace hbw := Below.on hbw hb3
    clear hb3
    have Z3 : Hid (ZR v3 s3 (some ⟨g3, 0, none⟩) m3 (ux a)) := hz3
    have HL3 : Hid (m3 ≤ 2200) := hl3
    clear hz3 hl3 hg3
    go_wp2_with fail
    obtain ⟨W5, hW5⟩ : ∃ W9, W9 = (((v3.alloc (.cells #[.bool s1, .slice (some ⟨g1, 0, none⟩) m1 m1] 43)).alloc (.cells #[.bool s2, .slice (some ⟨g2, 0, none⟩) m2 m2] 43)).alloc (.cells #[.bool s3, .slice (some ⟨g3, 0, none⟩) m3 m3] 43)) := ⟨_, rfl⟩
    have Xx0 : Hid (Box W5 (v3.heap.size) (.bool s1) (.slice (some ⟨g1, 0, none⟩) m1 m1)) := by rw [hW5]; exact ⟨by go_simp, by go_simp, by go_simp, by go_simp⟩
    have Xy0 : Hid (Box W5 (v3.heap.size + 1) (.bool s2) (.slice (some ⟨g2, 0, none⟩) m2 m2)) := by rw [hW5]; exact ⟨by go_simp, by go_simp, by go_simp, by go_simp⟩
    have Xv0 : Hid (Box W5 (v3.heap.size + 1 + 1) (.bool s3) (.slice (some ⟨g3, 0, none⟩) m3 m3)) := by rw [hW5]; exact ⟨by go_simp, by go_simp, by go_simp, by go_simp⟩
    have hbn : Below v3.heap.size v3 W5 := by rw [hW5]; exact below3 v3 _ _ _
    rw [← hW5]
    clear hW5
    obtain ⟨gv, hgv⟩ : ∃ g, g = v3.heap.size + 1 + 1 := ⟨_, rfl⟩
    have HGv : Hid (w.heap.size ≤ gv) := by rw [hgv]; have := hbw.size; show _ ≤ _; omega
    rw [← hgv] at Xv0
    try rw [← hgv]
    obtain ⟨gy, hgy⟩ : ∃ g, g = v3.heap.size + 1 := ⟨_, rfl⟩
    have HGy : Hid (w.heap.size ≤ gy) := by rw [hgy]; have := hbw.size; show _ ≤ _; omega
    rw [← hgy] at Xy0
    try rw [← hgy]
    obtain ⟨gx, hgx⟩ : ∃ g, g = v3.heap.size := ⟨_, rfl⟩
    have HGx : Hid (w.heap.size ≤ gx) := by rw [hgx]; have := hbw.size; show _ ≤ _; omega
    rw [← hgx] at Xx0
    try rw [← hgx]
    clear hgx hgy hgv
    replace Z1 : Hid _ := Z1.out.below hbn
    replace Z2 : Hid _ := Z2.out.below hbn
    replace Z3 : Hid _ := Z3.out.below hbn
    replace hbw := Below.on hbw hbn
    clear hbn
    have Xx := Xx0
    clear Xx0
    have Xy := Xy0
    clear Xy0
    have Xv := Xv0
    clear Xv0
    rcases HS.out.2.2 with hz | hz
    · have HZ : Hid (ux a = 0 ∧ ux h = 0 ∧ ux l = 0) := hz
      clear hz
      refine (rsign04 s3 Z3.out).mono ?_
      rintro e v6 ⟨rfl, hb6⟩
      rw [HZ.out.1, show sgnI 0 = 0 from rfl]
      replace Xx : Hid _ := Xx.out.below hb6
      replace Xy : Hid _ := Xy.out.below hb6
      replace Xv : Hid _ := Xv.out.below hb6
      replace Z1 : Hid _ := Z1.out.below hb6
      replace Z2 : Hid _ := Z2.out.below hb6
      replace Z3 : Hid _ := Z3.out.below hb6
      replace hbw := Below.on hbw hb6
      clear hb6
      obtain ⟨cx0, cx1, fx0, fx1⟩ := Xx.out
      have hnex := Xx.out.lt
      obtain ⟨cy0, cy1, fy0, fy1⟩ := Xy.out
      have hney := Xy.out.lt
      obtain ⟨cv0, cv1, fv0, fv1⟩ := Xv.out
      have hnev := Xv.out.lt
      go_wp2_with fail
      clear cx0 cx1 fx0 fx1 hnex
      clear cy0 cy1 fy0 fy1 hney
      clear cv0 cv1 fv0 fv1 hnev
      refine (rsign04 s1 Z1.out).mono ?_
      rintro e v7 ⟨rfl, hb7⟩
      rw [HZ.out.2.1, show sgnI 0 = 0 from rfl]
      replace Xx : Hid _ := Xx.out.below hb7
      replace Xy : Hid _ := Xy.out.below hb7
      replace Xv : Hid _ := Xv.out.below hb7
      replace Z1 : Hid _ := Z1.out.below hb7
      replace Z2 : Hid _ := Z2.out.below hb7
      replace Z3 : Hid _ := Z3.out.below hb7
      replace hbw := Below.on hbw hb7
      clear hb7
      obtain ⟨cx0, cx1, fx0, fx1⟩ := Xx.out
      have hnex := Xx.out.lt
      obtain ⟨cy0, cy1, fy0, fy1⟩ := Xy.out
      have hney := Xy.out.lt
      obtain ⟨cv0, cv1, fv0, fv1⟩ := Xv.out
      have hnev := Xv.out.lt
      go_wp2_with fail
      clear cx0 cx1 fx0 fx1 hnex
      clear cy0 cy1 fy0 fy1 hney
      clear cv0 cv1 fv0 fv1 hnev
      refine (rsign04 s2 Z2.out).mono ?_
      rintro e v8 ⟨rfl, hb8⟩
      rw [HZ.out.2.2, show sgnI 0 = 0 from rfl]
      replace Xx : Hid _ := Xx.out.below hb8
      replace Xy : Hid _ := Xy.out.below hb8
      replace Xv : Hid _ := Xv.out.below hb8
      replace Z1 : Hid _ := Z1.out.below hb8
      replace Z2 : Hid _ := Z2.out.below hb8
      replace Z3 : Hid _ := Z3.out.below hb8
      replace hbw := Below.on hbw hb8
      clear hb8
      obtain ⟨cx0, cx1, fx0, fx1⟩ := Xx.out
      have hnex := Xx.out.lt
      obtain ⟨cy0, cy1, fy0, fy1⟩ := Xy.out
      have hney := Xy.out.lt
      obtain ⟨cv0, cv1, fv0, fv1⟩ := Xv.out
      have hnev := Xv.out.lt
      go_wp2_with fail
      clear cx0 cx1 fx0 fx1 hnex
      clear cy0 cy1 fy0 fy1 hney
      clear cv0 cv1 fv0 fv1 hnev
      go_ret
      exact ⟨rfl, hbw⟩
    · obtain ⟨i, hl⟩ := hz
      have HV : Hid (Hlv a h l i) := hl
      have h0 : ux a ≠ 0 := fun k => by have := hl.sm; rw [k] at this; simp at this
      obtain ⟨sg, hsg⟩ : ∃ sg, sg = sgnI (ux a) := ⟨_, rfl⟩
      have hs0 : ¬ sg = 0 := by rw [hsg]; exact sgn_ne0 h0
      have hs1 : (sg == 0) = false := by simp [hs0]
      have HSG : Hid (sg = sgnI (ux a)) := hsg
      clear hsg h0 hl
      refine (rsign04 s3 Z3.out).mono ?_
      rintro e v6 ⟨rfl, hb6⟩
      rw [← HSG.out]
      replace Xx : Hid _ := Xx.out.below hb6
      replace Xy : Hid _ := Xy.out.below hb6
      replace Xv : Hid _ := Xv.out.below hb6
      replace Z1 : Hid _ := Z1.out.below hb6
      replace Z2 : Hid _ := Z2.out.below hb6
      replace Z3 : Hid _ := Z3.out.below hb6
      replace hbw := Below.on hbw hb6
      clear hb6
      obtain ⟨cx0, cx1, fx0, fx1⟩ := Xx.out
      have hnex := Xx.out.lt
      obtain ⟨cy0, cy1, fy0, fy1⟩ := Xy.out
      have hney := Xy.out.lt
      obtain ⟨cv0, cv1, fv0, fv1⟩ := Xv.out
      have hnev := Xv.out.lt
      go_wp2_with fail
      clear cx0 cx1 fx0 fx1 hnex
      clear cy0 cy1 fy0 fy1 hney
      clear cv0 cv1 fv0 fv1 hnev
      have hl := HV.out
      have ea : ux h + ux l = ux a := by have := hl.eq; omega
      have hx : Sh26 (ux h) := Sh26.unscale (t := 53) ⟨27 + i, hl.dh, by rw [show 26 + (27 + i) = 53 + i by omega]; exact hl.lh⟩
      have hy : Sh26 (ux l) := Sh26.unscale (t := 53) ⟨i, by rw [hl.eq, Int.sub_mul]; exact Int.dvd_sub hl.da (Int.dvd_trans (p2dvd (by omega)) hl.dh), hl.ll⟩
      have hc := cmpN_lt0 (show (ux l).natAbs * 2 ^ 26 < (ux a).natAbs by have := hl.sm; rw [Nat.mul_comm, show (2 : Nat) ^ 26 = 67108864 by decide]; exact this)
      have HE : Hid (cmpI (ux h + ux l) (ux a) = 0 ∧ Sh26 (ux h) ∧ Sh26 (ux l) ∧ cmpN ((ux l).natAbs * 2 ^ 26) (ux a).natAbs = -1) := ⟨by rw [ea]; unfold cmpI; rw [if_neg (by omega), if_pos rfl], hx, hy, hc⟩
      clear hl ea hx hy hc
      obtain ⟨W7, hW7⟩ : ∃ W1, W1 = v6.drew := ⟨_, rfl⟩
      have hbd : Below v6.heap.size v6 W7 := by rw [hW7]; exact bDrew1 (Below.refl _ _)
      replace Xx : Hid _ := Xx.out.below hbd
      replace Xy : Hid _ := Xy.out.below hbd
      replace Xv : Hid _ := Xv.out.below hbd
      replace Z1 : Hid _ := Z1.out.below hbd
      replace Z2 : Hid _ := Z2.out.below hbd
      replace Z3 : Hid _ := Z3.out.below hbd
      replace hbw := Below.on hbw hbd
      clear hbd
      have HJ : Hid ((fun W' : World => W'.cell? ⟨gx, 0, none⟩ = some (.bool s1) ∧ W'.cell? ⟨gx, 1, none⟩ = some (.slice (some ⟨g1, 0, none⟩) m1 m1) ∧ W'.cell? ⟨gy, 0, none⟩ = some (.bool s2) ∧ W'.cell? ⟨gy, 1, none⟩ = some (.slice (some ⟨g2, 0, none⟩) m2 m2) ∧ W'.cell? ⟨gv, 0, none⟩ = some (.bool s3) ∧ W'.cell? ⟨gv, 1, none⟩ = some (.slice (some ⟨g3, 0, none⟩) m3 m3)) W7) := ⟨Xx.out.c0, Xx.out.c1, Xy.out.c0, Xy.out.c1, Xv.out.c0, Xv.out.c1⟩
      refine wp_region_J (fun W' => W'.cell? ⟨gx, 0, none⟩ = some (.bool s1) ∧ W'.cell? ⟨gx, 1, none⟩ = some (.slice (some ⟨g1, 0, none⟩) m1 m1) ∧ W'.cell? ⟨gy, 0, none⟩ = some (.bool s2) ∧ W'.cell? ⟨gy, 1, none⟩ = some (.slice (some ⟨g2, 0, none⟩) m2 m2) ∧ W'.cell? ⟨gv, 0, none⟩ = some (.bool s3) ∧ W'.cell? ⟨gv, 1, none⟩ = some (.slice (some ⟨g3, 0, none⟩) m3 m3)) (by kernel_rfl) ?_
      rw [← hW7]
      clear hW7
      refine wpJ_tq 0 rfl HJ.out ?_
      refine wpJ_tq 1 rfl HJ.out ?_
      refine wpJ_tq 3 rfl HJ.out ?_
      refine wpJ_on 2 rfl fun KJ hK => ?_
      go_simp
      refine (radd04 s1 s2 Z1.out Z2.out (by have := HL1.out; omega) (by have := HL2.out; omega)).mono ?_
      rintro e v7 ⟨v, rfl, hv, hb7⟩
      obtain ⟨s7, g7, m7, rfl, hg7, hz7, hl7⟩ := hv
      have HN7 : Hid (W7.heap.size ≤ g7) := hg7
      have HB7 : Hid (W7.heap.size ≤ v7.heap.size) := hb7.size
      replace Xx : Hid _ := Xx.out.below hb7
      replace Xy : Hid _ := Xy.out.below hb7
      replace Xv : Hid _ := Xv.out.below hb7
      replace Z1 : Hid _ := Z1.out.below hb7
      replace Z2 : Hid _ := Z2.out.below hb7
      replace Z3 : Hid _ := Z3.out.below hb7
      replace hbw := Below.on hbw hb7
      clear hb7
      have Z7 : Hid (ZR v7 s7 (some ⟨g7, 0, none⟩) m7 (ux h + ux l)) := hz7
      have HL7 : Hid (m7 ≤ max m1 m2 + 1) := hl7
      clear hz7 hl7 hg7
      refine hK _ _ ⟨Xx.out.c0, Xx.out.c1, Xy.out.c0, Xy.out.c1, Xv.out.c0, Xv.out.c1⟩ ?_
      clear hK
      refine wpJ_on 4 rfl fun KJ hK => ?_
      go_simp
      refine (rcmp04 s7 s3 Z7.out Z3.out (by have h1 := HL1.out; have h2 := HL2.out; have h3 := HL7.out; omega) (by have := HL3.out; omega)).mono ?_
      rintro e v8 ⟨rfl, hb8⟩
      rw [HE.out.1]
      replace Xx : Hid _ := Xx.out.below hb8
      replace Xy : Hid _ := Xy.out.below hb8
      replace Xv : Hid _ := Xv.out.below hb8
      replace Z1 : Hid _ := Z1.out.below hb8
      replace Z2 : Hid _ := Z2.out.below hb8
      replace Z3 : Hid _ := Z3.out.below hb8
      replace Z7 : Hid _ := Z7.out.below hb8
      replace hbw := Below.on hbw hb8
      clear hb8
      clear HJ
      have HJ : Hid ((fun W' : World => W'.cell? ⟨gx, 0, none⟩ = some (.bool s1) ∧ W'.cell? ⟨gx, 1, none⟩ = some (.slice (some ⟨g1, 0, none⟩) m1 m1) ∧ W'.cell? ⟨gy, 0, none⟩ = some (.bool s2) ∧ W'.cell? ⟨gy, 1, none⟩ = some (.slice (some ⟨g2, 0, none⟩) m2 m2) ∧ W'.cell? ⟨gv, 0, none⟩ = some (.bool s3) ∧ W'.cell? ⟨gv, 1, none⟩ = some (.slice (some ⟨g3, 0, none⟩) m3 m3)) v8) := ⟨Xx.out.c0, Xx.out.c1, Xy.out.c0, Xy.out.c1, Xv.out.c0, Xv.out.c1⟩
      refine hK _ _ HJ.out ?_
      clear hK
      refine wpJ_tq 5 rfl HJ.out ?_
      refine wpJ_tq 6 rfl HJ.out ?_
      refine wpJ_tq 7 rfl HJ.out ?_
      refine wpJ_on 8 rfl fun KJ hK => ?_
      go_simp
      refine (rshort s1 Z1.out (by have := HL1.out; omega) HE.out.2.1).mono ?_
      rintro e v9 ⟨rfl, hb9⟩
      replace Xx : Hid _ := Xx.out.below hb9
      replace Xy : Hid _ := Xy.out.below hb9
      replace Xv : Hid _ := Xv.out.below hb9
      replace Z1 : Hid _ := Z1.out.below hb9
      replace Z2 : Hid _ := Z2.out.below hb9
      replace Z3 : Hid _ := Z3.out.below hb9
      replace Z7 : Hid _ := Z7.out.below hb9
      replace hbw := Below.on hbw hb9
      clear hb9
      clear HJ
      have HJ : Hid ((fun W' : World => W'.cell? ⟨gx, 0, none⟩ = some (.bool s1) ∧ W'.cell? ⟨gx, 1, none⟩ = some (.slice (some ⟨g1, 0, none⟩) m1 m1) ∧ W'.cell? ⟨gy, 0, none⟩ = some (.bool s2) ∧ W'.cell? ⟨gy, 1, none⟩ = some (.slice (some ⟨g2, 0, none⟩) m2 m2) ∧ W'.cell? ⟨gv, 0, none⟩ = some (.bool s3) ∧ W'.cell? ⟨gv, 1, none⟩ = some (.slice (some ⟨g3, 0, none⟩) m3 m3)) v9) := ⟨Xx.out.c0, Xx.out.c1, Xy.out.c0, Xy.out.c1, Xv.out.c0, Xv.out.c1⟩
      refine hK _ _ HJ.out ?_
      clear hK
      refine wpJ_tq 9 rfl HJ.out ?_
      refine wpJ_tq 10 rfl HJ.out ?_
      refine wpJ_tq 11 rfl HJ.out ?_
      refine wpJ_on 12 rfl fun KJ hK => ?_
      go_simp
      refine (rshort s2 Z2.out (by have := HL2.out; omega) HE.out.2.2.1).mono ?_
      rintro e vC ⟨rfl, hbC⟩
      replace Xx : Hid _ := Xx.out.below hbC
      replace Xy : Hid _ := Xy.out.below hbC
      replace Xv : Hid _ := Xv.out.below hbC
      replace Z1 : Hid _ := Z1.out.below hbC
      replace Z2 : Hid _ := Z2.out.below hbC
      replace Z3 : Hid _ := Z3.out.below hbC
      replace Z7 : Hid _ := Z7.out.below hbC
      replace hbw := Below.on hbw hbC
      clear hbC
      clear HJ
      have HJ : Hid ((fun W' : World => W'.cell? ⟨gx, 0, none⟩ = some (.bool s1) ∧ W'.cell? ⟨gx, 1, none⟩ = some (.slice (some ⟨g1, 0, none⟩) m1 m1) ∧ W'.cell? ⟨gy, 0, none⟩ = some (.bool s2) ∧ W'.cell? ⟨gy, 1, none⟩ = some (.slice (some ⟨g2, 0, none⟩) m2 m2) ∧ W'.cell? ⟨gv, 0, none⟩ = some (.bool s3) ∧ W'.cell? ⟨gv, 1, none⟩ = some (.slice (some ⟨g3, 0, none⟩) m3 m3)) vC) := ⟨Xx.out.c0, Xx.out.c1, Xy.out.c0, Xy.out.c1, Xv.out.c0, Xv.out.c1⟩
      refine hK _ _ HJ.out ?_
      clear hK
      refine wpJ_tq 13 rfl HJ.out ?_
      refine wpJ_tq 14 rfl HJ.out ?_
      refine wpJ_tq 15 rfl HJ.out ?_
      refine wpJ_tq 16 rfl HJ.out ?_
      refine wpJ_tq 18 rfl HJ.out ?_
      go_simp
      refine wpJ_tq 19 rfl HJ.out ?_
      refine wpJ_on 17 rfl fun KJ hK => ?_
      go_simp
      obtain ⟨zs, hA, hN⟩ := Z2.out.ex
      refine (rshl_all hA hN (by have := HL2.out; omega) 26 (.inl (by omega))).mono ?_
      rintro e9 vA ⟨pA, mA, zA, rfl, hAA, hNA, hmA, hbA⟩
      clear hA hN
      replace Xx : Hid _ := Xx.out.below hbA
      replace Xy : Hid _ := Xy.out.below hbA
      replace Xv : Hid _ := Xv.out.below hbA
      replace Z1 : Hid _ := Z1.out.below hbA
      replace Z2 : Hid _ := Z2.out.below hbA
      replace Z3 : Hid _ := Z3.out.below hbA
      replace Z7 : Hid _ := Z7.out.below hbA
      replace hbw := Below.on hbw hbA
      clear hbA
      have AA : Hid (At32 vA pA mA mA zA) := hAA
      have NA : Hid (Nf B32 zA ((ux l).natAbs * 2 ^ 26)) := hNA
      clear hAA hNA hmA
      refine hK _ _ ⟨Xx.out.c0, Xx.out.c1, Xy.out.c0, Xy.out.c1, Xv.out.c0, Xv.out.c1⟩ ?_
      clear hK
      refine wpJ_on 20 rfl fun KJ hK => ?_
      go_simp
      obtain ⟨zs, hA, hN⟩ := Z3.out.ex
      refine (rcmp_any AA.out hA NA.out hN).mono ?_
      rintro e9 w9 ⟨rfl, r4, rfl⟩
      clear hA hN
      rw [HE.out.2.2.2]
      have hbr := bDrewN (Below.refl vA.heap.size vA) r4
      generalize vA.drewN r4 = YB at *
      replace Xx : Hid _ := Xx.out.below hbr
      replace Xy : Hid _ := Xy.out.below hbr
      replace Xv : Hid _ := Xv.out.below hbr
      replace Z1 : Hid _ := Z1.out.below hbr
      replace Z2 : Hid _ := Z2.out.below hbr
      replace Z3 : Hid _ := Z3.out.below hbr
      replace Z7 : Hid _ := Z7.out.below hbr
      replace AA : Hid _ := AA.out.below hbr
      replace hbw := Below.on hbw hbr
      clear hbr
      clear HJ
      have HJ : Hid ((fun W' : World => W'.cell? ⟨gx, 0, none⟩ = some (.bool s1) ∧ W'.cell? ⟨gx, 1, none⟩ = some (.slice (some ⟨g1, 0, none⟩) m1 m1) ∧ W'.cell? ⟨gy, 0, none⟩ = some (.bool s2) ∧ W'.cell? ⟨gy, 1, none⟩ = some (.slice (some ⟨g2, 0, none⟩) m2 m2) ∧ W'.cell? ⟨gv, 0, none⟩ = some (.bool s3) ∧ W'.cell? ⟨gv, 1, none⟩ = some (.slice (some ⟨g3, 0, none⟩) m3 m3)) YB) := ⟨Xx.out.c0, Xx.out.c1, Xy.out.c0, Xy.out.c1, Xv.out.c0, Xv.out.c1⟩
      refine hK _ _ HJ.out ?_
      clear hK
      refine wpJ_tq 21 rfl HJ.out ?_
      refine wpJ_tq 22 rfl HJ.out ?_
      refine wpJ_tq 23 rfl HJ.out ?_
      refine wpJ_done (by kernel_rfl) ?_ _
      clear HJ
      go_wp2_with fail
      go_ret
      exact ⟨rfl, hbw⟩
  · rw [decide_eq_false h1]
    go_wp2_with fail
    go_ret
    exact ⟨rfl, hbw⟩
theorem eftSplits_w (a : Nat) (ha : a < 18446744073709551616) (w : World) : Calls Try.prog 8 #[U a] w fun e w' => e = .returned (.bool true) ∧ Below w.heap.size w w' := by
  go_enter Try.func8, Try.ntmps8
  go_wp2_with fail
  refine (splitB a _).mono ?_
  rintro e w' ⟨s, r, n1, rfl, rfl, hR⟩
  have HR : Hid (SPR a s r ∧ a < 18446744073709551616) := ⟨hR, ha⟩
  clear hR ha
  go_wp2_with fail
  refine (awake19 _).mono ?_
  rintro e w' ⟨rfl, n2, rfl⟩
  go_wp2_with fail
  refine (rsplits (a := a) (h := s) (l := r) fun ka => HR.out.1.ok HR.out.2 ka).mono ?_
  rintro e w1 ⟨rfl, hb1⟩
  have HB : Hid (Below w.heap.size w w1) := Below.on (below_dn w _) hb1
  clear hb1
  go_wp2_with fail
  go_ret
  exact ⟨rfl, HB.out⟩
theorem eftSplits_walk (a : Nat) (ha : a < B64) {w : World} : Calls Try.prog 8 #[U a] w fun e w' => e = .returned (.bool true) ∧ Below w.heap.size w w' := eftSplits_w a (by rw [B64_eq] at ha; exact ha) w
end Go.Proofs.Ytpnpdngfjgdgfaa
