import Derived.Test.YtionkfnapodhbaaDoorRtd
namespace Go.Proofs.YtionkfnapodhbaaDoor
open Go.RowKit Go.Shelf
set_option maxRecDepth 20000
set_option maxHeartbeats 0
theorem encl_11 {w : World} {p : Option Addr} {m j : Nat} (h : ZR w false p m (j : Int)) (hm : m ≤ 4000) (hj1 : 1 ≤ j) (hj2 : j < 53) {q : Nat} (hq : q = 380 + (6 - bitsN j)) {k y : Int} (hk : k = 1) (hR : ∀ W, Below w.heap.size w W → Calls Tryd.prog 36 #[.agg #[.bool false, .slice p m m], .int .i64 (-6), .int .i64 q] W fun en w' => ∃ s1 p1 m1 v2, en = .returned (.tuple #[.agg #[.bool s1, .slice p1 m1 m1], v2]) ∧ ZR w' s1 p1 m1 k ∧ m1 ≤ 20001 ∧ GotR W.heap.size w' v2 y 50000 ∧ Below W.heap.size W w') (hy : y.natAbs ≤ 2 ^ q) {N A : Nat} (hN : N = q + 104) (hA : A = y.natAbs * 2 ^ 94) {S1 C1 S2 C2 : Int} (hL : scL A N (N + 1) 0 (2 ^ N) 0 0 = (S1, C1)) (hB : scB N 10 S1 C1 = true) (hD : scD N 10 S1 C1 = (S2, C2)) {X : Int} (hX : ∀ s2, s2 = decide (y < 0) → rFs C2 104 = X) {T E : Nat} (hT : T = 300) (hE : E = 32 * 60) (hX1 : 8 < X) (hX2 : X.natAbs + 8 < 2 ^ E) (hX3 : (X + 8 - (X - 8)) * 2 ^ T ≤ X - 8) :
    Calls Tryd.prog 22 #[.int .i64 1, .agg #[.bool false, .slice p m m], .int .i64 (-6), .int .i64 300] w fun en w' => ∃ v, en = .returned v ∧ GotN w.heap.size w' v (X - 8) (X + 8) (q : Int) 60 ∧ Below w.heap.size w w' := by
  have HA : Hid (ZR w false p m (j : Int) ∧ m ≤ 4000) := ⟨h, hm⟩
  have NJ : Hid (RN w p m j) := by have h9 := h.rn hm; rw [Int.natAbs_natCast] at h9; exact h9
  obtain ⟨b, hb⟩ : ∃ b : Int, b = (bitsN j : Int) + -6 := ⟨_, rfl⟩
  obtain ⟨sm, hsm⟩ : ∃ sm, sm = 6 - bitsN j := ⟨_, rfl⟩
  rw [← hsm] at hq
  have HW := Hid.mk9 (enc_w hb (bits_j hj2) hsm hq)
  have HC : Hid (1 ≤ j ∧ j < 53 ∧ 380 ≤ q ∧ q ≤ 385) := ⟨hj1, hj2, by omega, by have := bitsN_pos (a := j) (by omega); omega⟩
  subst hk
  have HR := Hid.mk9 hR
  have HS := Hid.mk9 (And.intro hy (And.intro hN (And.intro hA (And.intro hL (And.intro hB hD)))))
  have HX := Hid.mk9 (And.intro hX (And.intro hT (And.intro hE (And.intro hX1 (And.intro hX2 hX3)))))
  clear hX hT hE hX1 hX2 hX3
  clear hR hy hN hA hL hB hD h hm hb hsm hj1 hj2 hq
  go_enter Tryd.func22, Tryd.ntmps22
  go_wp2_with fail
  obtain ⟨W0, hW0⟩ : ∃ W0, W0 = ((w.alloc (.cells #[.bool false, .slice p m m] 50)).alloc (.cells #[.bool false, .slice none 0 0, .bool false, .slice none 0 0, .int .i64 0] 52)) := ⟨_, rfl⟩
  have Xm : Hid (Box W0 (w.heap.size) (.bool false) (.slice p m m)) := by rw [hW0]; exact ⟨by go_simp, by go_simp, by go_simp, by go_simp⟩
  have Xr : Hid (B5q W0 (w.heap.size + 1) (.bool false) (.slice none 0 0) (.bool false) (.slice none 0 0) (.int .i64 0)) := by rw [hW0]; exact ⟨by go_simp, by go_simp, by go_simp, by go_simp, by go_simp, by go_simp, by go_simp, by go_simp, by go_simp, by go_simp⟩
  have hb0 : Below w.heap.size w W0 := by rw [hW0]; exact below2 w _ _
  rw [← hW0]
  clear hW0
  have hbw : Below w.heap.size w w := Below.refl _ _
  obtain ⟨gr, hgr⟩ : ∃ g, g = w.heap.size + 1 := ⟨_, rfl⟩
  have HGr : Hid (w.heap.size ≤ gr) := by rw [hgr]; show _ ≤ _; omega
  rw [← hgr] at Xr
  try rw [← hgr]
  obtain ⟨gm, hgm⟩ : ∃ g, g = w.heap.size := ⟨_, rfl⟩
  have HGm : Hid (w.heap.size ≤ gm) := by rw [hgm]; show _ ≤ _; omega
  rw [← hgm] at Xm
  try rw [← hgm]
  have HGD : Hid (gm ≠ gr ∧ gr ≠ gm) := by rw [hgm, hgr]; exact ⟨by omega, by omega⟩
  clear hgm hgr
  replace NJ : Hid (RN W0 p m j) := NJ.out.below hb0
  replace hbw := Below.on hbw hb0
  clear hb0
  obtain ⟨w1, w1', w2, w2', mx, w3, w3'⟩ := HW.out
  obtain ⟨cm0, cm1, fm0, fm1⟩ := Xm.out
  have hnem := Xm.out.lt
  go_wp2_with fail
  clear cm0 cm1 fm0 fm1 hnem
  clear w1 w1' w2 w2' mx w3 w3'
  refine (rn_bits NJ.out).mono ?_
  rintro e9 v9 ⟨rfl, hw⟩
  obtain rfl := hw.symm
  clear hw
  obtain ⟨w1, w1', w2, w2', mx, w3, w3'⟩ := HW.out
  obtain ⟨cm0, cm1, fm0, fm1⟩ := Xm.out
  have hnem := Xm.out.lt
  go_wp2_with fail
  clear cm0 cm1 fm0 fm1 hnem
  clear w1 w1' w2 w2' mx w3 w3'
  refine wp_loop_rounds 1 ?_
  rw [rounds_succ]
  obtain ⟨w1, w1', w2, w2', mx, w3, w3'⟩ := HW.out
  obtain ⟨cm0, cm1, fm0, fm1⟩ := Xm.out
  have hnem := Xm.out.lt
  go_wp2_with fail
  clear cm0 cm1 fm0 fm1 hnem
  clear w1 w1' w2 w2' mx w3 w3'
  refine (HR.out _ hbw).mono ?_
  rintro e9 v1 ⟨s1, p1, m1, v, rfl, hz1, hl1, ⟨s2, g2, m2, rfl, hg2, hz2, hl2⟩, hb1⟩
  replace Xm : Hid _ := Xm.out.below hb1
  replace Xr : Hid _ := Xr.out.below hb1
  replace NJ : Hid (RN v1 p m j) := NJ.out.below hb1
  replace hbw := Below.on hbw hb1
  clear hb1
  have Z1 : Hid (ZR v1 s1 p1 m1 1) := hz1
  have Z2 : Hid (ZR v1 s2 (some ⟨g2, 0, none⟩) m2 y) := hz2
  have HL1 := Hid.mk9 hl1
  have HG2 := Hid.mk9 hg2
  have HS2 : Hid (s2 = decide (y < 0)) := Z2.out.sg
  clear hz1 hz2 hl1 hl2 hg2
  go_wp2_with fail
  obtain ⟨Wy, hWy⟩ : ∃ W9, W9 = ((v1.alloc (.cells #[.bool s1, .slice p1 m1 m1] 50)).alloc (.cells #[.bool s2, .slice (some ⟨g2, 0, none⟩) m2 m2] 50)) := ⟨_, rfl⟩
  have Xk0 : Hid (Box Wy (v1.heap.size) (.bool s1) (.slice p1 m1 m1)) := by rw [hWy]; exact ⟨by go_simp, by go_simp, by go_simp, by go_simp⟩
  have Xy0 : Hid (Box Wy (v1.heap.size + 1) (.bool s2) (.slice (some ⟨g2, 0, none⟩) m2 m2)) := by rw [hWy]; exact ⟨by go_simp, by go_simp, by go_simp, by go_simp⟩
  have hbn : Below v1.heap.size v1 Wy := by rw [hWy]; exact below2 v1 _ _
  rw [← hWy]
  clear hWy
  obtain ⟨gy, hgy⟩ : ∃ g, g = v1.heap.size + 1 := ⟨_, rfl⟩
  have HGy : Hid (w.heap.size ≤ gy) := by rw [hgy]; have := hbw.size; show _ ≤ _; omega
  rw [← hgy] at Xy0
  try rw [← hgy]
  obtain ⟨gk, hgk⟩ : ∃ g, g = v1.heap.size := ⟨_, rfl⟩
  have HGk : Hid (w.heap.size ≤ gk) := by rw [hgk]; have := hbw.size; show _ ≤ _; omega
  rw [← hgk] at Xk0
  try rw [← hgk]
  clear hgk hgy
  replace Xm : Hid _ := Xm.out.below hbn
  replace Xr : Hid _ := Xr.out.below hbn
  replace NJ : Hid (RN Wy p m j) := NJ.out.below hbn
  replace Z1 : Hid _ := Z1.out.below hbn
  replace Z2 : Hid _ := Z2.out.below hbn
  replace hbw := Below.on hbw hbn
  clear hbn
  have Xk := Xk0
  clear Xk0
  have Xy := Xy0
  clear Xy0
  obtain ⟨E6, hE6⟩ : ∃ E6, E6 = 32 * 20 := ⟨_, rfl⟩
  have HE6 := Hid.mk9 hE6
  clear hE6
  have HM2 : Hid (m2 ≤ 20) := zr_len32 Z2.out (E := E6) HE6.out (Nat.lt_of_le_of_lt HS.out.1 ((Nat.pow_lt_pow_iff_right (by decide)).2 (by have := HC.out; have := HE6.out; omega)))
  have HRS : Hid (gr < Wy.heap.size ∧ gm < Wy.heap.size ∧ gk < Wy.heap.size ∧ gy < Wy.heap.size) := ⟨Xr.out.lt, Xm.out.lt, Xk.out.lt, Xy.out.lt⟩
  refine (sincos_ok s2 Z2.out (by have := HM2.out; omega) q (by have := HC.out; omega) (by have := HC.out; omega) HS.out.1 HS.out.2.1 HS.out.2.2.1 HS.out.2.2.2.1 HS.out.2.2.2.2.1 HS.out.2.2.2.2.2).mono ?_
  rintro e9 v3 ⟨va, vb, rfl, ⟨s3, g3, m3, rfl, hg3, hz3, hl3⟩, ⟨s4, g4, m4, rfl, hg4, hz4, hl4⟩, hb3⟩
  replace Xm : Hid _ := Xm.out.below hb3
  replace Xr : Hid _ := Xr.out.below hb3
  replace Xk : Hid _ := Xk.out.below hb3
  replace Xy : Hid _ := Xy.out.below hb3
  replace NJ : Hid (RN v3 p m j) := NJ.out.below hb3
  replace Z1 : Hid _ := Z1.out.below hb3
  replace Z2 : Hid _ := Z2.out.below hb3
  replace hbw := Below.on hbw hb3
  clear hb3
  have Z3 : Hid (ZR v3 s3 (some ⟨g3, 0, none⟩) m3 (rFs (iv s2 S2.natAbs) 104)) := hz3
  have Z4 : Hid (ZR v3 s4 (some ⟨g4, 0, none⟩) m4 (rFs C2 104)) := hz4
  have HG34 : Hid (Wy.heap.size ≤ g3 ∧ Wy.heap.size ≤ g4 ∧ m3 ≤ 10000 ∧ m4 ≤ 10000) := ⟨hg3, hg4, hl3, hl4⟩
  clear hz3 hz4 hl3 hl4 hg3 hg4
  obtain ⟨ck0, ck1, fk0, fk1⟩ := Xk.out
  have hnek := Xk.out.lt
  go_wp2_with fail
  clear ck0 ck1 fk0 fk1 hnek
  have HB34 : Hid ((m3 = 0 ∨ g3 < v3.heap.size) ∧ (m4 = 0 ∨ g4 < v3.heap.size) ∧ gr < v3.heap.size) := ⟨(Nat.eq_zero_or_pos m3).imp id fun h => Z3.out.blk9 (by omega), (Nat.eq_zero_or_pos m4).imp id fun h => Z4.out.blk9 (by omega), Xr.out.lt⟩
  obtain ⟨Wc, hWc⟩ : ∃ W9, W9 = ((v3.alloc (.cells #[.bool s3, .slice (some ⟨g3, 0, none⟩) m3 m3] 50)).alloc (.cells #[.bool s4, .slice (some ⟨g4, 0, none⟩) m4 m4] 50)) := ⟨_, rfl⟩
  have Xs0 : Hid (Box Wc (v3.heap.size) (.bool s3) (.slice (some ⟨g3, 0, none⟩) m3 m3)) := by rw [hWc]; exact ⟨by go_simp, by go_simp, by go_simp, by go_simp⟩
  have Xc0 : Hid (Box Wc (v3.heap.size + 1) (.bool s4) (.slice (some ⟨g4, 0, none⟩) m4 m4)) := by rw [hWc]; exact ⟨by go_simp, by go_simp, by go_simp, by go_simp⟩
  have hbn : Below v3.heap.size v3 Wc := by rw [hWc]; exact below2 v3 _ _
  rw [← hWc]
  clear hWc
  obtain ⟨gc, hgc⟩ : ∃ g, g = v3.heap.size + 1 := ⟨_, rfl⟩
  have HGc : Hid (w.heap.size ≤ gc) := by rw [hgc]; have := hbw.size; show _ ≤ _; omega
  rw [← hgc] at Xc0
  try rw [← hgc]
  obtain ⟨gs, hgs⟩ : ∃ g, g = v3.heap.size := ⟨_, rfl⟩
  have HGs : Hid (w.heap.size ≤ gs) := by rw [hgs]; have := hbw.size; show _ ≤ _; omega
  rw [← hgs] at Xs0
  try rw [← hgs]
  have HSC : Hid ((m3 = 0 ∨ g3 < gs) ∧ (m4 = 0 ∨ g4 < gs) ∧ gr < gs ∧ gc = gs + 1) := by have h := HB34.out; exact ⟨by omega, by omega, by omega, by omega⟩
  clear hgs hgc
  replace Xm : Hid _ := Xm.out.below hbn
  replace Xr : Hid _ := Xr.out.below hbn
  replace Xk : Hid _ := Xk.out.below hbn
  replace Xy : Hid _ := Xy.out.below hbn
  replace NJ : Hid (RN Wc p m j) := NJ.out.below hbn
  replace Z1 : Hid _ := Z1.out.below hbn
  replace Z2 : Hid _ := Z2.out.below hbn
  replace Z3 : Hid _ := Z3.out.below hbn
  replace Z4 : Hid _ := Z4.out.below hbn
  replace hbw := Below.on hbw hbn
  clear hbn
  have Xs := Xs0
  clear Xs0
  have Xc := Xc0
  clear Xc0
  clear HB34
  have Z1u : Hid (ZR Wc s1 p1 m1 1) := Z1.out
  have Z3u : Hid (ZR Wc s3 (some ⟨g3, 0, none⟩) m3 (rFs (iv s2 S2.natAbs) 104)) := Z3.out
  have Z4u : Hid (ZR Wc s4 (some ⟨g4, 0, none⟩) m4 (rFs C2 104)) := Z4.out
  have hbu : Below Wc.heap.size Wc Wc := Below.refl _ _
  clear NJ
  clear Z1
  clear Z2
  clear Z3
  clear Z4
  obtain ⟨Wr, hWr⟩ : ∃ W1, W1 = Wc.drew := ⟨_, rfl⟩
  have hbd : Below Wc.heap.size Wc Wr := by rw [hWr]; exact bDrew1 (Below.refl _ _)
  have hbu' := Below.on hbu hbd
  clear hbu
  have hbu := hbu'
  clear hbu'
  replace Xm : Hid _ := Xm.out.below hbd
  replace Xr : Hid _ := Xr.out.below hbd
  replace Xk : Hid _ := Xk.out.below hbd
  replace Xy : Hid _ := Xy.out.below hbd
  replace Xs : Hid _ := Xs.out.below hbd
  replace Xc : Hid _ := Xc.out.below hbd
  replace hbw := Below.on hbw hbd
  clear hbd
  have HJ : Hid ((fun W' : World => W'.cell? ⟨gk, 0, none⟩ = some (.bool s1) ∧ W'.cell? ⟨gk, 1, none⟩ = some (.slice p1 m1 m1)) Wr) := ⟨Xk.out.c0, Xk.out.c1⟩
  refine wp_region_J (fun W' => W'.cell? ⟨gk, 0, none⟩ = some (.bool s1) ∧ W'.cell? ⟨gk, 1, none⟩ = some (.slice p1 m1 m1)) (by kernel_rfl) ?_
  rw [← hWr]
  clear hWr
  refine wpJ_tq 0 rfl HJ.out ?_
  obtain ⟨RQ, HRQ, HRP⟩ : ∃ RQ : Act → Act → World → Prop, Hid (∀ a1 a2 a3, (fun a0 a' W' => ∃ gh tA kA nA tF kF nF, a' = (((a0.put (some 50) (.agg #[.bool tA, .slice (some ⟨kA, 0, none⟩) nA nA])).put (some 51) (.agg #[.bool tF, .slice (some ⟨kF, 0, none⟩) nF nF])).put (some 15) (.pointer (some ⟨gh, 0, none⟩))) ∧ Box W' gh (.bool tF) (.slice (some ⟨kF, 0, none⟩) nF nF) ∧ Box W' gm (.bool false) (.slice p m m) ∧ B5q W' gr (.bool false) (.slice none 0 0) (.bool false) (.slice none 0 0) (.int .i64 0) ∧ Box W' gk (.bool s1) (.slice p1 m1 m1) ∧ Box W' gy (.bool s2) (.slice (some ⟨g2, 0, none⟩) m2 m2) ∧ Box W' gs (.bool s3) (.slice (some ⟨g3, 0, none⟩) m3 m3) ∧ Box W' gc (.bool s4) (.slice (some ⟨g4, 0, none⟩) m4 m4) ∧ ZR W' tF (some ⟨kF, 0, none⟩) nF (1) ∧ w.heap.size ≤ gh ∧ gm ≠ gh ∧ gr ≠ gh ∧ gk ≠ gh ∧ gy ≠ gh ∧ gs ≠ gh ∧ gc ≠ gh ∧ Below Wc.heap.size Wc W' ∧ Below w.heap.size w W') a1 a2 a3 → RQ a1 a2 a3) ∧ Hid (∀ a1 a2 a3, RQ a1 a2 a3 → (fun a0 a' W' => ∃ gh tA kA nA tF kF nF, a' = (((a0.put (some 50) (.agg #[.bool tA, .slice (some ⟨kA, 0, none⟩) nA nA])).put (some 51) (.agg #[.bool tF, .slice (some ⟨kF, 0, none⟩) nF nF])).put (some 15) (.pointer (some ⟨gh, 0, none⟩))) ∧ Box W' gh (.bool tF) (.slice (some ⟨kF, 0, none⟩) nF nF) ∧ Box W' gm (.bool false) (.slice p m m) ∧ B5q W' gr (.bool false) (.slice none 0 0) (.bool false) (.slice none 0 0) (.int .i64 0) ∧ Box W' gk (.bool s1) (.slice p1 m1 m1) ∧ Box W' gy (.bool s2) (.slice (some ⟨g2, 0, none⟩) m2 m2) ∧ Box W' gs (.bool s3) (.slice (some ⟨g3, 0, none⟩) m3 m3) ∧ Box W' gc (.bool s4) (.slice (some ⟨g4, 0, none⟩) m4 m4) ∧ ZR W' tF (some ⟨kF, 0, none⟩) nF (1) ∧ w.heap.size ≤ gh ∧ gm ≠ gh ∧ gr ≠ gh ∧ gk ≠ gh ∧ gy ≠ gh ∧ gs ≠ gh ∧ gc ≠ gh ∧ Below Wc.heap.size Wc W' ∧ Below w.heap.size w W') a1 a2 a3) := ⟨_, fun _ _ _ h => h, fun _ _ _ h => h⟩
  refine wpJ_cutA RQ ?_ ?_
  · intro a' Wc hrq
    obtain ⟨gh, tA, kA, nA, tF, kF, nF, rfl, xbQ, xm, xr, xk, xy, xs, xc, rr, hg, hdm, hdr, hdk, hdy, hds, hdc, hbuc, hbc⟩ := HRP.out _ _ _ hrq
    clear hrq HRP HRQ
    clear hbw hbu HJ Xm Xr Xk Xy Xs Xc
    have hbw := hbc
    have hbu := hbuc
    have Xh : Hid (Box Wc gh (.bool tF) (.slice (some ⟨kF, 0, none⟩) nF nF)) := xbQ
    have Xm : Hid (Box Wc gm (.bool false) (.slice p m m)) := xm
    have Xr : Hid (B5q Wc gr (.bool false) (.slice none 0 0) (.bool false) (.slice none 0 0) (.int .i64 0)) := xr
    have Xk : Hid (Box Wc gk (.bool s1) (.slice p1 m1 m1)) := xk
    have Xy : Hid (Box Wc gy (.bool s2) (.slice (some ⟨g2, 0, none⟩) m2 m2)) := xy
    have Xs : Hid (Box Wc gs (.bool s3) (.slice (some ⟨g3, 0, none⟩) m3 m3)) := xs
    have Xc : Hid (Box Wc gc (.bool s4) (.slice (some ⟨g4, 0, none⟩) m4 m4)) := xc
    have RR : Hid (ZR Wc tF (some ⟨kF, 0, none⟩) nF (1)) := rr
    have HGh : Hid (w.heap.size ≤ gh) := hg
    have HDmh : Hid (gm ≠ gh) := hdm
    have HDrh : Hid (gr ≠ gh) := hdr
    have HDkh : Hid (gk ≠ gh) := hdk
    have HDyh : Hid (gy ≠ gh) := hdy
    have HDsh : Hid (gs ≠ gh) := hds
    have HDch : Hid (gc ≠ gh) := hdc
    clear xbQ xm xr xk xy xs xc rr hg hdm hdr hdk hdy hds hdc hbuc hbc
    have Z3 : Hid (ZR Wc s3 (some ⟨g3, 0, none⟩) m3 (rFs (iv s2 S2.natAbs) 104)) := Z3u.out.below hbu
    have Z4 : Hid (ZR Wc s4 (some ⟨g4, 0, none⟩) m4 (rFs C2 104)) := Z4u.out.below hbu
    clear hbu Z1u Z3u Z4u
    obtain ⟨ch0, ch1, fh0, fh1⟩ := Xh.out
    have hneh := Xh.out.lt
    go_wp2_with fail
    clear ch0 ch1 fh0 fh1 hneh
    obtain rfl : tF = false := RR.out.sg
    refine (rint04_pt RR.out (Nat.le_trans (zr_len32 RR.out (k := 1) (E := 32) rfl (by decide)) (by decide)) (by decide) (by decide)).mono ?_
    rintro e v21 ⟨rfl, hb21⟩
    replace Xh : Hid _ := Xh.out.below hb21
    replace Xm : Hid _ := Xm.out.below hb21
    replace Xr : Hid _ := Xr.out.below hb21
    replace Xk : Hid _ := Xk.out.below hb21
    replace Xy : Hid _ := Xy.out.below hb21
    replace Xs : Hid _ := Xs.out.below hb21
    replace Xc : Hid _ := Xc.out.below hb21
    replace RR : Hid _ := RR.out.below hb21
    replace Z3 : Hid _ := Z3.out.below hb21
    replace Z4 : Hid _ := Z4.out.below hb21
    replace hbw := Below.on hbw hb21
    clear hb21
    go_wp2_with fail
    refine wp_loop_rounds 2 ?_
    rw [rounds_succ]
    go_wp2_with fail
    clear Xm
    clear Xk
    clear Xy
    clear Xh
    clear RR
    obtain ⟨V20, hV20⟩ : ∃ W9, W9 = v21.drew := ⟨_, rfl⟩
    have hbd : Below v21.heap.size v21 V20 := by rw [hV20]; exact bDrew1 (Below.refl _ _)
    replace Xr : Hid _ := Xr.out.below hbd
    replace Xs : Hid _ := Xs.out.below hbd
    replace Xc : Hid _ := Xc.out.below hbd
    replace Z3 : Hid _ := Z3.out.below hbd
    replace Z4 : Hid _ := Z4.out.below hbd
    replace hbw := Below.on hbw hbd
    clear hbd
    have HJ : Hid ((fun W' : World => W'.cell? ⟨gs, 0, none⟩ = some (.bool s3) ∧ W'.cell? ⟨gs, 1, none⟩ = some (.slice (some ⟨g3, 0, none⟩) m3 m3) ∧ W'.cell? ⟨gc, 0, none⟩ = some (.bool s4) ∧ W'.cell? ⟨gc, 1, none⟩ = some (.slice (some ⟨g4, 0, none⟩) m4 m4)) V20) := ⟨Xs.out.c0, Xs.out.c1, Xc.out.c0, Xc.out.c1⟩
    refine wp_region_M (fun W' => W'.cell? ⟨gs, 0, none⟩ = some (.bool s3) ∧ W'.cell? ⟨gs, 1, none⟩ = some (.slice (some ⟨g3, 0, none⟩) m3 m3) ∧ W'.cell? ⟨gc, 0, none⟩ = some (.bool s4) ∧ W'.cell? ⟨gc, 1, none⟩ = some (.slice (some ⟨g4, 0, none⟩) m4 m4)) 3 (by kernel_rfl) ?_
    rw [← hV20]
    clear hV20
    refine wpM_take (i := 0) (v := ?v2x0) rfl (by kernel_rfl) (by kernel_rfl) (by kernel_rfl) (fun _ _ _ h => h) (by kernel_rfl) ?hy2x0 HJ.out ?rest2x0
    case hy2x0 => (intro W' hJ; obtain ⟨j0, j1, j2, j3⟩ := hJ; go_simp; first | done | with_reducible rfl)
    refine wpM_take (i := 1) (v := ?v3x1) rfl (by kernel_rfl) (by kernel_rfl) (by kernel_rfl) (fun _ _ _ h => h) (by kernel_rfl) ?hy3x1 HJ.out ?rest3x1
    case hy3x1 => (intro W' hJ; obtain ⟨j0, j1, j2, j3⟩ := hJ; go_simp; first | done | with_reducible rfl)
    go_simp
    have HRB : Hid (gr < V20.heap.size ∧ gs < V20.heap.size ∧ gc < V20.heap.size ∧ w.heap.size ≤ V20.heap.size) := ⟨Xr.out.lt, Xs.out.lt, Xc.out.lt, hbw.size⟩
    refine wpM_one (i := 2) (by kernel_rfl) rfl (by kernel_rfl) (fun KJ hK => ?_)
    go_simp
    refine (rflip_any s3 Z3.out (by have := HG34.out.2.2.1; omega)).mono ?_
    rintro e9 v9 ⟨v, rfl, ⟨s9, g9, m9, rfl, hg9, hz9, hl9⟩, hb9⟩
    replace Xr : Hid _ := Xr.out.below hb9
    replace Xs : Hid _ := Xs.out.below hb9
    replace Xc : Hid _ := Xc.out.below hb9
    replace Z3 : Hid _ := Z3.out.below hb9
    replace Z4 : Hid _ := Z4.out.below hb9
    replace hbw := Below.on hbw hb9
    clear hb9
    have Z9 : Hid (ZR v9 s9 (some ⟨g9, 0, none⟩) m9 (-(rFs (iv s2 S2.natAbs) 104))) := hz9
    have HL9 : Hid (m9 ≤ m3) := hl9
    have HG9 : Hid (V20.heap.size ≤ g9) := hg9
    clear hz9 hl9 hg9
    refine hK _ _ ⟨Xs.out.c0, Xs.out.c1, Xc.out.c0, Xc.out.c1⟩ ?_
    clear hK
    go_simp
    have ne0 : gs ≠ gc := by have h := HSC.out; omega
    have ne1 : gc ≠ gs := by have h := HSC.out; omega
    obtain ⟨cs0, cs1, fs0, fs1⟩ := Xs.out
    have hnes := Xs.out.lt
    obtain ⟨cc0, cc1, fc0, fc1⟩ := Xc.out
    have hnec := Xc.out.lt
    refine wpM_last (i := 3) (by decide) (by kernel_rfl) rfl (by kernel_rfl) (fun KJ hK => ?_)
    go_simp
    refine hK _ _ ?_
    clear hK
    refine wpM_last (i := 4) (by decide) (by kernel_rfl) rfl (by kernel_rfl) (fun KJ hK => ?_)
    go_simp
    refine hK _ _ ?_
    clear hK
    clear HJ
    refine wpM_done (by kernel_rfl) ?_ _
    clear cs0 cs1 fs0 fs1 hnes
    clear cc0 cc1 fc0 fc1 hnec
    obtain ⟨V27, hV27⟩ : ∃ W9, W9 = ((((v9.setCell ⟨gs, 0, none⟩ (.bool s4)).setCell ⟨gs, 1, none⟩ (.slice (some ⟨g4, 0, none⟩) m4 m4)).setCell ⟨gc, 0, none⟩ (.bool s9)).setCell ⟨gc, 1, none⟩ (.slice (some ⟨g9, 0, none⟩) m9 m9)) := ⟨_, rfl⟩
    have Ys : Hid (Box V27 gs (.bool s4) (.slice (some ⟨g4, 0, none⟩) m4 m4)) := by rw [hV27]; exact (Xs.out.put2 _ _).off2 ne0 _ _
    have Yc : Hid (Box V27 gc (.bool s9) (.slice (some ⟨g9, 0, none⟩) m9 m9)) := by rw [hV27]; exact (Xc.out.off2 ne1 _ _).put2 _ _
    have qa : gr ≠ gs := by have h := HSC.out; omega
    have qb : gr ≠ gc := by have h := HSC.out; omega
    have qa' := qa.symm
    have qb' := qb.symm
    obtain ⟨cr0, cr1, cr2, cr3, cr4, fr0, fr1, fr2, fr3, fr4⟩ := Xr.out
    have hner : gr < v9.heap.size := World.block_lt_of_cell? v9 _ cr0
    have Yr : Hid (B5q V27 gr (.bool false) (.slice none 0 0) (.bool false) (.slice none 0 0) (.int .i64 0)) := by rw [hV27]; exact ⟨by go_simp, by go_simp, by go_simp, by go_simp, by go_simp, by go_simp, by go_simp, by go_simp, by go_simp, by go_simp⟩
    clear cr0 cr1 cr2 cr3 cr4 fr0 fr1 fr2 fr3 fr4 hner
    have F4 : ZF gs gc gs v9 s4 (some ⟨g4, 0, none⟩) m4 (rFs C2 104) := ⟨Z4.out, by have h := HSC.out; exact h.2.1.elim .inl fun h1 => .inr ⟨g4, rfl, by omega, by omega, by omega⟩⟩
    have F9 : ZF gs gc gs v9 s9 (some ⟨g9, 0, none⟩) m9 (-(rFs (iv s2 S2.natAbs) 104)) := ⟨Z9.out, .inr ⟨g9, rfl, by have h := HRB.out; have h1 := HG9.out; omega, by have h := HRB.out; have h1 := HG9.out; omega, by have h := HRB.out; have h1 := HG9.out; omega⟩⟩
    have Y4 : Hid (ZR V27 s4 (some ⟨g4, 0, none⟩) m4 (rFs C2 104)) := by rw [hV27]; exact ((((F4.set _ _ _ (.inl rfl)).set _ _ _ (.inl rfl)).set _ _ _ (.inr (.inl rfl))).set _ _ _ (.inr (.inl rfl))).zr
    have Y9 : Hid (ZR V27 s9 (some ⟨g9, 0, none⟩) m9 (-(rFs (iv s2 S2.natAbs) 104))) := by rw [hV27]; exact ((((F9.set _ _ _ (.inl rfl)).set _ _ _ (.inl rfl)).set _ _ _ (.inr (.inl rfl))).set _ _ _ (.inr (.inl rfl))).zr
    have hbw2 : Below w.heap.size w V27 := by rw [hV27]; exact bSet (bSet (bSet (bSet (hbw) _ _ _ HGs.out) _ _ _ HGs.out) _ _ _ HGc.out) _ _ _ HGc.out
    rw [← hV27]
    clear hV27 hbw Xs Xc Xr Z3 Z4 Z9 F4 F9 qa qb qa' qb' ne0 ne1
    have hbw := hbw2
    have Xs := Ys
    have Xc := Yc
    have Xr := Yr
    have Z4 := Y4
    have Z9 := Y9
    clear hbw2 Ys Yc Yr Y4 Y9
    go_wp2_with fail
    rw [rounds_succ]
    obtain ⟨cs0, cs1, fs0, fs1⟩ := Xs.out
    have hnes := Xs.out.lt
    go_wp2_with fail
    clear cs0 cs1 fs0 fs1 hnes
    have HMM : Hid (m4 ≤ 10000) := HG34.out.2.2.2
    have HGR9 : Hid (gr < V27.heap.size ∧ w.heap.size ≤ V27.heap.size) := ⟨Xr.out.lt, hbw.size⟩
    refine (around_ok s4 Z4.out (by have := HMM.out; omega) q).mono ?_
    rintro e9 v5 ⟨v, rfl, hv, hb5⟩
    obtain ⟨s5, g5, m5, s6, g6, m6, rfl, hg5, hg6, hz5, hz6, hl5, hl6⟩ := hv
    replace Xs : Hid _ := Xs.out.below hb5
    replace Xc : Hid _ := Xc.out.below hb5
    replace Xr : Hid _ := Xr.out.below hb5
    replace Z4 : Hid _ := Z4.out.below hb5
    replace Z9 : Hid _ := Z9.out.below hb5
    replace hbw := Below.on hbw hb5
    clear hb5
    have Z5 : Hid (ZR v5 s5 (some ⟨g5, 0, none⟩) m5 (rFs C2 104 - 8)) := hz5
    have Z6 : Hid (ZR v5 s6 (some ⟨g6, 0, none⟩) m6 (rFs C2 104 + 8)) := hz6
    have HG5n : Hid (V27.heap.size ≤ g5 ∧ V27.heap.size ≤ g6) := ⟨hg5, hg6⟩
    clear hg5 hg6 hz5 hz6 hl5 hl6
    have HGW5 : Hid (w.heap.size ≤ g5 ∧ w.heap.size ≤ g6 ∧ gr < g5 ∧ gr < g6) := by have h1 := HGR9.out; have h2 := HG5n.out; exact ⟨by omega, by omega, by omega, by omega⟩
    go_wp2_with fail
    have HXE := HX.out.1 s2 HS2.out
    rw [HXE] at Z5 Z6
    clear HXE
    have HDsv : Hid (gs ≠ v5.heap.size) := Nat.ne_of_lt Xs.out.lt
    have HDcv : Hid (gc ≠ v5.heap.size) := Nat.ne_of_lt Xc.out.lt
    have HDrv : Hid (gr ≠ v5.heap.size) := Nat.ne_of_lt Xr.out.lt
    have Xv0 : Hid (B5q (v5.alloc (.cells #[.bool s5, .slice (some ⟨g5, 0, none⟩) m5 m5, .bool s6, .slice (some ⟨g6, 0, none⟩) m6 m6, .int .i64 q] 52)) v5.heap.size (.bool s5) (.slice (some ⟨g5, 0, none⟩) m5 m5) (.bool s6) (.slice (some ⟨g6, 0, none⟩) m6 m6) (.int .i64 q)) := B5q.new v5 _ _ _ _ _ _
    have hbn : Below v5.heap.size v5 (v5.alloc (.cells #[.bool s5, .slice (some ⟨g5, 0, none⟩) m5 m5, .bool s6, .slice (some ⟨g6, 0, none⟩) m6 m6, .int .i64 q] 52)) := below1 v5 _
    generalize v5.alloc (.cells #[.bool s5, .slice (some ⟨g5, 0, none⟩) m5 m5, .bool s6, .slice (some ⟨g6, 0, none⟩) m6 m6, .int .i64 q] 52) = Wv9 at *
    have HGv : Hid (w.heap.size ≤ v5.heap.size) := hbw.size
    replace Xs : Hid _ := Xs.out.below hbn
    replace Xc : Hid _ := Xc.out.below hbn
    replace Xr : Hid _ := Xr.out.below hbn
    replace Z4 : Hid _ := Z4.out.below hbn
    replace Z9 : Hid _ := Z9.out.below hbn
    replace Z5 : Hid _ := Z5.out.below hbn
    replace Z6 : Hid _ := Z6.out.below hbn
    replace hbw := Below.on hbw hbn
    clear hbn
    generalize v5.heap.size = gv at *
    have Xv := Xv0
    clear Xv0
    have HM5 : Hid (m5 ≤ 60) := zr_len32 Z5.out (E := E) HX.out.2.2.1 (by have h1 := HX.out.2.2.2.2.1; have h2 := HX.out.2.2.2.1; exact Nat.lt_of_le_of_lt (by omega) h1)
    have HM6 : Hid (m6 ≤ 60) := zr_len32 Z6.out (E := E) HX.out.2.2.1 (by have h1 := HX.out.2.2.2.2.1; exact Nat.lt_of_le_of_lt (by omega) h1)
    refine (thin_t s5 s6 Z5.out Z6.out HM5.out HM6.out (by have := HX.out.2.2.2.1; omega) (by have := HX.out.2.2.2.1; omega) HX.out.2.1 HX.out.2.2.2.2.2).mono ?_
    rintro e v9 ⟨rfl, hb9⟩
    replace Xs : Hid _ := Xs.out.below hb9
    replace Xc : Hid _ := Xc.out.below hb9
    replace Xr : Hid _ := Xr.out.below hb9
    replace Xv : Hid _ := Xv.out.below hb9
    replace Z4 : Hid _ := Z4.out.below hb9
    replace Z9 : Hid _ := Z9.out.below hb9
    replace Z5 : Hid _ := Z5.out.below hb9
    replace Z6 : Hid _ := Z6.out.below hb9
    replace hbw := Below.on hbw hb9
    clear hb9
    have qa : gr ≠ gv := HDrv.out
    have qb : gv ≠ gr := qa.symm
    obtain ⟨cv0, cv1, cv2, cv3, cv4, fv0, fv1, fv2, fv3, fv4⟩ := Xv.out
    have hnev : gv < v9.heap.size := World.block_lt_of_cell? v9 _ cv0
    obtain ⟨cr0, cr1, cr2, cr3, cr4, fr0, fr1, fr2, fr3, fr4⟩ := Xr.out
    have hner : gr < v9.heap.size := World.block_lt_of_cell? v9 _ cr0
    go_wp2_with fail
    refine bodyPost_ret (v := .agg #[.bool s5, .slice (some ⟨g5, 0, none⟩) m5 m5, .bool s6, .slice (some ⟨g6, 0, none⟩) m6 m6, .int .i64 q]) (by rw [results_cell1 rfl]; go_simp) rfl ⟨_, rfl, ⟨s5, g5, m5, s6, g6, m6, rfl, HGW5.out.1, HGW5.out.2.1, ?_, ?_, HM5.out, HM6.out⟩, ?_⟩
    · have h := HGW5.out
      exact ((((Z5.out.set _ _ _ (by omega)).set _ _ _ (by omega)).set _ _ _ (by omega)).set _ _ _ (by omega)).set _ _ _ (by omega)
    · have h := HGW5.out
      exact ((((Z6.out.set _ _ _ (by omega)).set _ _ _ (by omega)).set _ _ _ (by omega)).set _ _ _ (by omega)).set _ _ _ (by omega)
    · exact bSet (bSet (bSet (bSet (bSet (hbw) _ _ _ HGr.out) _ _ _ HGr.out) _ _ _ HGr.out) _ _ _ HGr.out) _ _ _ HGr.out
  · skip
    refine wpJ_two (i := 1) (k := 3) (by kernel_rfl) rfl rfl (by kernel_rfl) (by kernel_rfl) (fun KJ hK => ?_) (fun KJ hK => ?_)
    · go_simp
      refine (rof04 4 _ (by decide) (by decide)).mono ?_
      rintro e9 uA ⟨tA, kA, nA, rfl, hzA, hlA, hbA⟩
      have hbu' := Below.on hbu hbA
      clear hbu
      have hbu := hbu'
      clear hbu'
      replace Xm : Hid _ := Xm.out.below hbA
      replace Xr : Hid _ := Xr.out.below hbA
      replace Xk : Hid _ := Xk.out.below hbA
      replace Xy : Hid _ := Xy.out.below hbA
      replace Xs : Hid _ := Xs.out.below hbA
      replace Xc : Hid _ := Xc.out.below hbA
      replace hbw := Below.on hbw hbA
      clear hbA
      have YA : Hid (ZR uA tA (some ⟨kA, 0, none⟩) nA 4) := hzA
      clear hzA hlA
      clear HJ
      have HJ : Hid ((fun W' : World => W'.cell? ⟨gk, 0, none⟩ = some (.bool s1) ∧ W'.cell? ⟨gk, 1, none⟩ = some (.slice p1 m1 m1)) uA) := ⟨Xk.out.c0, Xk.out.c1⟩
      refine hK _ _ HJ.out ?_
      clear hK
      refine wpJ_two (i := 2) (k := 3) (by kernel_rfl) rfl rfl (by kernel_rfl) (by kernel_rfl) (fun KJ hK => ?_) (fun KJ hK => ?_)
      · go_simp
        refine (rmod04 s1 tA (Z1u.out.below hbu) YA.out (Nat.le_trans (zr_len32 (Z1u.out.below hbu) (k := 1) (E := 32) rfl (by decide)) (by decide)) (zr_len32 YA.out (k := 1) (E := 32) rfl (by decide)) (by decide)).mono ?_
        rintro e9 uF ⟨v, rfl, hv, hbF⟩
        rw [show rMo 1 4 = 1 by decide] at hv
        obtain ⟨tF, kF, nF, rfl, hgF, hzF, hlF⟩ := hv
        have HGB : Hid (uA.heap.size ≤ kF) := hgF
        have hbu' := Below.on hbu hbF
        clear hbu
        have hbu := hbu'
        clear hbu'
        replace Xm : Hid _ := Xm.out.below hbF
        replace Xr : Hid _ := Xr.out.below hbF
        replace Xk : Hid _ := Xk.out.below hbF
        replace Xy : Hid _ := Xy.out.below hbF
        replace Xs : Hid _ := Xs.out.below hbF
        replace Xc : Hid _ := Xc.out.below hbF
        replace YA : Hid _ := YA.out.below hbF
        replace hbw := Below.on hbw hbF
        clear hbF
        have RR : Hid (ZR uF tF (some ⟨kF, 0, none⟩) nF (1)) := hzF
        have HLF : Hid (nF ≤ 50000) := hlF
        clear hzF hlF hgF
        clear YA
        refine hK _ _ ⟨Xk.out.c0, Xk.out.c1⟩ ?_
        clear hK
        refine wpJ_on 3 rfl fun KJ hK => ?_
        go_simp
        have HDmh : Hid (gm ≠ uF.heap.size) := Nat.ne_of_lt Xm.out.lt
        have HDrh : Hid (gr ≠ uF.heap.size) := Nat.ne_of_lt Xr.out.lt
        have HDkh : Hid (gk ≠ uF.heap.size) := Nat.ne_of_lt Xk.out.lt
        have HDyh : Hid (gy ≠ uF.heap.size) := Nat.ne_of_lt Xy.out.lt
        have HDsh : Hid (gs ≠ uF.heap.size) := Nat.ne_of_lt Xs.out.lt
        have HDch : Hid (gc ≠ uF.heap.size) := Nat.ne_of_lt Xc.out.lt
        have HLS : Hid (∀ v0 v1, ZR (((uF.alloc (.cells #[.bool false, .slice none 0 0] 50)).setCell ⟨uF.heap.size, 0, none⟩ v0).setCell ⟨uF.heap.size, 1, none⟩ v1) tF (some ⟨kF, 0, none⟩) nF (1)) := fun v0 v1 => RR.out.below (bSet (bSet (below1 _ _) _ _ _ (Nat.le_refl _)) _ _ _ (Nat.le_refl _))
        have HGU : Hid (Wc.heap.size ≤ uF.heap.size) := hbu.size
        have Xh0 : Hid (Box (uF.alloc (.cells #[.bool false, .slice none 0 0] 50)) uF.heap.size (.bool false) (.slice none 0 0)) := Box.new uF _ _ _
        have hbn : Below uF.heap.size uF (uF.alloc (.cells #[.bool false, .slice none 0 0] 50)) := below1 uF _
        generalize uF.alloc (.cells #[.bool false, .slice none 0 0] 50) = Wn at *
        have HGh : Hid (w.heap.size ≤ uF.heap.size) := hbw.size
        have hbu' := Below.on hbu hbn
        clear hbu
        have hbu := hbu'
        clear hbu'
        replace Xm : Hid _ := Xm.out.below hbn
        replace Xr : Hid _ := Xr.out.below hbn
        replace Xk : Hid _ := Xk.out.below hbn
        replace Xy : Hid _ := Xy.out.below hbn
        replace Xs : Hid _ := Xs.out.below hbn
        replace Xc : Hid _ := Xc.out.below hbn
        replace RR : Hid _ := RR.out.below hbn
        replace hbw := Below.on hbw hbn
        clear hbn
        generalize uF.heap.size = gh at *
        have Xh := Xh0
        clear Xh0
        refine hK _ _ ⟨Xk.out.c0, Xk.out.c1⟩ ?_
        clear hK
        obtain ⟨ch0, ch1, fh0, fh1⟩ := Xh.out
        have hneh := Xh.out.lt
        obtain ⟨cm0, cm1, fm0, fm1⟩ := Xm.out
        have hnem := Xm.out.lt
        obtain ⟨cr0, cr1, cr2, cr3, cr4, fr0, fr1, fr2, fr3, fr4⟩ := Xr.out
        have hner : gr < Wn.heap.size := World.block_lt_of_cell? Wn _ cr0
        obtain ⟨ck0, ck1, fk0, fk1⟩ := Xk.out
        have hnek := Xk.out.lt
        obtain ⟨cy0, cy1, fy0, fy1⟩ := Xy.out
        have hney := Xy.out.lt
        obtain ⟨cs0, cs1, fs0, fs1⟩ := Xs.out
        have hnes := Xs.out.lt
        obtain ⟨cc0, cc1, fc0, fc1⟩ := Xc.out
        have hnec := Xc.out.lt
        have qam : gm ≠ gh := HDmh.out
        have qbm : gh ≠ gm := fun h => qam h.symm
        have qar : gr ≠ gh := HDrh.out
        have qbr : gh ≠ gr := fun h => qar h.symm
        have qak : gk ≠ gh := HDkh.out
        have qbk : gh ≠ gk := fun h => qak h.symm
        have qay : gy ≠ gh := HDyh.out
        have qby : gh ≠ gy := fun h => qay h.symm
        have qas : gs ≠ gh := HDsh.out
        have qbs : gh ≠ gs := fun h => qas h.symm
        have qac : gc ≠ gh := HDch.out
        have qbc : gh ≠ gc := fun h => qac h.symm
        refine wpJ_on 4 rfl fun KJ hK => ?_
        go_simp
        have HJ2 : Hid ((fun W' : World => W'.cell? ⟨gk, 0, none⟩ = some (.bool s1) ∧ W'.cell? ⟨gk, 1, none⟩ = some (.slice p1 m1 m1)) ((Wn.setCell ⟨gh, 0, none⟩ (.bool tF)).setCell ⟨gh, 1, none⟩ (.slice (some ⟨kF, 0, none⟩) nF nF))) := ⟨by go_simp, by go_simp⟩
        have Xh2 : Hid (Box ((Wn.setCell ⟨gh, 0, none⟩ (.bool tF)).setCell ⟨gh, 1, none⟩ (.slice (some ⟨kF, 0, none⟩) nF nF)) gh (.bool tF) (.slice (some ⟨kF, 0, none⟩) nF nF)) := ⟨by go_simp, by go_simp, by go_simp, by go_simp⟩
        have Xm2 : Hid (Box ((Wn.setCell ⟨gh, 0, none⟩ (.bool tF)).setCell ⟨gh, 1, none⟩ (.slice (some ⟨kF, 0, none⟩) nF nF)) gm (.bool false) (.slice p m m)) := ⟨by go_simp, by go_simp, by go_simp, by go_simp⟩
        have Xr2 : Hid (B5q ((Wn.setCell ⟨gh, 0, none⟩ (.bool tF)).setCell ⟨gh, 1, none⟩ (.slice (some ⟨kF, 0, none⟩) nF nF)) gr (.bool false) (.slice none 0 0) (.bool false) (.slice none 0 0) (.int .i64 0)) := ⟨by go_simp, by go_simp, by go_simp, by go_simp, by go_simp, by go_simp, by go_simp, by go_simp, by go_simp, by go_simp⟩
        have Xk2 : Hid (Box ((Wn.setCell ⟨gh, 0, none⟩ (.bool tF)).setCell ⟨gh, 1, none⟩ (.slice (some ⟨kF, 0, none⟩) nF nF)) gk (.bool s1) (.slice p1 m1 m1)) := ⟨by go_simp, by go_simp, by go_simp, by go_simp⟩
        have Xy2 : Hid (Box ((Wn.setCell ⟨gh, 0, none⟩ (.bool tF)).setCell ⟨gh, 1, none⟩ (.slice (some ⟨kF, 0, none⟩) nF nF)) gy (.bool s2) (.slice (some ⟨g2, 0, none⟩) m2 m2)) := ⟨by go_simp, by go_simp, by go_simp, by go_simp⟩
        have Xs2 : Hid (Box ((Wn.setCell ⟨gh, 0, none⟩ (.bool tF)).setCell ⟨gh, 1, none⟩ (.slice (some ⟨kF, 0, none⟩) nF nF)) gs (.bool s3) (.slice (some ⟨g3, 0, none⟩) m3 m3)) := ⟨by go_simp, by go_simp, by go_simp, by go_simp⟩
        have Xc2 : Hid (Box ((Wn.setCell ⟨gh, 0, none⟩ (.bool tF)).setCell ⟨gh, 1, none⟩ (.slice (some ⟨kF, 0, none⟩) nF nF)) gc (.bool s4) (.slice (some ⟨g4, 0, none⟩) m4 m4)) := ⟨by go_simp, by go_simp, by go_simp, by go_simp⟩
        have RR2 : Hid (ZR ((Wn.setCell ⟨gh, 0, none⟩ (.bool tF)).setCell ⟨gh, 1, none⟩ (.slice (some ⟨kF, 0, none⟩) nF nF)) tF (some ⟨kF, 0, none⟩) nF (1)) := HLS.out _ _
        have hbu2 : Below Wc.heap.size Wc ((Wn.setCell ⟨gh, 0, none⟩ (.bool tF)).setCell ⟨gh, 1, none⟩ (.slice (some ⟨kF, 0, none⟩) nF nF)) := bSet (bSet hbu _ _ _ HGU.out) _ _ _ HGU.out
        have hbw2 : Below w.heap.size w ((Wn.setCell ⟨gh, 0, none⟩ (.bool tF)).setCell ⟨gh, 1, none⟩ (.slice (some ⟨kF, 0, none⟩) nF nF)) := bSet (bSet hbw _ _ _ HGh.out) _ _ _ HGh.out
        refine hK _ _ HJ2.out ?_
        clear hK HJ
        have HJ := HJ2
        clear HJ2
        refine wpJ_done (by kernel_rfl) ?_ _
        exact ⟨rfl, HRQ.out _ _ _ ⟨gh, tA, kA, nA, tF, kF, nF, by kernel_rfl, Xh2.out, Xm2.out, Xr2.out, Xk2.out, Xy2.out, Xs2.out, Xc2.out, RR2.out, HGh.out, HDmh.out, HDrh.out, HDkh.out, HDyh.out, HDsh.out, HDch.out, hbu2, hbw2⟩⟩
      · go_simp
        have HDmh : Hid (gm ≠ uA.heap.size) := Nat.ne_of_lt Xm.out.lt
        have HDrh : Hid (gr ≠ uA.heap.size) := Nat.ne_of_lt Xr.out.lt
        have HDkh : Hid (gk ≠ uA.heap.size) := Nat.ne_of_lt Xk.out.lt
        have HDyh : Hid (gy ≠ uA.heap.size) := Nat.ne_of_lt Xy.out.lt
        have HDsh : Hid (gs ≠ uA.heap.size) := Nat.ne_of_lt Xs.out.lt
        have HDch : Hid (gc ≠ uA.heap.size) := Nat.ne_of_lt Xc.out.lt
        have HGU : Hid (Wc.heap.size ≤ uA.heap.size) := hbu.size
        have Xh0 : Hid (Box (uA.alloc (.cells #[.bool false, .slice none 0 0] 50)) uA.heap.size (.bool false) (.slice none 0 0)) := Box.new uA _ _ _
        have hbn : Below uA.heap.size uA (uA.alloc (.cells #[.bool false, .slice none 0 0] 50)) := below1 uA _
        generalize uA.alloc (.cells #[.bool false, .slice none 0 0] 50) = Wn at *
        have HGh : Hid (w.heap.size ≤ uA.heap.size) := hbw.size
        have hbu' := Below.on hbu hbn
        clear hbu
        have hbu := hbu'
        clear hbu'
        replace Xm : Hid _ := Xm.out.below hbn
        replace Xr : Hid _ := Xr.out.below hbn
        replace Xk : Hid _ := Xk.out.below hbn
        replace Xy : Hid _ := Xy.out.below hbn
        replace Xs : Hid _ := Xs.out.below hbn
        replace Xc : Hid _ := Xc.out.below hbn
        replace YA : Hid _ := YA.out.below hbn
        replace hbw := Below.on hbw hbn
        clear hbn
        generalize uA.heap.size = gh at *
        have Xh := Xh0
        clear Xh0
        refine hK _ _ ⟨Xk.out.c0, Xk.out.c1⟩ ?_
        clear hK
        refine wpJ_on 2 rfl fun KJ hK => ?_
        go_simp
        have HLT : Hid (gh < Wn.heap.size) := Xh.out.lt
        refine (rmod04 s1 tA (Z1u.out.below hbu) YA.out (Nat.le_trans (zr_len32 (Z1u.out.below hbu) (k := 1) (E := 32) rfl (by decide)) (by decide)) (zr_len32 YA.out (k := 1) (E := 32) rfl (by decide)) (by decide)).mono ?_
        rintro e9 uF ⟨v, rfl, hv, hbF⟩
        rw [show rMo 1 4 = 1 by decide] at hv
        obtain ⟨tF, kF, nF, rfl, hgF, hzF, hlF⟩ := hv
        have HGB : Hid (Wn.heap.size ≤ kF) := hgF
        have hbu' := Below.on hbu hbF
        clear hbu
        have hbu := hbu'
        clear hbu'
        replace Xm : Hid _ := Xm.out.below hbF
        replace Xr : Hid _ := Xr.out.below hbF
        replace Xk : Hid _ := Xk.out.below hbF
        replace Xy : Hid _ := Xy.out.below hbF
        replace Xs : Hid _ := Xs.out.below hbF
        replace Xc : Hid _ := Xc.out.below hbF
        replace Xh : Hid _ := Xh.out.below hbF
        replace YA : Hid _ := YA.out.below hbF
        replace hbw := Below.on hbw hbF
        clear hbF
        have RR : Hid (ZR uF tF (some ⟨kF, 0, none⟩) nF (1)) := hzF
        have HLF : Hid (nF ≤ 50000) := hlF
        clear hzF hlF hgF
        clear YA
        have HNE : Hid (kF ≠ gh) := by have h1 := HLT.out; have h2 := HGB.out; show _ ≠ _; omega
        refine hK _ _ ⟨Xk.out.c0, Xk.out.c1⟩ ?_
        clear hK
        obtain ⟨ch0, ch1, fh0, fh1⟩ := Xh.out
        have hneh := Xh.out.lt
        obtain ⟨cm0, cm1, fm0, fm1⟩ := Xm.out
        have hnem := Xm.out.lt
        obtain ⟨cr0, cr1, cr2, cr3, cr4, fr0, fr1, fr2, fr3, fr4⟩ := Xr.out
        have hner : gr < uF.heap.size := World.block_lt_of_cell? uF _ cr0
        obtain ⟨ck0, ck1, fk0, fk1⟩ := Xk.out
        have hnek := Xk.out.lt
        obtain ⟨cy0, cy1, fy0, fy1⟩ := Xy.out
        have hney := Xy.out.lt
        obtain ⟨cs0, cs1, fs0, fs1⟩ := Xs.out
        have hnes := Xs.out.lt
        obtain ⟨cc0, cc1, fc0, fc1⟩ := Xc.out
        have hnec := Xc.out.lt
        have qam : gm ≠ gh := HDmh.out
        have qbm : gh ≠ gm := fun h => qam h.symm
        have qar : gr ≠ gh := HDrh.out
        have qbr : gh ≠ gr := fun h => qar h.symm
        have qak : gk ≠ gh := HDkh.out
        have qbk : gh ≠ gk := fun h => qak h.symm
        have qay : gy ≠ gh := HDyh.out
        have qby : gh ≠ gy := fun h => qay h.symm
        have qas : gs ≠ gh := HDsh.out
        have qbs : gh ≠ gs := fun h => qas h.symm
        have qac : gc ≠ gh := HDch.out
        have qbc : gh ≠ gc := fun h => qac h.symm
        refine wpJ_on 4 rfl fun KJ hK => ?_
        go_simp
        have HJ2 : Hid ((fun W' : World => W'.cell? ⟨gk, 0, none⟩ = some (.bool s1) ∧ W'.cell? ⟨gk, 1, none⟩ = some (.slice p1 m1 m1)) ((uF.setCell ⟨gh, 0, none⟩ (.bool tF)).setCell ⟨gh, 1, none⟩ (.slice (some ⟨kF, 0, none⟩) nF nF))) := ⟨by go_simp, by go_simp⟩
        have Xh2 : Hid (Box ((uF.setCell ⟨gh, 0, none⟩ (.bool tF)).setCell ⟨gh, 1, none⟩ (.slice (some ⟨kF, 0, none⟩) nF nF)) gh (.bool tF) (.slice (some ⟨kF, 0, none⟩) nF nF)) := ⟨by go_simp, by go_simp, by go_simp, by go_simp⟩
        have Xm2 : Hid (Box ((uF.setCell ⟨gh, 0, none⟩ (.bool tF)).setCell ⟨gh, 1, none⟩ (.slice (some ⟨kF, 0, none⟩) nF nF)) gm (.bool false) (.slice p m m)) := ⟨by go_simp, by go_simp, by go_simp, by go_simp⟩
        have Xr2 : Hid (B5q ((uF.setCell ⟨gh, 0, none⟩ (.bool tF)).setCell ⟨gh, 1, none⟩ (.slice (some ⟨kF, 0, none⟩) nF nF)) gr (.bool false) (.slice none 0 0) (.bool false) (.slice none 0 0) (.int .i64 0)) := ⟨by go_simp, by go_simp, by go_simp, by go_simp, by go_simp, by go_simp, by go_simp, by go_simp, by go_simp, by go_simp⟩
        have Xk2 : Hid (Box ((uF.setCell ⟨gh, 0, none⟩ (.bool tF)).setCell ⟨gh, 1, none⟩ (.slice (some ⟨kF, 0, none⟩) nF nF)) gk (.bool s1) (.slice p1 m1 m1)) := ⟨by go_simp, by go_simp, by go_simp, by go_simp⟩
        have Xy2 : Hid (Box ((uF.setCell ⟨gh, 0, none⟩ (.bool tF)).setCell ⟨gh, 1, none⟩ (.slice (some ⟨kF, 0, none⟩) nF nF)) gy (.bool s2) (.slice (some ⟨g2, 0, none⟩) m2 m2)) := ⟨by go_simp, by go_simp, by go_simp, by go_simp⟩
        have Xs2 : Hid (Box ((uF.setCell ⟨gh, 0, none⟩ (.bool tF)).setCell ⟨gh, 1, none⟩ (.slice (some ⟨kF, 0, none⟩) nF nF)) gs (.bool s3) (.slice (some ⟨g3, 0, none⟩) m3 m3)) := ⟨by go_simp, by go_simp, by go_simp, by go_simp⟩
        have Xc2 : Hid (Box ((uF.setCell ⟨gh, 0, none⟩ (.bool tF)).setCell ⟨gh, 1, none⟩ (.slice (some ⟨kF, 0, none⟩) nF nF)) gc (.bool s4) (.slice (some ⟨g4, 0, none⟩) m4 m4)) := ⟨by go_simp, by go_simp, by go_simp, by go_simp⟩
        have RR2 : Hid (ZR ((uF.setCell ⟨gh, 0, none⟩ (.bool tF)).setCell ⟨gh, 1, none⟩ (.slice (some ⟨kF, 0, none⟩) nF nF)) tF (some ⟨kF, 0, none⟩) nF (1)) := (RR.out.set _ _ _ HNE.out).set _ _ _ HNE.out
        have hbu2 : Below Wc.heap.size Wc ((uF.setCell ⟨gh, 0, none⟩ (.bool tF)).setCell ⟨gh, 1, none⟩ (.slice (some ⟨kF, 0, none⟩) nF nF)) := bSet (bSet hbu _ _ _ HGU.out) _ _ _ HGU.out
        have hbw2 : Below w.heap.size w ((uF.setCell ⟨gh, 0, none⟩ (.bool tF)).setCell ⟨gh, 1, none⟩ (.slice (some ⟨kF, 0, none⟩) nF nF)) := bSet (bSet hbw _ _ _ HGh.out) _ _ _ HGh.out
        refine hK _ _ HJ2.out ?_
        clear hK HJ
        have HJ := HJ2
        clear HJ2
        refine wpJ_done (by kernel_rfl) ?_ _
        exact ⟨rfl, HRQ.out _ _ _ ⟨gh, tA, kA, nA, tF, kF, nF, by kernel_rfl, Xh2.out, Xm2.out, Xr2.out, Xk2.out, Xy2.out, Xs2.out, Xc2.out, RR2.out, HGh.out, HDmh.out, HDrh.out, HDkh.out, HDyh.out, HDsh.out, HDch.out, hbu2, hbw2⟩⟩
    · go_simp
      have HDmh : Hid (gm ≠ Wr.heap.size) := Nat.ne_of_lt Xm.out.lt
      have HDrh : Hid (gr ≠ Wr.heap.size) := Nat.ne_of_lt Xr.out.lt
      have HDkh : Hid (gk ≠ Wr.heap.size) := Nat.ne_of_lt Xk.out.lt
      have HDyh : Hid (gy ≠ Wr.heap.size) := Nat.ne_of_lt Xy.out.lt
      have HDsh : Hid (gs ≠ Wr.heap.size) := Nat.ne_of_lt Xs.out.lt
      have HDch : Hid (gc ≠ Wr.heap.size) := Nat.ne_of_lt Xc.out.lt
      have HGU : Hid (Wc.heap.size ≤ Wr.heap.size) := hbu.size
      have Xh0 : Hid (Box (Wr.alloc (.cells #[.bool false, .slice none 0 0] 50)) Wr.heap.size (.bool false) (.slice none 0 0)) := Box.new Wr _ _ _
      have hbn : Below Wr.heap.size Wr (Wr.alloc (.cells #[.bool false, .slice none 0 0] 50)) := below1 Wr _
      generalize Wr.alloc (.cells #[.bool false, .slice none 0 0] 50) = Wn at *
      have HGh : Hid (w.heap.size ≤ Wr.heap.size) := hbw.size
      have hbu' := Below.on hbu hbn
      clear hbu
      have hbu := hbu'
      clear hbu'
      replace Xm : Hid _ := Xm.out.below hbn
      replace Xr : Hid _ := Xr.out.below hbn
      replace Xk : Hid _ := Xk.out.below hbn
      replace Xy : Hid _ := Xy.out.below hbn
      replace Xs : Hid _ := Xs.out.below hbn
      replace Xc : Hid _ := Xc.out.below hbn
      replace hbw := Below.on hbw hbn
      clear hbn
      generalize Wr.heap.size = gh at *
      have Xh := Xh0
      clear Xh0
      refine hK _ _ ⟨Xk.out.c0, Xk.out.c1⟩ ?_
      clear hK
      refine wpJ_on 1 rfl fun KJ hK => ?_
      go_simp
      refine (rof04 4 _ (by decide) (by decide)).mono ?_
      rintro e9 uA ⟨tA, kA, nA, rfl, hzA, hlA, hbA⟩
      have hbu' := Below.on hbu hbA
      clear hbu
      have hbu := hbu'
      clear hbu'
      replace Xm : Hid _ := Xm.out.below hbA
      replace Xr : Hid _ := Xr.out.below hbA
      replace Xk : Hid _ := Xk.out.below hbA
      replace Xy : Hid _ := Xy.out.below hbA
      replace Xs : Hid _ := Xs.out.below hbA
      replace Xc : Hid _ := Xc.out.below hbA
      replace Xh : Hid _ := Xh.out.below hbA
      replace hbw := Below.on hbw hbA
      clear hbA
      have YA : Hid (ZR uA tA (some ⟨kA, 0, none⟩) nA 4) := hzA
      clear hzA hlA
      refine hK _ _ ⟨Xk.out.c0, Xk.out.c1⟩ ?_
      clear hK
      refine wpJ_on 2 rfl fun KJ hK => ?_
      go_simp
      have HLT : Hid (gh < uA.heap.size) := Xh.out.lt
      refine (rmod04 s1 tA (Z1u.out.below hbu) YA.out (Nat.le_trans (zr_len32 (Z1u.out.below hbu) (k := 1) (E := 32) rfl (by decide)) (by decide)) (zr_len32 YA.out (k := 1) (E := 32) rfl (by decide)) (by decide)).mono ?_
      rintro e9 uF ⟨v, rfl, hv, hbF⟩
      rw [show rMo 1 4 = 1 by decide] at hv
      obtain ⟨tF, kF, nF, rfl, hgF, hzF, hlF⟩ := hv
      have HGB : Hid (uA.heap.size ≤ kF) := hgF
      have hbu' := Below.on hbu hbF
      clear hbu
      have hbu := hbu'
      clear hbu'
      replace Xm : Hid _ := Xm.out.below hbF
      replace Xr : Hid _ := Xr.out.below hbF
      replace Xk : Hid _ := Xk.out.below hbF
      replace Xy : Hid _ := Xy.out.below hbF
      replace Xs : Hid _ := Xs.out.below hbF
      replace Xc : Hid _ := Xc.out.below hbF
      replace Xh : Hid _ := Xh.out.below hbF
      replace YA : Hid _ := YA.out.below hbF
      replace hbw := Below.on hbw hbF
      clear hbF
      have RR : Hid (ZR uF tF (some ⟨kF, 0, none⟩) nF (1)) := hzF
      have HLF : Hid (nF ≤ 50000) := hlF
      clear hzF hlF hgF
      clear YA
      have HNE : Hid (kF ≠ gh) := by have h1 := HLT.out; have h2 := HGB.out; show _ ≠ _; omega
      refine hK _ _ ⟨Xk.out.c0, Xk.out.c1⟩ ?_
      clear hK
      obtain ⟨ch0, ch1, fh0, fh1⟩ := Xh.out
      have hneh := Xh.out.lt
      obtain ⟨cm0, cm1, fm0, fm1⟩ := Xm.out
      have hnem := Xm.out.lt
      obtain ⟨cr0, cr1, cr2, cr3, cr4, fr0, fr1, fr2, fr3, fr4⟩ := Xr.out
      have hner : gr < uF.heap.size := World.block_lt_of_cell? uF _ cr0
      obtain ⟨ck0, ck1, fk0, fk1⟩ := Xk.out
      have hnek := Xk.out.lt
      obtain ⟨cy0, cy1, fy0, fy1⟩ := Xy.out
      have hney := Xy.out.lt
      obtain ⟨cs0, cs1, fs0, fs1⟩ := Xs.out
      have hnes := Xs.out.lt
      obtain ⟨cc0, cc1, fc0, fc1⟩ := Xc.out
      have hnec := Xc.out.lt
      have qam : gm ≠ gh := HDmh.out
      have qbm : gh ≠ gm := fun h => qam h.symm
      have qar : gr ≠ gh := HDrh.out
      have qbr : gh ≠ gr := fun h => qar h.symm
      have qak : gk ≠ gh := HDkh.out
      have qbk : gh ≠ gk := fun h => qak h.symm
      have qay : gy ≠ gh := HDyh.out
      have qby : gh ≠ gy := fun h => qay h.symm
      have qas : gs ≠ gh := HDsh.out
      have qbs : gh ≠ gs := fun h => qas h.symm
      have qac : gc ≠ gh := HDch.out
      have qbc : gh ≠ gc := fun h => qac h.symm
      refine wpJ_on 4 rfl fun KJ hK => ?_
      go_simp
      have HJ2 : Hid ((fun W' : World => W'.cell? ⟨gk, 0, none⟩ = some (.bool s1) ∧ W'.cell? ⟨gk, 1, none⟩ = some (.slice p1 m1 m1)) ((uF.setCell ⟨gh, 0, none⟩ (.bool tF)).setCell ⟨gh, 1, none⟩ (.slice (some ⟨kF, 0, none⟩) nF nF))) := ⟨by go_simp, by go_simp⟩
      have Xh2 : Hid (Box ((uF.setCell ⟨gh, 0, none⟩ (.bool tF)).setCell ⟨gh, 1, none⟩ (.slice (some ⟨kF, 0, none⟩) nF nF)) gh (.bool tF) (.slice (some ⟨kF, 0, none⟩) nF nF)) := ⟨by go_simp, by go_simp, by go_simp, by go_simp⟩
      have Xm2 : Hid (Box ((uF.setCell ⟨gh, 0, none⟩ (.bool tF)).setCell ⟨gh, 1, none⟩ (.slice (some ⟨kF, 0, none⟩) nF nF)) gm (.bool false) (.slice p m m)) := ⟨by go_simp, by go_simp, by go_simp, by go_simp⟩
      have Xr2 : Hid (B5q ((uF.setCell ⟨gh, 0, none⟩ (.bool tF)).setCell ⟨gh, 1, none⟩ (.slice (some ⟨kF, 0, none⟩) nF nF)) gr (.bool false) (.slice none 0 0) (.bool false) (.slice none 0 0) (.int .i64 0)) := ⟨by go_simp, by go_simp, by go_simp, by go_simp, by go_simp, by go_simp, by go_simp, by go_simp, by go_simp, by go_simp⟩
      have Xk2 : Hid (Box ((uF.setCell ⟨gh, 0, none⟩ (.bool tF)).setCell ⟨gh, 1, none⟩ (.slice (some ⟨kF, 0, none⟩) nF nF)) gk (.bool s1) (.slice p1 m1 m1)) := ⟨by go_simp, by go_simp, by go_simp, by go_simp⟩
      have Xy2 : Hid (Box ((uF.setCell ⟨gh, 0, none⟩ (.bool tF)).setCell ⟨gh, 1, none⟩ (.slice (some ⟨kF, 0, none⟩) nF nF)) gy (.bool s2) (.slice (some ⟨g2, 0, none⟩) m2 m2)) := ⟨by go_simp, by go_simp, by go_simp, by go_simp⟩
      have Xs2 : Hid (Box ((uF.setCell ⟨gh, 0, none⟩ (.bool tF)).setCell ⟨gh, 1, none⟩ (.slice (some ⟨kF, 0, none⟩) nF nF)) gs (.bool s3) (.slice (some ⟨g3, 0, none⟩) m3 m3)) := ⟨by go_simp, by go_simp, by go_simp, by go_simp⟩
      have Xc2 : Hid (Box ((uF.setCell ⟨gh, 0, none⟩ (.bool tF)).setCell ⟨gh, 1, none⟩ (.slice (some ⟨kF, 0, none⟩) nF nF)) gc (.bool s4) (.slice (some ⟨g4, 0, none⟩) m4 m4)) := ⟨by go_simp, by go_simp, by go_simp, by go_simp⟩
      have RR2 : Hid (ZR ((uF.setCell ⟨gh, 0, none⟩ (.bool tF)).setCell ⟨gh, 1, none⟩ (.slice (some ⟨kF, 0, none⟩) nF nF)) tF (some ⟨kF, 0, none⟩) nF (1)) := (RR.out.set _ _ _ HNE.out).set _ _ _ HNE.out
      have hbu2 : Below Wc.heap.size Wc ((uF.setCell ⟨gh, 0, none⟩ (.bool tF)).setCell ⟨gh, 1, none⟩ (.slice (some ⟨kF, 0, none⟩) nF nF)) := bSet (bSet hbu _ _ _ HGU.out) _ _ _ HGU.out
      have hbw2 : Below w.heap.size w ((uF.setCell ⟨gh, 0, none⟩ (.bool tF)).setCell ⟨gh, 1, none⟩ (.slice (some ⟨kF, 0, none⟩) nF nF)) := bSet (bSet hbw _ _ _ HGh.out) _ _ _ HGh.out
      refine hK _ _ HJ2.out ?_
      clear hK HJ
      have HJ := HJ2
      clear HJ2
      refine wpJ_done (by kernel_rfl) ?_ _
      exact ⟨rfl, HRQ.out _ _ _ ⟨gh, tA, kA, nA, tF, kF, nF, by kernel_rfl, Xh2.out, Xm2.out, Xr2.out, Xk2.out, Xy2.out, Xs2.out, Xc2.out, RR2.out, HGh.out, HDmh.out, HDrh.out, HDkh.out, HDyh.out, HDsh.out, HDch.out, hbu2, hbw2⟩⟩
theorem encl_12 {w : World} {p : Option Addr} {m j : Nat} (h : ZR w false p m (j : Int)) (hm : m ≤ 4000) (hj1 : 1 ≤ j) (hj2 : j < 53) {q : Nat} (hq : q = 380 + (6 - bitsN j)) {k y : Int} (hk : k = 1) (hR : ∀ W, Below w.heap.size w W → Calls Tryd.prog 36 #[.agg #[.bool false, .slice p m m], .int .i64 (-6), .int .i64 q] W fun en w' => ∃ s1 p1 m1 v2, en = .returned (.tuple #[.agg #[.bool s1, .slice p1 m1 m1], v2]) ∧ ZR w' s1 p1 m1 k ∧ m1 ≤ 20001 ∧ GotR W.heap.size w' v2 y 50000 ∧ Below W.heap.size W w') (hy : y.natAbs ≤ 2 ^ q) {N A : Nat} (hN : N = q + 104) (hA : A = y.natAbs * 2 ^ 94) {S1 C1 S2 C2 : Int} (hL : scL A N (N + 1) 0 (2 ^ N) 0 0 = (S1, C1)) (hB : scB N 10 S1 C1 = true) (hD : scD N 10 S1 C1 = (S2, C2)) {X : Int} (hX : ∀ s2, s2 = decide (y < 0) → -(rFs (iv s2 S2.natAbs) 104) = X) {T E : Nat} (hT : T = 300) (hE : E = 32 * 60) (hX1 : 8 < X) (hX2 : X.natAbs + 8 < 2 ^ E) (hX3 : (X + 8 - (X - 8)) * 2 ^ T ≤ X - 8) :
    Calls Tryd.prog 22 #[.int .i64 2, .agg #[.bool false, .slice p m m], .int .i64 (-6), .int .i64 300] w fun en w' => ∃ v, en = .returned v ∧ GotN w.heap.size w' v (X - 8) (X + 8) (q : Int) 60 ∧ Below w.heap.size w w' := by
  have HA : Hid (ZR w false p m (j : Int) ∧ m ≤ 4000) := ⟨h, hm⟩
  have NJ : Hid (RN w p m j) := by have h9 := h.rn hm; rw [Int.natAbs_natCast] at h9; exact h9
  obtain ⟨b, hb⟩ : ∃ b : Int, b = (bitsN j : Int) + -6 := ⟨_, rfl⟩
  obtain ⟨sm, hsm⟩ : ∃ sm, sm = 6 - bitsN j := ⟨_, rfl⟩
  rw [← hsm] at hq
  have HW := Hid.mk9 (enc_w hb (bits_j hj2) hsm hq)
  have HC : Hid (1 ≤ j ∧ j < 53 ∧ 380 ≤ q ∧ q ≤ 385) := ⟨hj1, hj2, by omega, by have := bitsN_pos (a := j) (by omega); omega⟩
  subst hk
  have HR := Hid.mk9 hR
  have HS := Hid.mk9 (And.intro hy (And.intro hN (And.intro hA (And.intro hL (And.intro hB hD)))))
  have HX := Hid.mk9 (And.intro hX (And.intro hT (And.intro hE (And.intro hX1 (And.intro hX2 hX3)))))
  clear hX hT hE hX1 hX2 hX3
  clear hR hy hN hA hL hB hD h hm hb hsm hj1 hj2 hq
  go_enter Tryd.func22, Tryd.ntmps22
  go_wp2_with fail
  obtain ⟨W0, hW0⟩ : ∃ W0, W0 = ((w.alloc (.cells #[.bool false, .slice p m m] 50)).alloc (.cells #[.bool false, .slice none 0 0, .bool false, .slice none 0 0, .int .i64 0] 52)) := ⟨_, rfl⟩
  have Xm : Hid (Box W0 (w.heap.size) (.bool false) (.slice p m m)) := by rw [hW0]; exact ⟨by go_simp, by go_simp, by go_simp, by go_simp⟩
  have Xr : Hid (B5q W0 (w.heap.size + 1) (.bool false) (.slice none 0 0) (.bool false) (.slice none 0 0) (.int .i64 0)) := by rw [hW0]; exact ⟨by go_simp, by go_simp, by go_simp, by go_simp, by go_simp, by go_simp, by go_simp, by go_simp, by go_simp, by go_simp⟩
  have hb0 : Below w.heap.size w W0 := by rw [hW0]; exact below2 w _ _
  rw [← hW0]
  clear hW0
  have hbw : Below w.heap.size w w := Below.refl _ _
  obtain ⟨gr, hgr⟩ : ∃ g, g = w.heap.size + 1 := ⟨_, rfl⟩
  have HGr : Hid (w.heap.size ≤ gr) := by rw [hgr]; show _ ≤ _; omega
  rw [← hgr] at Xr
  try rw [← hgr]
  obtain ⟨gm, hgm⟩ : ∃ g, g = w.heap.size := ⟨_, rfl⟩
  have HGm : Hid (w.heap.size ≤ gm) := by rw [hgm]; show _ ≤ _; omega
  rw [← hgm] at Xm
  try rw [← hgm]
  have HGD : Hid (gm ≠ gr ∧ gr ≠ gm) := by rw [hgm, hgr]; exact ⟨by omega, by omega⟩
  clear hgm hgr
  replace NJ : Hid (RN W0 p m j) := NJ.out.below hb0
  replace hbw := Below.on hbw hb0
  clear hb0
  obtain ⟨w1, w1', w2, w2', mx, w3, w3'⟩ := HW.out
  obtain ⟨cm0, cm1, fm0, fm1⟩ := Xm.out
  have hnem := Xm.out.lt
  go_wp2_with fail
  clear cm0 cm1 fm0 fm1 hnem
  clear w1 w1' w2 w2' mx w3 w3'
  refine (rn_bits NJ.out).mono ?_
  rintro e9 v9 ⟨rfl, hw⟩
  obtain rfl := hw.symm
  clear hw
  obtain ⟨w1, w1', w2, w2', mx, w3, w3'⟩ := HW.out
  obtain ⟨cm0, cm1, fm0, fm1⟩ := Xm.out
  have hnem := Xm.out.lt
  go_wp2_with fail
  clear cm0 cm1 fm0 fm1 hnem
  clear w1 w1' w2 w2' mx w3 w3'
  refine wp_loop_rounds 1 ?_
  rw [rounds_succ]
  obtain ⟨w1, w1', w2, w2', mx, w3, w3'⟩ := HW.out
  obtain ⟨cm0, cm1, fm0, fm1⟩ := Xm.out
  have hnem := Xm.out.lt
  go_wp2_with fail
  clear cm0 cm1 fm0 fm1 hnem
  clear w1 w1' w2 w2' mx w3 w3'
  refine (HR.out _ hbw).mono ?_
  rintro e9 v1 ⟨s1, p1, m1, v, rfl, hz1, hl1, ⟨s2, g2, m2, rfl, hg2, hz2, hl2⟩, hb1⟩
  replace Xm : Hid _ := Xm.out.below hb1
  replace Xr : Hid _ := Xr.out.below hb1
  replace NJ : Hid (RN v1 p m j) := NJ.out.below hb1
  replace hbw := Below.on hbw hb1
  clear hb1
  have Z1 : Hid (ZR v1 s1 p1 m1 1) := hz1
  have Z2 : Hid (ZR v1 s2 (some ⟨g2, 0, none⟩) m2 y) := hz2
  have HL1 := Hid.mk9 hl1
  have HG2 := Hid.mk9 hg2
  have HS2 : Hid (s2 = decide (y < 0)) := Z2.out.sg
  clear hz1 hz2 hl1 hl2 hg2
  go_wp2_with fail
  obtain ⟨Wy, hWy⟩ : ∃ W9, W9 = ((v1.alloc (.cells #[.bool s1, .slice p1 m1 m1] 50)).alloc (.cells #[.bool s2, .slice (some ⟨g2, 0, none⟩) m2 m2] 50)) := ⟨_, rfl⟩
  have Xk0 : Hid (Box Wy (v1.heap.size) (.bool s1) (.slice p1 m1 m1)) := by rw [hWy]; exact ⟨by go_simp, by go_simp, by go_simp, by go_simp⟩
  have Xy0 : Hid (Box Wy (v1.heap.size + 1) (.bool s2) (.slice (some ⟨g2, 0, none⟩) m2 m2)) := by rw [hWy]; exact ⟨by go_simp, by go_simp, by go_simp, by go_simp⟩
  have hbn : Below v1.heap.size v1 Wy := by rw [hWy]; exact below2 v1 _ _
  rw [← hWy]
  clear hWy
  obtain ⟨gy, hgy⟩ : ∃ g, g = v1.heap.size + 1 := ⟨_, rfl⟩
  have HGy : Hid (w.heap.size ≤ gy) := by rw [hgy]; have := hbw.size; show _ ≤ _; omega
  rw [← hgy] at Xy0
  try rw [← hgy]
  obtain ⟨gk, hgk⟩ : ∃ g, g = v1.heap.size := ⟨_, rfl⟩
  have HGk : Hid (w.heap.size ≤ gk) := by rw [hgk]; have := hbw.size; show _ ≤ _; omega
  rw [← hgk] at Xk0
  try rw [← hgk]
  clear hgk hgy
  replace Xm : Hid _ := Xm.out.below hbn
  replace Xr : Hid _ := Xr.out.below hbn
  replace NJ : Hid (RN Wy p m j) := NJ.out.below hbn
  replace Z1 : Hid _ := Z1.out.below hbn
  replace Z2 : Hid _ := Z2.out.below hbn
  replace hbw := Below.on hbw hbn
  clear hbn
  have Xk := Xk0
  clear Xk0
  have Xy := Xy0
  clear Xy0
  obtain ⟨E6, hE6⟩ : ∃ E6, E6 = 32 * 20 := ⟨_, rfl⟩
  have HE6 := Hid.mk9 hE6
  clear hE6
  have HM2 : Hid (m2 ≤ 20) := zr_len32 Z2.out (E := E6) HE6.out (Nat.lt_of_le_of_lt HS.out.1 ((Nat.pow_lt_pow_iff_right (by decide)).2 (by have := HC.out; have := HE6.out; omega)))
  have HRS : Hid (gr < Wy.heap.size ∧ gm < Wy.heap.size ∧ gk < Wy.heap.size ∧ gy < Wy.heap.size) := ⟨Xr.out.lt, Xm.out.lt, Xk.out.lt, Xy.out.lt⟩
  refine (sincos_ok s2 Z2.out (by have := HM2.out; omega) q (by have := HC.out; omega) (by have := HC.out; omega) HS.out.1 HS.out.2.1 HS.out.2.2.1 HS.out.2.2.2.1 HS.out.2.2.2.2.1 HS.out.2.2.2.2.2).mono ?_
  rintro e9 v3 ⟨va, vb, rfl, ⟨s3, g3, m3, rfl, hg3, hz3, hl3⟩, ⟨s4, g4, m4, rfl, hg4, hz4, hl4⟩, hb3⟩
  replace Xm : Hid _ := Xm.out.below hb3
  replace Xr : Hid _ := Xr.out.below hb3
  replace Xk : Hid _ := Xk.out.below hb3
  replace Xy : Hid _ := Xy.out.below hb3
  replace NJ : Hid (RN v3 p m j) := NJ.out.below hb3
  replace Z1 : Hid _ := Z1.out.below hb3
  replace Z2 : Hid _ := Z2.out.below hb3
  replace hbw := Below.on hbw hb3
  clear hb3
  have Z3 : Hid (ZR v3 s3 (some ⟨g3, 0, none⟩) m3 (rFs (iv s2 S2.natAbs) 104)) := hz3
  have Z4 : Hid (ZR v3 s4 (some ⟨g4, 0, none⟩) m4 (rFs C2 104)) := hz4
  have HG34 : Hid (Wy.heap.size ≤ g3 ∧ Wy.heap.size ≤ g4 ∧ m3 ≤ 10000 ∧ m4 ≤ 10000) := ⟨hg3, hg4, hl3, hl4⟩
  clear hz3 hz4 hl3 hl4 hg3 hg4
  obtain ⟨ck0, ck1, fk0, fk1⟩ := Xk.out
  have hnek := Xk.out.lt
  go_wp2_with fail
  clear ck0 ck1 fk0 fk1 hnek
  have HB34 : Hid ((m3 = 0 ∨ g3 < v3.heap.size) ∧ (m4 = 0 ∨ g4 < v3.heap.size) ∧ gr < v3.heap.size) := ⟨(Nat.eq_zero_or_pos m3).imp id fun h => Z3.out.blk9 (by omega), (Nat.eq_zero_or_pos m4).imp id fun h => Z4.out.blk9 (by omega), Xr.out.lt⟩
  obtain ⟨Wc, hWc⟩ : ∃ W9, W9 = ((v3.alloc (.cells #[.bool s3, .slice (some ⟨g3, 0, none⟩) m3 m3] 50)).alloc (.cells #[.bool s4, .slice (some ⟨g4, 0, none⟩) m4 m4] 50)) := ⟨_, rfl⟩
  have Xs0 : Hid (Box Wc (v3.heap.size) (.bool s3) (.slice (some ⟨g3, 0, none⟩) m3 m3)) := by rw [hWc]; exact ⟨by go_simp, by go_simp, by go_simp, by go_simp⟩
  have Xc0 : Hid (Box Wc (v3.heap.size + 1) (.bool s4) (.slice (some ⟨g4, 0, none⟩) m4 m4)) := by rw [hWc]; exact ⟨by go_simp, by go_simp, by go_simp, by go_simp⟩
  have hbn : Below v3.heap.size v3 Wc := by rw [hWc]; exact below2 v3 _ _
  rw [← hWc]
  clear hWc
  obtain ⟨gc, hgc⟩ : ∃ g, g = v3.heap.size + 1 := ⟨_, rfl⟩
  have HGc : Hid (w.heap.size ≤ gc) := by rw [hgc]; have := hbw.size; show _ ≤ _; omega
  rw [← hgc] at Xc0
  try rw [← hgc]
  obtain ⟨gs, hgs⟩ : ∃ g, g = v3.heap.size := ⟨_, rfl⟩
  have HGs : Hid (w.heap.size ≤ gs) := by rw [hgs]; have := hbw.size; show _ ≤ _; omega
  rw [← hgs] at Xs0
  try rw [← hgs]
  have HSC : Hid ((m3 = 0 ∨ g3 < gs) ∧ (m4 = 0 ∨ g4 < gs) ∧ gr < gs ∧ gc = gs + 1) := by have h := HB34.out; exact ⟨by omega, by omega, by omega, by omega⟩
  clear hgs hgc
  replace Xm : Hid _ := Xm.out.below hbn
  replace Xr : Hid _ := Xr.out.below hbn
  replace Xk : Hid _ := Xk.out.below hbn
  replace Xy : Hid _ := Xy.out.below hbn
  replace NJ : Hid (RN Wc p m j) := NJ.out.below hbn
  replace Z1 : Hid _ := Z1.out.below hbn
  replace Z2 : Hid _ := Z2.out.below hbn
  replace Z3 : Hid _ := Z3.out.below hbn
  replace Z4 : Hid _ := Z4.out.below hbn
  replace hbw := Below.on hbw hbn
  clear hbn
  have Xs := Xs0
  clear Xs0
  have Xc := Xc0
  clear Xc0
  clear HB34
  have Z1u : Hid (ZR Wc s1 p1 m1 1) := Z1.out
  have Z3u : Hid (ZR Wc s3 (some ⟨g3, 0, none⟩) m3 (rFs (iv s2 S2.natAbs) 104)) := Z3.out
  have Z4u : Hid (ZR Wc s4 (some ⟨g4, 0, none⟩) m4 (rFs C2 104)) := Z4.out
  have hbu : Below Wc.heap.size Wc Wc := Below.refl _ _
  clear NJ
  clear Z1
  clear Z2
  clear Z3
  clear Z4
  obtain ⟨Wr, hWr⟩ : ∃ W1, W1 = Wc.drew := ⟨_, rfl⟩
  have hbd : Below Wc.heap.size Wc Wr := by rw [hWr]; exact bDrew1 (Below.refl _ _)
  have hbu' := Below.on hbu hbd
  clear hbu
  have hbu := hbu'
  clear hbu'
  replace Xm : Hid _ := Xm.out.below hbd
  replace Xr : Hid _ := Xr.out.below hbd
  replace Xk : Hid _ := Xk.out.below hbd
  replace Xy : Hid _ := Xy.out.below hbd
  replace Xs : Hid _ := Xs.out.below hbd
  replace Xc : Hid _ := Xc.out.below hbd
  replace hbw := Below.on hbw hbd
  clear hbd
  have HJ : Hid ((fun W' : World => W'.cell? ⟨gk, 0, none⟩ = some (.bool s1) ∧ W'.cell? ⟨gk, 1, none⟩ = some (.slice p1 m1 m1)) Wr) := ⟨Xk.out.c0, Xk.out.c1⟩
  refine wp_region_J (fun W' => W'.cell? ⟨gk, 0, none⟩ = some (.bool s1) ∧ W'.cell? ⟨gk, 1, none⟩ = some (.slice p1 m1 m1)) (by kernel_rfl) ?_
  rw [← hWr]
  clear hWr
  refine wpJ_tq 0 rfl HJ.out ?_
  obtain ⟨RQ, HRQ, HRP⟩ : ∃ RQ : Act → Act → World → Prop, Hid (∀ a1 a2 a3, (fun a0 a' W' => ∃ gh tA kA nA tF kF nF, a' = (((a0.put (some 50) (.agg #[.bool tA, .slice (some ⟨kA, 0, none⟩) nA nA])).put (some 51) (.agg #[.bool tF, .slice (some ⟨kF, 0, none⟩) nF nF])).put (some 15) (.pointer (some ⟨gh, 0, none⟩))) ∧ Box W' gh (.bool tF) (.slice (some ⟨kF, 0, none⟩) nF nF) ∧ Box W' gm (.bool false) (.slice p m m) ∧ B5q W' gr (.bool false) (.slice none 0 0) (.bool false) (.slice none 0 0) (.int .i64 0) ∧ Box W' gk (.bool s1) (.slice p1 m1 m1) ∧ Box W' gy (.bool s2) (.slice (some ⟨g2, 0, none⟩) m2 m2) ∧ Box W' gs (.bool s3) (.slice (some ⟨g3, 0, none⟩) m3 m3) ∧ Box W' gc (.bool s4) (.slice (some ⟨g4, 0, none⟩) m4 m4) ∧ ZR W' tF (some ⟨kF, 0, none⟩) nF (1) ∧ w.heap.size ≤ gh ∧ gm ≠ gh ∧ gr ≠ gh ∧ gk ≠ gh ∧ gy ≠ gh ∧ gs ≠ gh ∧ gc ≠ gh ∧ Below Wc.heap.size Wc W' ∧ Below w.heap.size w W') a1 a2 a3 → RQ a1 a2 a3) ∧ Hid (∀ a1 a2 a3, RQ a1 a2 a3 → (fun a0 a' W' => ∃ gh tA kA nA tF kF nF, a' = (((a0.put (some 50) (.agg #[.bool tA, .slice (some ⟨kA, 0, none⟩) nA nA])).put (some 51) (.agg #[.bool tF, .slice (some ⟨kF, 0, none⟩) nF nF])).put (some 15) (.pointer (some ⟨gh, 0, none⟩))) ∧ Box W' gh (.bool tF) (.slice (some ⟨kF, 0, none⟩) nF nF) ∧ Box W' gm (.bool false) (.slice p m m) ∧ B5q W' gr (.bool false) (.slice none 0 0) (.bool false) (.slice none 0 0) (.int .i64 0) ∧ Box W' gk (.bool s1) (.slice p1 m1 m1) ∧ Box W' gy (.bool s2) (.slice (some ⟨g2, 0, none⟩) m2 m2) ∧ Box W' gs (.bool s3) (.slice (some ⟨g3, 0, none⟩) m3 m3) ∧ Box W' gc (.bool s4) (.slice (some ⟨g4, 0, none⟩) m4 m4) ∧ ZR W' tF (some ⟨kF, 0, none⟩) nF (1) ∧ w.heap.size ≤ gh ∧ gm ≠ gh ∧ gr ≠ gh ∧ gk ≠ gh ∧ gy ≠ gh ∧ gs ≠ gh ∧ gc ≠ gh ∧ Below Wc.heap.size Wc W' ∧ Below w.heap.size w W') a1 a2 a3) := ⟨_, fun _ _ _ h => h, fun _ _ _ h => h⟩
  refine wpJ_cutA RQ ?_ ?_
  · intro a' Wc hrq
    obtain ⟨gh, tA, kA, nA, tF, kF, nF, rfl, xbQ, xm, xr, xk, xy, xs, xc, rr, hg, hdm, hdr, hdk, hdy, hds, hdc, hbuc, hbc⟩ := HRP.out _ _ _ hrq
    clear hrq HRP HRQ
    clear hbw hbu HJ Xm Xr Xk Xy Xs Xc
    have hbw := hbc
    have hbu := hbuc
    have Xh : Hid (Box Wc gh (.bool tF) (.slice (some ⟨kF, 0, none⟩) nF nF)) := xbQ
    have Xm : Hid (Box Wc gm (.bool false) (.slice p m m)) := xm
    have Xr : Hid (B5q Wc gr (.bool false) (.slice none 0 0) (.bool false) (.slice none 0 0) (.int .i64 0)) := xr
    have Xk : Hid (Box Wc gk (.bool s1) (.slice p1 m1 m1)) := xk
    have Xy : Hid (Box Wc gy (.bool s2) (.slice (some ⟨g2, 0, none⟩) m2 m2)) := xy
    have Xs : Hid (Box Wc gs (.bool s3) (.slice (some ⟨g3, 0, none⟩) m3 m3)) := xs
    have Xc : Hid (Box Wc gc (.bool s4) (.slice (some ⟨g4, 0, none⟩) m4 m4)) := xc
    have RR : Hid (ZR Wc tF (some ⟨kF, 0, none⟩) nF (1)) := rr
    have HGh : Hid (w.heap.size ≤ gh) := hg
    have HDmh : Hid (gm ≠ gh) := hdm
    have HDrh : Hid (gr ≠ gh) := hdr
    have HDkh : Hid (gk ≠ gh) := hdk
    have HDyh : Hid (gy ≠ gh) := hdy
    have HDsh : Hid (gs ≠ gh) := hds
    have HDch : Hid (gc ≠ gh) := hdc
    clear xbQ xm xr xk xy xs xc rr hg hdm hdr hdk hdy hds hdc hbuc hbc
    have Z3 : Hid (ZR Wc s3 (some ⟨g3, 0, none⟩) m3 (rFs (iv s2 S2.natAbs) 104)) := Z3u.out.below hbu
    have Z4 : Hid (ZR Wc s4 (some ⟨g4, 0, none⟩) m4 (rFs C2 104)) := Z4u.out.below hbu
    clear hbu Z1u Z3u Z4u
    obtain ⟨ch0, ch1, fh0, fh1⟩ := Xh.out
    have hneh := Xh.out.lt
    go_wp2_with fail
    clear ch0 ch1 fh0 fh1 hneh
    obtain rfl : tF = false := RR.out.sg
    refine (rint04_pt RR.out (Nat.le_trans (zr_len32 RR.out (k := 1) (E := 32) rfl (by decide)) (by decide)) (by decide) (by decide)).mono ?_
    rintro e v21 ⟨rfl, hb21⟩
    replace Xh : Hid _ := Xh.out.below hb21
    replace Xm : Hid _ := Xm.out.below hb21
    replace Xr : Hid _ := Xr.out.below hb21
    replace Xk : Hid _ := Xk.out.below hb21
    replace Xy : Hid _ := Xy.out.below hb21
    replace Xs : Hid _ := Xs.out.below hb21
    replace Xc : Hid _ := Xc.out.below hb21
    replace RR : Hid _ := RR.out.below hb21
    replace Z3 : Hid _ := Z3.out.below hb21
    replace Z4 : Hid _ := Z4.out.below hb21
    replace hbw := Below.on hbw hb21
    clear hb21
    go_wp2_with fail
    refine wp_loop_rounds 2 ?_
    rw [rounds_succ]
    go_wp2_with fail
    clear Xm
    clear Xk
    clear Xy
    clear Xh
    clear RR
    obtain ⟨V20, hV20⟩ : ∃ W9, W9 = v21.drew := ⟨_, rfl⟩
    have hbd : Below v21.heap.size v21 V20 := by rw [hV20]; exact bDrew1 (Below.refl _ _)
    replace Xr : Hid _ := Xr.out.below hbd
    replace Xs : Hid _ := Xs.out.below hbd
    replace Xc : Hid _ := Xc.out.below hbd
    replace Z3 : Hid _ := Z3.out.below hbd
    replace Z4 : Hid _ := Z4.out.below hbd
    replace hbw := Below.on hbw hbd
    clear hbd
    have HJ : Hid ((fun W' : World => W'.cell? ⟨gs, 0, none⟩ = some (.bool s3) ∧ W'.cell? ⟨gs, 1, none⟩ = some (.slice (some ⟨g3, 0, none⟩) m3 m3) ∧ W'.cell? ⟨gc, 0, none⟩ = some (.bool s4) ∧ W'.cell? ⟨gc, 1, none⟩ = some (.slice (some ⟨g4, 0, none⟩) m4 m4)) V20) := ⟨Xs.out.c0, Xs.out.c1, Xc.out.c0, Xc.out.c1⟩
    refine wp_region_M (fun W' => W'.cell? ⟨gs, 0, none⟩ = some (.bool s3) ∧ W'.cell? ⟨gs, 1, none⟩ = some (.slice (some ⟨g3, 0, none⟩) m3 m3) ∧ W'.cell? ⟨gc, 0, none⟩ = some (.bool s4) ∧ W'.cell? ⟨gc, 1, none⟩ = some (.slice (some ⟨g4, 0, none⟩) m4 m4)) 3 (by kernel_rfl) ?_
    rw [← hV20]
    clear hV20
    refine wpM_take (i := 0) (v := ?v5x0) rfl (by kernel_rfl) (by kernel_rfl) (by kernel_rfl) (fun _ _ _ h => h) (by kernel_rfl) ?hy5x0 HJ.out ?rest5x0
    case hy5x0 => (intro W' hJ; obtain ⟨j0, j1, j2, j3⟩ := hJ; go_simp; first | done | with_reducible rfl)
    refine wpM_take (i := 1) (v := ?v6x1) rfl (by kernel_rfl) (by kernel_rfl) (by kernel_rfl) (fun _ _ _ h => h) (by kernel_rfl) ?hy6x1 HJ.out ?rest6x1
    case hy6x1 => (intro W' hJ; obtain ⟨j0, j1, j2, j3⟩ := hJ; go_simp; first | done | with_reducible rfl)
    go_simp
    have HRB : Hid (gr < V20.heap.size ∧ gs < V20.heap.size ∧ gc < V20.heap.size ∧ w.heap.size ≤ V20.heap.size) := ⟨Xr.out.lt, Xs.out.lt, Xc.out.lt, hbw.size⟩
    refine wpM_one (i := 2) (by kernel_rfl) rfl (by kernel_rfl) (fun KJ hK => ?_)
    go_simp
    refine (rflip_any s3 Z3.out (by have := HG34.out.2.2.1; omega)).mono ?_
    rintro e9 v9 ⟨v, rfl, ⟨s9, g9, m9, rfl, hg9, hz9, hl9⟩, hb9⟩
    replace Xr : Hid _ := Xr.out.below hb9
    replace Xs : Hid _ := Xs.out.below hb9
    replace Xc : Hid _ := Xc.out.below hb9
    replace Z3 : Hid _ := Z3.out.below hb9
    replace Z4 : Hid _ := Z4.out.below hb9
    replace hbw := Below.on hbw hb9
    clear hb9
    have Z9 : Hid (ZR v9 s9 (some ⟨g9, 0, none⟩) m9 (-(rFs (iv s2 S2.natAbs) 104))) := hz9
    have HL9 : Hid (m9 ≤ m3) := hl9
    have HG9 : Hid (V20.heap.size ≤ g9) := hg9
    clear hz9 hl9 hg9
    refine hK _ _ ⟨Xs.out.c0, Xs.out.c1, Xc.out.c0, Xc.out.c1⟩ ?_
    clear hK
    go_simp
    have ne0 : gs ≠ gc := by have h := HSC.out; omega
    have ne1 : gc ≠ gs := by have h := HSC.out; omega
    obtain ⟨cs0, cs1, fs0, fs1⟩ := Xs.out
    have hnes := Xs.out.lt
    obtain ⟨cc0, cc1, fc0, fc1⟩ := Xc.out
    have hnec := Xc.out.lt
    refine wpM_last (i := 3) (by decide) (by kernel_rfl) rfl (by kernel_rfl) (fun KJ hK => ?_)
    go_simp
    refine hK _ _ ?_
    clear hK
    refine wpM_last (i := 4) (by decide) (by kernel_rfl) rfl (by kernel_rfl) (fun KJ hK => ?_)
    go_simp
    refine hK _ _ ?_
    clear hK
    clear HJ
    refine wpM_done (by kernel_rfl) ?_ _
    clear cs0 cs1 fs0 fs1 hnes
    clear cc0 cc1 fc0 fc1 hnec
    obtain ⟨V27, hV27⟩ : ∃ W9, W9 = ((((v9.setCell ⟨gs, 0, none⟩ (.bool s4)).setCell ⟨gs, 1, none⟩ (.slice (some ⟨g4, 0, none⟩) m4 m4)).setCell ⟨gc, 0, none⟩ (.bool s9)).setCell ⟨gc, 1, none⟩ (.slice (some ⟨g9, 0, none⟩) m9 m9)) := ⟨_, rfl⟩
    have Ys : Hid (Box V27 gs (.bool s4) (.slice (some ⟨g4, 0, none⟩) m4 m4)) := by rw [hV27]; exact (Xs.out.put2 _ _).off2 ne0 _ _
    have Yc : Hid (Box V27 gc (.bool s9) (.slice (some ⟨g9, 0, none⟩) m9 m9)) := by rw [hV27]; exact (Xc.out.off2 ne1 _ _).put2 _ _
    have qa : gr ≠ gs := by have h := HSC.out; omega
    have qb : gr ≠ gc := by have h := HSC.out; omega
    have qa' := qa.symm
    have qb' := qb.symm
    obtain ⟨cr0, cr1, cr2, cr3, cr4, fr0, fr1, fr2, fr3, fr4⟩ := Xr.out
    have hner : gr < v9.heap.size := World.block_lt_of_cell? v9 _ cr0
    have Yr : Hid (B5q V27 gr (.bool false) (.slice none 0 0) (.bool false) (.slice none 0 0) (.int .i64 0)) := by rw [hV27]; exact ⟨by go_simp, by go_simp, by go_simp, by go_simp, by go_simp, by go_simp, by go_simp, by go_simp, by go_simp, by go_simp⟩
    clear cr0 cr1 cr2 cr3 cr4 fr0 fr1 fr2 fr3 fr4 hner
    have F4 : ZF gs gc gs v9 s4 (some ⟨g4, 0, none⟩) m4 (rFs C2 104) := ⟨Z4.out, by have h := HSC.out; exact h.2.1.elim .inl fun h1 => .inr ⟨g4, rfl, by omega, by omega, by omega⟩⟩
    have F9 : ZF gs gc gs v9 s9 (some ⟨g9, 0, none⟩) m9 (-(rFs (iv s2 S2.natAbs) 104)) := ⟨Z9.out, .inr ⟨g9, rfl, by have h := HRB.out; have h1 := HG9.out; omega, by have h := HRB.out; have h1 := HG9.out; omega, by have h := HRB.out; have h1 := HG9.out; omega⟩⟩
    have Y4 : Hid (ZR V27 s4 (some ⟨g4, 0, none⟩) m4 (rFs C2 104)) := by rw [hV27]; exact ((((F4.set _ _ _ (.inl rfl)).set _ _ _ (.inl rfl)).set _ _ _ (.inr (.inl rfl))).set _ _ _ (.inr (.inl rfl))).zr
    have Y9 : Hid (ZR V27 s9 (some ⟨g9, 0, none⟩) m9 (-(rFs (iv s2 S2.natAbs) 104))) := by rw [hV27]; exact ((((F9.set _ _ _ (.inl rfl)).set _ _ _ (.inl rfl)).set _ _ _ (.inr (.inl rfl))).set _ _ _ (.inr (.inl rfl))).zr
    have hbw2 : Below w.heap.size w V27 := by rw [hV27]; exact bSet (bSet (bSet (bSet (hbw) _ _ _ HGs.out) _ _ _ HGs.out) _ _ _ HGc.out) _ _ _ HGc.out
    rw [← hV27]
    clear hV27 hbw Xs Xc Xr Z3 Z4 Z9 F4 F9 qa qb qa' qb' ne0 ne1
    have hbw := hbw2
    have Xs := Ys
    have Xc := Yc
    have Xr := Yr
    have Z4 := Y4
    have Z9 := Y9
    clear hbw2 Ys Yc Yr Y4 Y9
    go_wp2_with fail
    rw [rounds_succ]
    obtain ⟨cs0, cs1, fs0, fs1⟩ := Xs.out
    have hnes := Xs.out.lt
    go_wp2_with fail
    clear cs0 cs1 fs0 fs1 hnes
    have HMM : Hid (m4 ≤ 10000) := HG34.out.2.2.2
    have HGR9 : Hid (gr < V27.heap.size ∧ w.heap.size ≤ V27.heap.size) := ⟨Xr.out.lt, hbw.size⟩
    refine (around_ok s4 Z4.out (by have := HMM.out; omega) q).mono ?_
    rintro e9 v5 ⟨v, rfl, hv, hb5⟩
    obtain ⟨s5, g5, m5, s6, g6, m6, rfl, hg5, hg6, hz5, hz6, hl5, hl6⟩ := hv
    replace Xs : Hid _ := Xs.out.below hb5
    replace Xc : Hid _ := Xc.out.below hb5
    replace Xr : Hid _ := Xr.out.below hb5
    replace Z4 : Hid _ := Z4.out.below hb5
    replace Z9 : Hid _ := Z9.out.below hb5
    replace hbw := Below.on hbw hb5
    clear hb5
    have Z5 : Hid (ZR v5 s5 (some ⟨g5, 0, none⟩) m5 (rFs C2 104 - 8)) := hz5
    have Z6 : Hid (ZR v5 s6 (some ⟨g6, 0, none⟩) m6 (rFs C2 104 + 8)) := hz6
    have HG5n : Hid (V27.heap.size ≤ g5 ∧ V27.heap.size ≤ g6) := ⟨hg5, hg6⟩
    clear hg5 hg6 hz5 hz6 hl5 hl6
    have HGW5 : Hid (w.heap.size ≤ g5 ∧ w.heap.size ≤ g6 ∧ gr < g5 ∧ gr < g6) := by have h1 := HGR9.out; have h2 := HG5n.out; exact ⟨by omega, by omega, by omega, by omega⟩
    obtain ⟨cc0, cc1, fc0, fc1⟩ := Xc.out
    have hnec := Xc.out.lt
    go_wp2_with fail
    clear cc0 cc1 fc0 fc1 hnec
    have HDsv : Hid (gs ≠ v5.heap.size) := Nat.ne_of_lt Xs.out.lt
    have HDcv : Hid (gc ≠ v5.heap.size) := Nat.ne_of_lt Xc.out.lt
    have HDrv : Hid (gr ≠ v5.heap.size) := Nat.ne_of_lt Xr.out.lt
    have Xv0 : Hid (B5q (v5.alloc (.cells #[.bool s5, .slice (some ⟨g5, 0, none⟩) m5 m5, .bool s6, .slice (some ⟨g6, 0, none⟩) m6 m6, .int .i64 q] 52)) v5.heap.size (.bool s5) (.slice (some ⟨g5, 0, none⟩) m5 m5) (.bool s6) (.slice (some ⟨g6, 0, none⟩) m6 m6) (.int .i64 q)) := B5q.new v5 _ _ _ _ _ _
    have hbn : Below v5.heap.size v5 (v5.alloc (.cells #[.bool s5, .slice (some ⟨g5, 0, none⟩) m5 m5, .bool s6, .slice (some ⟨g6, 0, none⟩) m6 m6, .int .i64 q] 52)) := below1 v5 _
    generalize v5.alloc (.cells #[.bool s5, .slice (some ⟨g5, 0, none⟩) m5 m5, .bool s6, .slice (some ⟨g6, 0, none⟩) m6 m6, .int .i64 q] 52) = Wv9 at *
    have HGv : Hid (w.heap.size ≤ v5.heap.size) := hbw.size
    replace Xs : Hid _ := Xs.out.below hbn
    replace Xc : Hid _ := Xc.out.below hbn
    replace Xr : Hid _ := Xr.out.below hbn
    replace Z4 : Hid _ := Z4.out.below hbn
    replace Z9 : Hid _ := Z9.out.below hbn
    replace Z5 : Hid _ := Z5.out.below hbn
    replace Z6 : Hid _ := Z6.out.below hbn
    replace hbw := Below.on hbw hbn
    clear hbn
    generalize v5.heap.size = gv at *
    have Xv := Xv0
    clear Xv0
    have HGV9 : Hid (gr < Wv9.heap.size ∧ gv < Wv9.heap.size ∧ w.heap.size ≤ Wv9.heap.size) := ⟨Xr.out.lt, Xv.out.lt, hbw.size⟩
    refine (around_ok s9 Z9.out (by have := HL9.out; have := HG34.out.2.2.1; omega) q).mono ?_
    rintro e9 v7 ⟨v, rfl, hv, hb7⟩
    obtain ⟨s7, g7, m7, s8, g8, m8, rfl, hg7, hg8, hz7, hz8, hl7, hl8⟩ := hv
    replace Xs : Hid _ := Xs.out.below hb7
    replace Xc : Hid _ := Xc.out.below hb7
    replace Xr : Hid _ := Xr.out.below hb7
    replace Xv : Hid _ := Xv.out.below hb7
    replace Z4 : Hid _ := Z4.out.below hb7
    replace Z9 : Hid _ := Z9.out.below hb7
    replace Z5 : Hid _ := Z5.out.below hb7
    replace Z6 : Hid _ := Z6.out.below hb7
    replace hbw := Below.on hbw hb7
    clear hb7
    have Z7 : Hid (ZR v7 s7 (some ⟨g7, 0, none⟩) m7 (-(rFs (iv s2 S2.natAbs) 104) - 8)) := hz7
    have Z8 : Hid (ZR v7 s8 (some ⟨g8, 0, none⟩) m8 (-(rFs (iv s2 S2.natAbs) 104) + 8)) := hz8
    have HG7n : Hid (Wv9.heap.size ≤ g7 ∧ Wv9.heap.size ≤ g8) := ⟨hg7, hg8⟩
    clear hg7 hg8 hz7 hz8 hl7 hl8
    have HXE := HX.out.1 s2 HS2.out
    rw [HXE] at Z7 Z8
    clear HXE
    have HGW : Hid (w.heap.size ≤ g7 ∧ w.heap.size ≤ g8 ∧ gr < g7 ∧ gr < g8 ∧ gv < g7 ∧ gv < g8) := by have h1 := HGV9.out; have h2 := HG7n.out; exact ⟨by omega, by omega, by omega, by omega, by omega, by omega⟩
    have HM7 : Hid (m7 ≤ 60) := zr_len32 Z7.out (E := E) HX.out.2.2.1 (by have h1 := HX.out.2.2.2.2.1; have h2 := HX.out.2.2.2.1; exact Nat.lt_of_le_of_lt (by omega) h1)
    have HM8 : Hid (m8 ≤ 60) := zr_len32 Z8.out (E := E) HX.out.2.2.1 (by have h1 := HX.out.2.2.2.2.1; exact Nat.lt_of_le_of_lt (by omega) h1)
    clear Z4
    clear Z9
    clear Z5
    clear Z6
    clear Xs
    clear Xc
    have qa : gr ≠ gv := HDrv.out
    have qb : gv ≠ gr := qa.symm
    obtain ⟨cv0, cv1, cv2, cv3, cv4, fv0, fv1, fv2, fv3, fv4⟩ := Xv.out
    have hnev : gv < v7.heap.size := World.block_lt_of_cell? v7 _ cv0
    obtain ⟨cr0, cr1, cr2, cr3, cr4, fr0, fr1, fr2, fr3, fr4⟩ := Xr.out
    have hner : gr < v7.heap.size := World.block_lt_of_cell? v7 _ cr0
    go_wp2_with fail
    obtain ⟨Wy9, hWy9⟩ : ∃ W9, W9 = (((((v7.setCell ⟨gv, 0, none⟩ (.bool s7)).setCell ⟨gv, 1, none⟩ (.slice (some ⟨g7, 0, none⟩) m7 m7)).setCell ⟨gv, 2, none⟩ (.bool s8)).setCell ⟨gv, 3, none⟩ (.slice (some ⟨g8, 0, none⟩) m8 m8)).setCell ⟨gv, 4, none⟩ (.int .i64 q)) := ⟨_, rfl⟩
    have Yv : Hid (B5q Wy9 gv (.bool s7) (.slice (some ⟨g7, 0, none⟩) m7 m7) (.bool s8) (.slice (some ⟨g8, 0, none⟩) m8 m8) (.int .i64 q)) := by rw [hWy9]; exact ⟨by go_simp, by go_simp, by go_simp, by go_simp, by go_simp, by go_simp, by go_simp, by go_simp, by go_simp, by go_simp⟩
    have Yr : Hid (B5q Wy9 gr (.bool false) (.slice none 0 0) (.bool false) (.slice none 0 0) (.int .i64 0)) := by rw [hWy9]; exact ⟨by go_simp, by go_simp, by go_simp, by go_simp, by go_simp, by go_simp, by go_simp, by go_simp, by go_simp, by go_simp⟩
    have Y7 : Hid (ZR Wy9 s7 (some ⟨g7, 0, none⟩) m7 (X - 8)) := by have h := HGW.out; rw [hWy9]; exact ((((Z7.out.set _ _ _ (by omega)).set _ _ _ (by omega)).set _ _ _ (by omega)).set _ _ _ (by omega)).set _ _ _ (by omega)
    have Y8 : Hid (ZR Wy9 s8 (some ⟨g8, 0, none⟩) m8 (X + 8)) := by have h := HGW.out; rw [hWy9]; exact ((((Z8.out.set _ _ _ (by omega)).set _ _ _ (by omega)).set _ _ _ (by omega)).set _ _ _ (by omega)).set _ _ _ (by omega)
    have hbw2 : Below w.heap.size w Wy9 := by rw [hWy9]; exact bSet (bSet (bSet (bSet (bSet (hbw) _ _ _ HGv.out) _ _ _ HGv.out) _ _ _ HGv.out) _ _ _ HGv.out) _ _ _ HGv.out
    clear cv0 cv1 cv2 cv3 cv4 fv0 fv1 fv2 fv3 fv4 hnev
    clear cr0 cr1 cr2 cr3 cr4 fr0 fr1 fr2 fr3 fr4 hner
    rw [← hWy9]
    clear hWy9 hbw Xv Xr Z7 Z8 qa qb
    have hbw := hbw2
    have Xv := Yv
    have Xr := Yr
    have Z7 := Y7
    have Z8 := Y8
    clear hbw2 Yv Yr Y7 Y8
    refine (thin_t s7 s8 Z7.out Z8.out HM7.out HM8.out (by have := HX.out.2.2.2.1; omega) (by have := HX.out.2.2.2.1; omega) HX.out.2.1 HX.out.2.2.2.2.2).mono ?_
    rintro e v9 ⟨rfl, hb9⟩
    replace Xv : Hid _ := Xv.out.below hb9
    replace Xr : Hid _ := Xr.out.below hb9
    replace Z7 : Hid _ := Z7.out.below hb9
    replace Z8 : Hid _ := Z8.out.below hb9
    replace hbw := Below.on hbw hb9
    clear hb9
    have qa : gr ≠ gv := HDrv.out
    have qb : gv ≠ gr := qa.symm
    obtain ⟨cv0, cv1, cv2, cv3, cv4, fv0, fv1, fv2, fv3, fv4⟩ := Xv.out
    have hnev : gv < v9.heap.size := World.block_lt_of_cell? v9 _ cv0
    obtain ⟨cr0, cr1, cr2, cr3, cr4, fr0, fr1, fr2, fr3, fr4⟩ := Xr.out
    have hner : gr < v9.heap.size := World.block_lt_of_cell? v9 _ cr0
    go_wp2_with fail
    refine bodyPost_ret (v := .agg #[.bool s7, .slice (some ⟨g7, 0, none⟩) m7 m7, .bool s8, .slice (some ⟨g8, 0, none⟩) m8 m8, .int .i64 q]) (by rw [results_cell1 rfl]; go_simp) rfl ⟨_, rfl, ⟨s7, g7, m7, s8, g8, m8, rfl, HGW.out.1, HGW.out.2.1, ?_, ?_, HM7.out, HM8.out⟩, ?_⟩
    · have h := HGW.out
      exact ((((Z7.out.set _ _ _ (by omega)).set _ _ _ (by omega)).set _ _ _ (by omega)).set _ _ _ (by omega)).set _ _ _ (by omega)
    · have h := HGW.out
      exact ((((Z8.out.set _ _ _ (by omega)).set _ _ _ (by omega)).set _ _ _ (by omega)).set _ _ _ (by omega)).set _ _ _ (by omega)
    · exact bSet (bSet (bSet (bSet (bSet (hbw) _ _ _ HGr.out) _ _ _ HGr.out) _ _ _ HGr.out) _ _ _ HGr.out) _ _ _ HGr.out
  · skip
    refine wpJ_two (i := 1) (k := 3) (by kernel_rfl) rfl rfl (by kernel_rfl) (by kernel_rfl) (fun KJ hK => ?_) (fun KJ hK => ?_)
    · go_simp
      refine (rof04 4 _ (by decide) (by decide)).mono ?_
      rintro e9 uA ⟨tA, kA, nA, rfl, hzA, hlA, hbA⟩
      have hbu' := Below.on hbu hbA
      clear hbu
      have hbu := hbu'
      clear hbu'
      replace Xm : Hid _ := Xm.out.below hbA
      replace Xr : Hid _ := Xr.out.below hbA
      replace Xk : Hid _ := Xk.out.below hbA
      replace Xy : Hid _ := Xy.out.below hbA
      replace Xs : Hid _ := Xs.out.below hbA
      replace Xc : Hid _ := Xc.out.below hbA
      replace hbw := Below.on hbw hbA
      clear hbA
      have YA : Hid (ZR uA tA (some ⟨kA, 0, none⟩) nA 4) := hzA
      clear hzA hlA
      clear HJ
      have HJ : Hid ((fun W' : World => W'.cell? ⟨gk, 0, none⟩ = some (.bool s1) ∧ W'.cell? ⟨gk, 1, none⟩ = some (.slice p1 m1 m1)) uA) := ⟨Xk.out.c0, Xk.out.c1⟩
      refine hK _ _ HJ.out ?_
      clear hK
      refine wpJ_two (i := 2) (k := 3) (by kernel_rfl) rfl rfl (by kernel_rfl) (by kernel_rfl) (fun KJ hK => ?_) (fun KJ hK => ?_)
      · go_simp
        refine (rmod04 s1 tA (Z1u.out.below hbu) YA.out (Nat.le_trans (zr_len32 (Z1u.out.below hbu) (k := 1) (E := 32) rfl (by decide)) (by decide)) (zr_len32 YA.out (k := 1) (E := 32) rfl (by decide)) (by decide)).mono ?_
        rintro e9 uF ⟨v, rfl, hv, hbF⟩
        rw [show rMo 1 4 = 1 by decide] at hv
        obtain ⟨tF, kF, nF, rfl, hgF, hzF, hlF⟩ := hv
        have HGB : Hid (uA.heap.size ≤ kF) := hgF
        have hbu' := Below.on hbu hbF
        clear hbu
        have hbu := hbu'
        clear hbu'
        replace Xm : Hid _ := Xm.out.below hbF
        replace Xr : Hid _ := Xr.out.below hbF
        replace Xk : Hid _ := Xk.out.below hbF
        replace Xy : Hid _ := Xy.out.below hbF
        replace Xs : Hid _ := Xs.out.below hbF
        replace Xc : Hid _ := Xc.out.below hbF
        replace YA : Hid _ := YA.out.below hbF
        replace hbw := Below.on hbw hbF
        clear hbF
        have RR : Hid (ZR uF tF (some ⟨kF, 0, none⟩) nF (1)) := hzF
        have HLF : Hid (nF ≤ 50000) := hlF
        clear hzF hlF hgF
        clear YA
        refine hK _ _ ⟨Xk.out.c0, Xk.out.c1⟩ ?_
        clear hK
        refine wpJ_on 3 rfl fun KJ hK => ?_
        go_simp
        have HDmh : Hid (gm ≠ uF.heap.size) := Nat.ne_of_lt Xm.out.lt
        have HDrh : Hid (gr ≠ uF.heap.size) := Nat.ne_of_lt Xr.out.lt
        have HDkh : Hid (gk ≠ uF.heap.size) := Nat.ne_of_lt Xk.out.lt
        have HDyh : Hid (gy ≠ uF.heap.size) := Nat.ne_of_lt Xy.out.lt
        have HDsh : Hid (gs ≠ uF.heap.size) := Nat.ne_of_lt Xs.out.lt
        have HDch : Hid (gc ≠ uF.heap.size) := Nat.ne_of_lt Xc.out.lt
        have HLS : Hid (∀ v0 v1, ZR (((uF.alloc (.cells #[.bool false, .slice none 0 0] 50)).setCell ⟨uF.heap.size, 0, none⟩ v0).setCell ⟨uF.heap.size, 1, none⟩ v1) tF (some ⟨kF, 0, none⟩) nF (1)) := fun v0 v1 => RR.out.below (bSet (bSet (below1 _ _) _ _ _ (Nat.le_refl _)) _ _ _ (Nat.le_refl _))
        have HGU : Hid (Wc.heap.size ≤ uF.heap.size) := hbu.size
        have Xh0 : Hid (Box (uF.alloc (.cells #[.bool false, .slice none 0 0] 50)) uF.heap.size (.bool false) (.slice none 0 0)) := Box.new uF _ _ _
        have hbn : Below uF.heap.size uF (uF.alloc (.cells #[.bool false, .slice none 0 0] 50)) := below1 uF _
        generalize uF.alloc (.cells #[.bool false, .slice none 0 0] 50) = Wn at *
        have HGh : Hid (w.heap.size ≤ uF.heap.size) := hbw.size
        have hbu' := Below.on hbu hbn
        clear hbu
        have hbu := hbu'
        clear hbu'
        replace Xm : Hid _ := Xm.out.below hbn
        replace Xr : Hid _ := Xr.out.below hbn
        replace Xk : Hid _ := Xk.out.below hbn
        replace Xy : Hid _ := Xy.out.below hbn
        replace Xs : Hid _ := Xs.out.below hbn
        replace Xc : Hid _ := Xc.out.below hbn
        replace RR : Hid _ := RR.out.below hbn
        replace hbw := Below.on hbw hbn
        clear hbn
        generalize uF.heap.size = gh at *
        have Xh := Xh0
        clear Xh0
        refine hK _ _ ⟨Xk.out.c0, Xk.out.c1⟩ ?_
        clear hK
        obtain ⟨ch0, ch1, fh0, fh1⟩ := Xh.out
        have hneh := Xh.out.lt
        obtain ⟨cm0, cm1, fm0, fm1⟩ := Xm.out
        have hnem := Xm.out.lt
        obtain ⟨cr0, cr1, cr2, cr3, cr4, fr0, fr1, fr2, fr3, fr4⟩ := Xr.out
        have hner : gr < Wn.heap.size := World.block_lt_of_cell? Wn _ cr0
        obtain ⟨ck0, ck1, fk0, fk1⟩ := Xk.out
        have hnek := Xk.out.lt
        obtain ⟨cy0, cy1, fy0, fy1⟩ := Xy.out
        have hney := Xy.out.lt
        obtain ⟨cs0, cs1, fs0, fs1⟩ := Xs.out
        have hnes := Xs.out.lt
        obtain ⟨cc0, cc1, fc0, fc1⟩ := Xc.out
        have hnec := Xc.out.lt
        have qam : gm ≠ gh := HDmh.out
        have qbm : gh ≠ gm := fun h => qam h.symm
        have qar : gr ≠ gh := HDrh.out
        have qbr : gh ≠ gr := fun h => qar h.symm
        have qak : gk ≠ gh := HDkh.out
        have qbk : gh ≠ gk := fun h => qak h.symm
        have qay : gy ≠ gh := HDyh.out
        have qby : gh ≠ gy := fun h => qay h.symm
        have qas : gs ≠ gh := HDsh.out
        have qbs : gh ≠ gs := fun h => qas h.symm
        have qac : gc ≠ gh := HDch.out
        have qbc : gh ≠ gc := fun h => qac h.symm
        refine wpJ_on 4 rfl fun KJ hK => ?_
        go_simp
        have HJ2 : Hid ((fun W' : World => W'.cell? ⟨gk, 0, none⟩ = some (.bool s1) ∧ W'.cell? ⟨gk, 1, none⟩ = some (.slice p1 m1 m1)) ((Wn.setCell ⟨gh, 0, none⟩ (.bool tF)).setCell ⟨gh, 1, none⟩ (.slice (some ⟨kF, 0, none⟩) nF nF))) := ⟨by go_simp, by go_simp⟩
        have Xh2 : Hid (Box ((Wn.setCell ⟨gh, 0, none⟩ (.bool tF)).setCell ⟨gh, 1, none⟩ (.slice (some ⟨kF, 0, none⟩) nF nF)) gh (.bool tF) (.slice (some ⟨kF, 0, none⟩) nF nF)) := ⟨by go_simp, by go_simp, by go_simp, by go_simp⟩
        have Xm2 : Hid (Box ((Wn.setCell ⟨gh, 0, none⟩ (.bool tF)).setCell ⟨gh, 1, none⟩ (.slice (some ⟨kF, 0, none⟩) nF nF)) gm (.bool false) (.slice p m m)) := ⟨by go_simp, by go_simp, by go_simp, by go_simp⟩
        have Xr2 : Hid (B5q ((Wn.setCell ⟨gh, 0, none⟩ (.bool tF)).setCell ⟨gh, 1, none⟩ (.slice (some ⟨kF, 0, none⟩) nF nF)) gr (.bool false) (.slice none 0 0) (.bool false) (.slice none 0 0) (.int .i64 0)) := ⟨by go_simp, by go_simp, by go_simp, by go_simp, by go_simp, by go_simp, by go_simp, by go_simp, by go_simp, by go_simp⟩
        have Xk2 : Hid (Box ((Wn.setCell ⟨gh, 0, none⟩ (.bool tF)).setCell ⟨gh, 1, none⟩ (.slice (some ⟨kF, 0, none⟩) nF nF)) gk (.bool s1) (.slice p1 m1 m1)) := ⟨by go_simp, by go_simp, by go_simp, by go_simp⟩
        have Xy2 : Hid (Box ((Wn.setCell ⟨gh, 0, none⟩ (.bool tF)).setCell ⟨gh, 1, none⟩ (.slice (some ⟨kF, 0, none⟩) nF nF)) gy (.bool s2) (.slice (some ⟨g2, 0, none⟩) m2 m2)) := ⟨by go_simp, by go_simp, by go_simp, by go_simp⟩
        have Xs2 : Hid (Box ((Wn.setCell ⟨gh, 0, none⟩ (.bool tF)).setCell ⟨gh, 1, none⟩ (.slice (some ⟨kF, 0, none⟩) nF nF)) gs (.bool s3) (.slice (some ⟨g3, 0, none⟩) m3 m3)) := ⟨by go_simp, by go_simp, by go_simp, by go_simp⟩
        have Xc2 : Hid (Box ((Wn.setCell ⟨gh, 0, none⟩ (.bool tF)).setCell ⟨gh, 1, none⟩ (.slice (some ⟨kF, 0, none⟩) nF nF)) gc (.bool s4) (.slice (some ⟨g4, 0, none⟩) m4 m4)) := ⟨by go_simp, by go_simp, by go_simp, by go_simp⟩
        have RR2 : Hid (ZR ((Wn.setCell ⟨gh, 0, none⟩ (.bool tF)).setCell ⟨gh, 1, none⟩ (.slice (some ⟨kF, 0, none⟩) nF nF)) tF (some ⟨kF, 0, none⟩) nF (1)) := HLS.out _ _
        have hbu2 : Below Wc.heap.size Wc ((Wn.setCell ⟨gh, 0, none⟩ (.bool tF)).setCell ⟨gh, 1, none⟩ (.slice (some ⟨kF, 0, none⟩) nF nF)) := bSet (bSet hbu _ _ _ HGU.out) _ _ _ HGU.out
        have hbw2 : Below w.heap.size w ((Wn.setCell ⟨gh, 0, none⟩ (.bool tF)).setCell ⟨gh, 1, none⟩ (.slice (some ⟨kF, 0, none⟩) nF nF)) := bSet (bSet hbw _ _ _ HGh.out) _ _ _ HGh.out
        refine hK _ _ HJ2.out ?_
        clear hK HJ
        have HJ := HJ2
        clear HJ2
        refine wpJ_done (by kernel_rfl) ?_ _
        exact ⟨rfl, HRQ.out _ _ _ ⟨gh, tA, kA, nA, tF, kF, nF, by kernel_rfl, Xh2.out, Xm2.out, Xr2.out, Xk2.out, Xy2.out, Xs2.out, Xc2.out, RR2.out, HGh.out, HDmh.out, HDrh.out, HDkh.out, HDyh.out, HDsh.out, HDch.out, hbu2, hbw2⟩⟩
      · go_simp
        have HDmh : Hid (gm ≠ uA.heap.size) := Nat.ne_of_lt Xm.out.lt
        have HDrh : Hid (gr ≠ uA.heap.size) := Nat.ne_of_lt Xr.out.lt
        have HDkh : Hid (gk ≠ uA.heap.size) := Nat.ne_of_lt Xk.out.lt
        have HDyh : Hid (gy ≠ uA.heap.size) := Nat.ne_of_lt Xy.out.lt
        have HDsh : Hid (gs ≠ uA.heap.size) := Nat.ne_of_lt Xs.out.lt
        have HDch : Hid (gc ≠ uA.heap.size) := Nat.ne_of_lt Xc.out.lt
        have HGU : Hid (Wc.heap.size ≤ uA.heap.size) := hbu.size
        have Xh0 : Hid (Box (uA.alloc (.cells #[.bool false, .slice none 0 0] 50)) uA.heap.size (.bool false) (.slice none 0 0)) := Box.new uA _ _ _
        have hbn : Below uA.heap.size uA (uA.alloc (.cells #[.bool false, .slice none 0 0] 50)) := below1 uA _
        generalize uA.alloc (.cells #[.bool false, .slice none 0 0] 50) = Wn at *
        have HGh : Hid (w.heap.size ≤ uA.heap.size) := hbw.size
        have hbu' := Below.on hbu hbn
        clear hbu
        have hbu := hbu'
        clear hbu'
        replace Xm : Hid _ := Xm.out.below hbn
        replace Xr : Hid _ := Xr.out.below hbn
        replace Xk : Hid _ := Xk.out.below hbn
        replace Xy : Hid _ := Xy.out.below hbn
        replace Xs : Hid _ := Xs.out.below hbn
        replace Xc : Hid _ := Xc.out.below hbn
        replace YA : Hid _ := YA.out.below hbn
        replace hbw := Below.on hbw hbn
        clear hbn
        generalize uA.heap.size = gh at *
        have Xh := Xh0
        clear Xh0
        refine hK _ _ ⟨Xk.out.c0, Xk.out.c1⟩ ?_
        clear hK
        refine wpJ_on 2 rfl fun KJ hK => ?_
        go_simp
        have HLT : Hid (gh < Wn.heap.size) := Xh.out.lt
        refine (rmod04 s1 tA (Z1u.out.below hbu) YA.out (Nat.le_trans (zr_len32 (Z1u.out.below hbu) (k := 1) (E := 32) rfl (by decide)) (by decide)) (zr_len32 YA.out (k := 1) (E := 32) rfl (by decide)) (by decide)).mono ?_
        rintro e9 uF ⟨v, rfl, hv, hbF⟩
        rw [show rMo 1 4 = 1 by decide] at hv
        obtain ⟨tF, kF, nF, rfl, hgF, hzF, hlF⟩ := hv
        have HGB : Hid (Wn.heap.size ≤ kF) := hgF
        have hbu' := Below.on hbu hbF
        clear hbu
        have hbu := hbu'
        clear hbu'
        replace Xm : Hid _ := Xm.out.below hbF
        replace Xr : Hid _ := Xr.out.below hbF
        replace Xk : Hid _ := Xk.out.below hbF
        replace Xy : Hid _ := Xy.out.below hbF
        replace Xs : Hid _ := Xs.out.below hbF
        replace Xc : Hid _ := Xc.out.below hbF
        replace Xh : Hid _ := Xh.out.below hbF
        replace YA : Hid _ := YA.out.below hbF
        replace hbw := Below.on hbw hbF
        clear hbF
        have RR : Hid (ZR uF tF (some ⟨kF, 0, none⟩) nF (1)) := hzF
        have HLF : Hid (nF ≤ 50000) := hlF
        clear hzF hlF hgF
        clear YA
        have HNE : Hid (kF ≠ gh) := by have h1 := HLT.out; have h2 := HGB.out; show _ ≠ _; omega
        refine hK _ _ ⟨Xk.out.c0, Xk.out.c1⟩ ?_
        clear hK
        obtain ⟨ch0, ch1, fh0, fh1⟩ := Xh.out
        have hneh := Xh.out.lt
        obtain ⟨cm0, cm1, fm0, fm1⟩ := Xm.out
        have hnem := Xm.out.lt
        obtain ⟨cr0, cr1, cr2, cr3, cr4, fr0, fr1, fr2, fr3, fr4⟩ := Xr.out
        have hner : gr < uF.heap.size := World.block_lt_of_cell? uF _ cr0
        obtain ⟨ck0, ck1, fk0, fk1⟩ := Xk.out
        have hnek := Xk.out.lt
        obtain ⟨cy0, cy1, fy0, fy1⟩ := Xy.out
        have hney := Xy.out.lt
        obtain ⟨cs0, cs1, fs0, fs1⟩ := Xs.out
        have hnes := Xs.out.lt
        obtain ⟨cc0, cc1, fc0, fc1⟩ := Xc.out
        have hnec := Xc.out.lt
        have qam : gm ≠ gh := HDmh.out
        have qbm : gh ≠ gm := fun h => qam h.symm
        have qar : gr ≠ gh := HDrh.out
        have qbr : gh ≠ gr := fun h => qar h.symm
        have qak : gk ≠ gh := HDkh.out
        have qbk : gh ≠ gk := fun h => qak h.symm
        have qay : gy ≠ gh := HDyh.out
        have qby : gh ≠ gy := fun h => qay h.symm
        have qas : gs ≠ gh := HDsh.out
        have qbs : gh ≠ gs := fun h => qas h.symm
        have qac : gc ≠ gh := HDch.out
        have qbc : gh ≠ gc := fun h => qac h.symm
        refine wpJ_on 4 rfl fun KJ hK => ?_
        go_simp
        have HJ2 : Hid ((fun W' : World => W'.cell? ⟨gk, 0, none⟩ = some (.bool s1) ∧ W'.cell? ⟨gk, 1, none⟩ = some (.slice p1 m1 m1)) ((uF.setCell ⟨gh, 0, none⟩ (.bool tF)).setCell ⟨gh, 1, none⟩ (.slice (some ⟨kF, 0, none⟩) nF nF))) := ⟨by go_simp, by go_simp⟩
        have Xh2 : Hid (Box ((uF.setCell ⟨gh, 0, none⟩ (.bool tF)).setCell ⟨gh, 1, none⟩ (.slice (some ⟨kF, 0, none⟩) nF nF)) gh (.bool tF) (.slice (some ⟨kF, 0, none⟩) nF nF)) := ⟨by go_simp, by go_simp, by go_simp, by go_simp⟩
        have Xm2 : Hid (Box ((uF.setCell ⟨gh, 0, none⟩ (.bool tF)).setCell ⟨gh, 1, none⟩ (.slice (some ⟨kF, 0, none⟩) nF nF)) gm (.bool false) (.slice p m m)) := ⟨by go_simp, by go_simp, by go_simp, by go_simp⟩
        have Xr2 : Hid (B5q ((uF.setCell ⟨gh, 0, none⟩ (.bool tF)).setCell ⟨gh, 1, none⟩ (.slice (some ⟨kF, 0, none⟩) nF nF)) gr (.bool false) (.slice none 0 0) (.bool false) (.slice none 0 0) (.int .i64 0)) := ⟨by go_simp, by go_simp, by go_simp, by go_simp, by go_simp, by go_simp, by go_simp, by go_simp, by go_simp, by go_simp⟩
        have Xk2 : Hid (Box ((uF.setCell ⟨gh, 0, none⟩ (.bool tF)).setCell ⟨gh, 1, none⟩ (.slice (some ⟨kF, 0, none⟩) nF nF)) gk (.bool s1) (.slice p1 m1 m1)) := ⟨by go_simp, by go_simp, by go_simp, by go_simp⟩
        have Xy2 : Hid (Box ((uF.setCell ⟨gh, 0, none⟩ (.bool tF)).setCell ⟨gh, 1, none⟩ (.slice (some ⟨kF, 0, none⟩) nF nF)) gy (.bool s2) (.slice (some ⟨g2, 0, none⟩) m2 m2)) := ⟨by go_simp, by go_simp, by go_simp, by go_simp⟩
        have Xs2 : Hid (Box ((uF.setCell ⟨gh, 0, none⟩ (.bool tF)).setCell ⟨gh, 1, none⟩ (.slice (some ⟨kF, 0, none⟩) nF nF)) gs (.bool s3) (.slice (some ⟨g3, 0, none⟩) m3 m3)) := ⟨by go_simp, by go_simp, by go_simp, by go_simp⟩
        have Xc2 : Hid (Box ((uF.setCell ⟨gh, 0, none⟩ (.bool tF)).setCell ⟨gh, 1, none⟩ (.slice (some ⟨kF, 0, none⟩) nF nF)) gc (.bool s4) (.slice (some ⟨g4, 0, none⟩) m4 m4)) := ⟨by go_simp, by go_simp, by go_simp, by go_simp⟩
        have RR2 : Hid (ZR ((uF.setCell ⟨gh, 0, none⟩ (.bool tF)).setCell ⟨gh, 1, none⟩ (.slice (some ⟨kF, 0, none⟩) nF nF)) tF (some ⟨kF, 0, none⟩) nF (1)) := (RR.out.set _ _ _ HNE.out).set _ _ _ HNE.out
        have hbu2 : Below Wc.heap.size Wc ((uF.setCell ⟨gh, 0, none⟩ (.bool tF)).setCell ⟨gh, 1, none⟩ (.slice (some ⟨kF, 0, none⟩) nF nF)) := bSet (bSet hbu _ _ _ HGU.out) _ _ _ HGU.out
        have hbw2 : Below w.heap.size w ((uF.setCell ⟨gh, 0, none⟩ (.bool tF)).setCell ⟨gh, 1, none⟩ (.slice (some ⟨kF, 0, none⟩) nF nF)) := bSet (bSet hbw _ _ _ HGh.out) _ _ _ HGh.out
        refine hK _ _ HJ2.out ?_
        clear hK HJ
        have HJ := HJ2
        clear HJ2
        refine wpJ_done (by kernel_rfl) ?_ _
        exact ⟨rfl, HRQ.out _ _ _ ⟨gh, tA, kA, nA, tF, kF, nF, by kernel_rfl, Xh2.out, Xm2.out, Xr2.out, Xk2.out, Xy2.out, Xs2.out, Xc2.out, RR2.out, HGh.out, HDmh.out, HDrh.out, HDkh.out, HDyh.out, HDsh.out, HDch.out, hbu2, hbw2⟩⟩
    · go_simp
      have HDmh : Hid (gm ≠ Wr.heap.size) := Nat.ne_of_lt Xm.out.lt
      have HDrh : Hid (gr ≠ Wr.heap.size) := Nat.ne_of_lt Xr.out.lt
      have HDkh : Hid (gk ≠ Wr.heap.size) := Nat.ne_of_lt Xk.out.lt
      have HDyh : Hid (gy ≠ Wr.heap.size) := Nat.ne_of_lt Xy.out.lt
      have HDsh : Hid (gs ≠ Wr.heap.size) := Nat.ne_of_lt Xs.out.lt
      have HDch : Hid (gc ≠ Wr.heap.size) := Nat.ne_of_lt Xc.out.lt
      have HGU : Hid (Wc.heap.size ≤ Wr.heap.size) := hbu.size
      have Xh0 : Hid (Box (Wr.alloc (.cells #[.bool false, .slice none 0 0] 50)) Wr.heap.size (.bool false) (.slice none 0 0)) := Box.new Wr _ _ _
      have hbn : Below Wr.heap.size Wr (Wr.alloc (.cells #[.bool false, .slice none 0 0] 50)) := below1 Wr _
      generalize Wr.alloc (.cells #[.bool false, .slice none 0 0] 50) = Wn at *
      have HGh : Hid (w.heap.size ≤ Wr.heap.size) := hbw.size
      have hbu' := Below.on hbu hbn
      clear hbu
      have hbu := hbu'
      clear hbu'
      replace Xm : Hid _ := Xm.out.below hbn
      replace Xr : Hid _ := Xr.out.below hbn
      replace Xk : Hid _ := Xk.out.below hbn
      replace Xy : Hid _ := Xy.out.below hbn
      replace Xs : Hid _ := Xs.out.below hbn
      replace Xc : Hid _ := Xc.out.below hbn
      replace hbw := Below.on hbw hbn
      clear hbn
      generalize Wr.heap.size = gh at *
      have Xh := Xh0
      clear Xh0
      refine hK _ _ ⟨Xk.out.c0, Xk.out.c1⟩ ?_
      clear hK
      refine wpJ_on 1 rfl fun KJ hK => ?_
      go_simp
      refine (rof04 4 _ (by decide) (by decide)).mono ?_
      rintro e9 uA ⟨tA, kA, nA, rfl, hzA, hlA, hbA⟩
      have hbu' := Below.on hbu hbA
      clear hbu
      have hbu := hbu'
      clear hbu'
      replace Xm : Hid _ := Xm.out.below hbA
      replace Xr : Hid _ := Xr.out.below hbA
      replace Xk : Hid _ := Xk.out.below hbA
      replace Xy : Hid _ := Xy.out.below hbA
      replace Xs : Hid _ := Xs.out.below hbA
      replace Xc : Hid _ := Xc.out.below hbA
      replace Xh : Hid _ := Xh.out.below hbA
      replace hbw := Below.on hbw hbA
      clear hbA
      have YA : Hid (ZR uA tA (some ⟨kA, 0, none⟩) nA 4) := hzA
      clear hzA hlA
      refine hK _ _ ⟨Xk.out.c0, Xk.out.c1⟩ ?_
      clear hK
      refine wpJ_on 2 rfl fun KJ hK => ?_
      go_simp
      have HLT : Hid (gh < uA.heap.size) := Xh.out.lt
      refine (rmod04 s1 tA (Z1u.out.below hbu) YA.out (Nat.le_trans (zr_len32 (Z1u.out.below hbu) (k := 1) (E := 32) rfl (by decide)) (by decide)) (zr_len32 YA.out (k := 1) (E := 32) rfl (by decide)) (by decide)).mono ?_
      rintro e9 uF ⟨v, rfl, hv, hbF⟩
      rw [show rMo 1 4 = 1 by decide] at hv
      obtain ⟨tF, kF, nF, rfl, hgF, hzF, hlF⟩ := hv
      have HGB : Hid (uA.heap.size ≤ kF) := hgF
      have hbu' := Below.on hbu hbF
      clear hbu
      have hbu := hbu'
      clear hbu'
      replace Xm : Hid _ := Xm.out.below hbF
      replace Xr : Hid _ := Xr.out.below hbF
      replace Xk : Hid _ := Xk.out.below hbF
      replace Xy : Hid _ := Xy.out.below hbF
      replace Xs : Hid _ := Xs.out.below hbF
      replace Xc : Hid _ := Xc.out.below hbF
      replace Xh : Hid _ := Xh.out.below hbF
      replace YA : Hid _ := YA.out.below hbF
      replace hbw := Below.on hbw hbF
      clear hbF
      have RR : Hid (ZR uF tF (some ⟨kF, 0, none⟩) nF (1)) := hzF
      have HLF : Hid (nF ≤ 50000) := hlF
      clear hzF hlF hgF
      clear YA
      have HNE : Hid (kF ≠ gh) := by have h1 := HLT.out; have h2 := HGB.out; show _ ≠ _; omega
      refine hK _ _ ⟨Xk.out.c0, Xk.out.c1⟩ ?_
      clear hK
      obtain ⟨ch0, ch1, fh0, fh1⟩ := Xh.out
      have hneh := Xh.out.lt
      obtain ⟨cm0, cm1, fm0, fm1⟩ := Xm.out
      have hnem := Xm.out.lt
      obtain ⟨cr0, cr1, cr2, cr3, cr4, fr0, fr1, fr2, fr3, fr4⟩ := Xr.out
      have hner : gr < uF.heap.size := World.block_lt_of_cell? uF _ cr0
      obtain ⟨ck0, ck1, fk0, fk1⟩ := Xk.out
      have hnek := Xk.out.lt
      obtain ⟨cy0, cy1, fy0, fy1⟩ := Xy.out
      have hney := Xy.out.lt
      obtain ⟨cs0, cs1, fs0, fs1⟩ := Xs.out
      have hnes := Xs.out.lt
      obtain ⟨cc0, cc1, fc0, fc1⟩ := Xc.out
      have hnec := Xc.out.lt
      have qam : gm ≠ gh := HDmh.out
      have qbm : gh ≠ gm := fun h => qam h.symm
      have qar : gr ≠ gh := HDrh.out
      have qbr : gh ≠ gr := fun h => qar h.symm
      have qak : gk ≠ gh := HDkh.out
      have qbk : gh ≠ gk := fun h => qak h.symm
      have qay : gy ≠ gh := HDyh.out
      have qby : gh ≠ gy := fun h => qay h.symm
      have qas : gs ≠ gh := HDsh.out
      have qbs : gh ≠ gs := fun h => qas h.symm
      have qac : gc ≠ gh := HDch.out
      have qbc : gh ≠ gc := fun h => qac h.symm
      refine wpJ_on 4 rfl fun KJ hK => ?_
      go_simp
      have HJ2 : Hid ((fun W' : World => W'.cell? ⟨gk, 0, none⟩ = some (.bool s1) ∧ W'.cell? ⟨gk, 1, none⟩ = some (.slice p1 m1 m1)) ((uF.setCell ⟨gh, 0, none⟩ (.bool tF)).setCell ⟨gh, 1, none⟩ (.slice (some ⟨kF, 0, none⟩) nF nF))) := ⟨by go_simp, by go_simp⟩
      have Xh2 : Hid (Box ((uF.setCell ⟨gh, 0, none⟩ (.bool tF)).setCell ⟨gh, 1, none⟩ (.slice (some ⟨kF, 0, none⟩) nF nF)) gh (.bool tF) (.slice (some ⟨kF, 0, none⟩) nF nF)) := ⟨by go_simp, by go_simp, by go_simp, by go_simp⟩
      have Xm2 : Hid (Box ((uF.setCell ⟨gh, 0, none⟩ (.bool tF)).setCell ⟨gh, 1, none⟩ (.slice (some ⟨kF, 0, none⟩) nF nF)) gm (.bool false) (.slice p m m)) := ⟨by go_simp, by go_simp, by go_simp, by go_simp⟩
      have Xr2 : Hid (B5q ((uF.setCell ⟨gh, 0, none⟩ (.bool tF)).setCell ⟨gh, 1, none⟩ (.slice (some ⟨kF, 0, none⟩) nF nF)) gr (.bool false) (.slice none 0 0) (.bool false) (.slice none 0 0) (.int .i64 0)) := ⟨by go_simp, by go_simp, by go_simp, by go_simp, by go_simp, by go_simp, by go_simp, by go_simp, by go_simp, by go_simp⟩
      have Xk2 : Hid (Box ((uF.setCell ⟨gh, 0, none⟩ (.bool tF)).setCell ⟨gh, 1, none⟩ (.slice (some ⟨kF, 0, none⟩) nF nF)) gk (.bool s1) (.slice p1 m1 m1)) := ⟨by go_simp, by go_simp, by go_simp, by go_simp⟩
      have Xy2 : Hid (Box ((uF.setCell ⟨gh, 0, none⟩ (.bool tF)).setCell ⟨gh, 1, none⟩ (.slice (some ⟨kF, 0, none⟩) nF nF)) gy (.bool s2) (.slice (some ⟨g2, 0, none⟩) m2 m2)) := ⟨by go_simp, by go_simp, by go_simp, by go_simp⟩
      have Xs2 : Hid (Box ((uF.setCell ⟨gh, 0, none⟩ (.bool tF)).setCell ⟨gh, 1, none⟩ (.slice (some ⟨kF, 0, none⟩) nF nF)) gs (.bool s3) (.slice (some ⟨g3, 0, none⟩) m3 m3)) := ⟨by go_simp, by go_simp, by go_simp, by go_simp⟩
      have Xc2 : Hid (Box ((uF.setCell ⟨gh, 0, none⟩ (.bool tF)).setCell ⟨gh, 1, none⟩ (.slice (some ⟨kF, 0, none⟩) nF nF)) gc (.bool s4) (.slice (some ⟨g4, 0, none⟩) m4 m4)) := ⟨by go_simp, by go_simp, by go_simp, by go_simp⟩
      have RR2 : Hid (ZR ((uF.setCell ⟨gh, 0, none⟩ (.bool tF)).setCell ⟨gh, 1, none⟩ (.slice (some ⟨kF, 0, none⟩) nF nF)) tF (some ⟨kF, 0, none⟩) nF (1)) := (RR.out.set _ _ _ HNE.out).set _ _ _ HNE.out
      have hbu2 : Below Wc.heap.size Wc ((uF.setCell ⟨gh, 0, none⟩ (.bool tF)).setCell ⟨gh, 1, none⟩ (.slice (some ⟨kF, 0, none⟩) nF nF)) := bSet (bSet hbu _ _ _ HGU.out) _ _ _ HGU.out
      have hbw2 : Below w.heap.size w ((uF.setCell ⟨gh, 0, none⟩ (.bool tF)).setCell ⟨gh, 1, none⟩ (.slice (some ⟨kF, 0, none⟩) nF nF)) := bSet (bSet hbw _ _ _ HGh.out) _ _ _ HGh.out
      refine hK _ _ HJ2.out ?_
      clear hK HJ
      have HJ := HJ2
      clear HJ2
      refine wpJ_done (by kernel_rfl) ?_ _
      exact ⟨rfl, HRQ.out _ _ _ ⟨gh, tA, kA, nA, tF, kF, nF, by kernel_rfl, Xh2.out, Xm2.out, Xr2.out, Xk2.out, Xy2.out, Xs2.out, Xc2.out, RR2.out, HGh.out, HDmh.out, HDrh.out, HDkh.out, HDyh.out, HDsh.out, HDch.out, hbu2, hbw2⟩⟩
def eQ (j : Nat) : Nat := 380 + (6 - bitsN j)
def eK (j : Nat) : Int := if j ≤ 48 then 0 else rK 378 j
def eY (j : Nat) : Int := if j ≤ 48 then (j : Int) * 2 ^ (eQ j - 6) else rY 378 j
def eL (j : Nat) : Int × Int := scL ((eY j).natAbs * 2 ^ 94) (eQ j + 104) (eQ j + 104 + 1) 0 (2 ^ (eQ j + 104)) 0 0
def eD (j : Nat) : Int × Int := scD (eQ j + 104) 10 (eL j).1 (eL j).2
def eS (j : Nat) : Int := rFs (iv (decide (eY j < 0)) (eD j).1.natAbs) 104
def eC (j : Nat) : Int := rFs (eD j).2 104
def eX (fn j : Nat) : Int := if eK j = 0 then (if fn = 1 then eS j else eC j) else (if fn = 1 then eC j else -eS j)
def eB (j : Nat) : Bool := (decide (eK j = 0) || decide (eK j = 1)) && decide ((eY j).natAbs ≤ 2 ^ eQ j) && decide (48 < j → eQ j = 380) && scB (eQ j + 104) 10 (eL j).1 (eL j).2
theorem eB_all : ∀ j, j < 53 → 1 ≤ j → eB j = true := by decide +kernel
def eB1 (E T fn j : Nat) : Bool := decide (8 < eX fn j) && decide ((eX fn j).natAbs + 8 < 2 ^ E) && decide ((eX fn j + 8 - (eX fn j - 8)) * 2 ^ T ≤ eX fn j - 8)
theorem eB1_all {E T : Nat} (hE : E = 32 * 60) (hT : T = 300) : ∀ j, j < 53 → 1 ≤ j → eB1 E T 1 j = true ∧ eB1 E T 2 j = true := by subst hE hT; decide +kernel
theorem rest_all {w : World} {p : Option Addr} {m j : Nat} (h : ZR w false p m (j : Int)) (hm : m ≤ 4000) (hj1 : 1 ≤ j) (hj2 : j < 53) {q : Nat} (hq : q = eQ j) (W : World) (hb : Below w.heap.size w W) :
    Calls Tryd.prog 36 #[.agg #[.bool false, .slice p m m], .int .i64 (-6), .int .i64 q] W fun en w' => ∃ s1 p1 m1 v2, en = .returned (.tuple #[.agg #[.bool s1, .slice p1 m1 m1], v2]) ∧ ZR w' s1 p1 m1 (eK j) ∧ m1 ≤ 20001 ∧ GotR W.heap.size w' v2 (eY j) 50000 ∧ Below W.heap.size W w' := by
  have hB := eB_all j hj2 hj1
  simp only [eB, Bool.and_eq_true, decide_eq_true_eq] at hB
  have hq2 : 380 ≤ q ∧ q ≤ 385 := by have := bitsN_pos (a := j) (by omega); unfold eQ at hq; omega
  by_cases h48 : j ≤ 48
  · have h1 := rest_s (h.below hb) hm hj1 hj2 q hq2.1 hq2.2 h48
    rw [show eK j = 0 from if_pos h48, show eY j = (j : Int) * 2 ^ (q - 6) by unfold eY; rw [if_pos h48, hq]]
    exact h1
  · have h1 := rest_b (h.below hb) hm hj1 hj2 q hq2.1 hq2.2 (by have := hB.1.2 (by omega); omega) (by omega) (K := 378) rfl
    rw [show eK j = rK 378 j from if_neg h48, show eY j = rY 378 j from if_neg h48]
    exact h1
theorem eL_eq (j : Nat) : scL ((eY j).natAbs * 2 ^ 94) (eQ j + 104) (eQ j + 104 + 1) 0 (2 ^ (eQ j + 104)) 0 0 = ((eL j).1, (eL j).2) := by
  have h : eL j = scL ((eY j).natAbs * 2 ^ 94) (eQ j + 104) (eQ j + 104 + 1) 0 (2 ^ (eQ j + 104)) 0 0 := by unfold eL; with_reducible rfl
  rw [← h]
theorem eD_eq (j : Nat) : scD (eQ j + 104) 10 (eL j).1 (eL j).2 = ((eD j).1, (eD j).2) := by
  have h : eD j = scD (eQ j + 104) 10 (eL j).1 (eL j).2 := by unfold eD; with_reducible rfl
  rw [← h]
theorem eX_01 {j : Nat} (h : eK j = 0) (s2 : Bool) (hs : s2 = decide (eY j < 0)) : rFs (iv s2 (eD j).1.natAbs) 104 = eX 1 j := by unfold eX; rw [if_pos h, if_pos rfl, hs]; unfold eS; with_reducible rfl
theorem eX_02 {j : Nat} (h : eK j = 0) (s2 : Bool) (_ : s2 = decide (eY j < 0)) : rFs (eD j).2 104 = eX 2 j := by unfold eX; rw [if_pos h, if_neg (by decide)]; unfold eC; with_reducible rfl
theorem eX_11 {j : Nat} (h : eK j = 1) (s2 : Bool) (_ : s2 = decide (eY j < 0)) : rFs (eD j).2 104 = eX 1 j := by unfold eX; rw [if_neg (by rw [h]; decide), if_pos rfl]; unfold eC; with_reducible rfl
theorem eX_12 {j : Nat} (h : eK j = 1) (s2 : Bool) (hs : s2 = decide (eY j < 0)) : -(rFs (iv s2 (eD j).1.natAbs) 104) = eX 2 j := by unfold eX; rw [if_neg (by rw [h]; decide), if_neg (by decide), hs]; unfold eS; with_reducible rfl
theorem encl_1 {w : World} {p : Option Addr} {m j : Nat} (h : ZR w false p m (j : Int)) (hm : m ≤ 4000) (hj1 : 1 ≤ j) (hj2 : j < 53) {q : Nat} (hq : q = eQ j) :
    Calls Tryd.prog 22 #[.int .i64 1, .agg #[.bool false, .slice p m m], .int .i64 (-6), .int .i64 300] w fun en w' => ∃ v, en = .returned v ∧ GotN w.heap.size w' v (eX 1 j - 8) (eX 1 j + 8) (q : Int) 60 ∧ Below w.heap.size w w' := by
  have hB := eB_all j hj2 hj1
  simp only [eB, Bool.and_eq_true, Bool.or_eq_true, decide_eq_true_eq] at hB
  obtain ⟨T, hT⟩ : ∃ T, T = 300 := ⟨_, rfl⟩
  obtain ⟨E, hE⟩ : ∃ E, E = 32 * 60 := ⟨_, rfl⟩
  have hC := (eB1_all hE hT j hj2 hj1).1
  simp only [eB1, Bool.and_eq_true, decide_eq_true_eq] at hC
  have hR := fun W hb => rest_all h hm hj1 hj2 hq W hb
  obtain ⟨⟨⟨hk, hy⟩, _⟩, hs⟩ := hB
  subst hq
  rcases hk with hk | hk
  · exact encl_01 h hm hj1 hj2 (by rfl) hk hR hy rfl rfl (eL_eq j) hs (eD_eq j) (eX_01 hk) hT hE hC.1.1 hC.1.2 hC.2
  · exact encl_11 h hm hj1 hj2 (by rfl) hk hR hy rfl rfl (eL_eq j) hs (eD_eq j) (eX_11 hk) hT hE hC.1.1 hC.1.2 hC.2
theorem encl_2 {w : World} {p : Option Addr} {m j : Nat} (h : ZR w false p m (j : Int)) (hm : m ≤ 4000) (hj1 : 1 ≤ j) (hj2 : j < 53) {q : Nat} (hq : q = eQ j) :
    Calls Tryd.prog 22 #[.int .i64 2, .agg #[.bool false, .slice p m m], .int .i64 (-6), .int .i64 300] w fun en w' => ∃ v, en = .returned v ∧ GotN w.heap.size w' v (eX 2 j - 8) (eX 2 j + 8) (q : Int) 60 ∧ Below w.heap.size w w' := by
  have hB := eB_all j hj2 hj1
  simp only [eB, Bool.and_eq_true, Bool.or_eq_true, decide_eq_true_eq] at hB
  obtain ⟨T, hT⟩ : ∃ T, T = 300 := ⟨_, rfl⟩
  obtain ⟨E, hE⟩ : ∃ E, E = 32 * 60 := ⟨_, rfl⟩
  have hC := (eB1_all hE hT j hj2 hj1).2
  simp only [eB1, Bool.and_eq_true, decide_eq_true_eq] at hC
  have hR := fun W hb => rest_all h hm hj1 hj2 hq W hb
  obtain ⟨⟨⟨hk, hy⟩, _⟩, hs⟩ := hB
  subst hq
  rcases hk with hk | hk
  · exact encl_02 h hm hj1 hj2 (by rfl) hk hR hy rfl rfl (eL_eq j) hs (eD_eq j) (eX_02 hk) hT hE hC.1.1 hC.1.2 hC.2
  · exact encl_12 h hm hj1 hj2 (by rfl) hk hR hy rfl rfl (eL_eq j) hs (eD_eq j) (eX_12 hk) hT hE hC.1.1 hC.1.2 hC.2
end Go.Proofs.YtionkfnapodhbaaDoor
