import Derived.Test.YtpnpdngfjgdgfabJ10
namespace Go.Proofs.Ytpnpdngfjgdgfab
open Go.RowKit Go.Shelf
set_option maxRecDepth 20000
set_option maxHeartbeats 0
theorem rpow2t (w : World) (k : Nat) (hk : k ≤ 524288) :
    Calls Try.prog 37 #[.int .i64 k] w fun e w' => ∃ p' m' zs, e = .returned (.slice p' m' m') ∧ At32 w' p' m' m' zs ∧ Nf B32 zs (2 ^ k) ∧ m' ≤ 40000 ∧ Below w.heap.size w w' := by
  have HK : Hid (k ≤ 524288) := hk
  clear hk
  have hbw : Below w.heap.size w w := Below.refl _ _
  go_enter Try.func37, Try.ntmps37
  go_wp2_with fail
  refine (rword 1 (by rw [B64_eq]; decide) _).mono ?_
  rintro e v4 ⟨g4, z4, rfl, hl4, hA4, hN4, hb4⟩
  replace hbw := Below.on hbw hb4
  clear hb4
  have A4 : Hid (At32 v4 (some ⟨g4, 0, none⟩) z4.length z4.length z4) := hA4
  have N4 : Hid (Nf B32 z4 1 ∧ z4.length ≤ 2) := ⟨hN4, hl4⟩
  clear hA4 hN4 hl4
  go_wp2_with fail
  refine (rshl_all A4.out N4.out.1 (by have := N4.out; omega) k (.inl HK.out)).mono ?_
  rintro e v5 ⟨p5, m5, z5, rfl, hA5, hN5, hl5, hb5⟩
  replace A4 : Hid _ := A4.out.below hb5
  replace hbw := Below.on hbw hb5
  clear hb5
  have A5 : Hid (At32 v5 p5 m5 m5 z5) := hA5
  have N5 : Hid (Nf B32 z5 (2 ^ k) ∧ m5 ≤ 40000) := ⟨by rw [Nat.one_mul] at hN5; exact hN5, hl5⟩
  clear hA5 hN5 hl5
  go_wp2_with fail
  go_ret
  exact ⟨p5, m5, z5, rfl, A5.out, N5.out.1, N5.out.2, hbw⟩
theorem rpow2k (k : Nat) (e : Int) (he : e = (k : Int)) (hk : k ≤ 524288) (w : World) : Calls Try.prog 37 #[.int .i64 e] w fun e w' => ∃ p' m' zs, e = .returned (.slice p' m' m') ∧ At32 w' p' m' m' zs ∧ Nf B32 zs (2 ^ k) ∧ m' ≤ 40000 ∧ Below w.heap.size w w' := by
  subst he; exact rpow2t w k hk
theorem cmpN_ge {a b : Nat} (h : 0 ≤ cmpN a b) : b ≤ a := by
  refine Nat.le_of_not_lt fun h1 => ?_
  unfold cmpN at h
  rw [if_pos h1] at h
  exact absurd h (by decide)
theorem cmpN_le {a b : Nat} (h : cmpN a b ≤ 0) : a ≤ b := by
  refine Nat.le_of_not_lt fun h1 => ?_
  unfold cmpN at h
  rw [if_neg (by omega), if_neg (by omega)] at h
  exact absurd h (by decide)
theorem sgn_ne0 {x : Int} (h : x ≠ 0) : ¬ sgnI x = 0 := by
  unfold sgnI
  by_cases h1 : x < 0
  · rw [if_pos h1]; decide
  · rw [if_neg h1, if_neg h]; decide
def FairP (a b : Nat) : Prop := a % 9223372036854775808 ≤ 9088264048033660928 ∧ b % 9223372036854775808 ≤ 9088264048033660928 ∧ (ux a * ux b = 0 ∨ ((∀ K, K = 1188 → 2 ^ K ≤ (ux a * ux b).natAbs) ∧ ∀ K, K = 3169 → (ux a * ux b).natAbs ≤ 2 ^ K))
theorem rproduct {a b : Nat} (w : World) :
    Calls Try.prog 23 #[U a, U b] w fun en w' => ∃ v, en = .returned v ∧ GotR w.heap.size w' v (ux a * ux b) 4400 ∧ Below w.heap.size w w' := by
  go_enter Try.func23, Try.ntmps23
  go_wp2_with fail
  obtain ⟨W0, hW0⟩ : ∃ W0, W0 = (w.alloc (.cells #[.bool false, .slice none 0 0] 35)) := ⟨_, rfl⟩
  have Xr : Hid (Box W0 (w.heap.size) (.bool false) (.slice none 0 0)) := by rw [hW0]; exact ⟨by go_simp, by go_simp, by go_simp, by go_simp⟩
  have hb0 : Below w.heap.size w W0 := by rw [hW0]; exact below1 w _
  rw [← hW0]
  clear hW0
  have hbw : Below w.heap.size w w := Below.refl _ _
  obtain ⟨gr, hgr⟩ : ∃ g, g = w.heap.size := ⟨_, rfl⟩
  have HGr : Hid (w.heap.size ≤ gr) := by rw [hgr]; show _ ≤ _; omega
  rw [← hgr] at Xr
  try rw [← hgr]
  clear hgr
  replace hbw := Below.on hbw hb0
  clear hb0
  refine (runits _).mono ?_
  rintro e v1 ⟨v, rfl, hv, hb1⟩
  obtain ⟨s1, g1, m1, rfl, hg1, hz1, hl1⟩ := hv
  have HN1 : Hid (W0.heap.size ≤ g1) := hg1
  have HB1 : Hid (W0.heap.size ≤ v1.heap.size) := hb1.size
  replace Xr : Hid _ := Xr.out.below hb1
  replace hbw := Below.on hbw hb1
  clear hb1
  have Z1 : Hid (ZR v1 s1 (some ⟨g1, 0, none⟩) m1 (ux a)) := hz1
  have HL1 : Hid (m1 ≤ 2200) := hl1
  clear hz1 hl1 hg1
  go_wp2_with fail
  refine (runits _).mono ?_
  rintro e v2 ⟨v, rfl, hv, hb2⟩
  obtain ⟨s2, g2, m2, rfl, hg2, hz2, hl2⟩ := hv
  have HN2 : Hid (v1.heap.size ≤ g2) := hg2
  have HB2 : Hid (v1.heap.size ≤ v2.heap.size) := hb2.size
  replace Xr : Hid _ := Xr.out.below hb2
  replace Z1 : Hid _ := Z1.out.below hb2
  replace hbw := Below.on hbw hb2
  clear hb2
  have Z2 : Hid (ZR v2 s2 (some ⟨g2, 0, none⟩) m2 (ux b)) := hz2
  have HL2 : Hid (m2 ≤ 2200) := hl2
  clear hz2 hl2 hg2
  go_wp2_with fail
  have HRB : Hid (gr < v2.heap.size ∧ w.heap.size ≤ v2.heap.size) := ⟨Xr.out.lt, hbw.size⟩
  refine (rmul04 s1 s2 Z1.out Z2.out (by have := HL1.out; omega) (by have := HL2.out; omega)).mono ?_
  rintro e v3 ⟨v, rfl, hv, hb3⟩
  obtain ⟨s3, g3, m3, rfl, hg3, hz3, hl3⟩ := hv
  have HN3 : Hid (v2.heap.size ≤ g3) := hg3
  have HB3 : Hid (v2.heap.size ≤ v3.heap.size) := hb3.size
  replace Xr : Hid _ := Xr.out.below hb3
  replace Z1 : Hid _ := Z1.out.below hb3
  replace Z2 : Hid _ := Z2.out.below hb3
  replace hbw := Below.on hbw hb3
  clear hb3
  have Z3 : Hid (ZR v3 s3 (some ⟨g3, 0, none⟩) m3 (ux a * ux b)) := hz3
  have HL3 : Hid (m3 ≤ m1 + m2) := hl3
  clear hz3 hl3 hg3
  obtain ⟨cr0, cr1, fr0, fr1⟩ := Xr.out
  have hner := Xr.out.lt
  go_wp2_with fail
  refine bodyPost_ret (v := .agg #[.bool s3, .slice (some ⟨g3, 0, none⟩) m3 m3]) (by rw [results_cell1 rfl]; go_simp) rfl ⟨_, rfl, ⟨s3, g3, m3, rfl, Nat.le_trans HRB.out.2 HN3.out, ?_, (by have h1 := HL1.out; have h2 := HL2.out; have h3 := HL3.out; omega)⟩, ?_⟩
  · have := HN3.out; have := HRB.out.1
    exact (Z3.out.set _ _ _ (by omega)).set _ _ _ (by omega)
  · exact bSet (bSet hbw _ _ _ HGr.out) _ _ _ HGr.out
theorem rfair {a b : Nat} (w : World) :
    Calls Try.prog 22 #[U a, U b] w fun en w' => (∃ r, en = .returned (.bool r) ∧ (r = true → FairP a b)) ∧ Below w.heap.size w w' := by
  go_enter Try.func22, Try.ntmps22
  go_wp2_with fail
  have hbw : Below w.heap.size w w := Below.refl _ _
  refine (ratmost a 2018 995 (by omega) (by omega) _).mono ?_
  rintro e' w' ⟨rfl, hw⟩
  obtain rfl := hw.symm
  clear hw
  by_cases h1 : a % 9223372036854775808 ≤ 2018 * 4503599627370496
  · rw [decide_eq_true h1]
    go_wp2_with fail
    refine (ratmost b 2018 995 (by omega) (by omega) _).mono ?_
    rintro e' w' ⟨rfl, hw⟩
    obtain rfl := hw.symm
    clear hw
    by_cases h2 : b % 9223372036854775808 ≤ 2018 * 4503599627370496
    · rw [decide_eq_true h2]
      have HK : Hid (a % 9223372036854775808 ≤ 9088264048033660928 ∧ b % 9223372036854775808 ≤ 9088264048033660928) := ⟨by omega, by omega⟩
      clear h1 h2
      go_wp2_with fail
      refine (rproduct _).mono ?_
      rintro e v1 ⟨v, rfl, hv, hb1⟩
      obtain ⟨s1, g1, m1, rfl, hg1, hz1, hl1⟩ := hv
      have HN1 : Hid (w.heap.size ≤ g1) := hg1
      have HB1 : Hid (w.heap.size ≤ v1.heap.size) := hb1.size
      replace hbw := Below.on hbw hb1
      clear hb1
      have Z1 : Hid (ZR v1 s1 (some ⟨g1, 0, none⟩) m1 (ux a * ux b)) := hz1
      have HL1 : Hid (m1 ≤ 4400) := hl1
      clear hz1 hl1 hg1
      go_wp2_with fail
      have Xv0 : Hid (Box (v1.alloc (.cells #[.bool s1, .slice (some ⟨g1, 0, none⟩) m1 m1] 35)) v1.heap.size (.bool s1) (.slice (some ⟨g1, 0, none⟩) m1 m1)) := Box.new v1 _ _ _
      have hbn : Below v1.heap.size v1 (v1.alloc (.cells #[.bool s1, .slice (some ⟨g1, 0, none⟩) m1 m1] 35)) := below1 v1 _
      generalize v1.alloc (.cells #[.bool s1, .slice (some ⟨g1, 0, none⟩) m1 m1] 35) = W4 at *
      have HGv : Hid (w.heap.size ≤ v1.heap.size) := hbw.size
      replace Z1 : Hid _ := Z1.out.below hbn
      replace hbw := Below.on hbw hbn
      clear hbn
      generalize v1.heap.size = gv at *
      have Xv := Xv0
      clear Xv0
      by_cases h0 : ux a * ux b = 0
      · have HV0 : Hid (ux a * ux b = 0) := h0
        refine (rsign04 s1 Z1.out).mono ?_
        rintro e v5 ⟨rfl, hb5⟩
        rw [h0, show sgnI 0 = 0 from rfl]
        clear h0
        replace Xv : Hid _ := Xv.out.below hb5
        replace Z1 : Hid _ := Z1.out.below hb5
        replace hbw := Below.on hbw hb5
        clear hb5
        obtain ⟨cv0, cv1, fv0, fv1⟩ := Xv.out
        have hnev := Xv.out.lt
        go_wp2_with fail
        clear cv0 cv1 fv0 fv1 hnev
        go_ret
        exact ⟨⟨_, rfl, fun _ => ⟨HK.out.1, HK.out.2, .inl HV0.out⟩⟩, hbw⟩
      · obtain ⟨sg, hsg⟩ : ∃ sg, sg = sgnI (ux a * ux b) := ⟨_, rfl⟩
        have hs0 : ¬ sg = 0 := by rw [hsg]; exact sgn_ne0 h0
        have hs1 : (sg == 0) = false := by simp [hs0]
        have HSG : Hid (sg = sgnI (ux a * ux b)) := hsg
        clear hsg h0
        refine (rsign04 s1 Z1.out).mono ?_
        rintro e v5 ⟨rfl, hb5⟩
        rw [← HSG.out]
        replace Xv : Hid _ := Xv.out.below hb5
        replace Z1 : Hid _ := Z1.out.below hb5
        replace hbw := Below.on hbw hb5
        clear hb5
        obtain ⟨cv0, cv1, fv0, fv1⟩ := Xv.out
        have hnev := Xv.out.lt
        go_wp2_with fail
        clear cv0 cv1 fv0 fv1 hnev
        obtain ⟨k1, hk1⟩ : ∃ k : Nat, k = 1188 := ⟨_, rfl⟩
        obtain ⟨k2, hk2⟩ : ∃ k : Nat, k = 3169 := ⟨_, rfl⟩
        obtain ⟨c1, hc1⟩ : ∃ c, c = cmpN (ux a * ux b).natAbs (2 ^ k1) := ⟨_, rfl⟩
        obtain ⟨c2, hc2⟩ : ∃ c, c = cmpN (ux a * ux b).natAbs (2 ^ k2) := ⟨_, rfl⟩
        have HC : Hid (k1 = 1188 ∧ k2 = 3169 ∧ c1 = cmpN (ux a * ux b).natAbs (2 ^ k1) ∧ c2 = cmpN (ux a * ux b).natAbs (2 ^ k2)) := ⟨hk1, hk2, hc1, hc2⟩
        clear hk1 hk2 hc1 hc2
        by_cases h3 : 0 ≤ c1
        · have d1 : decide (0 ≤ c1) = true := decide_eq_true h3
          have H3 : Hid (0 ≤ c1) := h3
          clear h3
          obtain ⟨W5, hW5⟩ : ∃ W1, W1 = v5.drew := ⟨_, rfl⟩
          have hbd : Below v5.heap.size v5 W5 := by rw [hW5]; exact bDrew1 (Below.refl _ _)
          replace Xv : Hid _ := Xv.out.below hbd
          replace Z1 : Hid _ := Z1.out.below hbd
          replace hbw := Below.on hbw hbd
          clear hbd
          have HJ : Hid ((fun W' : World => W'.cell? ⟨gv, 1, none⟩ = some (.slice (some ⟨g1, 0, none⟩) m1 m1)) W5) := Xv.out.c1
          refine wp_region_J (fun W' => W'.cell? ⟨gv, 1, none⟩ = some (.slice (some ⟨g1, 0, none⟩) m1 m1)) (by kernel_rfl) ?_
          rw [← hW5]
          clear hW5
          refine wpJ_tk 0 (v := ?v1x0) rfl ?hy1x0 HJ.out ?_
          case hy1x0 => (intro W' hJ; have j0 := hJ; go_simp; first | done | with_reducible rfl)
          refine wpJ_tk 1 (v := ?v2x1) rfl ?hy2x1 HJ.out ?_
          case hy2x1 => (intro W' hJ; have j0 := hJ; go_simp; first | done | with_reducible rfl)
          refine wpJ_on 2 rfl fun KJ hK => ?_
          go_simp
          refine (rpow2k k1 1188 (by have := HC.out.1; omega) (by have := HC.out.1; omega) _).mono ?_
          rintro e9 v6 ⟨p6, m6, z6, rfl, hA6, hN6, hm6, hb6⟩
          replace Xv : Hid _ := Xv.out.below hb6
          replace Z1 : Hid _ := Z1.out.below hb6
          replace hbw := Below.on hbw hb6
          clear hb6
          have A6 : Hid (At32 v6 p6 m6 m6 z6) := hA6
          have N6 : Hid (Nf B32 z6 (2 ^ k1)) := hN6
          clear hA6 hN6 hm6
          refine hK _ _ Xv.out.c1 ?_
          clear hK
          refine wpJ_on 3 rfl fun KJ hK => ?_
          go_simp
          obtain ⟨zs, hA, hN⟩ := Z1.out.ex
          refine (rcmp_any hA A6.out hN N6.out).mono ?_
          rintro e9 w9 ⟨rfl, r7, rfl⟩
          clear hA hN
          rw [← HC.out.2.2.1]
          have hbr := bDrewN (Below.refl v6.heap.size v6) r7
          generalize v6.drewN r7 = Y7 at *
          replace Xv : Hid _ := Xv.out.below hbr
          replace Z1 : Hid _ := Z1.out.below hbr
          replace A6 : Hid _ := A6.out.below hbr
          replace hbw := Below.on hbw hbr
          clear hbr
          clear HJ
          have HJ : Hid ((fun W' : World => W'.cell? ⟨gv, 1, none⟩ = some (.slice (some ⟨g1, 0, none⟩) m1 m1)) Y7) := Xv.out.c1
          refine hK _ _ HJ.out ?_
          clear hK
          refine wpJ_tk 4 (v := ?v3x4) rfl ?hy3x4 HJ.out ?_
          case hy3x4 => (intro W' hJ; have j0 := hJ; go_simp; first | done | with_reducible rfl)
          refine wpJ_tk 5 (v := ?v4x5) rfl ?hy4x5 HJ.out ?_
          case hy4x5 => (intro W' hJ; have j0 := hJ; go_simp; first | done | with_reducible rfl)
          refine wpJ_tk 6 (v := ?v5x6) rfl ?hy5x6 HJ.out ?_
          case hy5x6 => (intro W' hJ; have j0 := hJ; go_simp; first | done | with_reducible rfl)
          refine wpJ_tk 7 (v := ?v6x7) rfl ?hy6x7 HJ.out ?_
          case hy6x7 => (intro W' hJ; have j0 := hJ; go_simp; first | done | with_reducible rfl)
          refine wpJ_on 8 rfl fun KJ hK => ?_
          go_simp
          refine (rpow2k k2 3169 (by have := HC.out.2.1; omega) (by have := HC.out.2.1; omega) _).mono ?_
          rintro e9 v8 ⟨p8, m8, z8, rfl, hA8, hN8, hm8, hb8⟩
          replace Xv : Hid _ := Xv.out.below hb8
          replace Z1 : Hid _ := Z1.out.below hb8
          replace A6 : Hid _ := A6.out.below hb8
          replace hbw := Below.on hbw hb8
          clear hb8
          have A8 : Hid (At32 v8 p8 m8 m8 z8) := hA8
          have N8 : Hid (Nf B32 z8 (2 ^ k2)) := hN8
          clear hA8 hN8 hm8
          refine hK _ _ Xv.out.c1 ?_
          clear hK
          refine wpJ_on 9 rfl fun KJ hK => ?_
          go_simp
          obtain ⟨zs, hA, hN⟩ := Z1.out.ex
          refine (rcmp_any hA A8.out hN N8.out).mono ?_
          rintro e9 w9 ⟨rfl, r9, rfl⟩
          clear hA hN
          rw [← HC.out.2.2.2]
          have hbr := bDrewN (Below.refl v8.heap.size v8) r9
          generalize v8.drewN r9 = Y9 at *
          replace Xv : Hid _ := Xv.out.below hbr
          replace Z1 : Hid _ := Z1.out.below hbr
          replace A6 : Hid _ := A6.out.below hbr
          replace A8 : Hid _ := A8.out.below hbr
          replace hbw := Below.on hbw hbr
          clear hbr
          clear HJ
          have HJ : Hid ((fun W' : World => W'.cell? ⟨gv, 1, none⟩ = some (.slice (some ⟨g1, 0, none⟩) m1 m1)) Y9) := Xv.out.c1
          refine hK _ _ HJ.out ?_
          clear hK
          refine wpJ_tk 10 (v := ?v7x10) rfl ?hy7x10 HJ.out ?_
          case hy7x10 => (intro W' hJ; have j0 := hJ; go_simp; first | done | with_reducible rfl)
          refine wpJ_tk 11 (v := ?v8x11) rfl ?hy8x11 HJ.out ?_
          case hy8x11 => (intro W' hJ; have j0 := hJ; go_simp; first | done | with_reducible rfl)
          refine wpJ_tk 12 (v := ?v9x12) rfl ?hy9x12 HJ.out ?_
          case hy9x12 => (intro W' hJ; have j0 := hJ; go_simp; first | done | with_reducible rfl)
          refine wpJ_done (by kernel_rfl) ?_ _
          clear HJ
          obtain ⟨cv0, cv1, fv0, fv1⟩ := Xv.out
          have hnev := Xv.out.lt
          go_wp2_with fail
          clear cv0 cv1 fv0 fv1 hnev
          go_ret
          refine ⟨⟨_, rfl, fun h => ⟨HK.out.1, HK.out.2, .inr ⟨fun K hK => ?_, fun K hK => ?_⟩⟩⟩, hbw⟩
          · have h1 := H3.out; rw [HC.out.2.2.1] at h1; have h2 := cmpN_ge h1; rw [HC.out.1, ← hK] at h2; exact h2
          · have h1 := of_decide_eq_true h; rw [HC.out.2.2.2] at h1; have h2 := cmpN_le h1; rw [HC.out.2.1, ← hK] at h2; exact h2
        · have d1 : decide (0 ≤ c1) = false := decide_eq_false h3
          clear h3
          obtain ⟨W5, hW5⟩ : ∃ W1, W1 = v5.drew := ⟨_, rfl⟩
          have hbd : Below v5.heap.size v5 W5 := by rw [hW5]; exact bDrew1 (Below.refl _ _)
          replace Xv : Hid _ := Xv.out.below hbd
          replace Z1 : Hid _ := Z1.out.below hbd
          replace hbw := Below.on hbw hbd
          clear hbd
          have HJ : Hid ((fun W' : World => W'.cell? ⟨gv, 1, none⟩ = some (.slice (some ⟨g1, 0, none⟩) m1 m1)) W5) := Xv.out.c1
          refine wp_region_J (fun W' => W'.cell? ⟨gv, 1, none⟩ = some (.slice (some ⟨g1, 0, none⟩) m1 m1)) (by kernel_rfl) ?_
          rw [← hW5]
          clear hW5
          refine wpJ_tk 0 (v := ?v10x0) rfl ?hy10x0 HJ.out ?_
          case hy10x0 => (intro W' hJ; have j0 := hJ; go_simp; first | done | with_reducible rfl)
          refine wpJ_tk 1 (v := ?v11x1) rfl ?hy11x1 HJ.out ?_
          case hy11x1 => (intro W' hJ; have j0 := hJ; go_simp; first | done | with_reducible rfl)
          refine wpJ_on 2 rfl fun KJ hK => ?_
          go_simp
          refine (rpow2k k1 1188 (by have := HC.out.1; omega) (by have := HC.out.1; omega) _).mono ?_
          rintro e9 v6 ⟨p6, m6, z6, rfl, hA6, hN6, hm6, hb6⟩
          replace Xv : Hid _ := Xv.out.below hb6
          replace Z1 : Hid _ := Z1.out.below hb6
          replace hbw := Below.on hbw hb6
          clear hb6
          have A6 : Hid (At32 v6 p6 m6 m6 z6) := hA6
          have N6 : Hid (Nf B32 z6 (2 ^ k1)) := hN6
          clear hA6 hN6 hm6
          refine hK _ _ Xv.out.c1 ?_
          clear hK
          refine wpJ_on 3 rfl fun KJ hK => ?_
          go_simp
          obtain ⟨zs, hA, hN⟩ := Z1.out.ex
          refine (rcmp_any hA A6.out hN N6.out).mono ?_
          rintro e9 w9 ⟨rfl, r7, rfl⟩
          clear hA hN
          rw [← HC.out.2.2.1]
          have hbr := bDrewN (Below.refl v6.heap.size v6) r7
          generalize v6.drewN r7 = Y7 at *
          replace Xv : Hid _ := Xv.out.below hbr
          replace Z1 : Hid _ := Z1.out.below hbr
          replace A6 : Hid _ := A6.out.below hbr
          replace hbw := Below.on hbw hbr
          clear hbr
          clear HJ
          have HJ : Hid ((fun W' : World => W'.cell? ⟨gv, 1, none⟩ = some (.slice (some ⟨g1, 0, none⟩) m1 m1)) Y7) := Xv.out.c1
          refine hK _ _ HJ.out ?_
          clear hK
          refine wpJ_tk 4 (v := ?v12x4) rfl ?hy12x4 HJ.out ?_
          case hy12x4 => (intro W' hJ; have j0 := hJ; go_simp; first | done | with_reducible rfl)
          refine wpJ_tk 5 (v := ?v13x5) rfl ?hy13x5 HJ.out ?_
          case hy13x5 => (intro W' hJ; have j0 := hJ; go_simp; first | done | with_reducible rfl)
          refine wpJ_sk 6 rfl HJ.out ?_
          refine wpJ_sk 7 rfl HJ.out ?_
          refine wpJ_sk 8 rfl HJ.out ?_
          go_simp
          refine wpJ_sk 9 rfl HJ.out ?_
          refine wpJ_sk 10 rfl HJ.out ?_
          refine wpJ_tk 11 (v := ?v14x11) rfl ?hy14x11 HJ.out ?_
          case hy14x11 => (intro W' hJ; have j0 := hJ; go_simp; first | done | with_reducible rfl)
          refine wpJ_tk 12 (v := ?v15x12) rfl ?hy15x12 HJ.out ?_
          case hy15x12 => (intro W' hJ; have j0 := hJ; go_simp; first | done | with_reducible rfl)
          refine wpJ_done (by kernel_rfl) ?_ _
          clear HJ
          obtain ⟨cv0, cv1, fv0, fv1⟩ := Xv.out
          have hnev := Xv.out.lt
          go_wp2_with fail
          clear cv0 cv1 fv0 fv1 hnev
          go_ret
          exact ⟨⟨_, rfl, fun h => by cases h⟩, hbw⟩
    · rw [decide_eq_false h2]
      go_wp2_with fail
      go_ret
      exact ⟨⟨_, rfl, fun h => by cases h⟩, hbw⟩
  · rw [decide_eq_false h1]
    go_wp2_with fail
    go_ret
    exact ⟨⟨_, rfl, fun h => by cases h⟩, hbw⟩
theorem ts_awake {s r : Nat} (h : TSR 4336966441157787648 4607182418800017408 s r) : s = 4607182418800017408 ∧ r = 4336966441157787648 := by
  obtain ⟨ob, oa, da, db, F1, F2, F3, F4, F5, F6⟩ := h
  obtain rfl : s = 4607182418800017408 := F1.some _ (by decide +kernel)
  obtain rfl : ob = 4607182418800017408 := F2.some _ (by decide +kernel)
  obtain rfl : oa = 0 := F3.some _ (by decide +kernel)
  obtain rfl : da = 4336966441157787648 := F4.some _ (by decide +kernel)
  obtain rfl : db = 0 := F5.some _ (by decide +kernel)
  obtain rfl : r = 4336966441157787648 := F6.some _ (by decide +kernel)
  exact ⟨rfl, rfl⟩
theorem fs_awake {s r : Nat} (h : FSR 4607182418800017408 4336966441157787648 s r) : s = 4607182418800017408 ∧ r = 4336966441157787648 := by
  obtain ⟨t, F1, F2, F3⟩ := h
  obtain rfl : s = 4607182418800017408 := F1.some _ (by decide +kernel)
  obtain rfl : t = 0 := F2.some _ (by decide +kernel)
  obtain rfl : r = 4336966441157787648 := F3.some _ (by decide +kernel)
  exact ⟨rfl, rfl⟩
theorem sp_awake {h l : Nat} (k : SPR 4607182418804211712 h l) : h = 4607182418800017408 ∧ l = 4472074429978902528 := by
  obtain ⟨c, d, F1, F2, F3, F4⟩ := k
  obtain rfl : c = 4728779608776769536 := F1.some _ (by decide +kernel)
  obtain rfl : d = 4728779608743215104 := F2.some _ (by decide +kernel)
  obtain rfl : h = 4607182418800017408 := F3.some _ (by decide +kernel)
  obtain rfl : l = 4472074429978902528 := F4.some _ (by decide +kernel)
  exact ⟨rfl, rfl⟩
theorem tp_awake {p e : Nat} (k : TPR 4607182418804211712 4607182418804211712 p e) : p = 4607182418808406016 ∧ e = 4336966441157787648 := by
  obtain ⟨ah, al, bh, bl, x1, e1, x2, e2, x3, e3, x4, F1, S1, S2, F2, F3, F4, F5, F6, F7, F8, F9⟩ := k
  obtain ⟨rfl, rfl⟩ := sp_awake S1
  obtain ⟨rfl, rfl⟩ := sp_awake S2
  obtain rfl : p = 4607182418808406016 := F1.some _ (by decide +kernel)
  obtain rfl : x1 = 4607182418800017408 := F2.some _ (by decide +kernel)
  obtain rfl : e1 = 13699950066461048832 := F3.some _ (by decide +kernel)
  obtain rfl : x2 = 4472074429978902528 := F4.some _ (by decide +kernel)
  obtain rfl : e2 = 13695446466833678336 := F5.some _ (by decide +kernel)
  obtain rfl : x3 = 4472074429978902528 := F6.some _ (by decide +kernel)
  obtain rfl : e3 = 0 := F7.some _ (by decide +kernel)
  obtain rfl : x4 = 4336966441157787648 := F8.some _ (by decide +kernel)
  obtain rfl : e = 4336966441157787648 := F9.some _ (by decide +kernel)
  exact ⟨rfl, rfl⟩
theorem awake19 (w : World) : Calls Try.prog 7 #[] w fun e w' => e = .returned (.bool true) ∧ ∃ n, w' = w.drewN n := by
  go_enter Try.func7, Try.ntmps7
  go_wp2_with fail
  refine (sumB 4336966441157787648 4607182418800017408 _).mono ?_
  rintro e w' ⟨s, r, n1, rfl, rfl, hR⟩
  obtain ⟨rfl, rfl⟩ := ts_awake hR
  clear hR
  go_wp2_with fail
  refine (fastB 4607182418800017408 4336966441157787648 _).mono ?_
  rintro e w' ⟨s, r, n2, rfl, rfl, hR⟩
  obtain ⟨rfl, rfl⟩ := fs_awake hR
  clear hR
  go_wp2_with fail
  refine (splitB 4607182418804211712 _).mono ?_
  rintro e w' ⟨s, r, n3, rfl, rfl, hR⟩
  obtain ⟨rfl, rfl⟩ := sp_awake hR
  clear hR
  go_wp2_with fail
  refine (prodB 4607182418804211712 4607182418804211712 _).mono ?_
  rintro e w' ⟨s, r, n4, rfl, rfl, hR⟩
  obtain ⟨rfl, rfl⟩ := tp_awake hR
  clear hR
  go_wp2_with fail
  go_ret
  exact ⟨rfl, _, rfl⟩
theorem below_dn (w : World) (n : Nat) : Below w.heap.size w (w.drewN n) := bDrewN (Below.refl _ _) n
theorem Sm64.little {X : Int} {s e : Nat} (h : Sm64 X s) (he : ux s + ux e = X) : 9007199254740992 * (ux e).natAbs ≤ (ux s).natAbs := by
  have h1 := h.rn.little (by omega)
  rw [show X - ux s = ux e by omega, show (2 : Nat) ^ 53 = 9007199254740992 by decide] at h1
  exact h1
theorem log2_div (v c : Nat) (h : c ≤ v.log2) (hv : v ≠ 0) : (v / 2 ^ c).log2 = v.log2 - c := by
  have h1 : 2 ^ v.log2 ≤ v := Nat.log2_self_le hv
  have h2 : v < 2 ^ (v.log2 + 1) := Nat.lt_log2_self
  have hp := p2pos c
  have h3 : 2 ^ (v.log2 - c) ≤ v / 2 ^ c := (Nat.le_div_iff_mul_le hp).2 (by rw [← Nat.pow_add]; exact Nat.le_trans (p2le (by omega)) h1)
  have h4 : v / 2 ^ c < 2 ^ (v.log2 - c + 1) := Nat.div_lt_of_lt_mul (by rw [← Nat.pow_add]; exact Nat.lt_of_lt_of_le h2 (p2le (by omega)))
  have h5 := p2pos (v.log2 - c)
  exact (Nat.log2_eq_iff (by omega)).2 ⟨h3, h4⟩
theorem cmpI_two (x y : Int) : cmpI (x * 2) (y * 2) = cmpI x y := by
  rcases Int.lt_trichotomy x y with h | h | h
  · rw [cmp_lt h, cmp_lt (by omega)]
  · subst h; unfold cmpI; simp
  · rw [cmp_gt h, cmp_gt (by omega)]
theorem rg_up_p (v c k : Nat) (hc : c = 1074) (hk : k = 1073) (hl : 1126 < v.log2) (cc : Int) (hcc : cc = cmpI (v : Int) (((vs 4503599627370496 (szN (v / 2 ^ c)) : Int) + (vs 4503599627370496 (szN (v / 2 ^ c) + 1) : Int)) * 2 ^ k)) : min (upB cc (szN (v / 2 ^ c))) 9218868437227405312 = rg 1074 v := by
  have hv : v ≠ 0 := fun h => by rw [h] at hl; simp at hl
  have hu := log2_div v c (by omega) hv
  have hu0 : v / 2 ^ c ≠ 0 := fun h => by rw [h] at hu; simp at hu; omega
  obtain ⟨L, hL⟩ : ∃ L, L = v.log2 - 52 := ⟨_, rfl⟩
  have hL2 : (v / 2 ^ c).log2 - 52 = L - c := by omega
  have hdd : v / 2 ^ c / 2 ^ (L - c) = v / 2 ^ L := by rw [Nat.div_div_eq_div_mul, ← Nat.pow_add, show c + (L - c) = L by omega]
  obtain ⟨h1, h2, h3⟩ := sz_vs (v / 2 ^ c) hu0
  rw [hL2, hdd] at h1 h2 h3
  have e1 : (((vs 4503599627370496 (szN (v / 2 ^ c)) : Int) + (vs 4503599627370496 (szN (v / 2 ^ c) + 1) : Int)) * 2 ^ k) * 2 = (((2 * (v / 2 ^ L) + 1) * 2 ^ L : Nat) : Int) := by
    rw [h1, h2, ← Int.natCast_add, ← Nat.add_mul, show v / 2 ^ L + (v / 2 ^ L + 1) = 2 * (v / 2 ^ L) + 1 by omega]
    have h5 : 2 ^ L = 2 ^ (L - c) * 2 ^ k * 2 := by rw [← Nat.pow_add, ← Nat.pow_succ]; congr 1; omega
    have e0 : (2 : Int) ^ k = ((2 ^ k : Nat) : Int) := by rw [Int.natCast_pow]; rfl
    have e2 : ∀ x : Int, x * 2 = x * ((2 : Nat) : Int) := fun _ => rfl
    rw [e0, e2, ← Int.natCast_mul, ← Int.natCast_mul]
    generalize 2 * (v / 2 ^ L) + 1 = q
    rw [h5, ← Nat.mul_assoc, ← Nat.mul_assoc]
  have hc2 : cc = cmpI ((v : Int) * 2) (((2 * (v / 2 ^ L) + 1) * 2 ^ L : Nat) : Int) := by
    rw [hcc, ← e1, cmpI_two]
  rw [rne_cmp v L _ h3 cc hc2]
  have h4 : v / 2 ^ L ≤ rne v L := by unfold rne; omega
  have hs : szN (v / 2 ^ c) = (L - c) * 4503599627370496 + v / 2 ^ L := by unfold szN; rw [hL2, hdd]
  unfold rg
  rw [if_neg hv, ← hL, hs]
  generalize v / 2 ^ L = q at h4 ⊢
  rw [show (L - c) * 4503599627370496 + q + (rne v L - q) = (L - 1074) * 4503599627370496 + rne v L by omega]
theorem rshrk {p : Option Addr} {n c : Nat} {xs : List Nat} {v : Nat} {w : World} (h : At32 w p n c xs) (hx : Nf B32 xs v) (hn : n ≤ 16384) (N : Nat) (e : Int) (he : e = (N : Int)) (hN2 : N ≤ 9223372036854775807) :
    Calls Try.prog 51 #[.slice p n c, .int .i64 e] w fun e w' => ∃ p' m' zs, e = .returned (.slice p' m' m') ∧ At32 w' p' m' m' zs ∧ Nf B32 zs (v / 2 ^ N) ∧ m' ≤ n ∧ Below w.heap.size w w' := by
  subst he; exact rshr_all h hx hn N hN2
theorem rround_p {p : Option Addr} {n : Nat} {zs : List Nat} {v : Nat} {w : World} (h : At32 w p n n zs) (hx : Nf B32 zs v) (hn : n ≤ 10000) (hv : v ≠ 0) (hb0 : 1128 ≤ bitsN v) (hb : bitsN v ≤ 3170) :
    Calls Try.prog 39 #[FV 9223372036854775808 53 (-1074) 971 9218868437227405312 9221120237041090561, .slice p n n, .int .i64 (-2148)] w fun en w' => en = .returned (U (rg 1074 v)) ∧ Below w.heap.size w w' := by
  obtain ⟨b, hbe⟩ : ∃ b, b = bitsN v := ⟨_, rfl⟩
  have hb1 := bitsN_pos hv
  rw [← hbe] at hb hb1
  obtain ⟨c0, hc0⟩ : ∃ c, c = 1074 := ⟨_, rfl⟩
  obtain ⟨k3, hk3⟩ : ∃ c, c = 1073 := ⟨_, rfl⟩
  have hlog : v.log2 = b - 1 := by rw [hbe]; unfold bitsN; rw [if_neg hv]; omega
  rw [← hbe] at hb0
  have hul := log2_div v c0 (by omega) hv
  obtain ⟨s, hs⟩ : ∃ s, s = szN (v / 2 ^ c0) := ⟨_, rfl⟩
  have hub : bitsN (v / 2 ^ c0) ≤ 2099 := by unfold bitsN; split; omega; rw [hul]; omega
  have hs9 : s < 9223372036854775807 := by
    have h1 := sz_lt (v / 2 ^ c0)
    have h2 := log2_bits (v / 2 ^ c0)
    rw [hs]; unfold szN; omega
  obtain ⟨c, hc⟩ : ∃ c, c = cmpI (v : Int) ((ux s + ux (s + 1)) * 2 ^ k3) := ⟨_, rfl⟩
  have hu1 : ux s = (vs 4503599627370496 s : Int) := by rw [ux_eq, if_neg (by omega), Nat.mod_eq_of_lt (by omega)]
  have hu2 : ux (s + 1) = (vs 4503599627370496 (s + 1) : Int) := by rw [ux_eq, if_neg (by omega), Nat.mod_eq_of_lt (by omega)]
  have HCC : Hid ((c = -1 ∨ c = 0 ∨ c = 1) ∧ min (upB c s) 9218868437227405312 = rg 1074 v) := by
    refine ⟨?_, ?_⟩
    · rw [hc]; unfold cmpI; split
      · exact .inl rfl
      · split
        · exact .inr (.inl rfl)
        · exact .inr (.inr rfl)
    · have := rg_up_p v c0 k3 hc0 hk3 (by omega) c (by rw [hc, hu1, hu2, hs])
      rw [← hs] at this
      exact this
  have HTW : Hid (0 < ux s + ux (s + 1) ∧ bitsN (ux s + ux (s + 1)).natAbs ≤ 100000 ∧ cmpI (v : Int) ((ux s + ux (s + 1)) * 2 ^ k3) = c) := by
    refine ⟨?_, ?_, hc.symm⟩
    · have : vs 4503599627370496 s < vs 4503599627370496 (s + 1) := vs_mono (by omega) (by omega)
      rw [hu1, hu2]
      omega
    · obtain ⟨L, hL⟩ : ∃ L, L = 2200 := ⟨_, rfl⟩
      have h1 : (ux s).natAbs < 2 ^ L := svS_lt s (a := 52) (c := 2048) (by decide) (by decide) (by decide) (by decide) (by omega)
      have h2 : (ux (s + 1)).natAbs < 2 ^ L := svS_lt (s + 1) (a := 52) (c := 2048) (by decide) (by decide) (by decide) (by decide) (by omega)
      have h3 := bits_le_of (n := (ux s + ux (s + 1)).natAbs) (k := L + 1) (by rw [p2succ]; omega)
      omega
  have n0 : ((n : Int) == 0) = false := by
    have hl := h.len
    have : n ≠ 0 := fun h0 => by
      subst h0
      have : zs = [] := List.eq_nil_of_length_eq_zero hl
      subst this
      exact hv hx.val.symm
    simp; omega
  have n1 : ¬ n = 0 := by simpa using n0
  obtain ⟨t, ht⟩ : ∃ t : Int, t = (b : Int) - 2148 := ⟨_, rfl⟩
  have w1 : wrap64 ((b : Int) + -2148) = t := by rw [ht]; simp only [wrap64]; omega
  have w1' : IntKind.i64.wrap ((b : Int) + -2148) = t := by rw [ht]; simp [IntKind.wrap, IntKind.signed, IntKind.bits]; omega
  have c1 : decide (t < -1074) = false := decide_eq_false (by omega)
  have c2 : decide (1024 < t) = false := decide_eq_false (by omega)
  have w5 : IntKind.i64.wrap (-1075) = -1075 := by decide
  have w3 : IntKind.u64.wrap ((s : Int) + 1) = ((s + 1 : Nat) : Int) := by rw [IntKind.wrap_u64]; omega
  have HK3 : Hid (k3 ≤ 5000 ∧ (-1075 : Int) = -2148 + (k3 : Int)) := ⟨by omega, by omega⟩
  have HA : Hid (At32 w p n n zs) := h
  have HX : Hid (Nf B32 zs v ∧ n ≤ 10000 ∧ b = bitsN v ∧ s = szN (v / 2 ^ c0) ∧ v ≠ 0 ∧ bitsN v ≤ 3170 ∧ s < 9223372036854775807 ∧ bitsN (v / 2 ^ c0) ≤ 2099 ∧ c0 = 1074 ∧ k3 = 1073) := ⟨hx, hn, hbe, hs, hv, by omega, hs9, hub, hc0, hk3⟩
  clear h hx hn hbe hs hv hb hb1 hb0 ht hs9 hc hu1 hu2 hub hul hlog hc0 hk3
  go_enter Try.func39, Try.ntmps39
  go_wp2_with fail
  obtain ⟨W0, hW0⟩ : ∃ W0, W0 = (w.alloc (.cells #[U 9223372036854775808, .int .i64 53, .int .i64 (-1074), .int .i64 971, U 9218868437227405312, U 9221120237041090561] 55)) := ⟨_, rfl⟩
  have Xk : Hid (B6q W0 (w.heap.size) (U 9223372036854775808) (.int .i64 53) (.int .i64 (-1074)) (.int .i64 971) (U 9218868437227405312) (U 9221120237041090561)) := by rw [hW0]; exact ⟨by go_simp, by go_simp, by go_simp, by go_simp, by go_simp, by go_simp, by go_simp, by go_simp, by go_simp, by go_simp, by go_simp, by go_simp⟩
  have hb0 : Below w.heap.size w W0 := by rw [hW0]; exact below1 w _
  rw [← hW0]
  clear hW0
  have hbw : Below w.heap.size w w := Below.refl _ _
  obtain ⟨gk, hgk⟩ : ∃ g, g = w.heap.size := ⟨_, rfl⟩
  have HGk : Hid (w.heap.size ≤ gk) := by rw [hgk]; show _ ≤ _; omega
  rw [← hgk] at Xk
  try rw [← hgk]
  clear hgk
  replace HA : Hid _ := HA.out.below hb0
  replace hbw := Below.on hbw hb0
  clear hb0
  refine (rbits_any HA.out HX.out.1 (by have := HX.out.2.1; omega)).mono ?_
  rintro e1 w1 ⟨rfl, hw⟩
  rw [← HX.out.2.2.1]
  obtain rfl := hw.symm
  clear hw
  obtain ⟨ck0, ck1, ck2, ck3, ck4, ck5, fk0, fk1, fk2, fk3, fk4, fk5⟩ := Xk.out
  have hnek : gk < W0.heap.size := World.block_lt_of_cell? W0 _ ck0
  go_wp2_with fail
  clear ck0 ck1 ck2 ck3 ck4 ck5 fk0 fk1 fk2 fk3 fk4 fk5 hnek
  refine (rshrk HA.out HX.out.1 (by have := HX.out.2.1; omega) c0 1074 (by have := HX.out.2.2.2.2.2.2.2.2.1; omega) (by have := HX.out.2.2.2.2.2.2.2.2.1; omega)).mono ?_
  rintro e1 v5 ⟨p5, m5, z5, rfl, hA5, hN5, hm5, hb5⟩
  replace Xk : Hid _ := Xk.out.below hb5
  replace HA : Hid _ := HA.out.below hb5
  replace hbw := Below.on hbw hb5
  clear hb5
  have A5 : Hid (At32 v5 p5 m5 m5 z5) := hA5
  have N5 : Hid (Nf B32 z5 (v / 2 ^ c0) ∧ m5 ≤ 16384) := ⟨hN5, by have := HX.out.2.1; omega⟩
  clear hA5 hN5 hm5
  obtain ⟨ck0, ck1, ck2, ck3, ck4, ck5, fk0, fk1, fk2, fk3, fk4, fk5⟩ := Xk.out
  have hnek : gk < v5.heap.size := World.block_lt_of_cell? v5 _ ck0
  go_wp2_with fail
  clear ck0 ck1 ck2 ck3 ck4 ck5 fk0 fk1 fk2 fk3 fk4 fk5 hnek
  refine (rsizeN A5.out N5.out.1 N5.out.2 HX.out.2.2.2.2.2.2.2.1).mono ?_
  rintro e v6 ⟨rfl, hb6⟩
  rw [← HX.out.2.2.2.1]
  replace Xk : Hid _ := Xk.out.below hb6
  replace HA : Hid _ := HA.out.below hb6
  replace A5 : Hid _ := A5.out.below hb6
  replace hbw := Below.on hbw hb6
  clear hb6
  clear A5
  clear N5
  obtain ⟨ck0, ck1, ck2, ck3, ck4, ck5, fk0, fk1, fk2, fk3, fk4, fk5⟩ := Xk.out
  have hnek : gk < v6.heap.size := World.block_lt_of_cell? v6 _ ck0
  go_wp2_with fail
  clear ck0 ck1 ck2 ck3 ck4 ck5 fk0 fk1 fk2 fk3 fk4 fk5 hnek
  have HAu : Hid (At32 v6 p n n zs) := HA.out
  have hbu : Below v6.heap.size v6 v6 := Below.refl _ _
  clear HA
  obtain ⟨Wr, hWr⟩ : ∃ W1, W1 = v6.drew := ⟨_, rfl⟩
  have hbd : Below v6.heap.size v6 Wr := by rw [hWr]; exact bDrew1 (Below.refl _ _)
  have hbu' := Below.on hbu hbd
  clear hbu
  have hbu := hbu'
  clear hbu'
  replace Xk : Hid _ := Xk.out.below hbd
  replace hbw := Below.on hbw hbd
  clear hbd
  have HJ : Hid ((fun W' : World => W'.cell? ⟨gk, 0, none⟩ = some (U 9223372036854775808) ∧ W'.cell? ⟨gk, 1, none⟩ = some (.int .i64 53) ∧ W'.cell? ⟨gk, 2, none⟩ = some (.int .i64 (-1074)) ∧ W'.cell? ⟨gk, 3, none⟩ = some (.int .i64 971) ∧ W'.cell? ⟨gk, 4, none⟩ = some (U 9218868437227405312) ∧ W'.cell? ⟨gk, 5, none⟩ = some (U 9221120237041090561)) Wr) := ⟨Xk.out.c0, Xk.out.c1, Xk.out.c2, Xk.out.c3, Xk.out.c4, Xk.out.c5⟩
  refine wp_region_J (fun W' => W'.cell? ⟨gk, 0, none⟩ = some (U 9223372036854775808) ∧ W'.cell? ⟨gk, 1, none⟩ = some (.int .i64 53) ∧ W'.cell? ⟨gk, 2, none⟩ = some (.int .i64 (-1074)) ∧ W'.cell? ⟨gk, 3, none⟩ = some (.int .i64 971) ∧ W'.cell? ⟨gk, 4, none⟩ = some (U 9218868437227405312) ∧ W'.cell? ⟨gk, 5, none⟩ = some (U 9221120237041090561)) (by kernel_rfl) ?_
  rw [← hWr]
  clear hWr
  refine wpJ_tq 0 rfl HJ.out ?_
  refine wpJ_tq 1 rfl HJ.out ?_
  refine wpJ_tq 3 rfl HJ.out ?_
  refine wpJ_tq 4 rfl HJ.out ?_
  refine wpJ_tq 5 rfl HJ.out ?_
  obtain ⟨RQ, HRQ, HRP⟩ : ∃ RQ : Act → Act → World → Prop, Hid (∀ a1 a2 a3, (fun a0 a' W' => ∃ gtw tA kA nA tB kB nB tF kF nF, a' = ((((a0.put (some 58) (.agg #[.bool tA, .slice (some ⟨kA, 0, none⟩) nA nA])).put (some 62) (.agg #[.bool tB, .slice (some ⟨kB, 0, none⟩) nB nB])).put (some 63) (.agg #[.bool tF, .slice (some ⟨kF, 0, none⟩) nF nF])).put (some 10) (.pointer (some ⟨gtw, 0, none⟩))) ∧ Box W' gtw (.bool tF) (.slice (some ⟨kF, 0, none⟩) nF nF) ∧ B6q W' gk (U 9223372036854775808) (.int .i64 53) (.int .i64 (-1074)) (.int .i64 971) (U 9218868437227405312) (U 9221120237041090561) ∧ ZR W' tF (some ⟨kF, 0, none⟩) nF (ux s + ux (s + 1)) ∧ w.heap.size ≤ gtw ∧ gk ≠ gtw ∧ (nF ≤ 2300) ∧ Below v6.heap.size v6 W' ∧ Below w.heap.size w W') a1 a2 a3 → RQ a1 a2 a3) ∧ Hid (∀ a1 a2 a3, RQ a1 a2 a3 → (fun a0 a' W' => ∃ gtw tA kA nA tB kB nB tF kF nF, a' = ((((a0.put (some 58) (.agg #[.bool tA, .slice (some ⟨kA, 0, none⟩) nA nA])).put (some 62) (.agg #[.bool tB, .slice (some ⟨kB, 0, none⟩) nB nB])).put (some 63) (.agg #[.bool tF, .slice (some ⟨kF, 0, none⟩) nF nF])).put (some 10) (.pointer (some ⟨gtw, 0, none⟩))) ∧ Box W' gtw (.bool tF) (.slice (some ⟨kF, 0, none⟩) nF nF) ∧ B6q W' gk (U 9223372036854775808) (.int .i64 53) (.int .i64 (-1074)) (.int .i64 971) (U 9218868437227405312) (U 9221120237041090561) ∧ ZR W' tF (some ⟨kF, 0, none⟩) nF (ux s + ux (s + 1)) ∧ w.heap.size ≤ gtw ∧ gk ≠ gtw ∧ (nF ≤ 2300) ∧ Below v6.heap.size v6 W' ∧ Below w.heap.size w W') a1 a2 a3) := ⟨_, fun _ _ _ h => h, fun _ _ _ h => h⟩
  refine wpJ_cutA RQ ?_ ?_
  · intro a' Wc hrq
    obtain ⟨gtw, tA, kA, nA, tB, kB, nB, tF, kF, nF, rfl, xb, xk, rr, hg, hdk, hHNF, hbuc, hbc⟩ := HRP.out _ _ _ hrq
    clear hrq HRP HRQ
    clear hbw hbu HJ Xk
    have hbw := hbc
    have hbu := hbuc
    have Xtw : Hid (Box Wc gtw (.bool tF) (.slice (some ⟨kF, 0, none⟩) nF nF)) := xb
    have Xk : Hid (B6q Wc gk (U 9223372036854775808) (.int .i64 53) (.int .i64 (-1074)) (.int .i64 971) (U 9218868437227405312) (U 9221120237041090561)) := xk
    have RR : Hid (ZR Wc tF (some ⟨kF, 0, none⟩) nF (ux s + ux (s + 1))) := rr
    have HGtw : Hid (w.heap.size ≤ gtw) := hg
    have HDktw : Hid (gk ≠ gtw) := hdk
    have HNF : Hid (nF ≤ 2300) := hHNF
    clear xb xk rr hg hdk hHNF hbuc hbc
    have HA : Hid (At32 Wc p n n zs) := HAu.out.below hbu
    clear hbu HAu
    obtain ⟨ck0, ck1, ck2, ck3, ck4, ck5, fk0, fk1, fk2, fk3, fk4, fk5⟩ := Xk.out
    have hnek : gk < Wc.heap.size := World.block_lt_of_cell? Wc _ ck0
    obtain ⟨ctw0, ctw1, ftw0, ftw1⟩ := Xtw.out
    have hnetw := Xtw.out.lt
    go_wp2_with fail
    clear ck0 ck1 ck2 ck3 ck4 ck5 fk0 fk1 fk2 fk3 fk4 fk5 hnek
    clear ctw0 ctw1 ftw0 ftw1 hnetw
    obtain ⟨Wy, hWy⟩ : ∃ W1, W1 = Wc.drew := ⟨_, rfl⟩
    have hbd : Below Wc.heap.size Wc Wy := by rw [hWy]; exact bDrew1 (Below.refl _ _)
    replace Xtw : Hid _ := Xtw.out.below hbd
    replace Xk : Hid _ := Xk.out.below hbd
    replace RR : Hid _ := RR.out.below hbd
    replace HA : Hid _ := HA.out.below hbd
    replace hbw := Below.on hbw hbd
    clear hbd
    have HJ : Hid ((fun W' : World => W'.cell? ⟨gk, 2, none⟩ = some (.int .i64 (-1074)) ∧ W'.cell? ⟨gtw, 0, none⟩ = some (.bool tF) ∧ W'.cell? ⟨gtw, 1, none⟩ = some (.slice (some ⟨kF, 0, none⟩) nF nF)) Wy) := ⟨Xk.out.c2, Xtw.out.c0, Xtw.out.c1⟩
    refine wp_region_J (fun W' => W'.cell? ⟨gk, 2, none⟩ = some (.int .i64 (-1074)) ∧ W'.cell? ⟨gtw, 0, none⟩ = some (.bool tF) ∧ W'.cell? ⟨gtw, 1, none⟩ = some (.slice (some ⟨kF, 0, none⟩) nF nF)) (by kernel_rfl) ?_
    rw [← hWy]
    clear hWy
    refine wpJ_tq 0 rfl HJ.out ?_
    refine wpJ_tq 2 rfl HJ.out ?_
    refine wpJ_tq 3 rfl HJ.out ?_
    refine wpJ_tq 4 rfl HJ.out ?_
    refine wpJ_tq 5 rfl HJ.out ?_
    go_simp
    refine wpJ_tq 6 rfl HJ.out ?_
    refine wpJ_on 1 rfl fun KJ hK => ?_
    go_simp
    have hiv : iv false v = (v : Int) := rfl
    refine (rmk_any false HA.out HX.out.1 (by have := HX.out.2.1; omega)).mono ?_
    rintro e9 uM ⟨v, rfl, hv, hbM⟩
    obtain ⟨tM, kM, nM, rfl, hgM, hzM, hlM⟩ := hv
    skip
    replace Xtw : Hid _ := Xtw.out.below hbM
    replace Xk : Hid _ := Xk.out.below hbM
    replace RR : Hid _ := RR.out.below hbM
    replace HA : Hid _ := HA.out.below hbM
    replace hbw := Below.on hbw hbM
    clear hbM
    have YM : Hid (ZR uM tM (some ⟨kM, 0, none⟩) nM (iv false v)) := hzM
    have HLM : Hid (nM ≤ n) := hlM
    clear hzM hlM hgM
    rw [hiv] at YM
    clear hiv
    refine hK _ _ ⟨Xk.out.c2, Xtw.out.c0, Xtw.out.c1⟩ ?_
    clear hK
    refine wpJ_on 7 rfl fun KJ hK => ?_
    go_simp
    refine (rhold_l (k := k3) (e := -2148) (f := -1075) tM tF YM.out RR.out (by have h1 := HLM.out; have h2 := HX.out.2.1; omega) (by have := HNF.out; omega) (by have := HX.out.2.2.2.2.1; omega) HTW.out.1 (by rw [Int.natAbs_natCast]; have := HX.out.2.2.2.2.2.1; omega) HTW.out.2.1 HK3.out.1 ⟨by decide, by decide⟩ ⟨by decide, by decide⟩ HK3.out.2).mono ?_
    rintro e vH ⟨rfl, hbH⟩
    rw [HTW.out.2.2]
    replace Xtw : Hid _ := Xtw.out.below hbH
    replace Xk : Hid _ := Xk.out.below hbH
    replace RR : Hid _ := RR.out.below hbH
    replace HA : Hid _ := HA.out.below hbH
    replace YM : Hid _ := YM.out.below hbH
    replace hbw := Below.on hbw hbH
    clear hbH
    clear HJ
    have HJ : Hid ((fun W' : World => W'.cell? ⟨gk, 2, none⟩ = some (.int .i64 (-1074)) ∧ W'.cell? ⟨gtw, 0, none⟩ = some (.bool tF) ∧ W'.cell? ⟨gtw, 1, none⟩ = some (.slice (some ⟨kF, 0, none⟩) nF nF)) vH) := ⟨Xk.out.c2, Xtw.out.c0, Xtw.out.c1⟩
    refine hK _ _ HJ.out ?_
    clear hK
    refine wpJ_tq 8 rfl HJ.out ?_
    refine wpJ_done (by kernel_rfl) ?_ _
    clear HJ
    rcases HCC.out.1 with hc | hc | hc
    · rw [hc]
      have HC1 : Hid (c = -1) := hc
      clear hc
      obtain ⟨ck0, ck1, ck2, ck3, ck4, ck5, fk0, fk1, fk2, fk3, fk4, fk5⟩ := Xk.out
      have hnek : gk < vH.heap.size := World.block_lt_of_cell? vH _ ck0
      go_wp2_with fail
      clear ck0 ck1 ck2 ck3 ck4 ck5 fk0 fk1 fk2 fk3 fk4 fk5 hnek
      go_ret
      have hm := HCC.out.2
      rw [HC1.out] at hm
      have hu : upB (-1) s = s := by unfold upB; rfl
      rw [hu] at hm
      refine ⟨congrArg (fun z => Ending.returned (.int .u64 z)) ?_, hbw⟩
      rw [← hm]
      exact min_lit s
    · rw [hc]
      have HC1 : Hid (c = 0) := hc
      clear hc
      rcases Nat.mod_two_eq_zero_or_one s with hp | hp
      · have p1 : ((s : Int) % 2 == 1) = false := by rw [show (s : Int) % 2 = ((s % 2 : Nat) : Int) by omega, hp]; rfl
        have HP : Hid (s % 2 = 0) := hp
        have p2 : (s : Int) % 2 = 0 := by omega
        clear hp
        obtain ⟨ck0, ck1, ck2, ck3, ck4, ck5, fk0, fk1, fk2, fk3, fk4, fk5⟩ := Xk.out
        have hnek : gk < vH.heap.size := World.block_lt_of_cell? vH _ ck0
        go_wp2_with fail
        clear ck0 ck1 ck2 ck3 ck4 ck5 fk0 fk1 fk2 fk3 fk4 fk5 hnek
        go_ret
        have hm := HCC.out.2
        rw [HC1.out] at hm
        have hu : upB (0) s = s := by unfold upB; rw [HP.out]; rfl
        rw [hu] at hm
        refine ⟨congrArg (fun z => Ending.returned (.int .u64 z)) ?_, hbw⟩
        rw [← hm]
        exact min_lit s
      · have p1 : ((s : Int) % 2 == 1) = true := by rw [show (s : Int) % 2 = ((s % 2 : Nat) : Int) by omega, hp]; rfl
        have HP : Hid (s % 2 = 1) := hp
        have p2 : (s : Int) % 2 = 1 := by omega
        clear hp
        obtain ⟨ck0, ck1, ck2, ck3, ck4, ck5, fk0, fk1, fk2, fk3, fk4, fk5⟩ := Xk.out
        have hnek : gk < vH.heap.size := World.block_lt_of_cell? vH _ ck0
        go_wp2_with fail
        clear ck0 ck1 ck2 ck3 ck4 ck5 fk0 fk1 fk2 fk3 fk4 fk5 hnek
        go_ret
        have hm := HCC.out.2
        rw [HC1.out] at hm
        have hu : upB (0) s = s + 1 := by unfold upB; rw [HP.out]; rfl
        rw [hu] at hm
        refine ⟨congrArg (fun z => Ending.returned (.int .u64 z)) ?_, hbw⟩
        rw [← hm]
        exact min_lit1 s
    · rw [hc]
      have HC1 : Hid (c = 1) := hc
      clear hc
      obtain ⟨ck0, ck1, ck2, ck3, ck4, ck5, fk0, fk1, fk2, fk3, fk4, fk5⟩ := Xk.out
      have hnek : gk < vH.heap.size := World.block_lt_of_cell? vH _ ck0
      go_wp2_with fail
      clear ck0 ck1 ck2 ck3 ck4 ck5 fk0 fk1 fk2 fk3 fk4 fk5 hnek
      go_ret
      have hm := HCC.out.2
      rw [HC1.out] at hm
      have hu : upB (1) s = s + 1 := by unfold upB; rfl
      rw [hu] at hm
      refine ⟨congrArg (fun z => Ending.returned (.int .u64 z)) ?_, hbw⟩
      rw [← hm]
      exact min_lit1 s
  · skip
    refine wpJ_two (i := 2) (k := 8) (by kernel_rfl) rfl rfl (by kernel_rfl) (by kernel_rfl) (fun KJ hK => ?_) (fun KJ hK => ?_)
    · go_simp
      refine (rwhole_64 _).mono ?_
      rintro e9 uA ⟨v, rfl, hv, hbA⟩
      obtain ⟨tA, kA, nA, rfl, hgA, hzA, hlA⟩ := hv
      skip
      have hbu' := Below.on hbu hbA
      clear hbu
      have hbu := hbu'
      clear hbu'
      replace Xk : Hid _ := Xk.out.below hbA
      replace hbw := Below.on hbw hbA
      clear hbA
      have YA : Hid (ZR uA tA (some ⟨kA, 0, none⟩) nA (ux s)) := hzA
      have HLA : Hid (nA ≤ 2200) := hlA
      clear hzA hlA hgA
      clear HJ
      have HJ : Hid ((fun W' : World => W'.cell? ⟨gk, 0, none⟩ = some (U 9223372036854775808) ∧ W'.cell? ⟨gk, 1, none⟩ = some (.int .i64 53) ∧ W'.cell? ⟨gk, 2, none⟩ = some (.int .i64 (-1074)) ∧ W'.cell? ⟨gk, 3, none⟩ = some (.int .i64 971) ∧ W'.cell? ⟨gk, 4, none⟩ = some (U 9218868437227405312) ∧ W'.cell? ⟨gk, 5, none⟩ = some (U 9221120237041090561)) uA) := ⟨Xk.out.c0, Xk.out.c1, Xk.out.c2, Xk.out.c3, Xk.out.c4, Xk.out.c5⟩
      refine hK _ _ HJ.out ?_
      clear hK
      refine wpJ_two (i := 6) (k := 8) (by kernel_rfl) rfl rfl (by kernel_rfl) (by kernel_rfl) (fun KJ hK => ?_) (fun KJ hK => ?_)
      · go_simp
        refine (rwhole_64 _).mono ?_
        rintro e9 uB ⟨v, rfl, hv, hbB⟩
        obtain ⟨tB, kB, nB, rfl, hgB, hzB, hlB⟩ := hv
        skip
        have hbu' := Below.on hbu hbB
        clear hbu
        have hbu := hbu'
        clear hbu'
        replace Xk : Hid _ := Xk.out.below hbB
        replace YA : Hid _ := YA.out.below hbB
        replace hbw := Below.on hbw hbB
        clear hbB
        have YB : Hid (ZR uB tB (some ⟨kB, 0, none⟩) nB (ux (s + 1))) := hzB
        have HLB : Hid (nB ≤ 2200) := hlB
        clear hzB hlB hgB
        clear HJ
        have HJ : Hid ((fun W' : World => W'.cell? ⟨gk, 0, none⟩ = some (U 9223372036854775808) ∧ W'.cell? ⟨gk, 1, none⟩ = some (.int .i64 53) ∧ W'.cell? ⟨gk, 2, none⟩ = some (.int .i64 (-1074)) ∧ W'.cell? ⟨gk, 3, none⟩ = some (.int .i64 971) ∧ W'.cell? ⟨gk, 4, none⟩ = some (U 9218868437227405312) ∧ W'.cell? ⟨gk, 5, none⟩ = some (U 9221120237041090561)) uB) := ⟨Xk.out.c0, Xk.out.c1, Xk.out.c2, Xk.out.c3, Xk.out.c4, Xk.out.c5⟩
        refine hK _ _ HJ.out ?_
        clear hK
        refine wpJ_two (i := 7) (k := 8) (by kernel_rfl) rfl rfl (by kernel_rfl) (by kernel_rfl) (fun KJ hK => ?_) (fun KJ hK => ?_)
        · go_simp
          refine (radd04 tA tB YA.out YB.out (by have := HLA.out; omega) (by have := HLB.out; omega)).mono ?_
          rintro e9 uF ⟨v, rfl, hv, hbF⟩
          obtain ⟨tF, kF, nF, rfl, hgF, hzF, hlF⟩ := hv
          have HGB : Hid (uB.heap.size ≤ kF) := hgF
          have hbu' := Below.on hbu hbF
          clear hbu
          have hbu := hbu'
          clear hbu'
          replace Xk : Hid _ := Xk.out.below hbF
          replace YA : Hid _ := YA.out.below hbF
          replace YB : Hid _ := YB.out.below hbF
          replace hbw := Below.on hbw hbF
          clear hbF
          have RR : Hid (ZR uF tF (some ⟨kF, 0, none⟩) nF (ux s + ux (s + 1))) := hzF
          have HLF : Hid (nF ≤ max nA nB + 1) := hlF
          clear hzF hlF hgF
          clear YA
          clear YB
          have HNF : Hid (nF ≤ 2300) := by have h1 := HLA.out; have h2 := HLB.out; have h3 := HLF.out; show _ ≤ _; omega
          refine hK _ _ ⟨Xk.out.c0, Xk.out.c1, Xk.out.c2, Xk.out.c3, Xk.out.c4, Xk.out.c5⟩ ?_
          clear hK
          refine wpJ_on 8 rfl fun KJ hK => ?_
          go_simp
          have HDktw : Hid (gk ≠ uF.heap.size) := Nat.ne_of_lt Xk.out.lt
          have HLS : Hid (∀ v0 v1, ZR (((uF.alloc (.cells #[.bool false, .slice none 0 0] 35)).setCell ⟨uF.heap.size, 0, none⟩ v0).setCell ⟨uF.heap.size, 1, none⟩ v1) tF (some ⟨kF, 0, none⟩) nF (ux s + ux (s + 1))) := fun v0 v1 => RR.out.below (bSet (bSet (below1 _ _) _ _ _ (Nat.le_refl _)) _ _ _ (Nat.le_refl _))
          have HGU : Hid (v6.heap.size ≤ uF.heap.size) := hbu.size
          have Xtw0 : Hid (Box (uF.alloc (.cells #[.bool false, .slice none 0 0] 35)) uF.heap.size (.bool false) (.slice none 0 0)) := Box.new uF _ _ _
          have hbn : Below uF.heap.size uF (uF.alloc (.cells #[.bool false, .slice none 0 0] 35)) := below1 uF _
          generalize uF.alloc (.cells #[.bool false, .slice none 0 0] 35) = Wn at *
          have HGtw : Hid (w.heap.size ≤ uF.heap.size) := hbw.size
          have hbu' := Below.on hbu hbn
          clear hbu
          have hbu := hbu'
          clear hbu'
          replace Xk : Hid _ := Xk.out.below hbn
          replace RR : Hid _ := RR.out.below hbn
          replace hbw := Below.on hbw hbn
          clear hbn
          generalize uF.heap.size = gtw at *
          have Xtw := Xtw0
          clear Xtw0
          refine hK _ _ ⟨Xk.out.c0, Xk.out.c1, Xk.out.c2, Xk.out.c3, Xk.out.c4, Xk.out.c5⟩ ?_
          clear hK
          obtain ⟨ctw0, ctw1, ftw0, ftw1⟩ := Xtw.out
          have hnetw := Xtw.out.lt
          obtain ⟨ck0, ck1, ck2, ck3, ck4, ck5, fk0, fk1, fk2, fk3, fk4, fk5⟩ := Xk.out
          have hnek : gk < Wn.heap.size := World.block_lt_of_cell? Wn _ ck0
          have qak : gk ≠ gtw := HDktw.out
          have qbk : gtw ≠ gk := fun h => qak h.symm
          refine wpJ_on 9 rfl fun KJ hK => ?_
          go_simp
          have HJ2 : Hid ((fun W' : World => W'.cell? ⟨gk, 0, none⟩ = some (U 9223372036854775808) ∧ W'.cell? ⟨gk, 1, none⟩ = some (.int .i64 53) ∧ W'.cell? ⟨gk, 2, none⟩ = some (.int .i64 (-1074)) ∧ W'.cell? ⟨gk, 3, none⟩ = some (.int .i64 971) ∧ W'.cell? ⟨gk, 4, none⟩ = some (U 9218868437227405312) ∧ W'.cell? ⟨gk, 5, none⟩ = some (U 9221120237041090561)) ((Wn.setCell ⟨gtw, 0, none⟩ (.bool tF)).setCell ⟨gtw, 1, none⟩ (.slice (some ⟨kF, 0, none⟩) nF nF))) := ⟨by go_simp, by go_simp, by go_simp, by go_simp, by go_simp, by go_simp⟩
          have Xtw2 : Hid (Box ((Wn.setCell ⟨gtw, 0, none⟩ (.bool tF)).setCell ⟨gtw, 1, none⟩ (.slice (some ⟨kF, 0, none⟩) nF nF)) gtw (.bool tF) (.slice (some ⟨kF, 0, none⟩) nF nF)) := ⟨by go_simp, by go_simp, by go_simp, by go_simp⟩
          have Xk2 : Hid (B6q ((Wn.setCell ⟨gtw, 0, none⟩ (.bool tF)).setCell ⟨gtw, 1, none⟩ (.slice (some ⟨kF, 0, none⟩) nF nF)) gk (U 9223372036854775808) (.int .i64 53) (.int .i64 (-1074)) (.int .i64 971) (U 9218868437227405312) (U 9221120237041090561)) := ⟨by go_simp, by go_simp, by go_simp, by go_simp, by go_simp, by go_simp, by go_simp, by go_simp, by go_simp, by go_simp, by go_simp, by go_simp⟩
          have RR2 : Hid (ZR ((Wn.setCell ⟨gtw, 0, none⟩ (.bool tF)).setCell ⟨gtw, 1, none⟩ (.slice (some ⟨kF, 0, none⟩) nF nF)) tF (some ⟨kF, 0, none⟩) nF (ux s + ux (s + 1))) := HLS.out _ _
          have hbu2 : Below v6.heap.size v6 ((Wn.setCell ⟨gtw, 0, none⟩ (.bool tF)).setCell ⟨gtw, 1, none⟩ (.slice (some ⟨kF, 0, none⟩) nF nF)) := bSet (bSet hbu _ _ _ HGU.out) _ _ _ HGU.out
          have hbw2 : Below w.heap.size w ((Wn.setCell ⟨gtw, 0, none⟩ (.bool tF)).setCell ⟨gtw, 1, none⟩ (.slice (some ⟨kF, 0, none⟩) nF nF)) := bSet (bSet hbw _ _ _ HGtw.out) _ _ _ HGtw.out
          refine hK _ _ HJ2.out ?_
          clear hK HJ
          have HJ := HJ2
          clear HJ2
          refine wpJ_done (by kernel_rfl) ?_ _
          exact ⟨rfl, HRQ.out _ _ _ ⟨gtw, tA, kA, nA, tB, kB, nB, tF, kF, nF, by kernel_rfl, Xtw2.out, Xk2.out, RR2.out, HGtw.out, HDktw.out, HNF.out, hbu2, hbw2⟩⟩
        · go_simp
          have HDktw : Hid (gk ≠ uB.heap.size) := Nat.ne_of_lt Xk.out.lt
          have HGU : Hid (v6.heap.size ≤ uB.heap.size) := hbu.size
          have Xtw0 : Hid (Box (uB.alloc (.cells #[.bool false, .slice none 0 0] 35)) uB.heap.size (.bool false) (.slice none 0 0)) := Box.new uB _ _ _
          have hbn : Below uB.heap.size uB (uB.alloc (.cells #[.bool false, .slice none 0 0] 35)) := below1 uB _
          generalize uB.alloc (.cells #[.bool false, .slice none 0 0] 35) = Wn at *
          have HGtw : Hid (w.heap.size ≤ uB.heap.size) := hbw.size
          have hbu' := Below.on hbu hbn
          clear hbu
          have hbu := hbu'
          clear hbu'
          replace Xk : Hid _ := Xk.out.below hbn
          replace YA : Hid _ := YA.out.below hbn
          replace YB : Hid _ := YB.out.below hbn
          replace hbw := Below.on hbw hbn
          clear hbn
          generalize uB.heap.size = gtw at *
          have Xtw := Xtw0
          clear Xtw0
          refine hK _ _ ⟨Xk.out.c0, Xk.out.c1, Xk.out.c2, Xk.out.c3, Xk.out.c4, Xk.out.c5⟩ ?_
          clear hK
          refine wpJ_on 7 rfl fun KJ hK => ?_
          go_simp
          have HLT : Hid (gtw < Wn.heap.size) := Xtw.out.lt
          refine (radd04 tA tB YA.out YB.out (by have := HLA.out; omega) (by have := HLB.out; omega)).mono ?_
          rintro e9 uF ⟨v, rfl, hv, hbF⟩
          obtain ⟨tF, kF, nF, rfl, hgF, hzF, hlF⟩ := hv
          have HGB : Hid (Wn.heap.size ≤ kF) := hgF
          have hbu' := Below.on hbu hbF
          clear hbu
          have hbu := hbu'
          clear hbu'
          replace Xk : Hid _ := Xk.out.below hbF
          replace Xtw : Hid _ := Xtw.out.below hbF
          replace YA : Hid _ := YA.out.below hbF
          replace YB : Hid _ := YB.out.below hbF
          replace hbw := Below.on hbw hbF
          clear hbF
          have RR : Hid (ZR uF tF (some ⟨kF, 0, none⟩) nF (ux s + ux (s + 1))) := hzF
          have HLF : Hid (nF ≤ max nA nB + 1) := hlF
          clear hzF hlF hgF
          clear YA
          clear YB
          have HNF : Hid (nF ≤ 2300) := by have h1 := HLA.out; have h2 := HLB.out; have h3 := HLF.out; show _ ≤ _; omega
          have HNE : Hid (kF ≠ gtw) := by have h1 := HLT.out; have h2 := HGB.out; show _ ≠ _; omega
          refine hK _ _ ⟨Xk.out.c0, Xk.out.c1, Xk.out.c2, Xk.out.c3, Xk.out.c4, Xk.out.c5⟩ ?_
          clear hK
          obtain ⟨ctw0, ctw1, ftw0, ftw1⟩ := Xtw.out
          have hnetw := Xtw.out.lt
          obtain ⟨ck0, ck1, ck2, ck3, ck4, ck5, fk0, fk1, fk2, fk3, fk4, fk5⟩ := Xk.out
          have hnek : gk < uF.heap.size := World.block_lt_of_cell? uF _ ck0
          have qak : gk ≠ gtw := HDktw.out
          have qbk : gtw ≠ gk := fun h => qak h.symm
          refine wpJ_on 9 rfl fun KJ hK => ?_
          go_simp
          have HJ2 : Hid ((fun W' : World => W'.cell? ⟨gk, 0, none⟩ = some (U 9223372036854775808) ∧ W'.cell? ⟨gk, 1, none⟩ = some (.int .i64 53) ∧ W'.cell? ⟨gk, 2, none⟩ = some (.int .i64 (-1074)) ∧ W'.cell? ⟨gk, 3, none⟩ = some (.int .i64 971) ∧ W'.cell? ⟨gk, 4, none⟩ = some (U 9218868437227405312) ∧ W'.cell? ⟨gk, 5, none⟩ = some (U 9221120237041090561)) ((uF.setCell ⟨gtw, 0, none⟩ (.bool tF)).setCell ⟨gtw, 1, none⟩ (.slice (some ⟨kF, 0, none⟩) nF nF))) := ⟨by go_simp, by go_simp, by go_simp, by go_simp, by go_simp, by go_simp⟩
          have Xtw2 : Hid (Box ((uF.setCell ⟨gtw, 0, none⟩ (.bool tF)).setCell ⟨gtw, 1, none⟩ (.slice (some ⟨kF, 0, none⟩) nF nF)) gtw (.bool tF) (.slice (some ⟨kF, 0, none⟩) nF nF)) := ⟨by go_simp, by go_simp, by go_simp, by go_simp⟩
          have Xk2 : Hid (B6q ((uF.setCell ⟨gtw, 0, none⟩ (.bool tF)).setCell ⟨gtw, 1, none⟩ (.slice (some ⟨kF, 0, none⟩) nF nF)) gk (U 9223372036854775808) (.int .i64 53) (.int .i64 (-1074)) (.int .i64 971) (U 9218868437227405312) (U 9221120237041090561)) := ⟨by go_simp, by go_simp, by go_simp, by go_simp, by go_simp, by go_simp, by go_simp, by go_simp, by go_simp, by go_simp, by go_simp, by go_simp⟩
          have RR2 : Hid (ZR ((uF.setCell ⟨gtw, 0, none⟩ (.bool tF)).setCell ⟨gtw, 1, none⟩ (.slice (some ⟨kF, 0, none⟩) nF nF)) tF (some ⟨kF, 0, none⟩) nF (ux s + ux (s + 1))) := (RR.out.set _ _ _ HNE.out).set _ _ _ HNE.out
          have hbu2 : Below v6.heap.size v6 ((uF.setCell ⟨gtw, 0, none⟩ (.bool tF)).setCell ⟨gtw, 1, none⟩ (.slice (some ⟨kF, 0, none⟩) nF nF)) := bSet (bSet hbu _ _ _ HGU.out) _ _ _ HGU.out
          have hbw2 : Below w.heap.size w ((uF.setCell ⟨gtw, 0, none⟩ (.bool tF)).setCell ⟨gtw, 1, none⟩ (.slice (some ⟨kF, 0, none⟩) nF nF)) := bSet (bSet hbw _ _ _ HGtw.out) _ _ _ HGtw.out
          refine hK _ _ HJ2.out ?_
          clear hK HJ
          have HJ := HJ2
          clear HJ2
          refine wpJ_done (by kernel_rfl) ?_ _
          exact ⟨rfl, HRQ.out _ _ _ ⟨gtw, tA, kA, nA, tB, kB, nB, tF, kF, nF, by kernel_rfl, Xtw2.out, Xk2.out, RR2.out, HGtw.out, HDktw.out, HNF.out, hbu2, hbw2⟩⟩
      · go_simp
        have HDktw : Hid (gk ≠ uA.heap.size) := Nat.ne_of_lt Xk.out.lt
        have HGU : Hid (v6.heap.size ≤ uA.heap.size) := hbu.size
        have Xtw0 : Hid (Box (uA.alloc (.cells #[.bool false, .slice none 0 0] 35)) uA.heap.size (.bool false) (.slice none 0 0)) := Box.new uA _ _ _
        have hbn : Below uA.heap.size uA (uA.alloc (.cells #[.bool false, .slice none 0 0] 35)) := below1 uA _
        generalize uA.alloc (.cells #[.bool false, .slice none 0 0] 35) = Wn at *
        have HGtw : Hid (w.heap.size ≤ uA.heap.size) := hbw.size
        have hbu' := Below.on hbu hbn
        clear hbu
        have hbu := hbu'
        clear hbu'
        replace Xk : Hid _ := Xk.out.below hbn
        replace YA : Hid _ := YA.out.below hbn
        replace hbw := Below.on hbw hbn
        clear hbn
        generalize uA.heap.size = gtw at *
        have Xtw := Xtw0
        clear Xtw0
        refine hK _ _ ⟨Xk.out.c0, Xk.out.c1, Xk.out.c2, Xk.out.c3, Xk.out.c4, Xk.out.c5⟩ ?_
        clear hK
        refine wpJ_on 6 rfl fun KJ hK => ?_
        go_simp
        refine (rwhole_64 _).mono ?_
        rintro e9 uB ⟨v, rfl, hv, hbB⟩
        obtain ⟨tB, kB, nB, rfl, hgB, hzB, hlB⟩ := hv
        skip
        have hbu' := Below.on hbu hbB
        clear hbu
        have hbu := hbu'
        clear hbu'
        replace Xk : Hid _ := Xk.out.below hbB
        replace Xtw : Hid _ := Xtw.out.below hbB
        replace YA : Hid _ := YA.out.below hbB
        replace hbw := Below.on hbw hbB
        clear hbB
        have YB : Hid (ZR uB tB (some ⟨kB, 0, none⟩) nB (ux (s + 1))) := hzB
        have HLB : Hid (nB ≤ 2200) := hlB
        clear hzB hlB hgB
        refine hK _ _ ⟨Xk.out.c0, Xk.out.c1, Xk.out.c2, Xk.out.c3, Xk.out.c4, Xk.out.c5⟩ ?_
        clear hK
        refine wpJ_on 7 rfl fun KJ hK => ?_
        go_simp
        have HLT : Hid (gtw < uB.heap.size) := Xtw.out.lt
        refine (radd04 tA tB YA.out YB.out (by have := HLA.out; omega) (by have := HLB.out; omega)).mono ?_
        rintro e9 uF ⟨v, rfl, hv, hbF⟩
        obtain ⟨tF, kF, nF, rfl, hgF, hzF, hlF⟩ := hv
        have HGB : Hid (uB.heap.size ≤ kF) := hgF
        have hbu' := Below.on hbu hbF
        clear hbu
        have hbu := hbu'
        clear hbu'
        replace Xk : Hid _ := Xk.out.below hbF
        replace Xtw : Hid _ := Xtw.out.below hbF
        replace YA : Hid _ := YA.out.below hbF
        replace YB : Hid _ := YB.out.below hbF
        replace hbw := Below.on hbw hbF
        clear hbF
        have RR : Hid (ZR uF tF (some ⟨kF, 0, none⟩) nF (ux s + ux (s + 1))) := hzF
        have HLF : Hid (nF ≤ max nA nB + 1) := hlF
        clear hzF hlF hgF
        clear YA
        clear YB
        have HNF : Hid (nF ≤ 2300) := by have h1 := HLA.out; have h2 := HLB.out; have h3 := HLF.out; show _ ≤ _; omega
        have HNE : Hid (kF ≠ gtw) := by have h1 := HLT.out; have h2 := HGB.out; show _ ≠ _; omega
        refine hK _ _ ⟨Xk.out.c0, Xk.out.c1, Xk.out.c2, Xk.out.c3, Xk.out.c4, Xk.out.c5⟩ ?_
        clear hK
        obtain ⟨ctw0, ctw1, ftw0, ftw1⟩ := Xtw.out
        have hnetw := Xtw.out.lt
        obtain ⟨ck0, ck1, ck2, ck3, ck4, ck5, fk0, fk1, fk2, fk3, fk4, fk5⟩ := Xk.out
        have hnek : gk < uF.heap.size := World.block_lt_of_cell? uF _ ck0
        have qak : gk ≠ gtw := HDktw.out
        have qbk : gtw ≠ gk := fun h => qak h.symm
        refine wpJ_on 9 rfl fun KJ hK => ?_
        go_simp
        have HJ2 : Hid ((fun W' : World => W'.cell? ⟨gk, 0, none⟩ = some (U 9223372036854775808) ∧ W'.cell? ⟨gk, 1, none⟩ = some (.int .i64 53) ∧ W'.cell? ⟨gk, 2, none⟩ = some (.int .i64 (-1074)) ∧ W'.cell? ⟨gk, 3, none⟩ = some (.int .i64 971) ∧ W'.cell? ⟨gk, 4, none⟩ = some (U 9218868437227405312) ∧ W'.cell? ⟨gk, 5, none⟩ = some (U 9221120237041090561)) ((uF.setCell ⟨gtw, 0, none⟩ (.bool tF)).setCell ⟨gtw, 1, none⟩ (.slice (some ⟨kF, 0, none⟩) nF nF))) := ⟨by go_simp, by go_simp, by go_simp, by go_simp, by go_simp, by go_simp⟩
        have Xtw2 : Hid (Box ((uF.setCell ⟨gtw, 0, none⟩ (.bool tF)).setCell ⟨gtw, 1, none⟩ (.slice (some ⟨kF, 0, none⟩) nF nF)) gtw (.bool tF) (.slice (some ⟨kF, 0, none⟩) nF nF)) := ⟨by go_simp, by go_simp, by go_simp, by go_simp⟩
        have Xk2 : Hid (B6q ((uF.setCell ⟨gtw, 0, none⟩ (.bool tF)).setCell ⟨gtw, 1, none⟩ (.slice (some ⟨kF, 0, none⟩) nF nF)) gk (U 9223372036854775808) (.int .i64 53) (.int .i64 (-1074)) (.int .i64 971) (U 9218868437227405312) (U 9221120237041090561)) := ⟨by go_simp, by go_simp, by go_simp, by go_simp, by go_simp, by go_simp, by go_simp, by go_simp, by go_simp, by go_simp, by go_simp, by go_simp⟩
        have RR2 : Hid (ZR ((uF.setCell ⟨gtw, 0, none⟩ (.bool tF)).setCell ⟨gtw, 1, none⟩ (.slice (some ⟨kF, 0, none⟩) nF nF)) tF (some ⟨kF, 0, none⟩) nF (ux s + ux (s + 1))) := (RR.out.set _ _ _ HNE.out).set _ _ _ HNE.out
        have hbu2 : Below v6.heap.size v6 ((uF.setCell ⟨gtw, 0, none⟩ (.bool tF)).setCell ⟨gtw, 1, none⟩ (.slice (some ⟨kF, 0, none⟩) nF nF)) := bSet (bSet hbu _ _ _ HGU.out) _ _ _ HGU.out
        have hbw2 : Below w.heap.size w ((uF.setCell ⟨gtw, 0, none⟩ (.bool tF)).setCell ⟨gtw, 1, none⟩ (.slice (some ⟨kF, 0, none⟩) nF nF)) := bSet (bSet hbw _ _ _ HGtw.out) _ _ _ HGtw.out
        refine hK _ _ HJ2.out ?_
        clear hK HJ
        have HJ := HJ2
        clear HJ2
        refine wpJ_done (by kernel_rfl) ?_ _
        exact ⟨rfl, HRQ.out _ _ _ ⟨gtw, tA, kA, nA, tB, kB, nB, tF, kF, nF, by kernel_rfl, Xtw2.out, Xk2.out, RR2.out, HGtw.out, HDktw.out, HNF.out, hbu2, hbw2⟩⟩
    · go_simp
      have HDktw : Hid (gk ≠ Wr.heap.size) := Nat.ne_of_lt Xk.out.lt
      have HGU : Hid (v6.heap.size ≤ Wr.heap.size) := hbu.size
      have Xtw0 : Hid (Box (Wr.alloc (.cells #[.bool false, .slice none 0 0] 35)) Wr.heap.size (.bool false) (.slice none 0 0)) := Box.new Wr _ _ _
      have hbn : Below Wr.heap.size Wr (Wr.alloc (.cells #[.bool false, .slice none 0 0] 35)) := below1 Wr _
      generalize Wr.alloc (.cells #[.bool false, .slice none 0 0] 35) = Wn at *
      have HGtw : Hid (w.heap.size ≤ Wr.heap.size) := hbw.size
      have hbu' := Below.on hbu hbn
      clear hbu
      have hbu := hbu'
      clear hbu'
      replace Xk : Hid _ := Xk.out.below hbn
      replace hbw := Below.on hbw hbn
      clear hbn
      generalize Wr.heap.size = gtw at *
      have Xtw := Xtw0
      clear Xtw0
      refine hK _ _ ⟨Xk.out.c0, Xk.out.c1, Xk.out.c2, Xk.out.c3, Xk.out.c4, Xk.out.c5⟩ ?_
      clear hK
      refine wpJ_on 2 rfl fun KJ hK => ?_
      go_simp
      refine (rwhole_64 _).mono ?_
      rintro e9 uA ⟨v, rfl, hv, hbA⟩
      obtain ⟨tA, kA, nA, rfl, hgA, hzA, hlA⟩ := hv
      skip
      have hbu' := Below.on hbu hbA
      clear hbu
      have hbu := hbu'
      clear hbu'
      replace Xk : Hid _ := Xk.out.below hbA
      replace Xtw : Hid _ := Xtw.out.below hbA
      replace hbw := Below.on hbw hbA
      clear hbA
      have YA : Hid (ZR uA tA (some ⟨kA, 0, none⟩) nA (ux s)) := hzA
      have HLA : Hid (nA ≤ 2200) := hlA
      clear hzA hlA hgA
      refine hK _ _ ⟨Xk.out.c0, Xk.out.c1, Xk.out.c2, Xk.out.c3, Xk.out.c4, Xk.out.c5⟩ ?_
      clear hK
      refine wpJ_on 6 rfl fun KJ hK => ?_
      go_simp
      refine (rwhole_64 _).mono ?_
      rintro e9 uB ⟨v, rfl, hv, hbB⟩
      obtain ⟨tB, kB, nB, rfl, hgB, hzB, hlB⟩ := hv
      skip
      have hbu' := Below.on hbu hbB
      clear hbu
      have hbu := hbu'
      clear hbu'
      replace Xk : Hid _ := Xk.out.below hbB
      replace Xtw : Hid _ := Xtw.out.below hbB
      replace YA : Hid _ := YA.out.below hbB
      replace hbw := Below.on hbw hbB
      clear hbB
      have YB : Hid (ZR uB tB (some ⟨kB, 0, none⟩) nB (ux (s + 1))) := hzB
      have HLB : Hid (nB ≤ 2200) := hlB
      clear hzB hlB hgB
      refine hK _ _ ⟨Xk.out.c0, Xk.out.c1, Xk.out.c2, Xk.out.c3, Xk.out.c4, Xk.out.c5⟩ ?_
      clear hK
      refine wpJ_on 7 rfl fun KJ hK => ?_
      go_simp
      have HLT : Hid (gtw < uB.heap.size) := Xtw.out.lt
      refine (radd04 tA tB YA.out YB.out (by have := HLA.out; omega) (by have := HLB.out; omega)).mono ?_
      rintro e9 uF ⟨v, rfl, hv, hbF⟩
      obtain ⟨tF, kF, nF, rfl, hgF, hzF, hlF⟩ := hv
      have HGB : Hid (uB.heap.size ≤ kF) := hgF
      have hbu' := Below.on hbu hbF
      clear hbu
      have hbu := hbu'
      clear hbu'
      replace Xk : Hid _ := Xk.out.below hbF
      replace Xtw : Hid _ := Xtw.out.below hbF
      replace YA : Hid _ := YA.out.below hbF
      replace YB : Hid _ := YB.out.below hbF
      replace hbw := Below.on hbw hbF
      clear hbF
      have RR : Hid (ZR uF tF (some ⟨kF, 0, none⟩) nF (ux s + ux (s + 1))) := hzF
      have HLF : Hid (nF ≤ max nA nB + 1) := hlF
      clear hzF hlF hgF
      clear YA
      clear YB
      have HNF : Hid (nF ≤ 2300) := by have h1 := HLA.out; have h2 := HLB.out; have h3 := HLF.out; show _ ≤ _; omega
      have HNE : Hid (kF ≠ gtw) := by have h1 := HLT.out; have h2 := HGB.out; show _ ≠ _; omega
      refine hK _ _ ⟨Xk.out.c0, Xk.out.c1, Xk.out.c2, Xk.out.c3, Xk.out.c4, Xk.out.c5⟩ ?_
      clear hK
      obtain ⟨ctw0, ctw1, ftw0, ftw1⟩ := Xtw.out
      have hnetw := Xtw.out.lt
      obtain ⟨ck0, ck1, ck2, ck3, ck4, ck5, fk0, fk1, fk2, fk3, fk4, fk5⟩ := Xk.out
      have hnek : gk < uF.heap.size := World.block_lt_of_cell? uF _ ck0
      have qak : gk ≠ gtw := HDktw.out
      have qbk : gtw ≠ gk := fun h => qak h.symm
      refine wpJ_on 9 rfl fun KJ hK => ?_
      go_simp
      have HJ2 : Hid ((fun W' : World => W'.cell? ⟨gk, 0, none⟩ = some (U 9223372036854775808) ∧ W'.cell? ⟨gk, 1, none⟩ = some (.int .i64 53) ∧ W'.cell? ⟨gk, 2, none⟩ = some (.int .i64 (-1074)) ∧ W'.cell? ⟨gk, 3, none⟩ = some (.int .i64 971) ∧ W'.cell? ⟨gk, 4, none⟩ = some (U 9218868437227405312) ∧ W'.cell? ⟨gk, 5, none⟩ = some (U 9221120237041090561)) ((uF.setCell ⟨gtw, 0, none⟩ (.bool tF)).setCell ⟨gtw, 1, none⟩ (.slice (some ⟨kF, 0, none⟩) nF nF))) := ⟨by go_simp, by go_simp, by go_simp, by go_simp, by go_simp, by go_simp⟩
      have Xtw2 : Hid (Box ((uF.setCell ⟨gtw, 0, none⟩ (.bool tF)).setCell ⟨gtw, 1, none⟩ (.slice (some ⟨kF, 0, none⟩) nF nF)) gtw (.bool tF) (.slice (some ⟨kF, 0, none⟩) nF nF)) := ⟨by go_simp, by go_simp, by go_simp, by go_simp⟩
      have Xk2 : Hid (B6q ((uF.setCell ⟨gtw, 0, none⟩ (.bool tF)).setCell ⟨gtw, 1, none⟩ (.slice (some ⟨kF, 0, none⟩) nF nF)) gk (U 9223372036854775808) (.int .i64 53) (.int .i64 (-1074)) (.int .i64 971) (U 9218868437227405312) (U 9221120237041090561)) := ⟨by go_simp, by go_simp, by go_simp, by go_simp, by go_simp, by go_simp, by go_simp, by go_simp, by go_simp, by go_simp, by go_simp, by go_simp⟩
      have RR2 : Hid (ZR ((uF.setCell ⟨gtw, 0, none⟩ (.bool tF)).setCell ⟨gtw, 1, none⟩ (.slice (some ⟨kF, 0, none⟩) nF nF)) tF (some ⟨kF, 0, none⟩) nF (ux s + ux (s + 1))) := (RR.out.set _ _ _ HNE.out).set _ _ _ HNE.out
      have hbu2 : Below v6.heap.size v6 ((uF.setCell ⟨gtw, 0, none⟩ (.bool tF)).setCell ⟨gtw, 1, none⟩ (.slice (some ⟨kF, 0, none⟩) nF nF)) := bSet (bSet hbu _ _ _ HGU.out) _ _ _ HGU.out
      have hbw2 : Below w.heap.size w ((uF.setCell ⟨gtw, 0, none⟩ (.bool tF)).setCell ⟨gtw, 1, none⟩ (.slice (some ⟨kF, 0, none⟩) nF nF)) := bSet (bSet hbw _ _ _ HGtw.out) _ _ _ HGtw.out
      refine hK _ _ HJ2.out ?_
      clear hK HJ
      have HJ := HJ2
      clear HJ2
      refine wpJ_done (by kernel_rfl) ?_ _
      exact ⟨rfl, HRQ.out _ _ _ ⟨gtw, tA, kA, nA, tB, kB, nB, tF, kF, nF, by kernel_rfl, Xtw2.out, Xk2.out, RR2.out, HGtw.out, HDktw.out, HNF.out, hbu2, hbw2⟩⟩
theorem rshl04k {p : Option Addr} {m : Nat} {w : World} {x : Int} (s : Bool) (h : ZR w s p m x) (hm : m ≤ 16384) (k : Nat) (e : Int) (he : e = (k : Int)) (hk : k ≤ 524288) :
    Calls Try.prog 27 #[.agg #[.bool s, .slice p m m], .int .i64 e] w fun e w' => ∃ v, e = .returned v ∧ GotR w.heap.size w' v (x * 2 ^ k) 40000 ∧ Below w.heap.size w w' := by
  subst he; exact rshl04 s h hm k (.inl hk)
theorem rp_sameP {z : Int} {s : Nat} (hf : Fin64 s) (h0 : z = 0 → ux s = 0) (h1 : z ≠ 0 → Pm64 z s) : same19 s (rp 1074 z) = true := by
  unfold same19
  by_cases hz : z = 0
  · have h2 : s % 9223372036854775808 = 0 := by
      have h3 := ux_abs s
      rw [h0 hz] at h3
      refine Nat.eq_zero_of_not_pos fun h4 => ?_
      have h5 : vs 4503599627370496 0 < vs 4503599627370496 (s % 9223372036854775808) := vs_mono (by omega) h4
      rw [vs_zero] at h5
      simp at h3
      omega
    subst hz
    have h2' : rp 1074 0 = 0 := rfl
    rw [h2', decide_eq_true h2]; simp
  · have hp := h1 hz
    have h2 := hp.size
    have h3 := hp.sign hz
    have h4 := hf.lt
    have h5 : s = rp 1074 z := by
      unfold rp
      by_cases hn : z < 0
      · have := h3.2 hn
        rw [if_pos hn]; omega
      · have : ¬ 9223372036854775808 ≤ s := fun h => hn (h3.1 h)
        rw [if_neg hn]; omega
    rw [decide_eq_true h5]; rfl
def PB (z : Int) : Prop := z = 0 ∨ (1128 ≤ bitsN z.natAbs ∧ bitsN z.natAbs ≤ 3170)
theorem pb_fair {a b : Nat} (h : FairP a b) : PB (ux a * ux b) := by
  rcases h.2.2 with h0 | ⟨h1, h2⟩
  · exact .inl h0
  · obtain ⟨k1, hk1⟩ : ∃ k, k = 1188 := ⟨_, rfl⟩
    obtain ⟨k2, hk2⟩ : ∃ k, k = 3169 := ⟨_, rfl⟩
    have a1 := h1 k1 hk1
    have a2 := h2 k2 hk2
    refine .inr ⟨?_, ?_⟩
    · have := p2lt (Nat.lt_of_le_of_lt a1 (bitsN_lt _))
      omega
    · have := bits_le_of (n := (ux a * ux b).natAbs) (k := k2 + 1) (by rw [p2succ]; have := p2pos k2; omega)
      omega
theorem rroundvp {p : Option Addr} {m : Nat} {w : World} {z : Int} {s : Bool} (h : ZR w s p m z) (hm : m ≤ 10000) (hb : PB z) : Calls Try.prog 39 #[FV 9223372036854775808 53 (-1074) 971 9218868437227405312 9221120237041090561, .slice p m m, .int .i64 (-2148)] w fun en w' => en = .returned (U (rg 1074 z.natAbs)) ∧ Below w.heap.size w w' := by
  obtain ⟨zs, hA, hN⟩ := h.ex
  by_cases h0 : z = 0
  · have hm0 := h.zero.2 h0
    subst hm0
    subst h0
    exact rround_z (by omega) (by omega)
  · have hb := hb.resolve_left h0
    exact rround_p hA hN hm (by omega) hb.1 hb.2
theorem rround19p {p : Option Addr} {m : Nat} {w : World} {z : Int} (s : Bool) (h : ZR w s p m z) (hm : m ≤ 10000) (hb : PB z) :
    Calls Try.prog 25 #[.agg #[.bool s, .slice p m m], .int .i64 (-2148)] w fun en w' => en = .returned (U (rp 1074 z)) ∧ Below w.heap.size w w' := by
  obtain ⟨r, hr⟩ : ∃ r, r = rg 1074 z.natAbs := ⟨_, rfl⟩
  have hr9 : r ≤ 9218868437227405312 := by
    rw [hr]; unfold rg; split
    · omega
    · exact Nat.min_le_right ..
  have w1 : IntKind.u64.wrap ((r : Int) + 9223372036854775808) = ((r + 9223372036854775808 : Nat) : Int) := by rw [IntKind.wrap_u64]; omega
  have w2 : IntKind.u64.wrap ((9223372036854775808 : Int) + (r : Int)) = ((r + 9223372036854775808 : Nat) : Int) := by rw [IntKind.wrap_u64]; omega
  have HA : Hid (ZR w s p m z) := h
  have HX : Hid (m ≤ 10000 ∧ PB z ∧ r = rg 1074 z.natAbs ∧ s = decide (z < 0)) := ⟨hm, hb, hr, h.sg⟩
  have HRP : Hid ((z < 0 → rp 1074 z = r + 9223372036854775808) ∧ (0 ≤ z → rp 1074 z = r)) := ⟨fun h1 => by unfold rp; rw [if_pos h1, ← hr, Nat.add_comm], fun h1 => by unfold rp; rw [if_neg (by omega), ← hr]⟩
  clear h hm hb hr hr9
  go_enter Try.func25, Try.ntmps25
  go_wp2_with fail
  obtain ⟨W0, hW0⟩ : ∃ W0, W0 = (w.alloc (.cells #[.bool s, .slice p m m] 35)) := ⟨_, rfl⟩
  have Xv : Hid (Box W0 (w.heap.size) (.bool s) (.slice p m m)) := by rw [hW0]; exact ⟨by go_simp, by go_simp, by go_simp, by go_simp⟩
  have hb0 : Below w.heap.size w W0 := by rw [hW0]; exact below1 w _
  rw [← hW0]
  clear hW0
  have hbw : Below w.heap.size w w := Below.refl _ _
  obtain ⟨gv, hgv⟩ : ∃ g, g = w.heap.size := ⟨_, rfl⟩
  have HGv : Hid (w.heap.size ≤ gv) := by rw [hgv]; show _ ≤ _; omega
  rw [← hgv] at Xv
  try rw [← hgv]
  clear hgv
  replace HA : Hid _ := HA.out.below hb0
  replace hbw := Below.on hbw hb0
  clear hb0
  obtain ⟨W1, hW1⟩ : ∃ W1, W1 = W0.drew := ⟨_, rfl⟩
  have hbd : Below W0.heap.size W0 W1 := by rw [hW1]; exact bDrew1 (Below.refl _ _)
  replace Xv : Hid _ := Xv.out.below hbd
  replace HA : Hid _ := HA.out.below hbd
  replace hbw := Below.on hbw hbd
  clear hbd
  have HJ : Hid ((fun W' : World => W'.cell? ⟨gv, 1, none⟩ = some (.slice p m m)) W1) := Xv.out.c1
  refine wp_region_J (fun W' => W'.cell? ⟨gv, 1, none⟩ = some (.slice p m m)) (by kernel_rfl) ?_
  rw [← hW1]
  clear hW1
  refine wpJ_tk 1 (v := ?v1x1) rfl ?hy1x1 HJ.out ?_
  case hy1x1 => (intro W' hJ; have j0 := hJ; go_simp; first | done | with_reducible rfl)
  refine wpJ_tk 2 (v := ?v2x2) rfl ?hy2x2 HJ.out ?_
  case hy2x2 => (intro W' hJ; have j0 := hJ; go_simp; first | done | with_reducible rfl)
  refine wpJ_tk 3 (v := ?v3x3) rfl ?hy3x3 HJ.out ?_
  case hy3x3 => (intro W' hJ; have j0 := hJ; go_simp; first | done | with_reducible rfl)
  refine wpJ_on 0 rfl fun KJ hK => ?_
  go_simp
  refine (rdouble _).mono ?_
  rintro e v1 ⟨rfl, hb1⟩
  replace Xv : Hid _ := Xv.out.below hb1
  replace HA : Hid _ := HA.out.below hb1
  replace hbw := Below.on hbw hb1
  clear hb1
  refine hK _ _ Xv.out.c1 ?_
  clear hK
  refine wpJ_on 4 rfl fun KJ hK => ?_
  go_simp
  refine (rroundvp HA.out HX.out.1 HX.out.2.1).mono ?_
  rintro e v2 ⟨rfl, hb2⟩
  rw [← HX.out.2.2.1]
  replace Xv : Hid _ := Xv.out.below hb2
  replace HA : Hid _ := HA.out.below hb2
  replace hbw := Below.on hbw hb2
  clear hb2
  clear HJ
  have HJ : Hid ((fun W' : World => W'.cell? ⟨gv, 1, none⟩ = some (.slice p m m)) v2) := Xv.out.c1
  refine hK _ _ HJ.out ?_
  clear hK
  refine wpJ_tk 5 (v := ?v4x5) rfl ?hy4x5 HJ.out ?_
  case hy4x5 => (intro W' hJ; have j0 := hJ; go_simp; first | done | with_reducible rfl)
  refine wpJ_done (by kernel_rfl) ?_ _
  clear HJ
  have hs := HX.out.2.2.2
  cases s
  · have HZ : Hid (rp 1074 z = r) := HRP.out.2 (Int.not_lt.1 (of_decide_eq_false hs.symm))
    clear hs
    obtain ⟨cv0, cv1, fv0, fv1⟩ := Xv.out
    have hnev := Xv.out.lt
    go_wp2_with fail
    clear cv0 cv1 fv0 fv1 hnev
    go_ret
    rw [HZ.out]
    exact ⟨rfl, hbw⟩
  · have HZ : Hid (rp 1074 z = r + 9223372036854775808) := HRP.out.1 (of_decide_eq_true hs.symm)
    clear hs
    obtain ⟨cv0, cv1, fv0, fv1⟩ := Xv.out
    have hnev := Xv.out.lt
    go_wp2_with fail
    clear cv0 cv1 fv0 fv1 hnev
    go_ret
    rw [HZ.out]
    exact ⟨congrArg (fun z => Ending.returned (.int .u64 z)) (cast_S r), hbw⟩
theorem rproducts {a b p e : Nat} {w : World} (h : FairP a b → Fin64 p ∧ Fin64 e ∧ (∀ c, c = 1074 → (ux p + ux e) * ((2 ^ c : Nat) : Int) = ux a * ux b) ∧ (ux a * ux b = 0 → ux p = 0 ∧ ux e = 0) ∧ (ux a * ux b ≠ 0 → Pm64 (ux a * ux b) p)) :
    Calls Try.prog 8 #[U a, U b, U p, U e] w fun en w' => en = .returned (.bool true) ∧ Below w.heap.size w w' := by
  have HH0 : Hid (FairP a b → Fin64 p ∧ Fin64 e ∧ (∀ c, c = 1074 → (ux p + ux e) * ((2 ^ c : Nat) : Int) = ux a * ux b) ∧ (ux a * ux b = 0 → ux p = 0 ∧ ux e = 0) ∧ (ux a * ux b ≠ 0 → Pm64 (ux a * ux b) p)) := h
  clear h
  have hbw : Below w.heap.size w w := Below.refl _ _
  go_enter Try.func8, Try.ntmps8
  go_wp2_with fail
  refine (rfair _).mono ?_
  rintro e9 vF ⟨⟨t9, rfl, ht⟩, hbF⟩
  replace hbw := Below.on hbw hbF
  clear hbF
  cases t9
  · clear ht
    go_wp2_with fail
    go_ret
    exact ⟨rfl, hbw⟩
  · have hf := ht rfl
    obtain ⟨y1, y2, y3, y4, y5⟩ := HH0.out hf
    obtain ⟨c0, hc0⟩ : ∃ c, c = 1074 := ⟨_, rfl⟩
    have y6 := y3 c0 hc0
    have HU : Hid (Fin64 p ∧ Fin64 e ∧ same19 p (rp 1074 (ux a * ux b)) = true ∧ PB (ux a * ux b) ∧ (ux p + ux e) * 2 ^ c0 = ux a * ux b ∧ c0 = 1074) := ⟨y1, y2, rp_sameP y1 (fun h => (y4 h).1) y5, pb_fair hf, by rw [← y6, Int.natCast_pow]; rfl, hc0⟩
    clear ht hf y1 y2 y3 y4 y5 y6 hc0 HH0
    go_wp2_with fail
    refine (rproduct _).mono ?_
    rintro e v3 ⟨v, rfl, hv, hb3⟩
    obtain ⟨s3, g3, m3, rfl, hg3, hz3, hl3⟩ := hv
    have HN3 : Hid (vF.heap.size ≤ g3) := hg3
    have HB3 : Hid (vF.heap.size ≤ v3.heap.size) := hb3.size
    replace hbw := Below.on hbw hb3
    clear hb3
    have Z3 : Hid (ZR v3 s3 (some ⟨g3, 0, none⟩) m3 (ux a * ux b)) := hz3
    have HL3 : Hid (m3 ≤ 4400) := hl3
    clear hz3 hl3 hg3
    go_wp2_with fail
    have Xsm0 : Hid (Box (v3.alloc (.cells #[.bool s3, .slice (some ⟨g3, 0, none⟩) m3 m3] 35)) v3.heap.size (.bool s3) (.slice (some ⟨g3, 0, none⟩) m3 m3)) := Box.new v3 _ _ _
    have hbn : Below v3.heap.size v3 (v3.alloc (.cells #[.bool s3, .slice (some ⟨g3, 0, none⟩) m3 m3] 35)) := below1 v3 _
    generalize v3.alloc (.cells #[.bool s3, .slice (some ⟨g3, 0, none⟩) m3 m3] 35) = W4 at *
    have HGsm : Hid (w.heap.size ≤ v3.heap.size) := hbw.size
    replace Z3 : Hid _ := Z3.out.below hbn
    replace hbw := Below.on hbw hbn
    clear hbn
    generalize v3.heap.size = gsm at *
    have Xsm := Xsm0
    clear Xsm0
    refine (rround19p s3 Z3.out (by have := HL3.out; omega) HU.out.2.2.2.1).mono ?_
    rintro e v5 ⟨rfl, hb5⟩
    replace Xsm : Hid _ := Xsm.out.below hb5
    replace Z3 : Hid _ := Z3.out.below hb5
    replace hbw := Below.on hbw hb5
    clear hb5
    obtain ⟨csm0, csm1, fsm0, fsm1⟩ := Xsm.out
    have hnesm := Xsm.out.lt
    go_wp2_with fail
    clear csm0 csm1 fsm0 fsm1 hnesm
    refine (rsame19 p (rp 1074 (ux a * ux b)) _).mono ?_
    rintro e' w' ⟨rfl, hw⟩
    obtain rfl := hw.symm
    clear hw
    rw [HU.out.2.2.1]
    obtain ⟨csm0, csm1, fsm0, fsm1⟩ := Xsm.out
    have hnesm := Xsm.out.lt
    go_wp2_with fail
    clear csm0 csm1 fsm0 fsm1 hnesm
    refine (rfin e _).mono ?_
    rintro e' w' ⟨rfl, hw⟩
    obtain rfl := hw.symm
    clear hw
    rw [decide_eq_true HU.out.2.1.fin]
    obtain ⟨csm0, csm1, fsm0, fsm1⟩ := Xsm.out
    have hnesm := Xsm.out.lt
    go_wp2_with fail
    clear csm0 csm1 fsm0 fsm1 hnesm
    obtain ⟨W7, hW7⟩ : ∃ W1, W1 = v5.drew := ⟨_, rfl⟩
    have hbd : Below v5.heap.size v5 W7 := by rw [hW7]; exact bDrew1 (Below.refl _ _)
    replace Xsm : Hid _ := Xsm.out.below hbd
    replace Z3 : Hid _ := Z3.out.below hbd
    replace hbw := Below.on hbw hbd
    clear hbd
    have HJ : Hid ((fun W' : World => W'.cell? ⟨gsm, 0, none⟩ = some (.bool s3) ∧ W'.cell? ⟨gsm, 1, none⟩ = some (.slice (some ⟨g3, 0, none⟩) m3 m3)) W7) := ⟨Xsm.out.c0, Xsm.out.c1⟩
    refine wp_region_J (fun W' => W'.cell? ⟨gsm, 0, none⟩ = some (.bool s3) ∧ W'.cell? ⟨gsm, 1, none⟩ = some (.slice (some ⟨g3, 0, none⟩) m3 m3)) (by kernel_rfl) ?_
    rw [← hW7]
    clear hW7
    refine wpJ_tq 0 rfl HJ.out ?_
    refine wpJ_tq 2 rfl HJ.out ?_
    refine wpJ_tq 6 rfl HJ.out ?_
    refine wpJ_on 1 rfl fun KJ hK => ?_
    go_simp
    refine (runits _).mono ?_
    rintro e v6 ⟨v, rfl, hv, hb6⟩
    obtain ⟨s6, g6, m6, rfl, hg6, hz6, hl6⟩ := hv
    have HN6 : Hid (W7.heap.size ≤ g6) := hg6
    have HB6 : Hid (W7.heap.size ≤ v6.heap.size) := hb6.size
    replace Xsm : Hid _ := Xsm.out.below hb6
    replace Z3 : Hid _ := Z3.out.below hb6
    replace hbw := Below.on hbw hb6
    clear hb6
    have Z6 : Hid (ZR v6 s6 (some ⟨g6, 0, none⟩) m6 (ux p)) := hz6
    have HL6 : Hid (m6 ≤ 2200) := hl6
    clear hz6 hl6 hg6
    refine hK _ _ ⟨Xsm.out.c0, Xsm.out.c1⟩ ?_
    clear hK
    refine wpJ_on 3 rfl fun KJ hK => ?_
    go_simp
    refine (runits _).mono ?_
    rintro e v7 ⟨v, rfl, hv, hb7⟩
    obtain ⟨s7, g7, m7, rfl, hg7, hz7, hl7⟩ := hv
    have HN7 : Hid (v6.heap.size ≤ g7) := hg7
    have HB7 : Hid (v6.heap.size ≤ v7.heap.size) := hb7.size
    replace Xsm : Hid _ := Xsm.out.below hb7
    replace Z3 : Hid _ := Z3.out.below hb7
    replace Z6 : Hid _ := Z6.out.below hb7
    replace hbw := Below.on hbw hb7
    clear hb7
    have Z7 : Hid (ZR v7 s7 (some ⟨g7, 0, none⟩) m7 (ux e)) := hz7
    have HL7 : Hid (m7 ≤ 2200) := hl7
    clear hz7 hl7 hg7
    refine hK _ _ ⟨Xsm.out.c0, Xsm.out.c1⟩ ?_
    clear hK
    refine wpJ_on 4 rfl fun KJ hK => ?_
    go_simp
    refine (radd04 s6 s7 Z6.out Z7.out (by have := HL6.out; omega) (by have := HL7.out; omega)).mono ?_
    rintro e v8 ⟨v, rfl, hv, hb8⟩
    obtain ⟨s8, g8, m8, rfl, hg8, hz8, hl8⟩ := hv
    have HN8 : Hid (v7.heap.size ≤ g8) := hg8
    have HB8 : Hid (v7.heap.size ≤ v8.heap.size) := hb8.size
    replace Xsm : Hid _ := Xsm.out.below hb8
    replace Z3 : Hid _ := Z3.out.below hb8
    replace Z6 : Hid _ := Z6.out.below hb8
    replace Z7 : Hid _ := Z7.out.below hb8
    replace hbw := Below.on hbw hb8
    clear hb8
    have Z8 : Hid (ZR v8 s8 (some ⟨g8, 0, none⟩) m8 (ux p + ux e)) := hz8
    have HL8 : Hid (m8 ≤ max m6 m7 + 1) := hl8
    clear hz8 hl8 hg8
    refine hK _ _ ⟨Xsm.out.c0, Xsm.out.c1⟩ ?_
    clear hK
    refine wpJ_on 5 rfl fun KJ hK => ?_
    go_simp
    refine (rshl04k s8 Z8.out (by have h1 := HL6.out; have h2 := HL7.out; have h3 := HL8.out; omega) c0 1074 (by have := HU.out.2.2.2.2.2; omega) (by have := HU.out.2.2.2.2.2; omega)).mono ?_
    rintro e v9 ⟨v, rfl, hv, hb9⟩
    obtain ⟨s9, g9, m9, rfl, hg9, hz9, hl9⟩ := hv
    have HN9 : Hid (v8.heap.size ≤ g9) := hg9
    have HB9 : Hid (v8.heap.size ≤ v9.heap.size) := hb9.size
    replace Xsm : Hid _ := Xsm.out.below hb9
    replace Z3 : Hid _ := Z3.out.below hb9
    replace Z6 : Hid _ := Z6.out.below hb9
    replace Z7 : Hid _ := Z7.out.below hb9
    replace Z8 : Hid _ := Z8.out.below hb9
    replace hbw := Below.on hbw hb9
    clear hb9
    have Z9 : Hid (ZR v9 s9 (some ⟨g9, 0, none⟩) m9 ((ux p + ux e) * 2 ^ c0)) := hz9
    have HL9 : Hid (m9 ≤ 40000) := hl9
    clear hz9 hl9 hg9
    refine hK _ _ ⟨Xsm.out.c0, Xsm.out.c1⟩ ?_
    clear hK
    refine wpJ_on 7 rfl fun KJ hK => ?_
    go_simp
    refine (rcmp04 s9 s3 Z9.out Z3.out (by have := HL9.out; omega) (by have := HL3.out; omega)).mono ?_
    rintro e vA ⟨rfl, hbA⟩
    rw [HU.out.2.2.2.2.1, show cmpI (ux a * ux b) (ux a * ux b) = 0 from by unfold cmpI; rw [if_neg (by omega), if_pos rfl]]
    replace Xsm : Hid _ := Xsm.out.below hbA
    replace Z3 : Hid _ := Z3.out.below hbA
    replace Z6 : Hid _ := Z6.out.below hbA
    replace Z7 : Hid _ := Z7.out.below hbA
    replace Z8 : Hid _ := Z8.out.below hbA
    replace Z9 : Hid _ := Z9.out.below hbA
    replace hbw := Below.on hbw hbA
    clear hbA
    clear HJ
    have HJ : Hid ((fun W' : World => W'.cell? ⟨gsm, 0, none⟩ = some (.bool s3) ∧ W'.cell? ⟨gsm, 1, none⟩ = some (.slice (some ⟨g3, 0, none⟩) m3 m3)) vA) := ⟨Xsm.out.c0, Xsm.out.c1⟩
    refine hK _ _ HJ.out ?_
    clear hK
    refine wpJ_tq 8 rfl HJ.out ?_
    refine wpJ_tq 9 rfl HJ.out ?_
    refine wpJ_done (by kernel_rfl) ?_ _
    clear HJ
    go_wp2_with fail
    go_ret
    exact ⟨rfl, hbw⟩
theorem eftProducts_w (a b : Nat) (ha : a < 18446744073709551616) (hb : b < 18446744073709551616) (w : World) : Calls Try.prog 3 #[U a, U b] w fun e w' => e = .returned (.bool true) ∧ Below w.heap.size w w' := by
  go_enter Try.func3, Try.ntmps3
  go_wp2_with fail
  refine (prodB a b _).mono ?_
  rintro e w' ⟨s, r, n1, rfl, rfl, hR⟩
  have HR : Hid (TPR a b s r ∧ a < 18446744073709551616 ∧ b < 18446744073709551616) := ⟨hR, ha, hb⟩
  clear hR ha hb
  go_wp2_with fail
  refine (awake19 _).mono ?_
  rintro e w' ⟨rfl, n2, rfl⟩
  go_wp2_with fail
  refine (rproducts (a := a) (b := b) (p := s) (e := r) fun hf => HR.out.1.ok HR.out.2.1 HR.out.2.2 hf.1 hf.2.1 hf.2.2).mono ?_
  rintro e w1 ⟨rfl, hb1⟩
  have HB : Hid (Below w.heap.size w w1) := Below.on (below_dn w _) hb1
  clear hb1
  go_wp2_with fail
  go_ret
  exact ⟨rfl, HB.out⟩
theorem eftProducts_walk (a : Nat) (ha : a < B64) (b : Nat) (hb : b < B64) {w : World} : Calls Try.prog 3 #[U a, U b] w fun e w' => e = .returned (.bool true) ∧ Below w.heap.size w w' := eftProducts_w a b (by rw [B64_eq] at ha; exact ha) (by rw [B64_eq] at hb; exact hb) w
end Go.Proofs.Ytpnpdngfjgdgfab
