import Derived.Test.YtcibiadpdcncmaaGreatDoorJ13
namespace Go.Proofs.YtcibiadpdcncmaaGreatDoor
open Go.RowKit Go.Shelf
set_option maxRecDepth 20000
set_option maxHeartbeats 0
theorem near_mul {a x : Int} (h : 81129638414606681695789005144064 * (a * (UE : Int) - x).natAbs ≤ 16 * x.natAbs) : (a * iv false (2 ^ OneE) - x).natAbs * 2 ^ 102 ≤ x.natAbs := by
  have e : iv false (2 ^ OneE) = (UE : Int) := rfl
  rw [e, show (2 : Nat) ^ 102 = 5070602400912917605986812821504 by decide]
  omega
theorem nf_len7 {w : World} {p : Option Addr} {m c : Nat} {zs : List Nat} {v : Nat} (h : At32 w p m c zs) (hN : Nf B32 zs v) {K : Nat} (hb : v < 2 ^ K) : m ≤ K := by
  have h1 := (hN.len_le B32_one (k := K)).2 (Nat.lt_of_lt_of_le hb (Nat.pow_le_pow_left (by decide) K))
  rw [h.len] at h1
  exact h1
theorem one20s (w : World) :
    Calls Tryz.prog 16 #[] w fun en w' => ∃ v, en = .returned v ∧ GotR w.heap.size w' v (iv false (2 ^ OneE)) 2000 ∧ Below w.heap.size w w' := by
  go_enter Tryz.func16, Tryz.ntmps16
  go_wp2_with fail
  obtain ⟨W0, hW0⟩ : ∃ W0, W0 = (w.alloc (.cells #[.bool false, .slice none 0 0] 39)) := ⟨_, rfl⟩
  have Xr : Hid (Box W0 (w.heap.size) (.bool false) (.slice none 0 0)) := by rw [hW0]; exact ⟨by go_simp, by go_simp, by go_simp, by go_simp⟩
  have hb0 : Below w.heap.size w W0 := by rw [hW0]; exact below1 w _
  rw [← hW0]
  clear hW0
  have hbw : Below w.heap.size w w := Below.refl _ _
  obtain ⟨gr, hgr⟩ : ∃ g, g = w.heap.size := ⟨_, rfl⟩
  have HGr : Hid (w.heap.size ≤ gr) := by rw [hgr]; show _ ≤ _; omega
  rw [← hgr] at Xr
  try rw [← hgr]
  clear hgr
  replace hbw := Below.on hbw hb0
  clear hb0
  refine (rpow2d _ OneE (by decide)).mono ?_
  rintro e v1 ⟨p1, m1, z1, rfl, hA1, hN1, hl1, hb1⟩
  have hl2 : m1 ≤ 2000 := Nat.le_trans (nf_len7 hA1 hN1 (K := OneE + 1) (Nat.pow_lt_pow_right (by decide) (Nat.lt_succ_self _))) (by decide)
  replace Xr : Hid _ := Xr.out.below hb1
  replace hbw := Below.on hbw hb1
  clear hb1
  have A1 : Hid (At32 v1 p1 m1 m1 z1) := hA1
  have N1 : Hid (Nf B32 z1 (2 ^ OneE) ∧ m1 ≤ 2000) := ⟨hN1, hl2⟩
  clear hA1 hN1 hl1 hl2
  obtain ⟨cr0, cr1, fr0, fr1⟩ := Xr.out
  have hner := Xr.out.lt
  go_wp2_with fail
  clear cr0 cr1 fr0 fr1 hner
  have HRB : Hid (gr < v1.heap.size ∧ w.heap.size ≤ v1.heap.size) := ⟨Xr.out.lt, hbw.size⟩
  refine (rmk_any false A1.out N1.out.1 (by have := N1.out.2; omega)).mono ?_
  rintro e v2 ⟨v, rfl, hv, hb2⟩
  obtain ⟨s2, g2, m2, rfl, hg2, hz2, hl2⟩ := hv
  have HN2 : Hid (v1.heap.size ≤ g2) := hg2
  have HB2 : Hid (v1.heap.size ≤ v2.heap.size) := hb2.size
  replace Xr : Hid _ := Xr.out.below hb2
  replace A1 : Hid _ := A1.out.below hb2
  replace hbw := Below.on hbw hb2
  clear hb2
  have Z2 : Hid (ZR v2 s2 (some ⟨g2, 0, none⟩) m2 (iv false (2 ^ OneE))) := hz2
  have HL2 : Hid (m2 ≤ m1) := hl2
  clear hz2 hl2 hg2
  obtain ⟨cr0, cr1, fr0, fr1⟩ := Xr.out
  have hner := Xr.out.lt
  go_wp2_with fail
  refine bodyPost_ret (v := .agg #[.bool s2, .slice (some ⟨g2, 0, none⟩) m2 m2]) (by rw [results_cell1 rfl]; go_simp) rfl ⟨_, rfl, ⟨s2, g2, m2, rfl, Nat.le_trans HRB.out.2 HN2.out, ?_, by have h1 := HL2.out; have h2 := N1.out.2; omega⟩, ?_⟩
  · have := HN2.out; have := HRB.out.1
    exact (Z2.out.set _ _ _ (by omega)).set _ _ _ (by omega)
  · exact bSet (bSet hbw _ _ _ HGr.out) _ _ _ HGr.out
theorem reckons_9 {ah al bh bl : Nat} (h1 : ah < 18446744073709551616) (h2 : al < 18446744073709551616) (h3 : bh < 18446744073709551616) (h4 : bl < 18446744073709551616) (w : World) :
    Calls Tryz.prog 44 #[.agg #[.int .i64 9, U ah, U al, U bh, U bl]] w fun en w' => en = .returned (.bool true) ∧ Below w.heap.size w w' := by
  have hSF : ∀ (w : World) (a : Addr) (b : Nat), (store a (Fv b)).run Tryz.prog w = stored Tryz.prog w a (Fv b) .plain := stF
  have HL : Hid (ah < 18446744073709551616 ∧ al < 18446744073709551616 ∧ bh < 18446744073709551616 ∧ bl < 18446744073709551616) := ⟨h1, h2, h3, h4⟩
  clear h1 h2 h3 h4
  go_enter Tryz.func44, Tryz.ntmps44
  go_wp2_with fail
  obtain ⟨W0, hW0⟩ : ∃ W0, W0 = (w.alloc (.cells #[.int .i64 9, U ah, U al, U bh, U bl] 48)) := ⟨_, rfl⟩
  have Xo : Hid (B5q W0 (w.heap.size) (.int .i64 9) (U ah) (U al) (U bh) (U bl)) := by rw [hW0]; exact ⟨by go_simp, by go_simp, by go_simp, by go_simp, by go_simp, by go_simp, by go_simp, by go_simp, by go_simp, by go_simp⟩
  have hb0 : Below w.heap.size w W0 := by rw [hW0]; exact below1 w _
  rw [← hW0]
  clear hW0
  have hbw : Below w.heap.size w w := Below.refl _ _
  obtain ⟨go, hgo⟩ : ∃ g, g = w.heap.size := ⟨_, rfl⟩
  have HGo : Hid (w.heap.size ≤ go) := by rw [hgo]; show _ ≤ _; omega
  rw [← hgo] at Xo
  try rw [← hgo]
  clear hgo
  replace hbw := Below.on hbw hb0
  clear hb0
  obtain ⟨co0, co1, co2, co3, co4, fo0, fo1, fo2, fo3, fo4⟩ := Xo.out
  have hneo : go < W0.heap.size := World.block_lt_of_cell? W0 _ co0
  go_wp2_with fail
  clear co0 co1 co2 co3 co4 fo0 fo1 fo2 fo3 fo4 hneo
  refine (fit20q ah al HL.out.1 HL.out.2.1 _).mono ?_
  rintro en v1 ⟨⟨r, rfl, hr⟩, hb1⟩
  replace Xo : Hid _ := Xo.out.below hb1
  replace hbw := Below.on hbw hb1
  clear hb1
  cases r
  · clear hr
    obtain ⟨co0, co1, co2, co3, co4, fo0, fo1, fo2, fo3, fo4⟩ := Xo.out
    have hneo : go < v1.heap.size := World.block_lt_of_cell? v1 _ co0
    go_wp2_with fail
    clear co0 co1 co2 co3 co4 fo0 fo1 fo2 fo3 fo4 hneo
    go_ret
    exact ⟨rfl, hbw⟩
  have HC1 := Hid.mk9 (hr rfl)
  clear hr
  obtain ⟨co0, co1, co2, co3, co4, fo0, fo1, fo2, fo3, fo4⟩ := Xo.out
  have hneo : go < v1.heap.size := World.block_lt_of_cell? v1 _ co0
  go_wp2_with fail
  clear co0 co1 co2 co3 co4 fo0 fo1 fo2 fo3 fo4 hneo
  refine (fitq20 bh _).mono ?_
  rintro en v2 ⟨⟨r, rfl, hr⟩, hb2⟩
  replace Xo : Hid _ := Xo.out.below hb2
  replace hbw := Below.on hbw hb2
  clear hb2
  cases r
  · clear hr
    obtain ⟨co0, co1, co2, co3, co4, fo0, fo1, fo2, fo3, fo4⟩ := Xo.out
    have hneo : go < v2.heap.size := World.block_lt_of_cell? v2 _ co0
    go_wp2_with fail
    clear co0 co1 co2 co3 co4 fo0 fo1 fo2 fo3 fo4 hneo
    go_ret
    exact ⟨rfl, hbw⟩
  have HC2 := Hid.mk9 (hr rfl)
  clear hr
  obtain ⟨co0, co1, co2, co3, co4, fo0, fo1, fo2, fo3, fo4⟩ := Xo.out
  have hneo : go < v2.heap.size := World.block_lt_of_cell? v2 _ co0
  go_wp2_with fail
  clear co0 co1 co2 co3 co4 fo0 fo1 fo2 fo3 fo4 hneo
  refine (fit20q bh bl HL.out.2.2.1 HL.out.2.2.2 _).mono ?_
  rintro en v3 ⟨⟨r, rfl, hr⟩, hb3⟩
  replace Xo : Hid _ := Xo.out.below hb3
  replace hbw := Below.on hbw hb3
  clear hb3
  cases r
  · clear hr
    obtain ⟨co0, co1, co2, co3, co4, fo0, fo1, fo2, fo3, fo4⟩ := Xo.out
    have hneo : go < v3.heap.size := World.block_lt_of_cell? v3 _ co0
    go_wp2_with fail
    clear co0 co1 co2 co3 co4 fo0 fo1 fo2 fo3 fo4 hneo
    go_ret
    exact ⟨rfl, hbw⟩
  have HC3 := Hid.mk9 (hr rfl)
  clear hr
  obtain ⟨co0, co1, co2, co3, co4, fo0, fo1, fo2, fo3, fo4⟩ := Xo.out
  have hneo : go < v3.heap.size := World.block_lt_of_cell? v3 _ co0
  go_wp2_with fail
  clear co0 co1 co2 co3 co4 fo0 fo1 fo2 fo3 fo4 hneo
  refine (sum20 _).mono ?_
  rintro e v4 ⟨v, rfl, hv, hb4⟩
  obtain ⟨s4, g4, m4, rfl, hg4, hz4, hl4⟩ := hv
  try clear hv
  have HN4 : Hid (v3.heap.size ≤ g4) := hg4
  have HB4 : Hid (v3.heap.size ≤ v4.heap.size) := hb4.size
  replace Xo : Hid _ := Xo.out.below hb4
  replace hbw := Below.on hbw hb4
  clear hb4
  have Z4 : Hid (ZR v4 s4 (some ⟨g4, 0, none⟩) m4 (ux ah + ux al)) := hz4
  have HL4 : Hid (m4 ≤ 2201) := hl4
  clear hz4 hl4 hg4
  obtain ⟨co0, co1, co2, co3, co4, fo0, fo1, fo2, fo3, fo4⟩ := Xo.out
  have hneo : go < v4.heap.size := World.block_lt_of_cell? v4 _ co0
  go_wp2_with fail
  clear co0 co1 co2 co3 co4 fo0 fo1 fo2 fo3 fo4 hneo
  refine (one20s _).mono ?_
  rintro e v5 ⟨v, rfl, hv, hb5⟩
  obtain ⟨s5, g5, m5, rfl, hg5, hz5, hl5⟩ := hv
  try clear hv
  have HN5 : Hid (v4.heap.size ≤ g5) := hg5
  have HB5 : Hid (v4.heap.size ≤ v5.heap.size) := hb5.size
  replace Xo : Hid _ := Xo.out.below hb5
  replace Z4 : Hid _ := Z4.out.below hb5
  replace hbw := Below.on hbw hb5
  clear hb5
  have Z5 : Hid (ZR v5 s5 (some ⟨g5, 0, none⟩) m5 (iv false (2 ^ OneE))) := hz5
  have HL5 : Hid (m5 ≤ 2000) := hl5
  clear hz5 hl5 hg5
  obtain ⟨co0, co1, co2, co3, co4, fo0, fo1, fo2, fo3, fo4⟩ := Xo.out
  have hneo : go < v5.heap.size := World.block_lt_of_cell? v5 _ co0
  have q1 : ¬ go = v5.heap.size := by omega
  have q2 : ¬ go = v5.heap.size + 1 := by omega
  have q3 : ¬ go = v5.heap.size + 1 + 1 := by omega
  have l1 : go ≤ v5.heap.size := by omega
  have l2 : go ≤ v5.heap.size + 1 := by omega
  have l3 : go < v5.heap.size + 1 := by omega
  have l4 : go < v5.heap.size + 1 + 1 := by omega
  go_wp2_with fail
  clear q1 q2 q3 l1 l2 l3 l4
  clear co0 co1 co2 co3 co4 fo0 fo1 fo2 fo3 fo4 hneo
  have hgo5 : go < v5.heap.size := Xo.out.lt
  have HZ4 : Hid (ZR v5 s4 (some ⟨g4, 0, none⟩) m4 (ux ah + ux al) ∧ ZR v5 s5 (some ⟨g5, 0, none⟩) m5 (iv false (2 ^ OneE))) := ⟨Z4.out, Z5.out⟩
  clear Z4
  clear Z5
  have hbu : Below v5.heap.size v5 v5 := Below.refl _ _
  obtain ⟨W5, hW5⟩ : ∃ W9, W9 = (((v5.alloc (.cells #[.bool s4, .slice (some ⟨g4, 0, none⟩) m4 m4] 39)).alloc (.cells #[.bool false, .slice none 0 0] 39)).alloc (.cells #[.bool s5, .slice (some ⟨g5, 0, none⟩) m5 m5] 39)) := ⟨_, rfl⟩
  have Xp0 : Hid (Box W5 (v5.heap.size) (.bool s4) (.slice (some ⟨g4, 0, none⟩) m4 m4)) := by rw [hW5]; exact ⟨by go_simp, by go_simp, by go_simp, by go_simp⟩
  have Xq0 : Hid (Box W5 (v5.heap.size + 1) (.bool false) (.slice none 0 0)) := by rw [hW5]; exact ⟨by go_simp, by go_simp, by go_simp, by go_simp⟩
  have Xu0 : Hid (Box W5 (v5.heap.size + 1 + 1) (.bool s5) (.slice (some ⟨g5, 0, none⟩) m5 m5)) := by rw [hW5]; exact ⟨by go_simp, by go_simp, by go_simp, by go_simp⟩
  have hbn : Below v5.heap.size v5 W5 := by rw [hW5]; exact below3 v5 _ _ _
  rw [← hW5]
  clear hW5
  obtain ⟨gu, hgu⟩ : ∃ g, g = v5.heap.size + 1 + 1 := ⟨_, rfl⟩
  have HGu : Hid (w.heap.size ≤ gu) := by rw [hgu]; have := hbw.size; show _ ≤ _; omega
  rw [← hgu] at Xu0
  try rw [← hgu]
  obtain ⟨gq, hgq⟩ : ∃ g, g = v5.heap.size + 1 := ⟨_, rfl⟩
  have HGq : Hid (w.heap.size ≤ gq) := by rw [hgq]; have := hbw.size; show _ ≤ _; omega
  rw [← hgq] at Xq0
  try rw [← hgq]
  obtain ⟨gp, hgp⟩ : ∃ g, g = v5.heap.size := ⟨_, rfl⟩
  have HGp : Hid (w.heap.size ≤ gp) := by rw [hgp]; have := hbw.size; show _ ≤ _; omega
  rw [← hgp] at Xp0
  try rw [← hgp]
  have HGQ : Hid ((go ≠ gq ∧ gp ≠ gq ∧ gu ≠ gq) ∧ v5.heap.size ≤ gq) := by rw [hgp, hgq, hgu]; exact ⟨⟨by omega, by omega, by omega⟩, by omega⟩
  clear hgp hgq hgu
  have hbu' := Below.on hbu hbn
  clear hbu
  have hbu := hbu'
  clear hbu'
  replace Xo : Hid _ := Xo.out.below hbn
  replace hbw := Below.on hbw hbn
  clear hbn
  have Xp := Xp0
  clear Xp0
  have Xq := Xq0
  clear Xq0
  have Xu := Xu0
  clear Xu0
  clear hgo5
  have HQ5 : Hid (gq < W5.heap.size) := Xq.out.lt
  refine (sum20 _).mono ?_
  rintro e v6 ⟨v, rfl, hv, hb6⟩
  obtain ⟨s6, g6, m6, rfl, hg6, hz6, hl6⟩ := hv
  try clear hv
  have HN6 : Hid (W5.heap.size ≤ g6) := hg6
  have HB6 : Hid (W5.heap.size ≤ v6.heap.size) := hb6.size
  have hbu' := Below.on hbu hb6
  clear hbu
  have hbu := hbu'
  clear hbu'
  replace Xo : Hid _ := Xo.out.below hb6
  replace Xp : Hid _ := Xp.out.below hb6
  replace Xq : Hid _ := Xq.out.below hb6
  replace Xu : Hid _ := Xu.out.below hb6
  replace hbw := Below.on hbw hb6
  clear hb6
  have Z6 : Hid (ZR v6 s6 (some ⟨g6, 0, none⟩) m6 (ux bh + ux bl)) := hz6
  have HL6 : Hid (m6 ≤ 2201) := hl6
  clear hz6 hl6 hg6
  obtain ⟨⟨q1, q2, q3⟩, q4⟩ := HGQ.out
  have q5 := Ne.symm q1
  have q6 := Ne.symm q2
  have q7 := Ne.symm q3
  obtain ⟨co0, co1, co2, co3, co4, fo0, fo1, fo2, fo3, fo4⟩ := Xo.out
  have hneo : go < v6.heap.size := World.block_lt_of_cell? v6 _ co0
  obtain ⟨cp0, cp1, fp0, fp1⟩ := Xp.out
  have hnep := Xp.out.lt
  obtain ⟨cq0, cq1, fq0, fq1⟩ := Xq.out
  have hneq := Xq.out.lt
  obtain ⟨cu0, cu1, fu0, fu1⟩ := Xu.out
  have hneu := Xu.out.lt
  go_wp2_with fail
  obtain ⟨W6, hW6⟩ : ∃ W9, W9 = ((v6.setCell ⟨gq, 0, none⟩ (.bool s6)).setCell ⟨gq, 1, none⟩ (.slice (some ⟨g6, 0, none⟩) m6 m6)) := ⟨_, rfl⟩
  rw [← hW6]
  have Yo : Hid (B5q W6 go (.int .i64 9) (U ah) (U al) (U bh) (U bl)) := by rw [hW6]; exact ⟨by go_simp, by go_simp, by go_simp, by go_simp, by go_simp, by go_simp, by go_simp, by go_simp, by go_simp, by go_simp⟩
  have Yp : Hid (Box W6 gp (.bool s4) (.slice (some ⟨g4, 0, none⟩) m4 m4)) := by rw [hW6]; exact ⟨by go_simp, by go_simp, by go_simp, by go_simp⟩
  have Yu : Hid (Box W6 gu (.bool s5) (.slice (some ⟨g5, 0, none⟩) m5 m5)) := by rw [hW6]; exact ⟨by go_simp, by go_simp, by go_simp, by go_simp⟩
  have Yq : Hid (Box W6 gq (.bool s6) (.slice (some ⟨g6, 0, none⟩) m6 m6)) := by rw [hW6]; exact ⟨by go_simp, by go_simp, by go_simp, by go_simp⟩
  clear co0 co1 co2 co3 co4 fo0 fo1 fo2 fo3 fo4 hneo
  clear cp0 cp1 fp0 fp1 hnep
  clear cq0 cq1 fq0 fq1 hneq
  clear cu0 cu1 fu0 fu1 hneu
  have HZ46 : Hid (ZR W6 s4 (some ⟨g4, 0, none⟩) m4 (ux ah + ux al) ∧ ZR W6 s6 (some ⟨g6, 0, none⟩) m6 (ux bh + ux bl) ∧ ZR W6 s5 (some ⟨g5, 0, none⟩) m5 (iv false (2 ^ OneE))) := by
    have hne : g6 ≠ gq := by have h1 := HN6.out; have h2 := HQ5.out; omega
    rw [hW6]
    exact ⟨HZ4.out.1.below (bSet (bSet hbu _ _ _ q4) _ _ _ q4), (Z6.out.set _ _ _ hne).set _ _ _ hne, HZ4.out.2.below (bSet (bSet hbu _ _ _ q4) _ _ _ q4)⟩
  have HB6 : Hid (Below w.heap.size w W6) := by rw [hW6]; exact bSet (bSet hbw _ _ _ HGq.out) _ _ _ HGq.out
  clear hW6 hbw hbu q1 q2 q3 q4 q5 q6 q7 Xo Xp Xq Xu Z6 HZ4
  have hbw : Below W6.heap.size W6 W6 := Below.refl _ _
  have Xo := Yo
  have Xp := Yp
  have Xq := Yq
  have Xu := Yu
  clear Yo Yp Yq Yu
  have P1 := lpair ah al
  have P2 := lpair bh bl
  obtain ⟨V1, hV1⟩ : ∃ W1, W1 = W6.drew := ⟨_, rfl⟩
  have hbd : Below W6.heap.size W6 V1 := by rw [hV1]; exact bDrew1 (Below.refl _ _)
  replace Xo : Hid _ := Xo.out.below hbd
  replace Xp : Hid _ := Xp.out.below hbd
  replace Xq : Hid _ := Xq.out.below hbd
  replace Xu : Hid _ := Xu.out.below hbd
  replace hbw := Below.on hbw hbd
  clear hbd
  have HJ : Hid ((fun W' : World => W'.cell? ⟨go, 1, none⟩ = some (U ah) ∧ W'.cell? ⟨go, 2, none⟩ = some (U al) ∧ W'.cell? ⟨go, 3, none⟩ = some (U bh) ∧ W'.cell? ⟨go, 4, none⟩ = some (U bl)) V1) := ⟨Xo.out.c1, Xo.out.c2, Xo.out.c3, Xo.out.c4⟩
  refine wp_region_J (fun W' => W'.cell? ⟨go, 1, none⟩ = some (U ah) ∧ W'.cell? ⟨go, 2, none⟩ = some (U al) ∧ W'.cell? ⟨go, 3, none⟩ = some (U bh) ∧ W'.cell? ⟨go, 4, none⟩ = some (U bl)) (by kernel_rfl) ?_
  rw [← hV1]
  clear hV1
  refine wpJ_tq 0 rfl HJ.out ?_
  refine wpJ_tq 1 rfl HJ.out ?_
  refine wpJ_tq 3 rfl HJ.out ?_
  refine wpJ_tq 4 rfl HJ.out ?_
  go_simp
  refine wpJ_nodes fun WP hWP L0 a0 hL ha => ?_
  have N2xy : ∀ (gx : Nat) (gy : Nat) (W' : World), B5q W' go (.int .i64 9) (U ah) (U al) (U bh) (U bl) ∧ Box W' gp (.bool s4) (.slice (some ⟨g4, 0, none⟩) m4 m4) ∧ Box W' gq (.bool s6) (.slice (some ⟨g6, 0, none⟩) m6 m6) ∧ Box W' gu (.bool s5) (.slice (some ⟨g5, 0, none⟩) m5 m5) ∧ Below W6.heap.size W6 W' ∧ Box W' gx (Fv 0) (Fv 0) ∧ W6.heap.size ≤ gx ∧ gx ≠ go ∧ gx ≠ gp ∧ gx ≠ gq ∧ gx ≠ gu ∧ Box W' gy (Fv 0) (Fv 0) ∧ W6.heap.size ≤ gy ∧ gy ≠ go ∧ gy ≠ gp ∧ gy ≠ gq ∧ gy ≠ gu ∧ gx ≠ gy → WP 2 ((((L0.setIfInBounds 2 true).setIfInBounds 5 true).setIfInBounds 6 true).setIfInBounds 7 true) ((((a0.put (some 95) (.agg #[Fv ah, Fv al])).put (some 98) (.agg #[Fv bh, Fv bl])).put (some 7) (.pointer (some ⟨gx, 0, none⟩))).put (some 8) (.pointer (some ⟨gy, 0, none⟩))) W' := by
    rintro gx gy W' ⟨xo, xp, xq, xu, hbw, xx, hgx, dxo, dxp, dxq, dxu, xy, hgy, dyo, dyp, dyq, dyu, dd⟩
    subst hWP hL ha
    have Hxo := Hid.mk9 xo
    have Hxp := Hid.mk9 xp
    have Hxq := Hid.mk9 xq
    have Hxu := Hid.mk9 xu
    have Hxx := Hid.mk9 xx
    have Hhgx := Hid.mk9 hgx
    have Hdxo := Hid.mk9 dxo
    have Hdxp := Hid.mk9 dxp
    have Hdxq := Hid.mk9 dxq
    have Hdxu := Hid.mk9 dxu
    have Hxy := Hid.mk9 xy
    have Hhgy := Hid.mk9 hgy
    have Hdyo := Hid.mk9 dyo
    have Hdyp := Hid.mk9 dyp
    have Hdyq := Hid.mk9 dyq
    have Hdyu := Hid.mk9 dyu
    have Hdd := Hid.mk9 dd
    clear xo xp xq xu xx hgx dxo dxp dxq dxu xy hgy dyo dyp dyq dyu dd
    go_simp
    have Xo := Hxo
    have Xp := Hxp
    have Xq := Hxq
    have Xu := Hxu
    have Xx := Hxx
    have Xy := Hxy
    clear Hxo Hxp Hxq Hxu Hxx Hxy
    have exo := Hdxo.out
    have exp := Hdxp.out
    have exq := Hdxq.out
    have exu := Hdxu.out
    have eyo := Hdyo.out
    have eyp := Hdyp.out
    have eyq := Hdyq.out
    have eyu := Hdyu.out
    have fxo := Ne.symm exo
    have fxp := Ne.symm exp
    have fxq := Ne.symm exq
    have fxu := Ne.symm exu
    have fyo := Ne.symm eyo
    have fyp := Ne.symm eyp
    have fyq := Ne.symm eyq
    have fyu := Ne.symm eyu
    have e5 := Hdd.out
    have f5 := Ne.symm e5
    have HGx : Hid (W6.heap.size ≤ gx) := Hhgx.out
    have HGy : Hid (W6.heap.size ≤ gy) := Hhgy.out
    obtain ⟨co0, co1, co2, co3, co4, fo0, fo1, fo2, fo3, fo4⟩ := Xo.out
    have hneo : go < W'.heap.size := World.block_lt_of_cell? W' _ co0
    obtain ⟨cx0, cx1, fx0, fx1⟩ := Xx.out
    have hnex := Xx.out.lt
    obtain ⟨cy0, cy1, fy0, fy1⟩ := Xy.out
    have hney := Xy.out.lt
    refine wpJ_on 8 rfl fun KJ hK => ?_
    go_simp
    refine hK _ _ ⟨by go_simp, by go_simp, by go_simp, by go_simp⟩ ?_
    clear hK
    refine wpJ_on 9 rfl fun KJ hK => ?_
    go_simp
    refine hK _ _ ⟨by go_simp, by go_simp, by go_simp, by go_simp⟩ ?_
    clear hK
    refine wpJ_done (by kernel_rfl) ?_ _
    clear co0 co1 co2 co3 co4 fo0 fo1 fo2 fo3 fo4 hneo
    clear cx0 cx1 fx0 fx1 hnex
    clear cy0 cy1 fy0 fy1 hney
    obtain ⟨co0, co1, co2, co3, co4, fo0, fo1, fo2, fo3, fo4⟩ := Xo.out
    have hneo : go < W'.heap.size := World.block_lt_of_cell? W' _ co0
    obtain ⟨cp0, cp1, fp0, fp1⟩ := Xp.out
    have hnep := Xp.out.lt
    obtain ⟨cq0, cq1, fq0, fq1⟩ := Xq.out
    have hneq := Xq.out.lt
    obtain ⟨cu0, cu1, fu0, fu1⟩ := Xu.out
    have hneu := Xu.out.lt
    obtain ⟨cx0, cx1, fx0, fx1⟩ := Xx.out
    have hnex := Xx.out.lt
    obtain ⟨cy0, cy1, fy0, fy1⟩ := Xy.out
    have hney := Xy.out.lt
    obtain ⟨Wy, hWy⟩ : ∃ W9, W9 = ((((W'.setCell ⟨gx, 0, none⟩ (Fv ah)).setCell ⟨gx, 1, none⟩ (Fv al)).setCell ⟨gy, 0, none⟩ (Fv bh)).setCell ⟨gy, 1, none⟩ (Fv bl)) := ⟨_, rfl⟩
    have Yx : Hid (Box Wy gx (Fv ah) (Fv al)) := by rw [hWy]; exact ⟨by go_simp, by go_simp, by go_simp, by go_simp⟩
    have Yy : Hid (Box Wy gy (Fv bh) (Fv bl)) := by rw [hWy]; exact ⟨by go_simp, by go_simp, by go_simp, by go_simp⟩
    have Yo : Hid (B5q Wy go (.int .i64 9) (U ah) (U al) (U bh) (U bl)) := by rw [hWy]; exact ⟨by go_simp, by go_simp, by go_simp, by go_simp, by go_simp, by go_simp, by go_simp, by go_simp, by go_simp, by go_simp⟩
    have Yp : Hid (Box Wy gp (.bool s4) (.slice (some ⟨g4, 0, none⟩) m4 m4)) := by rw [hWy]; exact ⟨by go_simp, by go_simp, by go_simp, by go_simp⟩
    have Yq : Hid (Box Wy gq (.bool s6) (.slice (some ⟨g6, 0, none⟩) m6 m6)) := by rw [hWy]; exact ⟨by go_simp, by go_simp, by go_simp, by go_simp⟩
    have Yu : Hid (Box Wy gu (.bool s5) (.slice (some ⟨g5, 0, none⟩) m5 m5)) := by rw [hWy]; exact ⟨by go_simp, by go_simp, by go_simp, by go_simp⟩
    clear co0 co1 co2 co3 co4 fo0 fo1 fo2 fo3 fo4 hneo
    clear cp0 cp1 fp0 fp1 hnep
    clear cq0 cq1 fq0 fq1 hneq
    clear cu0 cu1 fu0 fu1 hneu
    clear cx0 cx1 fx0 fx1 hnex
    clear cy0 cy1 fy0 fy1 hney
    have hbw2 : Below W6.heap.size W6 Wy := by rw [hWy]; exact bSet (bSet (bSet (bSet hbw _ _ _ HGx.out) _ _ _ HGx.out) _ _ _ HGy.out) _ _ _ HGy.out
    rw [← hWy]
    clear hWy hbw Xo Xp Xq Xu Xx Xy exo fxo exp fxp exq fxq exu fxu eyo fyo eyp fyp eyq fyq eyu fyu e5 f5
    have hbw := Below.on HB6.out hbw2
    have ZA : Hid (ZR Wy s4 (some ⟨g4, 0, none⟩) m4 (ux ah + ux al)) := HZ46.out.1.below hbw2
    have ZB : Hid (ZR Wy s6 (some ⟨g6, 0, none⟩) m6 (ux bh + ux bl)) := HZ46.out.2.1.below hbw2
    have ZU : Hid (ZR Wy s5 (some ⟨g5, 0, none⟩) m5 (iv false (2 ^ OneE))) := HZ46.out.2.2.below hbw2
    clear hbw2
    have Xo := Yo
    have Xp := Yp
    have Xq := Yq
    have Xu := Yu
    have Xx := Yx
    have Xy := Yy
    clear Yo Yp Yq Yu Yx Yy
    obtain ⟨co0, co1, co2, co3, co4, fo0, fo1, fo2, fo3, fo4⟩ := Xo.out
    have hneo : go < Wy.heap.size := World.block_lt_of_cell? Wy _ co0
    go_wp2_with fail
    clear co0 co1 co2 co3 co4 fo0 fo1 fo2 fo3 fo4 hneo
    obtain ⟨Wv, hWv⟩ : ∃ W1, W1 = Wy.drew := ⟨_, rfl⟩
    have hbd : Below Wy.heap.size Wy Wv := by rw [hWv]; exact bDrew1 (Below.refl _ _)
    replace Xo : Hid _ := Xo.out.below hbd
    replace Xp : Hid _ := Xp.out.below hbd
    replace Xq : Hid _ := Xq.out.below hbd
    replace Xu : Hid _ := Xu.out.below hbd
    replace Xx : Hid _ := Xx.out.below hbd
    replace Xy : Hid _ := Xy.out.below hbd
    replace ZA : Hid _ := ZA.out.below hbd
    replace ZB : Hid _ := ZB.out.below hbd
    replace ZU : Hid _ := ZU.out.below hbd
    replace hbw := Below.on hbw hbd
    clear hbd
    have HJ : Hid ((fun W' : World => W'.cell? ⟨gx, 0, none⟩ = some (Fv ah) ∧ W'.cell? ⟨gx, 1, none⟩ = some (Fv al) ∧ W'.cell? ⟨gy, 0, none⟩ = some (Fv bh) ∧ W'.cell? ⟨gy, 1, none⟩ = some (Fv bl) ∧ W'.cell? ⟨gp, 0, none⟩ = some (.bool s4) ∧ W'.cell? ⟨gp, 1, none⟩ = some (.slice (some ⟨g4, 0, none⟩) m4 m4) ∧ W'.cell? ⟨gq, 0, none⟩ = some (.bool s6) ∧ W'.cell? ⟨gq, 1, none⟩ = some (.slice (some ⟨g6, 0, none⟩) m6 m6) ∧ W'.cell? ⟨gu, 0, none⟩ = some (.bool s5) ∧ W'.cell? ⟨gu, 1, none⟩ = some (.slice (some ⟨g5, 0, none⟩) m5 m5)) Wv) := ⟨Xx.out.c0, Xx.out.c1, Xy.out.c0, Xy.out.c1, Xp.out.c0, Xp.out.c1, Xq.out.c0, Xq.out.c1, Xu.out.c0, Xu.out.c1⟩
    refine wp_region_J (fun W' => W'.cell? ⟨gx, 0, none⟩ = some (Fv ah) ∧ W'.cell? ⟨gx, 1, none⟩ = some (Fv al) ∧ W'.cell? ⟨gy, 0, none⟩ = some (Fv bh) ∧ W'.cell? ⟨gy, 1, none⟩ = some (Fv bl) ∧ W'.cell? ⟨gp, 0, none⟩ = some (.bool s4) ∧ W'.cell? ⟨gp, 1, none⟩ = some (.slice (some ⟨g4, 0, none⟩) m4 m4) ∧ W'.cell? ⟨gq, 0, none⟩ = some (.bool s6) ∧ W'.cell? ⟨gq, 1, none⟩ = some (.slice (some ⟨g6, 0, none⟩) m6 m6) ∧ W'.cell? ⟨gu, 0, none⟩ = some (.bool s5) ∧ W'.cell? ⟨gu, 1, none⟩ = some (.slice (some ⟨g5, 0, none⟩) m5 m5)) (by kernel_rfl) ?_
    rw [← hWv]
    clear hWv
    refine wpJ_tq 0 rfl HJ.out ?_
    refine wpJ_tq 1 rfl HJ.out ?_
    refine wpJ_tq 4 rfl HJ.out ?_
    refine wpJ_tq 5 rfl HJ.out ?_
    refine wpJ_tq 7 rfl HJ.out ?_
    refine wpJ_on 2 rfl fun KJ hK => ?_
    go_simp
    refine (ddMul_f HC1.out.1 HC3.out.1 HC1.out.2 HC3.out.2 _).mono ?_
    rintro e v9 ⟨s9, r9, rfl, hd9, hq9, hb9⟩
    have HR9 := Hid.mk9 (And.intro hd9 (near_mul hq9))
    clear hd9 hq9
    replace Xo : Hid _ := Xo.out.below hb9
    replace Xp : Hid _ := Xp.out.below hb9
    replace Xq : Hid _ := Xq.out.below hb9
    replace Xu : Hid _ := Xu.out.below hb9
    replace Xx : Hid _ := Xx.out.below hb9
    replace Xy : Hid _ := Xy.out.below hb9
    replace ZA : Hid _ := ZA.out.below hb9
    replace ZB : Hid _ := ZB.out.below hb9
    replace ZU : Hid _ := ZU.out.below hb9
    replace hbw := Below.on hbw hb9
    clear hb9
    refine hK _ _ ⟨Xx.out.c0, Xx.out.c1, Xy.out.c0, Xy.out.c1, Xp.out.c0, Xp.out.c1, Xq.out.c0, Xq.out.c1, Xu.out.c0, Xu.out.c1⟩ ?_
    clear hK
    refine wpJ_on 3 rfl fun KJ hK => ?_
    go_simp
    refine (lbits s9 r9 _).mono ?_
    rintro e v10 ⟨rfl, hb10⟩
    replace Xo : Hid _ := Xo.out.below hb10
    replace Xp : Hid _ := Xp.out.below hb10
    replace Xq : Hid _ := Xq.out.below hb10
    replace Xu : Hid _ := Xu.out.below hb10
    replace Xx : Hid _ := Xx.out.below hb10
    replace Xy : Hid _ := Xy.out.below hb10
    replace ZA : Hid _ := ZA.out.below hb10
    replace ZB : Hid _ := ZB.out.below hb10
    replace ZU : Hid _ := ZU.out.below hb10
    replace hbw := Below.on hbw hb10
    clear hb10
    refine hK _ _ ⟨Xx.out.c0, Xx.out.c1, Xy.out.c0, Xy.out.c1, Xp.out.c0, Xp.out.c1, Xq.out.c0, Xq.out.c1, Xu.out.c0, Xu.out.c1⟩ ?_
    clear hK
    refine wpJ_on 6 rfl fun KJ hK => ?_
    go_simp
    refine (rmul04 s4 s6 ZA.out ZB.out (by have := HL4.out; omega) (by have := HL6.out; omega)).mono ?_
    rintro e v11 ⟨v, rfl, hv, hb11⟩
    obtain ⟨s11, g11, m11, rfl, hg11, hz11, hl11⟩ := hv
    try clear hv
    have HN11 : Hid (v10.heap.size ≤ g11) := hg11
    have HB11 : Hid (v10.heap.size ≤ v11.heap.size) := hb11.size
    replace Xo : Hid _ := Xo.out.below hb11
    replace Xp : Hid _ := Xp.out.below hb11
    replace Xq : Hid _ := Xq.out.below hb11
    replace Xu : Hid _ := Xu.out.below hb11
    replace Xx : Hid _ := Xx.out.below hb11
    replace Xy : Hid _ := Xy.out.below hb11
    replace ZA : Hid _ := ZA.out.below hb11
    replace ZB : Hid _ := ZB.out.below hb11
    replace ZU : Hid _ := ZU.out.below hb11
    replace hbw := Below.on hbw hb11
    clear hb11
    have Z11 : Hid (ZR v11 s11 (some ⟨g11, 0, none⟩) m11 ((ux ah + ux al) * (ux bh + ux bl))) := hz11
    have HL11 : Hid (m11 ≤ m4 + m6) := hl11
    clear hz11 hl11 hg11
    refine hK _ _ ⟨Xx.out.c0, Xx.out.c1, Xy.out.c0, Xy.out.c1, Xp.out.c0, Xp.out.c1, Xq.out.c0, Xq.out.c1, Xu.out.c0, Xu.out.c1⟩ ?_
    clear hK
    refine wpJ_on 8 rfl fun KJ hK => ?_
    go_simp
    refine (near20 (k := 102) HR9.out.1 Z11.out ZU.out (by have := HL11.out; have := HL4.out; have := HL6.out; omega) (by have := HL5.out; omega) (by decide) HR9.out.2).mono ?_
    rintro e v13 ⟨rfl, hb13⟩
    replace Xo : Hid _ := Xo.out.below hb13
    replace Xp : Hid _ := Xp.out.below hb13
    replace Xq : Hid _ := Xq.out.below hb13
    replace Xu : Hid _ := Xu.out.below hb13
    replace Xx : Hid _ := Xx.out.below hb13
    replace Xy : Hid _ := Xy.out.below hb13
    replace ZA : Hid _ := ZA.out.below hb13
    replace ZB : Hid _ := ZB.out.below hb13
    replace ZU : Hid _ := ZU.out.below hb13
    replace Z11 : Hid _ := Z11.out.below hb13
    replace hbw := Below.on hbw hb13
    clear hb13
    clear HJ
    have HJ : Hid ((fun W' : World => W'.cell? ⟨gx, 0, none⟩ = some (Fv ah) ∧ W'.cell? ⟨gx, 1, none⟩ = some (Fv al) ∧ W'.cell? ⟨gy, 0, none⟩ = some (Fv bh) ∧ W'.cell? ⟨gy, 1, none⟩ = some (Fv bl) ∧ W'.cell? ⟨gp, 0, none⟩ = some (.bool s4) ∧ W'.cell? ⟨gp, 1, none⟩ = some (.slice (some ⟨g4, 0, none⟩) m4 m4) ∧ W'.cell? ⟨gq, 0, none⟩ = some (.bool s6) ∧ W'.cell? ⟨gq, 1, none⟩ = some (.slice (some ⟨g6, 0, none⟩) m6 m6) ∧ W'.cell? ⟨gu, 0, none⟩ = some (.bool s5) ∧ W'.cell? ⟨gu, 1, none⟩ = some (.slice (some ⟨g5, 0, none⟩) m5 m5)) v13) := ⟨Xx.out.c0, Xx.out.c1, Xy.out.c0, Xy.out.c1, Xp.out.c0, Xp.out.c1, Xq.out.c0, Xq.out.c1, Xu.out.c0, Xu.out.c1⟩
    refine hK _ _ HJ.out ?_
    clear hK
    refine wpJ_tq 9 rfl HJ.out ?_
    refine wpJ_done (by kernel_rfl) ?_ _
    clear HJ
    go_wp2_with fail
    go_ret
    exact ⟨rfl, hbw⟩
  have N2x : ∀ (gx : Nat) (W' : World), B5q W' go (.int .i64 9) (U ah) (U al) (U bh) (U bl) ∧ Box W' gp (.bool s4) (.slice (some ⟨g4, 0, none⟩) m4 m4) ∧ Box W' gq (.bool s6) (.slice (some ⟨g6, 0, none⟩) m6 m6) ∧ Box W' gu (.bool s5) (.slice (some ⟨g5, 0, none⟩) m5 m5) ∧ Below W6.heap.size W6 W' ∧ Box W' gx (Fv 0) (Fv 0) ∧ W6.heap.size ≤ gx ∧ gx ≠ go ∧ gx ≠ gp ∧ gx ≠ gq ∧ gx ≠ gu → WP 3 (((L0.setIfInBounds 2 true).setIfInBounds 5 true).setIfInBounds 6 true) (((a0.put (some 95) (.agg #[Fv ah, Fv al])).put (some 98) (.agg #[Fv bh, Fv bl])).put (some 7) (.pointer (some ⟨gx, 0, none⟩))) W' := by
    rintro gx W' ⟨xo, xp, xq, xu, hbw, xx, hgx, dxo, dxp, dxq, dxu⟩
    subst hWP hL ha
    have Hxo := Hid.mk9 xo
    have Hxp := Hid.mk9 xp
    have Hxq := Hid.mk9 xq
    have Hxu := Hid.mk9 xu
    have Hxx := Hid.mk9 xx
    have Hhgx := Hid.mk9 hgx
    have Hdxo := Hid.mk9 dxo
    have Hdxp := Hid.mk9 dxp
    have Hdxq := Hid.mk9 dxq
    have Hdxu := Hid.mk9 dxu
    clear xo xp xq xu xx hgx dxo dxp dxq dxu
    go_simp
    refine wpJ_on 7 rfl fun KJ hK => ?_
    go_simp
    have hb := below1 W' (.cells #[Fv 0, Fv 0] 32)
    refine hK _ _ ⟨(Hxo.out.below hb).c1, (Hxo.out.below hb).c2, (Hxo.out.below hb).c3, (Hxo.out.below hb).c4⟩ ?_
    exact wpJ_same (by kernel_rfl) (by kernel_rfl) (N2xy gx W'.heap.size _ ⟨(Hxo.out.below hb), (Hxp.out.below hb), (Hxq.out.below hb), (Hxu.out.below hb), (Below.on hbw hb), (Hxx.out.below hb), Hhgx.out, Hdxo.out, Hdxp.out, Hdxq.out, Hdxu.out, (Box.new W' _ _ _), hbw.size, (Nat.ne_of_gt Hxo.out.lt), (Nat.ne_of_gt Hxp.out.lt), (Nat.ne_of_gt Hxq.out.lt), (Nat.ne_of_gt Hxu.out.lt), (Nat.ne_of_lt Hxx.out.lt)⟩)
  have N2y : ∀ (gy : Nat) (W' : World), B5q W' go (.int .i64 9) (U ah) (U al) (U bh) (U bl) ∧ Box W' gp (.bool s4) (.slice (some ⟨g4, 0, none⟩) m4 m4) ∧ Box W' gq (.bool s6) (.slice (some ⟨g6, 0, none⟩) m6 m6) ∧ Box W' gu (.bool s5) (.slice (some ⟨g5, 0, none⟩) m5 m5) ∧ Below W6.heap.size W6 W' ∧ Box W' gy (Fv 0) (Fv 0) ∧ W6.heap.size ≤ gy ∧ gy ≠ go ∧ gy ≠ gp ∧ gy ≠ gq ∧ gy ≠ gu → WP 3 (((L0.setIfInBounds 2 true).setIfInBounds 5 true).setIfInBounds 7 true) (((a0.put (some 95) (.agg #[Fv ah, Fv al])).put (some 98) (.agg #[Fv bh, Fv bl])).put (some 8) (.pointer (some ⟨gy, 0, none⟩))) W' := by
    rintro gy W' ⟨xo, xp, xq, xu, hbw, xy, hgy, dyo, dyp, dyq, dyu⟩
    subst hWP hL ha
    have Hxo := Hid.mk9 xo
    have Hxp := Hid.mk9 xp
    have Hxq := Hid.mk9 xq
    have Hxu := Hid.mk9 xu
    have Hxy := Hid.mk9 xy
    have Hhgy := Hid.mk9 hgy
    have Hdyo := Hid.mk9 dyo
    have Hdyp := Hid.mk9 dyp
    have Hdyq := Hid.mk9 dyq
    have Hdyu := Hid.mk9 dyu
    clear xo xp xq xu xy hgy dyo dyp dyq dyu
    go_simp
    refine wpJ_on 6 rfl fun KJ hK => ?_
    go_simp
    have hb := below1 W' (.cells #[Fv 0, Fv 0] 32)
    refine hK _ _ ⟨(Hxo.out.below hb).c1, (Hxo.out.below hb).c2, (Hxo.out.below hb).c3, (Hxo.out.below hb).c4⟩ ?_
    exact wpJ_same (by kernel_rfl) (by kernel_rfl) (N2xy W'.heap.size gy _ ⟨(Hxo.out.below hb), (Hxp.out.below hb), (Hxq.out.below hb), (Hxu.out.below hb), (Below.on hbw hb), (Box.new W' _ _ _), hbw.size, (Nat.ne_of_gt Hxo.out.lt), (Nat.ne_of_gt Hxp.out.lt), (Nat.ne_of_gt Hxq.out.lt), (Nat.ne_of_gt Hxu.out.lt), (Hxy.out.below hb), Hhgy.out, Hdyo.out, Hdyp.out, Hdyq.out, Hdyu.out, (Nat.ne_of_gt Hxy.out.lt)⟩)
  have N2 : ∀ (W' : World), B5q W' go (.int .i64 9) (U ah) (U al) (U bh) (U bl) ∧ Box W' gp (.bool s4) (.slice (some ⟨g4, 0, none⟩) m4 m4) ∧ Box W' gq (.bool s6) (.slice (some ⟨g6, 0, none⟩) m6 m6) ∧ Box W' gu (.bool s5) (.slice (some ⟨g5, 0, none⟩) m5 m5) ∧ Below W6.heap.size W6 W' → WP 4 ((L0.setIfInBounds 2 true).setIfInBounds 5 true) ((a0.put (some 95) (.agg #[Fv ah, Fv al])).put (some 98) (.agg #[Fv bh, Fv bl])) W' := by
    rintro  W' ⟨xo, xp, xq, xu, hbw⟩
    subst hWP hL ha
    have Hxo := Hid.mk9 xo
    have Hxp := Hid.mk9 xp
    have Hxq := Hid.mk9 xq
    have Hxu := Hid.mk9 xu
    clear xo xp xq xu
    go_simp
    refine wpJ_two (i := 6) (k := 7) (by kernel_rfl) rfl rfl (by kernel_rfl) (by kernel_rfl) (fun KJ hK => ?_) (fun KJ hK => ?_)
    · go_simp
      have hb := below1 W' (.cells #[Fv 0, Fv 0] 32)
      refine hK _ _ ⟨(Hxo.out.below hb).c1, (Hxo.out.below hb).c2, (Hxo.out.below hb).c3, (Hxo.out.below hb).c4⟩ ?_
      exact wpJ_same (by kernel_rfl) (by kernel_rfl) (N2x W'.heap.size _ ⟨(Hxo.out.below hb), (Hxp.out.below hb), (Hxq.out.below hb), (Hxu.out.below hb), (Below.on hbw hb), (Box.new W' _ _ _), hbw.size, (Nat.ne_of_gt Hxo.out.lt), (Nat.ne_of_gt Hxp.out.lt), (Nat.ne_of_gt Hxq.out.lt), (Nat.ne_of_gt Hxu.out.lt)⟩)
    · go_simp
      have hb := below1 W' (.cells #[Fv 0, Fv 0] 32)
      refine hK _ _ ⟨(Hxo.out.below hb).c1, (Hxo.out.below hb).c2, (Hxo.out.below hb).c3, (Hxo.out.below hb).c4⟩ ?_
      exact wpJ_same (by kernel_rfl) (by kernel_rfl) (N2y W'.heap.size _ ⟨(Hxo.out.below hb), (Hxp.out.below hb), (Hxq.out.below hb), (Hxu.out.below hb), (Below.on hbw hb), (Box.new W' _ _ _), hbw.size, (Nat.ne_of_gt Hxo.out.lt), (Nat.ne_of_gt Hxp.out.lt), (Nat.ne_of_gt Hxq.out.lt), (Nat.ne_of_gt Hxu.out.lt)⟩)
  have N1xy : ∀ (gx : Nat) (gy : Nat) (W' : World), B5q W' go (.int .i64 9) (U ah) (U al) (U bh) (U bl) ∧ Box W' gp (.bool s4) (.slice (some ⟨g4, 0, none⟩) m4 m4) ∧ Box W' gq (.bool s6) (.slice (some ⟨g6, 0, none⟩) m6 m6) ∧ Box W' gu (.bool s5) (.slice (some ⟨g5, 0, none⟩) m5 m5) ∧ Below W6.heap.size W6 W' ∧ Box W' gx (Fv 0) (Fv 0) ∧ W6.heap.size ≤ gx ∧ gx ≠ go ∧ gx ≠ gp ∧ gx ≠ gq ∧ gx ≠ gu ∧ Box W' gy (Fv 0) (Fv 0) ∧ W6.heap.size ≤ gy ∧ gy ≠ go ∧ gy ≠ gp ∧ gy ≠ gq ∧ gy ≠ gu ∧ gx ≠ gy → WP 3 (((L0.setIfInBounds 2 true).setIfInBounds 6 true).setIfInBounds 7 true) (((a0.put (some 95) (.agg #[Fv ah, Fv al])).put (some 7) (.pointer (some ⟨gx, 0, none⟩))).put (some 8) (.pointer (some ⟨gy, 0, none⟩))) W' := by
    rintro gx gy W' ⟨xo, xp, xq, xu, hbw, xx, hgx, dxo, dxp, dxq, dxu, xy, hgy, dyo, dyp, dyq, dyu, dd⟩
    subst hWP hL ha
    have Hxo := Hid.mk9 xo
    have Hxp := Hid.mk9 xp
    have Hxq := Hid.mk9 xq
    have Hxu := Hid.mk9 xu
    have Hxx := Hid.mk9 xx
    have Hhgx := Hid.mk9 hgx
    have Hdxo := Hid.mk9 dxo
    have Hdxp := Hid.mk9 dxp
    have Hdxq := Hid.mk9 dxq
    have Hdxu := Hid.mk9 dxu
    have Hxy := Hid.mk9 xy
    have Hhgy := Hid.mk9 hgy
    have Hdyo := Hid.mk9 dyo
    have Hdyp := Hid.mk9 dyp
    have Hdyq := Hid.mk9 dyq
    have Hdyu := Hid.mk9 dyu
    have Hdd := Hid.mk9 dd
    clear xo xp xq xu xx hgx dxo dxp dxq dxu xy hgy dyo dyp dyq dyu dd
    go_simp
    refine wpJ_on 5 rfl fun KJ hK => ?_
    go_simp
    refine (P2 _).mono ?_
    rintro e W2 ⟨rfl, hb⟩
    refine hK _ _ ⟨(Hxo.out.below hb).c1, (Hxo.out.below hb).c2, (Hxo.out.below hb).c3, (Hxo.out.below hb).c4⟩ ?_
    exact wpJ_same (by kernel_rfl) (by kernel_rfl) (N2xy gx gy W2 ⟨(Hxo.out.below hb), (Hxp.out.below hb), (Hxq.out.below hb), (Hxu.out.below hb), (Below.on hbw hb), (Hxx.out.below hb), Hhgx.out, Hdxo.out, Hdxp.out, Hdxq.out, Hdxu.out, (Hxy.out.below hb), Hhgy.out, Hdyo.out, Hdyp.out, Hdyq.out, Hdyu.out, Hdd.out⟩)
  have N1x : ∀ (gx : Nat) (W' : World), B5q W' go (.int .i64 9) (U ah) (U al) (U bh) (U bl) ∧ Box W' gp (.bool s4) (.slice (some ⟨g4, 0, none⟩) m4 m4) ∧ Box W' gq (.bool s6) (.slice (some ⟨g6, 0, none⟩) m6 m6) ∧ Box W' gu (.bool s5) (.slice (some ⟨g5, 0, none⟩) m5 m5) ∧ Below W6.heap.size W6 W' ∧ Box W' gx (Fv 0) (Fv 0) ∧ W6.heap.size ≤ gx ∧ gx ≠ go ∧ gx ≠ gp ∧ gx ≠ gq ∧ gx ≠ gu → WP 4 ((L0.setIfInBounds 2 true).setIfInBounds 6 true) ((a0.put (some 95) (.agg #[Fv ah, Fv al])).put (some 7) (.pointer (some ⟨gx, 0, none⟩))) W' := by
    rintro gx W' ⟨xo, xp, xq, xu, hbw, xx, hgx, dxo, dxp, dxq, dxu⟩
    subst hWP hL ha
    have Hxo := Hid.mk9 xo
    have Hxp := Hid.mk9 xp
    have Hxq := Hid.mk9 xq
    have Hxu := Hid.mk9 xu
    have Hxx := Hid.mk9 xx
    have Hhgx := Hid.mk9 hgx
    have Hdxo := Hid.mk9 dxo
    have Hdxp := Hid.mk9 dxp
    have Hdxq := Hid.mk9 dxq
    have Hdxu := Hid.mk9 dxu
    clear xo xp xq xu xx hgx dxo dxp dxq dxu
    go_simp
    refine wpJ_two (i := 5) (k := 7) (by kernel_rfl) rfl rfl (by kernel_rfl) (by kernel_rfl) (fun KJ hK => ?_) (fun KJ hK => ?_)
    · go_simp
      refine (P2 _).mono ?_
      rintro e W2 ⟨rfl, hb⟩
      refine hK _ _ ⟨(Hxo.out.below hb).c1, (Hxo.out.below hb).c2, (Hxo.out.below hb).c3, (Hxo.out.below hb).c4⟩ ?_
      exact wpJ_same (by kernel_rfl) (by kernel_rfl) (N2x gx W2 ⟨(Hxo.out.below hb), (Hxp.out.below hb), (Hxq.out.below hb), (Hxu.out.below hb), (Below.on hbw hb), (Hxx.out.below hb), Hhgx.out, Hdxo.out, Hdxp.out, Hdxq.out, Hdxu.out⟩)
    · go_simp
      have hb := below1 W' (.cells #[Fv 0, Fv 0] 32)
      refine hK _ _ ⟨(Hxo.out.below hb).c1, (Hxo.out.below hb).c2, (Hxo.out.below hb).c3, (Hxo.out.below hb).c4⟩ ?_
      exact wpJ_same (by kernel_rfl) (by kernel_rfl) (N1xy gx W'.heap.size _ ⟨(Hxo.out.below hb), (Hxp.out.below hb), (Hxq.out.below hb), (Hxu.out.below hb), (Below.on hbw hb), (Hxx.out.below hb), Hhgx.out, Hdxo.out, Hdxp.out, Hdxq.out, Hdxu.out, (Box.new W' _ _ _), hbw.size, (Nat.ne_of_gt Hxo.out.lt), (Nat.ne_of_gt Hxp.out.lt), (Nat.ne_of_gt Hxq.out.lt), (Nat.ne_of_gt Hxu.out.lt), (Nat.ne_of_lt Hxx.out.lt)⟩)
  have N1y : ∀ (gy : Nat) (W' : World), B5q W' go (.int .i64 9) (U ah) (U al) (U bh) (U bl) ∧ Box W' gp (.bool s4) (.slice (some ⟨g4, 0, none⟩) m4 m4) ∧ Box W' gq (.bool s6) (.slice (some ⟨g6, 0, none⟩) m6 m6) ∧ Box W' gu (.bool s5) (.slice (some ⟨g5, 0, none⟩) m5 m5) ∧ Below W6.heap.size W6 W' ∧ Box W' gy (Fv 0) (Fv 0) ∧ W6.heap.size ≤ gy ∧ gy ≠ go ∧ gy ≠ gp ∧ gy ≠ gq ∧ gy ≠ gu → WP 4 ((L0.setIfInBounds 2 true).setIfInBounds 7 true) ((a0.put (some 95) (.agg #[Fv ah, Fv al])).put (some 8) (.pointer (some ⟨gy, 0, none⟩))) W' := by
    rintro gy W' ⟨xo, xp, xq, xu, hbw, xy, hgy, dyo, dyp, dyq, dyu⟩
    subst hWP hL ha
    have Hxo := Hid.mk9 xo
    have Hxp := Hid.mk9 xp
    have Hxq := Hid.mk9 xq
    have Hxu := Hid.mk9 xu
    have Hxy := Hid.mk9 xy
    have Hhgy := Hid.mk9 hgy
    have Hdyo := Hid.mk9 dyo
    have Hdyp := Hid.mk9 dyp
    have Hdyq := Hid.mk9 dyq
    have Hdyu := Hid.mk9 dyu
    clear xo xp xq xu xy hgy dyo dyp dyq dyu
    go_simp
    refine wpJ_two (i := 5) (k := 6) (by kernel_rfl) rfl rfl (by kernel_rfl) (by kernel_rfl) (fun KJ hK => ?_) (fun KJ hK => ?_)
    · go_simp
      refine (P2 _).mono ?_
      rintro e W2 ⟨rfl, hb⟩
      refine hK _ _ ⟨(Hxo.out.below hb).c1, (Hxo.out.below hb).c2, (Hxo.out.below hb).c3, (Hxo.out.below hb).c4⟩ ?_
      exact wpJ_same (by kernel_rfl) (by kernel_rfl) (N2y gy W2 ⟨(Hxo.out.below hb), (Hxp.out.below hb), (Hxq.out.below hb), (Hxu.out.below hb), (Below.on hbw hb), (Hxy.out.below hb), Hhgy.out, Hdyo.out, Hdyp.out, Hdyq.out, Hdyu.out⟩)
    · go_simp
      have hb := below1 W' (.cells #[Fv 0, Fv 0] 32)
      refine hK _ _ ⟨(Hxo.out.below hb).c1, (Hxo.out.below hb).c2, (Hxo.out.below hb).c3, (Hxo.out.below hb).c4⟩ ?_
      exact wpJ_same (by kernel_rfl) (by kernel_rfl) (N1xy W'.heap.size gy _ ⟨(Hxo.out.below hb), (Hxp.out.below hb), (Hxq.out.below hb), (Hxu.out.below hb), (Below.on hbw hb), (Box.new W' _ _ _), hbw.size, (Nat.ne_of_gt Hxo.out.lt), (Nat.ne_of_gt Hxp.out.lt), (Nat.ne_of_gt Hxq.out.lt), (Nat.ne_of_gt Hxu.out.lt), (Hxy.out.below hb), Hhgy.out, Hdyo.out, Hdyp.out, Hdyq.out, Hdyu.out, (Nat.ne_of_gt Hxy.out.lt)⟩)
  have N1 : ∀ (W' : World), B5q W' go (.int .i64 9) (U ah) (U al) (U bh) (U bl) ∧ Box W' gp (.bool s4) (.slice (some ⟨g4, 0, none⟩) m4 m4) ∧ Box W' gq (.bool s6) (.slice (some ⟨g6, 0, none⟩) m6 m6) ∧ Box W' gu (.bool s5) (.slice (some ⟨g5, 0, none⟩) m5 m5) ∧ Below W6.heap.size W6 W' → WP 5 (L0.setIfInBounds 2 true) (a0.put (some 95) (.agg #[Fv ah, Fv al])) W' := by
    rintro  W' ⟨xo, xp, xq, xu, hbw⟩
    subst hWP hL ha
    have Hxo := Hid.mk9 xo
    have Hxp := Hid.mk9 xp
    have Hxq := Hid.mk9 xq
    have Hxu := Hid.mk9 xu
    clear xo xp xq xu
    go_simp
    refine wpJ_three (i := 5) (k := 6) (l := 7) (by kernel_rfl) rfl rfl rfl (by kernel_rfl) (by kernel_rfl) (by kernel_rfl) (fun KJ hK => ?_) (fun KJ hK => ?_) (fun KJ hK => ?_)
    · go_simp
      refine (P2 _).mono ?_
      rintro e W2 ⟨rfl, hb⟩
      refine hK _ _ ⟨(Hxo.out.below hb).c1, (Hxo.out.below hb).c2, (Hxo.out.below hb).c3, (Hxo.out.below hb).c4⟩ ?_
      exact wpJ_same (by kernel_rfl) (by kernel_rfl) (N2  W2 ⟨(Hxo.out.below hb), (Hxp.out.below hb), (Hxq.out.below hb), (Hxu.out.below hb), (Below.on hbw hb)⟩)
    · go_simp
      have hb := below1 W' (.cells #[Fv 0, Fv 0] 32)
      refine hK _ _ ⟨(Hxo.out.below hb).c1, (Hxo.out.below hb).c2, (Hxo.out.below hb).c3, (Hxo.out.below hb).c4⟩ ?_
      exact wpJ_same (by kernel_rfl) (by kernel_rfl) (N1x W'.heap.size _ ⟨(Hxo.out.below hb), (Hxp.out.below hb), (Hxq.out.below hb), (Hxu.out.below hb), (Below.on hbw hb), (Box.new W' _ _ _), hbw.size, (Nat.ne_of_gt Hxo.out.lt), (Nat.ne_of_gt Hxp.out.lt), (Nat.ne_of_gt Hxq.out.lt), (Nat.ne_of_gt Hxu.out.lt)⟩)
    · go_simp
      have hb := below1 W' (.cells #[Fv 0, Fv 0] 32)
      refine hK _ _ ⟨(Hxo.out.below hb).c1, (Hxo.out.below hb).c2, (Hxo.out.below hb).c3, (Hxo.out.below hb).c4⟩ ?_
      exact wpJ_same (by kernel_rfl) (by kernel_rfl) (N1y W'.heap.size _ ⟨(Hxo.out.below hb), (Hxp.out.below hb), (Hxq.out.below hb), (Hxu.out.below hb), (Below.on hbw hb), (Box.new W' _ _ _), hbw.size, (Nat.ne_of_gt Hxo.out.lt), (Nat.ne_of_gt Hxp.out.lt), (Nat.ne_of_gt Hxq.out.lt), (Nat.ne_of_gt Hxu.out.lt)⟩)
  have N0xy : ∀ (gx : Nat) (gy : Nat) (W' : World), B5q W' go (.int .i64 9) (U ah) (U al) (U bh) (U bl) ∧ Box W' gp (.bool s4) (.slice (some ⟨g4, 0, none⟩) m4 m4) ∧ Box W' gq (.bool s6) (.slice (some ⟨g6, 0, none⟩) m6 m6) ∧ Box W' gu (.bool s5) (.slice (some ⟨g5, 0, none⟩) m5 m5) ∧ Below W6.heap.size W6 W' ∧ Box W' gx (Fv 0) (Fv 0) ∧ W6.heap.size ≤ gx ∧ gx ≠ go ∧ gx ≠ gp ∧ gx ≠ gq ∧ gx ≠ gu ∧ Box W' gy (Fv 0) (Fv 0) ∧ W6.heap.size ≤ gy ∧ gy ≠ go ∧ gy ≠ gp ∧ gy ≠ gq ∧ gy ≠ gu ∧ gx ≠ gy → WP 4 ((L0.setIfInBounds 6 true).setIfInBounds 7 true) ((a0.put (some 7) (.pointer (some ⟨gx, 0, none⟩))).put (some 8) (.pointer (some ⟨gy, 0, none⟩))) W' := by
    rintro gx gy W' ⟨xo, xp, xq, xu, hbw, xx, hgx, dxo, dxp, dxq, dxu, xy, hgy, dyo, dyp, dyq, dyu, dd⟩
    subst hWP hL ha
    have Hxo := Hid.mk9 xo
    have Hxp := Hid.mk9 xp
    have Hxq := Hid.mk9 xq
    have Hxu := Hid.mk9 xu
    have Hxx := Hid.mk9 xx
    have Hhgx := Hid.mk9 hgx
    have Hdxo := Hid.mk9 dxo
    have Hdxp := Hid.mk9 dxp
    have Hdxq := Hid.mk9 dxq
    have Hdxu := Hid.mk9 dxu
    have Hxy := Hid.mk9 xy
    have Hhgy := Hid.mk9 hgy
    have Hdyo := Hid.mk9 dyo
    have Hdyp := Hid.mk9 dyp
    have Hdyq := Hid.mk9 dyq
    have Hdyu := Hid.mk9 dyu
    have Hdd := Hid.mk9 dd
    clear xo xp xq xu xx hgx dxo dxp dxq dxu xy hgy dyo dyp dyq dyu dd
    go_simp
    refine wpJ_on 2 rfl fun KJ hK => ?_
    go_simp
    refine (P1 _).mono ?_
    rintro e W2 ⟨rfl, hb⟩
    refine hK _ _ ⟨(Hxo.out.below hb).c1, (Hxo.out.below hb).c2, (Hxo.out.below hb).c3, (Hxo.out.below hb).c4⟩ ?_
    exact wpJ_same (by kernel_rfl) (by kernel_rfl) (N1xy gx gy W2 ⟨(Hxo.out.below hb), (Hxp.out.below hb), (Hxq.out.below hb), (Hxu.out.below hb), (Below.on hbw hb), (Hxx.out.below hb), Hhgx.out, Hdxo.out, Hdxp.out, Hdxq.out, Hdxu.out, (Hxy.out.below hb), Hhgy.out, Hdyo.out, Hdyp.out, Hdyq.out, Hdyu.out, Hdd.out⟩)
  have N0x : ∀ (gx : Nat) (W' : World), B5q W' go (.int .i64 9) (U ah) (U al) (U bh) (U bl) ∧ Box W' gp (.bool s4) (.slice (some ⟨g4, 0, none⟩) m4 m4) ∧ Box W' gq (.bool s6) (.slice (some ⟨g6, 0, none⟩) m6 m6) ∧ Box W' gu (.bool s5) (.slice (some ⟨g5, 0, none⟩) m5 m5) ∧ Below W6.heap.size W6 W' ∧ Box W' gx (Fv 0) (Fv 0) ∧ W6.heap.size ≤ gx ∧ gx ≠ go ∧ gx ≠ gp ∧ gx ≠ gq ∧ gx ≠ gu → WP 5 (L0.setIfInBounds 6 true) (a0.put (some 7) (.pointer (some ⟨gx, 0, none⟩))) W' := by
    rintro gx W' ⟨xo, xp, xq, xu, hbw, xx, hgx, dxo, dxp, dxq, dxu⟩
    subst hWP hL ha
    have Hxo := Hid.mk9 xo
    have Hxp := Hid.mk9 xp
    have Hxq := Hid.mk9 xq
    have Hxu := Hid.mk9 xu
    have Hxx := Hid.mk9 xx
    have Hhgx := Hid.mk9 hgx
    have Hdxo := Hid.mk9 dxo
    have Hdxp := Hid.mk9 dxp
    have Hdxq := Hid.mk9 dxq
    have Hdxu := Hid.mk9 dxu
    clear xo xp xq xu xx hgx dxo dxp dxq dxu
    go_simp
    refine wpJ_two (i := 2) (k := 7) (by kernel_rfl) rfl rfl (by kernel_rfl) (by kernel_rfl) (fun KJ hK => ?_) (fun KJ hK => ?_)
    · go_simp
      refine (P1 _).mono ?_
      rintro e W2 ⟨rfl, hb⟩
      refine hK _ _ ⟨(Hxo.out.below hb).c1, (Hxo.out.below hb).c2, (Hxo.out.below hb).c3, (Hxo.out.below hb).c4⟩ ?_
      exact wpJ_same (by kernel_rfl) (by kernel_rfl) (N1x gx W2 ⟨(Hxo.out.below hb), (Hxp.out.below hb), (Hxq.out.below hb), (Hxu.out.below hb), (Below.on hbw hb), (Hxx.out.below hb), Hhgx.out, Hdxo.out, Hdxp.out, Hdxq.out, Hdxu.out⟩)
    · go_simp
      have hb := below1 W' (.cells #[Fv 0, Fv 0] 32)
      refine hK _ _ ⟨(Hxo.out.below hb).c1, (Hxo.out.below hb).c2, (Hxo.out.below hb).c3, (Hxo.out.below hb).c4⟩ ?_
      exact wpJ_same (by kernel_rfl) (by kernel_rfl) (N0xy gx W'.heap.size _ ⟨(Hxo.out.below hb), (Hxp.out.below hb), (Hxq.out.below hb), (Hxu.out.below hb), (Below.on hbw hb), (Hxx.out.below hb), Hhgx.out, Hdxo.out, Hdxp.out, Hdxq.out, Hdxu.out, (Box.new W' _ _ _), hbw.size, (Nat.ne_of_gt Hxo.out.lt), (Nat.ne_of_gt Hxp.out.lt), (Nat.ne_of_gt Hxq.out.lt), (Nat.ne_of_gt Hxu.out.lt), (Nat.ne_of_lt Hxx.out.lt)⟩)
  have N0y : ∀ (gy : Nat) (W' : World), B5q W' go (.int .i64 9) (U ah) (U al) (U bh) (U bl) ∧ Box W' gp (.bool s4) (.slice (some ⟨g4, 0, none⟩) m4 m4) ∧ Box W' gq (.bool s6) (.slice (some ⟨g6, 0, none⟩) m6 m6) ∧ Box W' gu (.bool s5) (.slice (some ⟨g5, 0, none⟩) m5 m5) ∧ Below W6.heap.size W6 W' ∧ Box W' gy (Fv 0) (Fv 0) ∧ W6.heap.size ≤ gy ∧ gy ≠ go ∧ gy ≠ gp ∧ gy ≠ gq ∧ gy ≠ gu → WP 5 (L0.setIfInBounds 7 true) (a0.put (some 8) (.pointer (some ⟨gy, 0, none⟩))) W' := by
    rintro gy W' ⟨xo, xp, xq, xu, hbw, xy, hgy, dyo, dyp, dyq, dyu⟩
    subst hWP hL ha
    have Hxo := Hid.mk9 xo
    have Hxp := Hid.mk9 xp
    have Hxq := Hid.mk9 xq
    have Hxu := Hid.mk9 xu
    have Hxy := Hid.mk9 xy
    have Hhgy := Hid.mk9 hgy
    have Hdyo := Hid.mk9 dyo
    have Hdyp := Hid.mk9 dyp
    have Hdyq := Hid.mk9 dyq
    have Hdyu := Hid.mk9 dyu
    clear xo xp xq xu xy hgy dyo dyp dyq dyu
    go_simp
    refine wpJ_two (i := 2) (k := 6) (by kernel_rfl) rfl rfl (by kernel_rfl) (by kernel_rfl) (fun KJ hK => ?_) (fun KJ hK => ?_)
    · go_simp
      refine (P1 _).mono ?_
      rintro e W2 ⟨rfl, hb⟩
      refine hK _ _ ⟨(Hxo.out.below hb).c1, (Hxo.out.below hb).c2, (Hxo.out.below hb).c3, (Hxo.out.below hb).c4⟩ ?_
      exact wpJ_same (by kernel_rfl) (by kernel_rfl) (N1y gy W2 ⟨(Hxo.out.below hb), (Hxp.out.below hb), (Hxq.out.below hb), (Hxu.out.below hb), (Below.on hbw hb), (Hxy.out.below hb), Hhgy.out, Hdyo.out, Hdyp.out, Hdyq.out, Hdyu.out⟩)
    · go_simp
      have hb := below1 W' (.cells #[Fv 0, Fv 0] 32)
      refine hK _ _ ⟨(Hxo.out.below hb).c1, (Hxo.out.below hb).c2, (Hxo.out.below hb).c3, (Hxo.out.below hb).c4⟩ ?_
      exact wpJ_same (by kernel_rfl) (by kernel_rfl) (N0xy W'.heap.size gy _ ⟨(Hxo.out.below hb), (Hxp.out.below hb), (Hxq.out.below hb), (Hxu.out.below hb), (Below.on hbw hb), (Box.new W' _ _ _), hbw.size, (Nat.ne_of_gt Hxo.out.lt), (Nat.ne_of_gt Hxp.out.lt), (Nat.ne_of_gt Hxq.out.lt), (Nat.ne_of_gt Hxu.out.lt), (Hxy.out.below hb), Hhgy.out, Hdyo.out, Hdyp.out, Hdyq.out, Hdyu.out, (Nat.ne_of_gt Hxy.out.lt)⟩)
  have N0 : ∀ (W' : World), B5q W' go (.int .i64 9) (U ah) (U al) (U bh) (U bl) ∧ Box W' gp (.bool s4) (.slice (some ⟨g4, 0, none⟩) m4 m4) ∧ Box W' gq (.bool s6) (.slice (some ⟨g6, 0, none⟩) m6 m6) ∧ Box W' gu (.bool s5) (.slice (some ⟨g5, 0, none⟩) m5 m5) ∧ Below W6.heap.size W6 W' → WP 6 L0 a0 W' := by
    rintro  W' ⟨xo, xp, xq, xu, hbw⟩
    subst hWP hL ha
    have Hxo := Hid.mk9 xo
    have Hxp := Hid.mk9 xp
    have Hxq := Hid.mk9 xq
    have Hxu := Hid.mk9 xu
    clear xo xp xq xu
    go_simp
    refine wpJ_three (i := 2) (k := 6) (l := 7) (by kernel_rfl) rfl rfl rfl (by kernel_rfl) (by kernel_rfl) (by kernel_rfl) (fun KJ hK => ?_) (fun KJ hK => ?_) (fun KJ hK => ?_)
    · go_simp
      refine (P1 _).mono ?_
      rintro e W2 ⟨rfl, hb⟩
      refine hK _ _ ⟨(Hxo.out.below hb).c1, (Hxo.out.below hb).c2, (Hxo.out.below hb).c3, (Hxo.out.below hb).c4⟩ ?_
      exact wpJ_same (by kernel_rfl) (by kernel_rfl) (N1  W2 ⟨(Hxo.out.below hb), (Hxp.out.below hb), (Hxq.out.below hb), (Hxu.out.below hb), (Below.on hbw hb)⟩)
    · go_simp
      have hb := below1 W' (.cells #[Fv 0, Fv 0] 32)
      refine hK _ _ ⟨(Hxo.out.below hb).c1, (Hxo.out.below hb).c2, (Hxo.out.below hb).c3, (Hxo.out.below hb).c4⟩ ?_
      exact wpJ_same (by kernel_rfl) (by kernel_rfl) (N0x W'.heap.size _ ⟨(Hxo.out.below hb), (Hxp.out.below hb), (Hxq.out.below hb), (Hxu.out.below hb), (Below.on hbw hb), (Box.new W' _ _ _), hbw.size, (Nat.ne_of_gt Hxo.out.lt), (Nat.ne_of_gt Hxp.out.lt), (Nat.ne_of_gt Hxq.out.lt), (Nat.ne_of_gt Hxu.out.lt)⟩)
    · go_simp
      have hb := below1 W' (.cells #[Fv 0, Fv 0] 32)
      refine hK _ _ ⟨(Hxo.out.below hb).c1, (Hxo.out.below hb).c2, (Hxo.out.below hb).c3, (Hxo.out.below hb).c4⟩ ?_
      exact wpJ_same (by kernel_rfl) (by kernel_rfl) (N0y W'.heap.size _ ⟨(Hxo.out.below hb), (Hxp.out.below hb), (Hxq.out.below hb), (Hxu.out.below hb), (Below.on hbw hb), (Box.new W' _ _ _), hbw.size, (Nat.ne_of_gt Hxo.out.lt), (Nat.ne_of_gt Hxp.out.lt), (Nat.ne_of_gt Hxq.out.lt), (Nat.ne_of_gt Hxu.out.lt)⟩)
  exact N0 V1 ⟨Xo.out, Xp.out, Xq.out, Xu.out, hbw⟩
end Go.Proofs.YtcibiadpdcncmaaGreatDoor
