import Derived.Test.YtcibiadpdcncmaaGreatDoorJ13
import Derived.Deep.LoopGhost
import Derived.Test.YtcibiadpdcncmaaGreatDoorOpenS
import Derived.Deep.Slices
namespace Go.Proofs.YtcibiadpdcncmaaGreatDoor
open Go.RowKit Go.Shelf
set_option maxRecDepth 20000
set_option maxHeartbeats 0
theorem wpJ_nodes {P : Program} {md : Region.Mode} {ops : Array Oper} {Q : Exit → Act → World → Prop} {J : World → Prop} {fuel : Nat} {listed : Array Bool} {a : Act} {w : World} (h : ∀ WP : Nat → Array Bool → Act → World → Prop, WP = wpJ P md ops Q J → ∀ L a0, L = listed → a0 = a → WP fuel L a0 w) : wpJ P md ops Q J fuel listed a w := h _ rfl _ _ rfl rfl
theorem wpJ_same {P : Program} {md : Region.Mode} {ops : Array Oper} {Q : Exit → Act → World → Prop} {J : World → Prop} {fuel : Nat} {L L' : Array Bool} {a a' : Act} {w : World} (h1 : L = L') (h2 : a = a') (h : wpJ P md ops Q J fuel L a w) : wpJ P md ops Q J fuel L' a' w := by
  subst h1 h2; exact h
theorem near_of {a x : Int} (h : 81129638414606681695789005144064 * (a - x).natAbs ≤ 8 * x.natAbs) : (a * 1 - x).natAbs * 2 ^ 103 ≤ x.natAbs := by
  rw [Int.mul_one, show (2 : Nat) ^ 103 = 10141204801825835211973625643008 by decide]
  omega
theorem reckons_7 {ah al bh bl : Nat} (h1 : ah < 18446744073709551616) (h2 : al < 18446744073709551616) (h3 : bh < 18446744073709551616) (h4 : bl < 18446744073709551616) (w : World) :
    Calls Tryz.prog 44 #[.agg #[.int .i64 7, U ah, U al, U bh, U bl]] w fun en w' => en = .returned (.bool true) ∧ Below w.heap.size w w' := by
  have hSF : ∀ (w : World) (a : Addr) (b : Nat), (store a (Fv b)).run Tryz.prog w = stored Tryz.prog w a (Fv b) .plain := stF
  have HL : Hid (ah < 18446744073709551616 ∧ al < 18446744073709551616 ∧ bh < 18446744073709551616 ∧ bl < 18446744073709551616) := ⟨h1, h2, h3, h4⟩
  clear h1 h2 h3 h4
  go_enter Tryz.func44, Tryz.ntmps44
  go_wp2_with fail
  obtain ⟨W0, hW0⟩ : ∃ W0, W0 = (w.alloc (.cells #[.int .i64 7, U ah, U al, U bh, U bl] 48)) := ⟨_, rfl⟩
  have Xo : Hid (B5q W0 (w.heap.size) (.int .i64 7) (U ah) (U al) (U bh) (U bl)) := by rw [hW0]; exact ⟨by go_simp, by go_simp, by go_simp, by go_simp, by go_simp, by go_simp, by go_simp, by go_simp, by go_simp, by go_simp⟩
  have hb0 : Below w.heap.size w W0 := by rw [hW0]; exact below1 w _
  rw [← hW0]
  clear hW0
  have hbw : Below w.heap.size w w := Below.refl _ _
  obtain ⟨go, hgo⟩ : ∃ g, g = w.heap.size := ⟨_, rfl⟩
  have HGo : Hid (w.heap.size ≤ go) := by rw [hgo]; show _ ≤ _; omega
  rw [← hgo] at Xo
  try rw [← hgo]
  clear hgo
  replace hbw := Below.on hbw hb0
  clear hb0
  obtain ⟨co0, co1, co2, co3, co4, fo0, fo1, fo2, fo3, fo4⟩ := Xo.out
  have hneo : go < W0.heap.size := World.block_lt_of_cell? W0 _ co0
  go_wp2_with fail
  clear co0 co1 co2 co3 co4 fo0 fo1 fo2 fo3 fo4 hneo
  refine (fit20 ah al HL.out.1 HL.out.2.1 _).mono ?_
  rintro en v1 ⟨⟨r, rfl, hr⟩, hb1⟩
  replace Xo : Hid _ := Xo.out.below hb1
  replace hbw := Below.on hbw hb1
  clear hb1
  cases r
  · clear hr
    obtain ⟨co0, co1, co2, co3, co4, fo0, fo1, fo2, fo3, fo4⟩ := Xo.out
    have hneo : go < v1.heap.size := World.block_lt_of_cell? v1 _ co0
    go_wp2_with fail
    clear co0 co1 co2 co3 co4 fo0 fo1 fo2 fo3 fo4 hneo
    go_ret
    exact ⟨rfl, hbw⟩
  have HC1 := Hid.mk9 (hr rfl)
  clear hr
  obtain ⟨co0, co1, co2, co3, co4, fo0, fo1, fo2, fo3, fo4⟩ := Xo.out
  have hneo : go < v1.heap.size := World.block_lt_of_cell? v1 _ co0
  go_wp2_with fail
  clear co0 co1 co2 co3 co4 fo0 fo1 fo2 fo3 fo4 hneo
  refine (fitfloat20 bh _).mono ?_
  rintro en v2 ⟨⟨r, rfl, hr⟩, hb2⟩
  replace Xo : Hid _ := Xo.out.below hb2
  replace hbw := Below.on hbw hb2
  clear hb2
  cases r
  · clear hr
    obtain ⟨co0, co1, co2, co3, co4, fo0, fo1, fo2, fo3, fo4⟩ := Xo.out
    have hneo : go < v2.heap.size := World.block_lt_of_cell? v2 _ co0
    go_wp2_with fail
    clear co0 co1 co2 co3 co4 fo0 fo1 fo2 fo3 fo4 hneo
    go_ret
    exact ⟨rfl, hbw⟩
  have HC2 := Hid.mk9 (hr rfl)
  clear hr
  obtain ⟨co0, co1, co2, co3, co4, fo0, fo1, fo2, fo3, fo4⟩ := Xo.out
  have hneo : go < v2.heap.size := World.block_lt_of_cell? v2 _ co0
  go_wp2_with fail
  clear co0 co1 co2 co3 co4 fo0 fo1 fo2 fo3 fo4 hneo
  refine (fit20 bh bl HL.out.2.2.1 HL.out.2.2.2 _).mono ?_
  rintro en v3 ⟨⟨r, rfl, hr⟩, hb3⟩
  replace Xo : Hid _ := Xo.out.below hb3
  replace hbw := Below.on hbw hb3
  clear hb3
  cases r
  · clear hr
    obtain ⟨co0, co1, co2, co3, co4, fo0, fo1, fo2, fo3, fo4⟩ := Xo.out
    have hneo : go < v3.heap.size := World.block_lt_of_cell? v3 _ co0
    go_wp2_with fail
    clear co0 co1 co2 co3 co4 fo0 fo1 fo2 fo3 fo4 hneo
    go_ret
    exact ⟨rfl, hbw⟩
  have HC3 := Hid.mk9 (hr rfl)
  clear hr
  obtain ⟨co0, co1, co2, co3, co4, fo0, fo1, fo2, fo3, fo4⟩ := Xo.out
  have hneo : go < v3.heap.size := World.block_lt_of_cell? v3 _ co0
  go_wp2_with fail
  clear co0 co1 co2 co3 co4 fo0 fo1 fo2 fo3 fo4 hneo
  refine (sum20 _).mono ?_
  rintro e v4 ⟨v, rfl, hv, hb4⟩
  obtain ⟨s4, g4, m4, rfl, hg4, hz4, hl4⟩ := hv
  try clear hv
  have HN4 : Hid (v3.heap.size ≤ g4) := hg4
  have HB4 : Hid (v3.heap.size ≤ v4.heap.size) := hb4.size
  replace Xo : Hid _ := Xo.out.below hb4
  replace hbw := Below.on hbw hb4
  clear hb4
  have Z4 : Hid (ZR v4 s4 (some ⟨g4, 0, none⟩) m4 (ux ah + ux al)) := hz4
  have HL4 : Hid (m4 ≤ 2201) := hl4
  clear hz4 hl4 hg4
  obtain ⟨co0, co1, co2, co3, co4, fo0, fo1, fo2, fo3, fo4⟩ := Xo.out
  have hneo : go < v4.heap.size := World.block_lt_of_cell? v4 _ co0
  go_wp2_with fail
  clear co0 co1 co2 co3 co4 fo0 fo1 fo2 fo3 fo4 hneo
  refine (one20 _).mono ?_
  rintro e v5 ⟨v, rfl, hv, hb5⟩
  obtain ⟨s5, g5, m5, rfl, hg5, hz5, hl5⟩ := hv
  try clear hv
  have HN5 : Hid (v4.heap.size ≤ g5) := hg5
  have HB5 : Hid (v4.heap.size ≤ v5.heap.size) := hb5.size
  replace Xo : Hid _ := Xo.out.below hb5
  replace Z4 : Hid _ := Z4.out.below hb5
  replace hbw := Below.on hbw hb5
  clear hb5
  have Z5 : Hid (ZR v5 s5 (some ⟨g5, 0, none⟩) m5 (iv false (2 ^ OneE))) := hz5
  have HL5 : Hid (m5 ≤ 40000) := hl5
  clear hz5 hl5 hg5
  obtain ⟨co0, co1, co2, co3, co4, fo0, fo1, fo2, fo3, fo4⟩ := Xo.out
  have hneo : go < v5.heap.size := World.block_lt_of_cell? v5 _ co0
  have q1 : ¬ go = v5.heap.size := by omega
  have q2 : ¬ go = v5.heap.size + 1 := by omega
  have q3 : ¬ go = v5.heap.size + 1 + 1 := by omega
  have l1 : go ≤ v5.heap.size := by omega
  have l2 : go ≤ v5.heap.size + 1 := by omega
  have l3 : go < v5.heap.size + 1 := by omega
  have l4 : go < v5.heap.size + 1 + 1 := by omega
  go_wp2_with fail
  clear q1 q2 q3 l1 l2 l3 l4
  clear co0 co1 co2 co3 co4 fo0 fo1 fo2 fo3 fo4 hneo
  have hgo5 : go < v5.heap.size := Xo.out.lt
  have HZ4 : Hid (ZR v5 s4 (some ⟨g4, 0, none⟩) m4 (ux ah + ux al)) := Z4.out
  clear Z4
  clear Z5
  have hbu : Below v5.heap.size v5 v5 := Below.refl _ _
  obtain ⟨W5, hW5⟩ : ∃ W9, W9 = (((v5.alloc (.cells #[.bool s4, .slice (some ⟨g4, 0, none⟩) m4 m4] 39)).alloc (.cells #[.bool false, .slice none 0 0] 39)).alloc (.cells #[.bool s5, .slice (some ⟨g5, 0, none⟩) m5 m5] 39)) := ⟨_, rfl⟩
  have Xp0 : Hid (Box W5 (v5.heap.size) (.bool s4) (.slice (some ⟨g4, 0, none⟩) m4 m4)) := by rw [hW5]; exact ⟨by go_simp, by go_simp, by go_simp, by go_simp⟩
  have Xq0 : Hid (Box W5 (v5.heap.size + 1) (.bool false) (.slice none 0 0)) := by rw [hW5]; exact ⟨by go_simp, by go_simp, by go_simp, by go_simp⟩
  have Xu0 : Hid (Box W5 (v5.heap.size + 1 + 1) (.bool s5) (.slice (some ⟨g5, 0, none⟩) m5 m5)) := by rw [hW5]; exact ⟨by go_simp, by go_simp, by go_simp, by go_simp⟩
  have hbn : Below v5.heap.size v5 W5 := by rw [hW5]; exact below3 v5 _ _ _
  rw [← hW5]
  clear hW5
  obtain ⟨gu, hgu⟩ : ∃ g, g = v5.heap.size + 1 + 1 := ⟨_, rfl⟩
  have HGu : Hid (w.heap.size ≤ gu) := by rw [hgu]; have := hbw.size; show _ ≤ _; omega
  rw [← hgu] at Xu0
  try rw [← hgu]
  obtain ⟨gq, hgq⟩ : ∃ g, g = v5.heap.size + 1 := ⟨_, rfl⟩
  have HGq : Hid (w.heap.size ≤ gq) := by rw [hgq]; have := hbw.size; show _ ≤ _; omega
  rw [← hgq] at Xq0
  try rw [← hgq]
  obtain ⟨gp, hgp⟩ : ∃ g, g = v5.heap.size := ⟨_, rfl⟩
  have HGp : Hid (w.heap.size ≤ gp) := by rw [hgp]; have := hbw.size; show _ ≤ _; omega
  rw [← hgp] at Xp0
  try rw [← hgp]
  have HGQ : Hid ((go ≠ gq ∧ gp ≠ gq ∧ gu ≠ gq) ∧ v5.heap.size ≤ gq) := by rw [hgp, hgq, hgu]; exact ⟨⟨by omega, by omega, by omega⟩, by omega⟩
  clear hgp hgq hgu
  have hbu' := Below.on hbu hbn
  clear hbu
  have hbu := hbu'
  clear hbu'
  replace Xo : Hid _ := Xo.out.below hbn
  replace hbw := Below.on hbw hbn
  clear hbn
  have Xp := Xp0
  clear Xp0
  have Xq := Xq0
  clear Xq0
  have Xu := Xu0
  clear Xu0
  clear hgo5
  have HQ5 : Hid (gq < W5.heap.size) := Xq.out.lt
  refine (sum20 _).mono ?_
  rintro e v6 ⟨v, rfl, hv, hb6⟩
  obtain ⟨s6, g6, m6, rfl, hg6, hz6, hl6⟩ := hv
  try clear hv
  have HN6 : Hid (W5.heap.size ≤ g6) := hg6
  have HB6 : Hid (W5.heap.size ≤ v6.heap.size) := hb6.size
  have hbu' := Below.on hbu hb6
  clear hbu
  have hbu := hbu'
  clear hbu'
  replace Xo : Hid _ := Xo.out.below hb6
  replace Xp : Hid _ := Xp.out.below hb6
  replace Xq : Hid _ := Xq.out.below hb6
  replace Xu : Hid _ := Xu.out.below hb6
  replace hbw := Below.on hbw hb6
  clear hb6
  have Z6 : Hid (ZR v6 s6 (some ⟨g6, 0, none⟩) m6 (ux bh + ux bl)) := hz6
  have HL6 : Hid (m6 ≤ 2201) := hl6
  clear hz6 hl6 hg6
  obtain ⟨⟨q1, q2, q3⟩, q4⟩ := HGQ.out
  have q5 := Ne.symm q1
  have q6 := Ne.symm q2
  have q7 := Ne.symm q3
  obtain ⟨co0, co1, co2, co3, co4, fo0, fo1, fo2, fo3, fo4⟩ := Xo.out
  have hneo : go < v6.heap.size := World.block_lt_of_cell? v6 _ co0
  obtain ⟨cp0, cp1, fp0, fp1⟩ := Xp.out
  have hnep := Xp.out.lt
  obtain ⟨cq0, cq1, fq0, fq1⟩ := Xq.out
  have hneq := Xq.out.lt
  obtain ⟨cu0, cu1, fu0, fu1⟩ := Xu.out
  have hneu := Xu.out.lt
  go_wp2_with fail
  obtain ⟨W6, hW6⟩ : ∃ W9, W9 = ((v6.setCell ⟨gq, 0, none⟩ (.bool s6)).setCell ⟨gq, 1, none⟩ (.slice (some ⟨g6, 0, none⟩) m6 m6)) := ⟨_, rfl⟩
  rw [← hW6]
  have Yo : Hid (B5q W6 go (.int .i64 7) (U ah) (U al) (U bh) (U bl)) := by rw [hW6]; exact ⟨by go_simp, by go_simp, by go_simp, by go_simp, by go_simp, by go_simp, by go_simp, by go_simp, by go_simp, by go_simp⟩
  have Yp : Hid (Box W6 gp (.bool s4) (.slice (some ⟨g4, 0, none⟩) m4 m4)) := by rw [hW6]; exact ⟨by go_simp, by go_simp, by go_simp, by go_simp⟩
  have Yq : Hid (Box W6 gq (.bool s6) (.slice (some ⟨g6, 0, none⟩) m6 m6)) := by rw [hW6]; exact ⟨by go_simp, by go_simp, by go_simp, by go_simp⟩
  clear co0 co1 co2 co3 co4 fo0 fo1 fo2 fo3 fo4 hneo
  clear cp0 cp1 fp0 fp1 hnep
  clear cq0 cq1 fq0 fq1 hneq
  clear cu0 cu1 fu0 fu1 hneu
  have HZ46 : Hid (ZR W6 s4 (some ⟨g4, 0, none⟩) m4 (ux ah + ux al) ∧ ZR W6 s6 (some ⟨g6, 0, none⟩) m6 (ux bh + ux bl)) := by
    have hne : g6 ≠ gq := by have h1 := HN6.out; have h2 := HQ5.out; omega
    rw [hW6]
    exact ⟨HZ4.out.below (bSet (bSet hbu _ _ _ q4) _ _ _ q4), (Z6.out.set _ _ _ hne).set _ _ _ hne⟩
  have HB6 : Hid (Below w.heap.size w W6) := by rw [hW6]; exact bSet (bSet hbw _ _ _ HGq.out) _ _ _ HGq.out
  clear hW6 hbw hbu q1 q2 q3 q4 q5 q6 q7 Xo Xp Xq Xu Z6 HZ4
  have hbw : Below W6.heap.size W6 W6 := Below.refl _ _
  have Xo := Yo
  have Xp := Yp
  have Xq := Yq
  clear Yo Yp Yq
  have P1 := lpair ah al
  have P2 := lpair bh bl
  obtain ⟨V1, hV1⟩ : ∃ W1, W1 = W6.drew := ⟨_, rfl⟩
  have hbd : Below W6.heap.size W6 V1 := by rw [hV1]; exact bDrew1 (Below.refl _ _)
  replace Xo : Hid _ := Xo.out.below hbd
  replace Xp : Hid _ := Xp.out.below hbd
  replace Xq : Hid _ := Xq.out.below hbd
  replace hbw := Below.on hbw hbd
  clear hbd
  have HJ : Hid ((fun W' : World => W'.cell? ⟨go, 1, none⟩ = some (U ah) ∧ W'.cell? ⟨go, 2, none⟩ = some (U al) ∧ W'.cell? ⟨go, 3, none⟩ = some (U bh) ∧ W'.cell? ⟨go, 4, none⟩ = some (U bl)) V1) := ⟨Xo.out.c1, Xo.out.c2, Xo.out.c3, Xo.out.c4⟩
  refine wp_region_J (fun W' => W'.cell? ⟨go, 1, none⟩ = some (U ah) ∧ W'.cell? ⟨go, 2, none⟩ = some (U al) ∧ W'.cell? ⟨go, 3, none⟩ = some (U bh) ∧ W'.cell? ⟨go, 4, none⟩ = some (U bl)) (by kernel_rfl) ?_
  rw [← hV1]
  clear hV1
  refine wpJ_tq 0 rfl HJ.out ?_
  refine wpJ_tq 1 rfl HJ.out ?_
  refine wpJ_tq 3 rfl HJ.out ?_
  refine wpJ_tq 4 rfl HJ.out ?_
  go_simp
  refine wpJ_nodes fun WP hWP L0 a0 hL ha => ?_
  have N2xy : ∀ (gx : Nat) (gy : Nat) (W' : World), B5q W' go (.int .i64 7) (U ah) (U al) (U bh) (U bl) ∧ Box W' gp (.bool s4) (.slice (some ⟨g4, 0, none⟩) m4 m4) ∧ Box W' gq (.bool s6) (.slice (some ⟨g6, 0, none⟩) m6 m6) ∧ Below W6.heap.size W6 W' ∧ Box W' gx (Fv 0) (Fv 0) ∧ W6.heap.size ≤ gx ∧ gx ≠ go ∧ gx ≠ gp ∧ gx ≠ gq ∧ Box W' gy (Fv 0) (Fv 0) ∧ W6.heap.size ≤ gy ∧ gy ≠ go ∧ gy ≠ gp ∧ gy ≠ gq ∧ gx ≠ gy → WP 2 ((((L0.setIfInBounds 2 true).setIfInBounds 5 true).setIfInBounds 6 true).setIfInBounds 7 true) ((((a0.put (some 95) (.agg #[Fv ah, Fv al])).put (some 98) (.agg #[Fv bh, Fv bl])).put (some 7) (.pointer (some ⟨gx, 0, none⟩))).put (some 8) (.pointer (some ⟨gy, 0, none⟩))) W' := by
    rintro gx gy W' ⟨xo, xp, xq, hbw, xx, hgx, dxo, dxp, dxq, xy, hgy, dyo, dyp, dyq, dd⟩
    subst hWP hL ha
    have Hxo := Hid.mk9 xo
    have Hxp := Hid.mk9 xp
    have Hxq := Hid.mk9 xq
    have Hxx := Hid.mk9 xx
    have Hhgx := Hid.mk9 hgx
    have Hdxo := Hid.mk9 dxo
    have Hdxp := Hid.mk9 dxp
    have Hdxq := Hid.mk9 dxq
    have Hxy := Hid.mk9 xy
    have Hhgy := Hid.mk9 hgy
    have Hdyo := Hid.mk9 dyo
    have Hdyp := Hid.mk9 dyp
    have Hdyq := Hid.mk9 dyq
    have Hdd := Hid.mk9 dd
    clear xo xp xq xx hgx dxo dxp dxq xy hgy dyo dyp dyq dd
    go_simp
    have Xo := Hxo
    have Xp := Hxp
    have Xq := Hxq
    have Xx := Hxx
    have Xy := Hxy
    clear Hxo Hxp Hxq Hxx Hxy
    have exo := Hdxo.out
    have exp := Hdxp.out
    have exq := Hdxq.out
    have eyo := Hdyo.out
    have eyp := Hdyp.out
    have eyq := Hdyq.out
    have fxo := Ne.symm exo
    have fxp := Ne.symm exp
    have fxq := Ne.symm exq
    have fyo := Ne.symm eyo
    have fyp := Ne.symm eyp
    have fyq := Ne.symm eyq
    have e5 := Hdd.out
    have f5 := Ne.symm e5
    have HGx : Hid (W6.heap.size ≤ gx) := Hhgx.out
    have HGy : Hid (W6.heap.size ≤ gy) := Hhgy.out
    obtain ⟨co0, co1, co2, co3, co4, fo0, fo1, fo2, fo3, fo4⟩ := Xo.out
    have hneo : go < W'.heap.size := World.block_lt_of_cell? W' _ co0
    obtain ⟨cx0, cx1, fx0, fx1⟩ := Xx.out
    have hnex := Xx.out.lt
    obtain ⟨cy0, cy1, fy0, fy1⟩ := Xy.out
    have hney := Xy.out.lt
    refine wpJ_on 8 rfl fun KJ hK => ?_
    go_simp
    refine hK _ _ ⟨by go_simp, by go_simp, by go_simp, by go_simp⟩ ?_
    clear hK
    refine wpJ_on 9 rfl fun KJ hK => ?_
    go_simp
    refine hK _ _ ⟨by go_simp, by go_simp, by go_simp, by go_simp⟩ ?_
    clear hK
    refine wpJ_done (by kernel_rfl) ?_ _
    clear co0 co1 co2 co3 co4 fo0 fo1 fo2 fo3 fo4 hneo
    clear cx0 cx1 fx0 fx1 hnex
    clear cy0 cy1 fy0 fy1 hney
    obtain ⟨co0, co1, co2, co3, co4, fo0, fo1, fo2, fo3, fo4⟩ := Xo.out
    have hneo : go < W'.heap.size := World.block_lt_of_cell? W' _ co0
    obtain ⟨cp0, cp1, fp0, fp1⟩ := Xp.out
    have hnep := Xp.out.lt
    obtain ⟨cq0, cq1, fq0, fq1⟩ := Xq.out
    have hneq := Xq.out.lt
    obtain ⟨cx0, cx1, fx0, fx1⟩ := Xx.out
    have hnex := Xx.out.lt
    obtain ⟨cy0, cy1, fy0, fy1⟩ := Xy.out
    have hney := Xy.out.lt
    obtain ⟨Wy, hWy⟩ : ∃ W9, W9 = ((((W'.setCell ⟨gx, 0, none⟩ (Fv ah)).setCell ⟨gx, 1, none⟩ (Fv al)).setCell ⟨gy, 0, none⟩ (Fv bh)).setCell ⟨gy, 1, none⟩ (Fv bl)) := ⟨_, rfl⟩
    have Yx : Hid (Box Wy gx (Fv ah) (Fv al)) := by rw [hWy]; exact ⟨by go_simp, by go_simp, by go_simp, by go_simp⟩
    have Yy : Hid (Box Wy gy (Fv bh) (Fv bl)) := by rw [hWy]; exact ⟨by go_simp, by go_simp, by go_simp, by go_simp⟩
    have Yo : Hid (B5q Wy go (.int .i64 7) (U ah) (U al) (U bh) (U bl)) := by rw [hWy]; exact ⟨by go_simp, by go_simp, by go_simp, by go_simp, by go_simp, by go_simp, by go_simp, by go_simp, by go_simp, by go_simp⟩
    have Yp : Hid (Box Wy gp (.bool s4) (.slice (some ⟨g4, 0, none⟩) m4 m4)) := by rw [hWy]; exact ⟨by go_simp, by go_simp, by go_simp, by go_simp⟩
    have Yq : Hid (Box Wy gq (.bool s6) (.slice (some ⟨g6, 0, none⟩) m6 m6)) := by rw [hWy]; exact ⟨by go_simp, by go_simp, by go_simp, by go_simp⟩
    clear co0 co1 co2 co3 co4 fo0 fo1 fo2 fo3 fo4 hneo
    clear cp0 cp1 fp0 fp1 hnep
    clear cq0 cq1 fq0 fq1 hneq
    clear cx0 cx1 fx0 fx1 hnex
    clear cy0 cy1 fy0 fy1 hney
    have hbw2 : Below W6.heap.size W6 Wy := by rw [hWy]; exact bSet (bSet (bSet (bSet hbw _ _ _ HGx.out) _ _ _ HGx.out) _ _ _ HGy.out) _ _ _ HGy.out
    rw [← hWy]
    clear hWy hbw Xo Xp Xq Xx Xy exo fxo exp fxp exq fxq eyo fyo eyp fyp eyq fyq e5 f5
    have hbw := Below.on HB6.out hbw2
    have ZA : Hid (ZR Wy s4 (some ⟨g4, 0, none⟩) m4 (ux ah + ux al)) := HZ46.out.1.below hbw2
    have ZB : Hid (ZR Wy s6 (some ⟨g6, 0, none⟩) m6 (ux bh + ux bl)) := HZ46.out.2.below hbw2
    clear hbw2
    have Xo := Yo
    have Xp := Yp
    have Xq := Yq
    have Xx := Yx
    have Xy := Yy
    clear Yo Yp Yq Yx Yy
    obtain ⟨co0, co1, co2, co3, co4, fo0, fo1, fo2, fo3, fo4⟩ := Xo.out
    have hneo : go < Wy.heap.size := World.block_lt_of_cell? Wy _ co0
    go_wp2_with fail
    clear co0 co1 co2 co3 co4 fo0 fo1 fo2 fo3 fo4 hneo
    obtain ⟨Wv, hWv⟩ : ∃ W1, W1 = Wy.drew := ⟨_, rfl⟩
    have hbd : Below Wy.heap.size Wy Wv := by rw [hWv]; exact bDrew1 (Below.refl _ _)
    replace Xo : Hid _ := Xo.out.below hbd
    replace Xp : Hid _ := Xp.out.below hbd
    replace Xq : Hid _ := Xq.out.below hbd
    replace Xx : Hid _ := Xx.out.below hbd
    replace Xy : Hid _ := Xy.out.below hbd
    replace ZA : Hid _ := ZA.out.below hbd
    replace ZB : Hid _ := ZB.out.below hbd
    replace hbw := Below.on hbw hbd
    clear hbd
    have HJ : Hid ((fun W' : World => W'.cell? ⟨gx, 0, none⟩ = some (Fv ah) ∧ W'.cell? ⟨gx, 1, none⟩ = some (Fv al) ∧ W'.cell? ⟨gy, 0, none⟩ = some (Fv bh) ∧ W'.cell? ⟨gy, 1, none⟩ = some (Fv bl) ∧ W'.cell? ⟨gp, 0, none⟩ = some (.bool s4) ∧ W'.cell? ⟨gp, 1, none⟩ = some (.slice (some ⟨g4, 0, none⟩) m4 m4) ∧ W'.cell? ⟨gq, 0, none⟩ = some (.bool s6) ∧ W'.cell? ⟨gq, 1, none⟩ = some (.slice (some ⟨g6, 0, none⟩) m6 m6)) Wv) := ⟨Xx.out.c0, Xx.out.c1, Xy.out.c0, Xy.out.c1, Xp.out.c0, Xp.out.c1, Xq.out.c0, Xq.out.c1⟩
    refine wp_region_J (fun W' => W'.cell? ⟨gx, 0, none⟩ = some (Fv ah) ∧ W'.cell? ⟨gx, 1, none⟩ = some (Fv al) ∧ W'.cell? ⟨gy, 0, none⟩ = some (Fv bh) ∧ W'.cell? ⟨gy, 1, none⟩ = some (Fv bl) ∧ W'.cell? ⟨gp, 0, none⟩ = some (.bool s4) ∧ W'.cell? ⟨gp, 1, none⟩ = some (.slice (some ⟨g4, 0, none⟩) m4 m4) ∧ W'.cell? ⟨gq, 0, none⟩ = some (.bool s6) ∧ W'.cell? ⟨gq, 1, none⟩ = some (.slice (some ⟨g6, 0, none⟩) m6 m6)) (by kernel_rfl) ?_
    rw [← hWv]
    clear hWv
    refine wpJ_tq 0 rfl HJ.out ?_
    refine wpJ_tq 1 rfl HJ.out ?_
    refine wpJ_tq 4 rfl HJ.out ?_
    refine wpJ_tq 5 rfl HJ.out ?_
    refine wpJ_on 2 rfl fun KJ hK => ?_
    go_simp
    refine (ddAdd_f HC1.out.1 HC3.out.1 HC1.out.2 HC3.out.2 _).mono ?_
    rintro e v9 ⟨s9, r9, rfl, hd9, hq9, hb9⟩
    have HR9 := Hid.mk9 (And.intro hd9 (near_of hq9))
    clear hd9 hq9
    replace Xo : Hid _ := Xo.out.below hb9
    replace Xp : Hid _ := Xp.out.below hb9
    replace Xq : Hid _ := Xq.out.below hb9
    replace Xx : Hid _ := Xx.out.below hb9
    replace Xy : Hid _ := Xy.out.below hb9
    replace ZA : Hid _ := ZA.out.below hb9
    replace ZB : Hid _ := ZB.out.below hb9
    replace hbw := Below.on hbw hb9
    clear hb9
    refine hK _ _ ⟨Xx.out.c0, Xx.out.c1, Xy.out.c0, Xy.out.c1, Xp.out.c0, Xp.out.c1, Xq.out.c0, Xq.out.c1⟩ ?_
    clear hK
    refine wpJ_on 3 rfl fun KJ hK => ?_
    go_simp
    refine (lbits s9 r9 _).mono ?_
    rintro e v10 ⟨rfl, hb10⟩
    replace Xo : Hid _ := Xo.out.below hb10
    replace Xp : Hid _ := Xp.out.below hb10
    replace Xq : Hid _ := Xq.out.below hb10
    replace Xx : Hid _ := Xx.out.below hb10
    replace Xy : Hid _ := Xy.out.below hb10
    replace ZA : Hid _ := ZA.out.below hb10
    replace ZB : Hid _ := ZB.out.below hb10
    replace hbw := Below.on hbw hb10
    clear hb10
    refine hK _ _ ⟨Xx.out.c0, Xx.out.c1, Xy.out.c0, Xy.out.c1, Xp.out.c0, Xp.out.c1, Xq.out.c0, Xq.out.c1⟩ ?_
    clear hK
    refine wpJ_on 6 rfl fun KJ hK => ?_
    go_simp
    refine (radd04 s4 s6 ZA.out ZB.out (by have := HL4.out; omega) (by have := HL6.out; omega)).mono ?_
    rintro e v11 ⟨v, rfl, hv, hb11⟩
    obtain ⟨s11, g11, m11, rfl, hg11, hz11, hl11⟩ := hv
    try clear hv
    have HN11 : Hid (v10.heap.size ≤ g11) := hg11
    have HB11 : Hid (v10.heap.size ≤ v11.heap.size) := hb11.size
    replace Xo : Hid _ := Xo.out.below hb11
    replace Xp : Hid _ := Xp.out.below hb11
    replace Xq : Hid _ := Xq.out.below hb11
    replace Xx : Hid _ := Xx.out.below hb11
    replace Xy : Hid _ := Xy.out.below hb11
    replace ZA : Hid _ := ZA.out.below hb11
    replace ZB : Hid _ := ZB.out.below hb11
    replace hbw := Below.on hbw hb11
    clear hb11
    have Z11 : Hid (ZR v11 s11 (some ⟨g11, 0, none⟩) m11 (ux ah + ux al + (ux bh + ux bl))) := hz11
    have HL11 : Hid (m11 ≤ max m4 m6 + 1) := hl11
    clear hz11 hl11 hg11
    refine hK _ _ ⟨Xx.out.c0, Xx.out.c1, Xy.out.c0, Xy.out.c1, Xp.out.c0, Xp.out.c1, Xq.out.c0, Xq.out.c1⟩ ?_
    clear hK
    refine wpJ_on 7 rfl fun KJ hK => ?_
    go_simp
    refine (rof04 1 _ (by decide) (by decide)).mono ?_
    rintro e v12 ⟨s12, g12, m12, rfl, hz12, hl12, hb12⟩
    replace Xo : Hid _ := Xo.out.below hb12
    replace Xp : Hid _ := Xp.out.below hb12
    replace Xq : Hid _ := Xq.out.below hb12
    replace Xx : Hid _ := Xx.out.below hb12
    replace Xy : Hid _ := Xy.out.below hb12
    replace ZA : Hid _ := ZA.out.below hb12
    replace ZB : Hid _ := ZB.out.below hb12
    replace Z11 : Hid _ := Z11.out.below hb12
    replace hbw := Below.on hbw hb12
    clear hb12
    have Z12 : Hid (ZR v12 s12 (some ⟨g12, 0, none⟩) m12 1) := hz12
    have HL12 : Hid (m12 ≤ 3) := hl12
    clear hz12 hl12
    refine hK _ _ ⟨Xx.out.c0, Xx.out.c1, Xy.out.c0, Xy.out.c1, Xp.out.c0, Xp.out.c1, Xq.out.c0, Xq.out.c1⟩ ?_
    clear hK
    refine wpJ_on 8 rfl fun KJ hK => ?_
    go_simp
    refine (near20 (k := 103) HR9.out.1 Z11.out Z12.out (by have := HL11.out; have := HL4.out; have := HL6.out; omega) (by have := HL12.out; omega) (by decide) HR9.out.2).mono ?_
    rintro e v13 ⟨rfl, hb13⟩
    replace Xo : Hid _ := Xo.out.below hb13
    replace Xp : Hid _ := Xp.out.below hb13
    replace Xq : Hid _ := Xq.out.below hb13
    replace Xx : Hid _ := Xx.out.below hb13
    replace Xy : Hid _ := Xy.out.below hb13
    replace ZA : Hid _ := ZA.out.below hb13
    replace ZB : Hid _ := ZB.out.below hb13
    replace Z11 : Hid _ := Z11.out.below hb13
    replace Z12 : Hid _ := Z12.out.below hb13
    replace hbw := Below.on hbw hb13
    clear hb13
    clear HJ
    have HJ : Hid ((fun W' : World => W'.cell? ⟨gx, 0, none⟩ = some (Fv ah) ∧ W'.cell? ⟨gx, 1, none⟩ = some (Fv al) ∧ W'.cell? ⟨gy, 0, none⟩ = some (Fv bh) ∧ W'.cell? ⟨gy, 1, none⟩ = some (Fv bl) ∧ W'.cell? ⟨gp, 0, none⟩ = some (.bool s4) ∧ W'.cell? ⟨gp, 1, none⟩ = some (.slice (some ⟨g4, 0, none⟩) m4 m4) ∧ W'.cell? ⟨gq, 0, none⟩ = some (.bool s6) ∧ W'.cell? ⟨gq, 1, none⟩ = some (.slice (some ⟨g6, 0, none⟩) m6 m6)) v13) := ⟨Xx.out.c0, Xx.out.c1, Xy.out.c0, Xy.out.c1, Xp.out.c0, Xp.out.c1, Xq.out.c0, Xq.out.c1⟩
    refine hK _ _ HJ.out ?_
    clear hK
    refine wpJ_tq 9 rfl HJ.out ?_
    refine wpJ_done (by kernel_rfl) ?_ _
    clear HJ
    go_wp2_with fail
    go_ret
    exact ⟨rfl, hbw⟩
  have N2x : ∀ (gx : Nat) (W' : World), B5q W' go (.int .i64 7) (U ah) (U al) (U bh) (U bl) ∧ Box W' gp (.bool s4) (.slice (some ⟨g4, 0, none⟩) m4 m4) ∧ Box W' gq (.bool s6) (.slice (some ⟨g6, 0, none⟩) m6 m6) ∧ Below W6.heap.size W6 W' ∧ Box W' gx (Fv 0) (Fv 0) ∧ W6.heap.size ≤ gx ∧ gx ≠ go ∧ gx ≠ gp ∧ gx ≠ gq → WP 3 (((L0.setIfInBounds 2 true).setIfInBounds 5 true).setIfInBounds 6 true) (((a0.put (some 95) (.agg #[Fv ah, Fv al])).put (some 98) (.agg #[Fv bh, Fv bl])).put (some 7) (.pointer (some ⟨gx, 0, none⟩))) W' := by
    rintro gx W' ⟨xo, xp, xq, hbw, xx, hgx, dxo, dxp, dxq⟩
    subst hWP hL ha
    have Hxo := Hid.mk9 xo
    have Hxp := Hid.mk9 xp
    have Hxq := Hid.mk9 xq
    have Hxx := Hid.mk9 xx
    have Hhgx := Hid.mk9 hgx
    have Hdxo := Hid.mk9 dxo
    have Hdxp := Hid.mk9 dxp
    have Hdxq := Hid.mk9 dxq
    clear xo xp xq xx hgx dxo dxp dxq
    go_simp
    refine wpJ_on 7 rfl fun KJ hK => ?_
    go_simp
    have hb := below1 W' (.cells #[Fv 0, Fv 0] 32)
    refine hK _ _ ⟨(Hxo.out.below hb).c1, (Hxo.out.below hb).c2, (Hxo.out.below hb).c3, (Hxo.out.below hb).c4⟩ ?_
    exact wpJ_same (by kernel_rfl) (by kernel_rfl) (N2xy gx W'.heap.size _ ⟨(Hxo.out.below hb), (Hxp.out.below hb), (Hxq.out.below hb), (Below.on hbw hb), (Hxx.out.below hb), Hhgx.out, Hdxo.out, Hdxp.out, Hdxq.out, (Box.new W' _ _ _), hbw.size, (Nat.ne_of_gt Hxo.out.lt), (Nat.ne_of_gt Hxp.out.lt), (Nat.ne_of_gt Hxq.out.lt), (Nat.ne_of_lt Hxx.out.lt)⟩)
  have N2y : ∀ (gy : Nat) (W' : World), B5q W' go (.int .i64 7) (U ah) (U al) (U bh) (U bl) ∧ Box W' gp (.bool s4) (.slice (some ⟨g4, 0, none⟩) m4 m4) ∧ Box W' gq (.bool s6) (.slice (some ⟨g6, 0, none⟩) m6 m6) ∧ Below W6.heap.size W6 W' ∧ Box W' gy (Fv 0) (Fv 0) ∧ W6.heap.size ≤ gy ∧ gy ≠ go ∧ gy ≠ gp ∧ gy ≠ gq → WP 3 (((L0.setIfInBounds 2 true).setIfInBounds 5 true).setIfInBounds 7 true) (((a0.put (some 95) (.agg #[Fv ah, Fv al])).put (some 98) (.agg #[Fv bh, Fv bl])).put (some 8) (.pointer (some ⟨gy, 0, none⟩))) W' := by
    rintro gy W' ⟨xo, xp, xq, hbw, xy, hgy, dyo, dyp, dyq⟩
    subst hWP hL ha
    have Hxo := Hid.mk9 xo
    have Hxp := Hid.mk9 xp
    have Hxq := Hid.mk9 xq
    have Hxy := Hid.mk9 xy
    have Hhgy := Hid.mk9 hgy
    have Hdyo := Hid.mk9 dyo
    have Hdyp := Hid.mk9 dyp
    have Hdyq := Hid.mk9 dyq
    clear xo xp xq xy hgy dyo dyp dyq
    go_simp
    refine wpJ_on 6 rfl fun KJ hK => ?_
    go_simp
    have hb := below1 W' (.cells #[Fv 0, Fv 0] 32)
    refine hK _ _ ⟨(Hxo.out.below hb).c1, (Hxo.out.below hb).c2, (Hxo.out.below hb).c3, (Hxo.out.below hb).c4⟩ ?_
    exact wpJ_same (by kernel_rfl) (by kernel_rfl) (N2xy W'.heap.size gy _ ⟨(Hxo.out.below hb), (Hxp.out.below hb), (Hxq.out.below hb), (Below.on hbw hb), (Box.new W' _ _ _), hbw.size, (Nat.ne_of_gt Hxo.out.lt), (Nat.ne_of_gt Hxp.out.lt), (Nat.ne_of_gt Hxq.out.lt), (Hxy.out.below hb), Hhgy.out, Hdyo.out, Hdyp.out, Hdyq.out, (Nat.ne_of_gt Hxy.out.lt)⟩)
  have N2 : ∀ (W' : World), B5q W' go (.int .i64 7) (U ah) (U al) (U bh) (U bl) ∧ Box W' gp (.bool s4) (.slice (some ⟨g4, 0, none⟩) m4 m4) ∧ Box W' gq (.bool s6) (.slice (some ⟨g6, 0, none⟩) m6 m6) ∧ Below W6.heap.size W6 W' → WP 4 ((L0.setIfInBounds 2 true).setIfInBounds 5 true) ((a0.put (some 95) (.agg #[Fv ah, Fv al])).put (some 98) (.agg #[Fv bh, Fv bl])) W' := by
    rintro  W' ⟨xo, xp, xq, hbw⟩
    subst hWP hL ha
    have Hxo := Hid.mk9 xo
    have Hxp := Hid.mk9 xp
    have Hxq := Hid.mk9 xq
    clear xo xp xq
    go_simp
    refine wpJ_two (i := 6) (k := 7) (by kernel_rfl) rfl rfl (by kernel_rfl) (by kernel_rfl) (fun KJ hK => ?_) (fun KJ hK => ?_)
    · go_simp
      have hb := below1 W' (.cells #[Fv 0, Fv 0] 32)
      refine hK _ _ ⟨(Hxo.out.below hb).c1, (Hxo.out.below hb).c2, (Hxo.out.below hb).c3, (Hxo.out.below hb).c4⟩ ?_
      exact wpJ_same (by kernel_rfl) (by kernel_rfl) (N2x W'.heap.size _ ⟨(Hxo.out.below hb), (Hxp.out.below hb), (Hxq.out.below hb), (Below.on hbw hb), (Box.new W' _ _ _), hbw.size, (Nat.ne_of_gt Hxo.out.lt), (Nat.ne_of_gt Hxp.out.lt), (Nat.ne_of_gt Hxq.out.lt)⟩)
    · go_simp
      have hb := below1 W' (.cells #[Fv 0, Fv 0] 32)
      refine hK _ _ ⟨(Hxo.out.below hb).c1, (Hxo.out.below hb).c2, (Hxo.out.below hb).c3, (Hxo.out.below hb).c4⟩ ?_
      exact wpJ_same (by kernel_rfl) (by kernel_rfl) (N2y W'.heap.size _ ⟨(Hxo.out.below hb), (Hxp.out.below hb), (Hxq.out.below hb), (Below.on hbw hb), (Box.new W' _ _ _), hbw.size, (Nat.ne_of_gt Hxo.out.lt), (Nat.ne_of_gt Hxp.out.lt), (Nat.ne_of_gt Hxq.out.lt)⟩)
  have N1xy : ∀ (gx : Nat) (gy : Nat) (W' : World), B5q W' go (.int .i64 7) (U ah) (U al) (U bh) (U bl) ∧ Box W' gp (.bool s4) (.slice (some ⟨g4, 0, none⟩) m4 m4) ∧ Box W' gq (.bool s6) (.slice (some ⟨g6, 0, none⟩) m6 m6) ∧ Below W6.heap.size W6 W' ∧ Box W' gx (Fv 0) (Fv 0) ∧ W6.heap.size ≤ gx ∧ gx ≠ go ∧ gx ≠ gp ∧ gx ≠ gq ∧ Box W' gy (Fv 0) (Fv 0) ∧ W6.heap.size ≤ gy ∧ gy ≠ go ∧ gy ≠ gp ∧ gy ≠ gq ∧ gx ≠ gy → WP 3 (((L0.setIfInBounds 2 true).setIfInBounds 6 true).setIfInBounds 7 true) (((a0.put (some 95) (.agg #[Fv ah, Fv al])).put (some 7) (.pointer (some ⟨gx, 0, none⟩))).put (some 8) (.pointer (some ⟨gy, 0, none⟩))) W' := by
    rintro gx gy W' ⟨xo, xp, xq, hbw, xx, hgx, dxo, dxp, dxq, xy, hgy, dyo, dyp, dyq, dd⟩
    subst hWP hL ha
    have Hxo := Hid.mk9 xo
    have Hxp := Hid.mk9 xp
    have Hxq := Hid.mk9 xq
    have Hxx := Hid.mk9 xx
    have Hhgx := Hid.mk9 hgx
    have Hdxo := Hid.mk9 dxo
    have Hdxp := Hid.mk9 dxp
    have Hdxq := Hid.mk9 dxq
    have Hxy := Hid.mk9 xy
    have Hhgy := Hid.mk9 hgy
    have Hdyo := Hid.mk9 dyo
    have Hdyp := Hid.mk9 dyp
    have Hdyq := Hid.mk9 dyq
    have Hdd := Hid.mk9 dd
    clear xo xp xq xx hgx dxo dxp dxq xy hgy dyo dyp dyq dd
    go_simp
    refine wpJ_on 5 rfl fun KJ hK => ?_
    go_simp
    refine (P2 _).mono ?_
    rintro e W2 ⟨rfl, hb⟩
    refine hK _ _ ⟨(Hxo.out.below hb).c1, (Hxo.out.below hb).c2, (Hxo.out.below hb).c3, (Hxo.out.below hb).c4⟩ ?_
    exact wpJ_same (by kernel_rfl) (by kernel_rfl) (N2xy gx gy W2 ⟨(Hxo.out.below hb), (Hxp.out.below hb), (Hxq.out.below hb), (Below.on hbw hb), (Hxx.out.below hb), Hhgx.out, Hdxo.out, Hdxp.out, Hdxq.out, (Hxy.out.below hb), Hhgy.out, Hdyo.out, Hdyp.out, Hdyq.out, Hdd.out⟩)
  have N1x : ∀ (gx : Nat) (W' : World), B5q W' go (.int .i64 7) (U ah) (U al) (U bh) (U bl) ∧ Box W' gp (.bool s4) (.slice (some ⟨g4, 0, none⟩) m4 m4) ∧ Box W' gq (.bool s6) (.slice (some ⟨g6, 0, none⟩) m6 m6) ∧ Below W6.heap.size W6 W' ∧ Box W' gx (Fv 0) (Fv 0) ∧ W6.heap.size ≤ gx ∧ gx ≠ go ∧ gx ≠ gp ∧ gx ≠ gq → WP 4 ((L0.setIfInBounds 2 true).setIfInBounds 6 true) ((a0.put (some 95) (.agg #[Fv ah, Fv al])).put (some 7) (.pointer (some ⟨gx, 0, none⟩))) W' := by
    rintro gx W' ⟨xo, xp, xq, hbw, xx, hgx, dxo, dxp, dxq⟩
    subst hWP hL ha
    have Hxo := Hid.mk9 xo
    have Hxp := Hid.mk9 xp
    have Hxq := Hid.mk9 xq
    have Hxx := Hid.mk9 xx
    have Hhgx := Hid.mk9 hgx
    have Hdxo := Hid.mk9 dxo
    have Hdxp := Hid.mk9 dxp
    have Hdxq := Hid.mk9 dxq
    clear xo xp xq xx hgx dxo dxp dxq
    go_simp
    refine wpJ_two (i := 5) (k := 7) (by kernel_rfl) rfl rfl (by kernel_rfl) (by kernel_rfl) (fun KJ hK => ?_) (fun KJ hK => ?_)
    · go_simp
      refine (P2 _).mono ?_
      rintro e W2 ⟨rfl, hb⟩
      refine hK _ _ ⟨(Hxo.out.below hb).c1, (Hxo.out.below hb).c2, (Hxo.out.below hb).c3, (Hxo.out.below hb).c4⟩ ?_
      exact wpJ_same (by kernel_rfl) (by kernel_rfl) (N2x gx W2 ⟨(Hxo.out.below hb), (Hxp.out.below hb), (Hxq.out.below hb), (Below.on hbw hb), (Hxx.out.below hb), Hhgx.out, Hdxo.out, Hdxp.out, Hdxq.out⟩)
    · go_simp
      have hb := below1 W' (.cells #[Fv 0, Fv 0] 32)
      refine hK _ _ ⟨(Hxo.out.below hb).c1, (Hxo.out.below hb).c2, (Hxo.out.below hb).c3, (Hxo.out.below hb).c4⟩ ?_
      exact wpJ_same (by kernel_rfl) (by kernel_rfl) (N1xy gx W'.heap.size _ ⟨(Hxo.out.below hb), (Hxp.out.below hb), (Hxq.out.below hb), (Below.on hbw hb), (Hxx.out.below hb), Hhgx.out, Hdxo.out, Hdxp.out, Hdxq.out, (Box.new W' _ _ _), hbw.size, (Nat.ne_of_gt Hxo.out.lt), (Nat.ne_of_gt Hxp.out.lt), (Nat.ne_of_gt Hxq.out.lt), (Nat.ne_of_lt Hxx.out.lt)⟩)
  have N1y : ∀ (gy : Nat) (W' : World), B5q W' go (.int .i64 7) (U ah) (U al) (U bh) (U bl) ∧ Box W' gp (.bool s4) (.slice (some ⟨g4, 0, none⟩) m4 m4) ∧ Box W' gq (.bool s6) (.slice (some ⟨g6, 0, none⟩) m6 m6) ∧ Below W6.heap.size W6 W' ∧ Box W' gy (Fv 0) (Fv 0) ∧ W6.heap.size ≤ gy ∧ gy ≠ go ∧ gy ≠ gp ∧ gy ≠ gq → WP 4 ((L0.setIfInBounds 2 true).setIfInBounds 7 true) ((a0.put (some 95) (.agg #[Fv ah, Fv al])).put (some 8) (.pointer (some ⟨gy, 0, none⟩))) W' := by
    rintro gy W' ⟨xo, xp, xq, hbw, xy, hgy, dyo, dyp, dyq⟩
    subst hWP hL ha
    have Hxo := Hid.mk9 xo
    have Hxp := Hid.mk9 xp
    have Hxq := Hid.mk9 xq
    have Hxy := Hid.mk9 xy
    have Hhgy := Hid.mk9 hgy
    have Hdyo := Hid.mk9 dyo
    have Hdyp := Hid.mk9 dyp
    have Hdyq := Hid.mk9 dyq
    clear xo xp xq xy hgy dyo dyp dyq
    go_simp
    refine wpJ_two (i := 5) (k := 6) (by kernel_rfl) rfl rfl (by kernel_rfl) (by kernel_rfl) (fun KJ hK => ?_) (fun KJ hK => ?_)
    · go_simp
      refine (P2 _).mono ?_
      rintro e W2 ⟨rfl, hb⟩
      refine hK _ _ ⟨(Hxo.out.below hb).c1, (Hxo.out.below hb).c2, (Hxo.out.below hb).c3, (Hxo.out.below hb).c4⟩ ?_
      exact wpJ_same (by kernel_rfl) (by kernel_rfl) (N2y gy W2 ⟨(Hxo.out.below hb), (Hxp.out.below hb), (Hxq.out.below hb), (Below.on hbw hb), (Hxy.out.below hb), Hhgy.out, Hdyo.out, Hdyp.out, Hdyq.out⟩)
    · go_simp
      have hb := below1 W' (.cells #[Fv 0, Fv 0] 32)
      refine hK _ _ ⟨(Hxo.out.below hb).c1, (Hxo.out.below hb).c2, (Hxo.out.below hb).c3, (Hxo.out.below hb).c4⟩ ?_
      exact wpJ_same (by kernel_rfl) (by kernel_rfl) (N1xy W'.heap.size gy _ ⟨(Hxo.out.below hb), (Hxp.out.below hb), (Hxq.out.below hb), (Below.on hbw hb), (Box.new W' _ _ _), hbw.size, (Nat.ne_of_gt Hxo.out.lt), (Nat.ne_of_gt Hxp.out.lt), (Nat.ne_of_gt Hxq.out.lt), (Hxy.out.below hb), Hhgy.out, Hdyo.out, Hdyp.out, Hdyq.out, (Nat.ne_of_gt Hxy.out.lt)⟩)
  have N1 : ∀ (W' : World), B5q W' go (.int .i64 7) (U ah) (U al) (U bh) (U bl) ∧ Box W' gp (.bool s4) (.slice (some ⟨g4, 0, none⟩) m4 m4) ∧ Box W' gq (.bool s6) (.slice (some ⟨g6, 0, none⟩) m6 m6) ∧ Below W6.heap.size W6 W' → WP 5 (L0.setIfInBounds 2 true) (a0.put (some 95) (.agg #[Fv ah, Fv al])) W' := by
    rintro  W' ⟨xo, xp, xq, hbw⟩
    subst hWP hL ha
    have Hxo := Hid.mk9 xo
    have Hxp := Hid.mk9 xp
    have Hxq := Hid.mk9 xq
    clear xo xp xq
    go_simp
    refine wpJ_three (i := 5) (k := 6) (l := 7) (by kernel_rfl) rfl rfl rfl (by kernel_rfl) (by kernel_rfl) (by kernel_rfl) (fun KJ hK => ?_) (fun KJ hK => ?_) (fun KJ hK => ?_)
    · go_simp
      refine (P2 _).mono ?_
      rintro e W2 ⟨rfl, hb⟩
      refine hK _ _ ⟨(Hxo.out.below hb).c1, (Hxo.out.below hb).c2, (Hxo.out.below hb).c3, (Hxo.out.below hb).c4⟩ ?_
      exact wpJ_same (by kernel_rfl) (by kernel_rfl) (N2  W2 ⟨(Hxo.out.below hb), (Hxp.out.below hb), (Hxq.out.below hb), (Below.on hbw hb)⟩)
    · go_simp
      have hb := below1 W' (.cells #[Fv 0, Fv 0] 32)
      refine hK _ _ ⟨(Hxo.out.below hb).c1, (Hxo.out.below hb).c2, (Hxo.out.below hb).c3, (Hxo.out.below hb).c4⟩ ?_
      exact wpJ_same (by kernel_rfl) (by kernel_rfl) (N1x W'.heap.size _ ⟨(Hxo.out.below hb), (Hxp.out.below hb), (Hxq.out.below hb), (Below.on hbw hb), (Box.new W' _ _ _), hbw.size, (Nat.ne_of_gt Hxo.out.lt), (Nat.ne_of_gt Hxp.out.lt), (Nat.ne_of_gt Hxq.out.lt)⟩)
    · go_simp
      have hb := below1 W' (.cells #[Fv 0, Fv 0] 32)
      refine hK _ _ ⟨(Hxo.out.below hb).c1, (Hxo.out.below hb).c2, (Hxo.out.below hb).c3, (Hxo.out.below hb).c4⟩ ?_
      exact wpJ_same (by kernel_rfl) (by kernel_rfl) (N1y W'.heap.size _ ⟨(Hxo.out.below hb), (Hxp.out.below hb), (Hxq.out.below hb), (Below.on hbw hb), (Box.new W' _ _ _), hbw.size, (Nat.ne_of_gt Hxo.out.lt), (Nat.ne_of_gt Hxp.out.lt), (Nat.ne_of_gt Hxq.out.lt)⟩)
  have N0xy : ∀ (gx : Nat) (gy : Nat) (W' : World), B5q W' go (.int .i64 7) (U ah) (U al) (U bh) (U bl) ∧ Box W' gp (.bool s4) (.slice (some ⟨g4, 0, none⟩) m4 m4) ∧ Box W' gq (.bool s6) (.slice (some ⟨g6, 0, none⟩) m6 m6) ∧ Below W6.heap.size W6 W' ∧ Box W' gx (Fv 0) (Fv 0) ∧ W6.heap.size ≤ gx ∧ gx ≠ go ∧ gx ≠ gp ∧ gx ≠ gq ∧ Box W' gy (Fv 0) (Fv 0) ∧ W6.heap.size ≤ gy ∧ gy ≠ go ∧ gy ≠ gp ∧ gy ≠ gq ∧ gx ≠ gy → WP 4 ((L0.setIfInBounds 6 true).setIfInBounds 7 true) ((a0.put (some 7) (.pointer (some ⟨gx, 0, none⟩))).put (some 8) (.pointer (some ⟨gy, 0, none⟩))) W' := by
    rintro gx gy W' ⟨xo, xp, xq, hbw, xx, hgx, dxo, dxp, dxq, xy, hgy, dyo, dyp, dyq, dd⟩
    subst hWP hL ha
    have Hxo := Hid.mk9 xo
    have Hxp := Hid.mk9 xp
    have Hxq := Hid.mk9 xq
    have Hxx := Hid.mk9 xx
    have Hhgx := Hid.mk9 hgx
    have Hdxo := Hid.mk9 dxo
    have Hdxp := Hid.mk9 dxp
    have Hdxq := Hid.mk9 dxq
    have Hxy := Hid.mk9 xy
    have Hhgy := Hid.mk9 hgy
    have Hdyo := Hid.mk9 dyo
    have Hdyp := Hid.mk9 dyp
    have Hdyq := Hid.mk9 dyq
    have Hdd := Hid.mk9 dd
    clear xo xp xq xx hgx dxo dxp dxq xy hgy dyo dyp dyq dd
    go_simp
    refine wpJ_on 2 rfl fun KJ hK => ?_
    go_simp
    refine (P1 _).mono ?_
    rintro e W2 ⟨rfl, hb⟩
    refine hK _ _ ⟨(Hxo.out.below hb).c1, (Hxo.out.below hb).c2, (Hxo.out.below hb).c3, (Hxo.out.below hb).c4⟩ ?_
    exact wpJ_same (by kernel_rfl) (by kernel_rfl) (N1xy gx gy W2 ⟨(Hxo.out.below hb), (Hxp.out.below hb), (Hxq.out.below hb), (Below.on hbw hb), (Hxx.out.below hb), Hhgx.out, Hdxo.out, Hdxp.out, Hdxq.out, (Hxy.out.below hb), Hhgy.out, Hdyo.out, Hdyp.out, Hdyq.out, Hdd.out⟩)
  have N0x : ∀ (gx : Nat) (W' : World), B5q W' go (.int .i64 7) (U ah) (U al) (U bh) (U bl) ∧ Box W' gp (.bool s4) (.slice (some ⟨g4, 0, none⟩) m4 m4) ∧ Box W' gq (.bool s6) (.slice (some ⟨g6, 0, none⟩) m6 m6) ∧ Below W6.heap.size W6 W' ∧ Box W' gx (Fv 0) (Fv 0) ∧ W6.heap.size ≤ gx ∧ gx ≠ go ∧ gx ≠ gp ∧ gx ≠ gq → WP 5 (L0.setIfInBounds 6 true) (a0.put (some 7) (.pointer (some ⟨gx, 0, none⟩))) W' := by
    rintro gx W' ⟨xo, xp, xq, hbw, xx, hgx, dxo, dxp, dxq⟩
    subst hWP hL ha
    have Hxo := Hid.mk9 xo
    have Hxp := Hid.mk9 xp
    have Hxq := Hid.mk9 xq
    have Hxx := Hid.mk9 xx
    have Hhgx := Hid.mk9 hgx
    have Hdxo := Hid.mk9 dxo
    have Hdxp := Hid.mk9 dxp
    have Hdxq := Hid.mk9 dxq
    clear xo xp xq xx hgx dxo dxp dxq
    go_simp
    refine wpJ_two (i := 2) (k := 7) (by kernel_rfl) rfl rfl (by kernel_rfl) (by kernel_rfl) (fun KJ hK => ?_) (fun KJ hK => ?_)
    · go_simp
      refine (P1 _).mono ?_
      rintro e W2 ⟨rfl, hb⟩
      refine hK _ _ ⟨(Hxo.out.below hb).c1, (Hxo.out.below hb).c2, (Hxo.out.below hb).c3, (Hxo.out.below hb).c4⟩ ?_
      exact wpJ_same (by kernel_rfl) (by kernel_rfl) (N1x gx W2 ⟨(Hxo.out.below hb), (Hxp.out.below hb), (Hxq.out.below hb), (Below.on hbw hb), (Hxx.out.below hb), Hhgx.out, Hdxo.out, Hdxp.out, Hdxq.out⟩)
    · go_simp
      have hb := below1 W' (.cells #[Fv 0, Fv 0] 32)
      refine hK _ _ ⟨(Hxo.out.below hb).c1, (Hxo.out.below hb).c2, (Hxo.out.below hb).c3, (Hxo.out.below hb).c4⟩ ?_
      exact wpJ_same (by kernel_rfl) (by kernel_rfl) (N0xy gx W'.heap.size _ ⟨(Hxo.out.below hb), (Hxp.out.below hb), (Hxq.out.below hb), (Below.on hbw hb), (Hxx.out.below hb), Hhgx.out, Hdxo.out, Hdxp.out, Hdxq.out, (Box.new W' _ _ _), hbw.size, (Nat.ne_of_gt Hxo.out.lt), (Nat.ne_of_gt Hxp.out.lt), (Nat.ne_of_gt Hxq.out.lt), (Nat.ne_of_lt Hxx.out.lt)⟩)
  have N0y : ∀ (gy : Nat) (W' : World), B5q W' go (.int .i64 7) (U ah) (U al) (U bh) (U bl) ∧ Box W' gp (.bool s4) (.slice (some ⟨g4, 0, none⟩) m4 m4) ∧ Box W' gq (.bool s6) (.slice (some ⟨g6, 0, none⟩) m6 m6) ∧ Below W6.heap.size W6 W' ∧ Box W' gy (Fv 0) (Fv 0) ∧ W6.heap.size ≤ gy ∧ gy ≠ go ∧ gy ≠ gp ∧ gy ≠ gq → WP 5 (L0.setIfInBounds 7 true) (a0.put (some 8) (.pointer (some ⟨gy, 0, none⟩))) W' := by
    rintro gy W' ⟨xo, xp, xq, hbw, xy, hgy, dyo, dyp, dyq⟩
    subst hWP hL ha
    have Hxo := Hid.mk9 xo
    have Hxp := Hid.mk9 xp
    have Hxq := Hid.mk9 xq
    have Hxy := Hid.mk9 xy
    have Hhgy := Hid.mk9 hgy
    have Hdyo := Hid.mk9 dyo
    have Hdyp := Hid.mk9 dyp
    have Hdyq := Hid.mk9 dyq
    clear xo xp xq xy hgy dyo dyp dyq
    go_simp
    refine wpJ_two (i := 2) (k := 6) (by kernel_rfl) rfl rfl (by kernel_rfl) (by kernel_rfl) (fun KJ hK => ?_) (fun KJ hK => ?_)
    · go_simp
      refine (P1 _).mono ?_
      rintro e W2 ⟨rfl, hb⟩
      refine hK _ _ ⟨(Hxo.out.below hb).c1, (Hxo.out.below hb).c2, (Hxo.out.below hb).c3, (Hxo.out.below hb).c4⟩ ?_
      exact wpJ_same (by kernel_rfl) (by kernel_rfl) (N1y gy W2 ⟨(Hxo.out.below hb), (Hxp.out.below hb), (Hxq.out.below hb), (Below.on hbw hb), (Hxy.out.below hb), Hhgy.out, Hdyo.out, Hdyp.out, Hdyq.out⟩)
    · go_simp
      have hb := below1 W' (.cells #[Fv 0, Fv 0] 32)
      refine hK _ _ ⟨(Hxo.out.below hb).c1, (Hxo.out.below hb).c2, (Hxo.out.below hb).c3, (Hxo.out.below hb).c4⟩ ?_
      exact wpJ_same (by kernel_rfl) (by kernel_rfl) (N0xy W'.heap.size gy _ ⟨(Hxo.out.below hb), (Hxp.out.below hb), (Hxq.out.below hb), (Below.on hbw hb), (Box.new W' _ _ _), hbw.size, (Nat.ne_of_gt Hxo.out.lt), (Nat.ne_of_gt Hxp.out.lt), (Nat.ne_of_gt Hxq.out.lt), (Hxy.out.below hb), Hhgy.out, Hdyo.out, Hdyp.out, Hdyq.out, (Nat.ne_of_gt Hxy.out.lt)⟩)
  have N0 : ∀ (W' : World), B5q W' go (.int .i64 7) (U ah) (U al) (U bh) (U bl) ∧ Box W' gp (.bool s4) (.slice (some ⟨g4, 0, none⟩) m4 m4) ∧ Box W' gq (.bool s6) (.slice (some ⟨g6, 0, none⟩) m6 m6) ∧ Below W6.heap.size W6 W' → WP 6 L0 a0 W' := by
    rintro  W' ⟨xo, xp, xq, hbw⟩
    subst hWP hL ha
    have Hxo := Hid.mk9 xo
    have Hxp := Hid.mk9 xp
    have Hxq := Hid.mk9 xq
    clear xo xp xq
    go_simp
    refine wpJ_three (i := 2) (k := 6) (l := 7) (by kernel_rfl) rfl rfl rfl (by kernel_rfl) (by kernel_rfl) (by kernel_rfl) (fun KJ hK => ?_) (fun KJ hK => ?_) (fun KJ hK => ?_)
    · go_simp
      refine (P1 _).mono ?_
      rintro e W2 ⟨rfl, hb⟩
      refine hK _ _ ⟨(Hxo.out.below hb).c1, (Hxo.out.below hb).c2, (Hxo.out.below hb).c3, (Hxo.out.below hb).c4⟩ ?_
      exact wpJ_same (by kernel_rfl) (by kernel_rfl) (N1  W2 ⟨(Hxo.out.below hb), (Hxp.out.below hb), (Hxq.out.below hb), (Below.on hbw hb)⟩)
    · go_simp
      have hb := below1 W' (.cells #[Fv 0, Fv 0] 32)
      refine hK _ _ ⟨(Hxo.out.below hb).c1, (Hxo.out.below hb).c2, (Hxo.out.below hb).c3, (Hxo.out.below hb).c4⟩ ?_
      exact wpJ_same (by kernel_rfl) (by kernel_rfl) (N0x W'.heap.size _ ⟨(Hxo.out.below hb), (Hxp.out.below hb), (Hxq.out.below hb), (Below.on hbw hb), (Box.new W' _ _ _), hbw.size, (Nat.ne_of_gt Hxo.out.lt), (Nat.ne_of_gt Hxp.out.lt), (Nat.ne_of_gt Hxq.out.lt)⟩)
    · go_simp
      have hb := below1 W' (.cells #[Fv 0, Fv 0] 32)
      refine hK _ _ ⟨(Hxo.out.below hb).c1, (Hxo.out.below hb).c2, (Hxo.out.below hb).c3, (Hxo.out.below hb).c4⟩ ?_
      exact wpJ_same (by kernel_rfl) (by kernel_rfl) (N0y W'.heap.size _ ⟨(Hxo.out.below hb), (Hxp.out.below hb), (Hxq.out.below hb), (Below.on hbw hb), (Box.new W' _ _ _), hbw.size, (Nat.ne_of_gt Hxo.out.lt), (Nat.ne_of_gt Hxp.out.lt), (Nat.ne_of_gt Hxq.out.lt)⟩)
  exact N0 V1 ⟨Xo.out, Xp.out, Xq.out, hbw⟩
theorem reckons_8 {ah al bh bl : Nat} (h1 : ah < 18446744073709551616) (h2 : al < 18446744073709551616) (h3 : bh < 18446744073709551616) (h4 : bl < 18446744073709551616) (w : World) :
    Calls Tryz.prog 44 #[.agg #[.int .i64 8, U ah, U al, U bh, U bl]] w fun en w' => en = .returned (.bool true) ∧ Below w.heap.size w w' := by
  have hSF : ∀ (w : World) (a : Addr) (b : Nat), (store a (Fv b)).run Tryz.prog w = stored Tryz.prog w a (Fv b) .plain := stF
  have HL : Hid (ah < 18446744073709551616 ∧ al < 18446744073709551616 ∧ bh < 18446744073709551616 ∧ bl < 18446744073709551616) := ⟨h1, h2, h3, h4⟩
  clear h1 h2 h3 h4
  go_enter Tryz.func44, Tryz.ntmps44
  go_wp2_with fail
  obtain ⟨W0, hW0⟩ : ∃ W0, W0 = (w.alloc (.cells #[.int .i64 8, U ah, U al, U bh, U bl] 48)) := ⟨_, rfl⟩
  have Xo : Hid (B5q W0 (w.heap.size) (.int .i64 8) (U ah) (U al) (U bh) (U bl)) := by rw [hW0]; exact ⟨by go_simp, by go_simp, by go_simp, by go_simp, by go_simp, by go_simp, by go_simp, by go_simp, by go_simp, by go_simp⟩
  have hb0 : Below w.heap.size w W0 := by rw [hW0]; exact below1 w _
  rw [← hW0]
  clear hW0
  have hbw : Below w.heap.size w w := Below.refl _ _
  obtain ⟨go, hgo⟩ : ∃ g, g = w.heap.size := ⟨_, rfl⟩
  have HGo : Hid (w.heap.size ≤ go) := by rw [hgo]; show _ ≤ _; omega
  rw [← hgo] at Xo
  try rw [← hgo]
  clear hgo
  replace hbw := Below.on hbw hb0
  clear hb0
  obtain ⟨co0, co1, co2, co3, co4, fo0, fo1, fo2, fo3, fo4⟩ := Xo.out
  have hneo : go < W0.heap.size := World.block_lt_of_cell? W0 _ co0
  go_wp2_with fail
  clear co0 co1 co2 co3 co4 fo0 fo1 fo2 fo3 fo4 hneo
  refine (fit20 ah al HL.out.1 HL.out.2.1 _).mono ?_
  rintro en v1 ⟨⟨r, rfl, hr⟩, hb1⟩
  replace Xo : Hid _ := Xo.out.below hb1
  replace hbw := Below.on hbw hb1
  clear hb1
  cases r
  · clear hr
    obtain ⟨co0, co1, co2, co3, co4, fo0, fo1, fo2, fo3, fo4⟩ := Xo.out
    have hneo : go < v1.heap.size := World.block_lt_of_cell? v1 _ co0
    go_wp2_with fail
    clear co0 co1 co2 co3 co4 fo0 fo1 fo2 fo3 fo4 hneo
    go_ret
    exact ⟨rfl, hbw⟩
  have HC1 := Hid.mk9 (hr rfl)
  clear hr
  obtain ⟨co0, co1, co2, co3, co4, fo0, fo1, fo2, fo3, fo4⟩ := Xo.out
  have hneo : go < v1.heap.size := World.block_lt_of_cell? v1 _ co0
  go_wp2_with fail
  clear co0 co1 co2 co3 co4 fo0 fo1 fo2 fo3 fo4 hneo
  refine (fitfloat20 bh _).mono ?_
  rintro en v2 ⟨⟨r, rfl, hr⟩, hb2⟩
  replace Xo : Hid _ := Xo.out.below hb2
  replace hbw := Below.on hbw hb2
  clear hb2
  cases r
  · clear hr
    obtain ⟨co0, co1, co2, co3, co4, fo0, fo1, fo2, fo3, fo4⟩ := Xo.out
    have hneo : go < v2.heap.size := World.block_lt_of_cell? v2 _ co0
    go_wp2_with fail
    clear co0 co1 co2 co3 co4 fo0 fo1 fo2 fo3 fo4 hneo
    go_ret
    exact ⟨rfl, hbw⟩
  have HC2 := Hid.mk9 (hr rfl)
  clear hr
  obtain ⟨co0, co1, co2, co3, co4, fo0, fo1, fo2, fo3, fo4⟩ := Xo.out
  have hneo : go < v2.heap.size := World.block_lt_of_cell? v2 _ co0
  go_wp2_with fail
  clear co0 co1 co2 co3 co4 fo0 fo1 fo2 fo3 fo4 hneo
  refine (fit20 bh bl HL.out.2.2.1 HL.out.2.2.2 _).mono ?_
  rintro en v3 ⟨⟨r, rfl, hr⟩, hb3⟩
  replace Xo : Hid _ := Xo.out.below hb3
  replace hbw := Below.on hbw hb3
  clear hb3
  cases r
  · clear hr
    obtain ⟨co0, co1, co2, co3, co4, fo0, fo1, fo2, fo3, fo4⟩ := Xo.out
    have hneo : go < v3.heap.size := World.block_lt_of_cell? v3 _ co0
    go_wp2_with fail
    clear co0 co1 co2 co3 co4 fo0 fo1 fo2 fo3 fo4 hneo
    go_ret
    exact ⟨rfl, hbw⟩
  have HC3 := Hid.mk9 (hr rfl)
  clear hr
  obtain ⟨co0, co1, co2, co3, co4, fo0, fo1, fo2, fo3, fo4⟩ := Xo.out
  have hneo : go < v3.heap.size := World.block_lt_of_cell? v3 _ co0
  go_wp2_with fail
  clear co0 co1 co2 co3 co4 fo0 fo1 fo2 fo3 fo4 hneo
  refine (sum20 _).mono ?_
  rintro e v4 ⟨v, rfl, hv, hb4⟩
  obtain ⟨s4, g4, m4, rfl, hg4, hz4, hl4⟩ := hv
  try clear hv
  have HN4 : Hid (v3.heap.size ≤ g4) := hg4
  have HB4 : Hid (v3.heap.size ≤ v4.heap.size) := hb4.size
  replace Xo : Hid _ := Xo.out.below hb4
  replace hbw := Below.on hbw hb4
  clear hb4
  have Z4 : Hid (ZR v4 s4 (some ⟨g4, 0, none⟩) m4 (ux ah + ux al)) := hz4
  have HL4 : Hid (m4 ≤ 2201) := hl4
  clear hz4 hl4 hg4
  obtain ⟨co0, co1, co2, co3, co4, fo0, fo1, fo2, fo3, fo4⟩ := Xo.out
  have hneo : go < v4.heap.size := World.block_lt_of_cell? v4 _ co0
  go_wp2_with fail
  clear co0 co1 co2 co3 co4 fo0 fo1 fo2 fo3 fo4 hneo
  refine (one20 _).mono ?_
  rintro e v5 ⟨v, rfl, hv, hb5⟩
  obtain ⟨s5, g5, m5, rfl, hg5, hz5, hl5⟩ := hv
  try clear hv
  have HN5 : Hid (v4.heap.size ≤ g5) := hg5
  have HB5 : Hid (v4.heap.size ≤ v5.heap.size) := hb5.size
  replace Xo : Hid _ := Xo.out.below hb5
  replace Z4 : Hid _ := Z4.out.below hb5
  replace hbw := Below.on hbw hb5
  clear hb5
  have Z5 : Hid (ZR v5 s5 (some ⟨g5, 0, none⟩) m5 (iv false (2 ^ OneE))) := hz5
  have HL5 : Hid (m5 ≤ 40000) := hl5
  clear hz5 hl5 hg5
  obtain ⟨co0, co1, co2, co3, co4, fo0, fo1, fo2, fo3, fo4⟩ := Xo.out
  have hneo : go < v5.heap.size := World.block_lt_of_cell? v5 _ co0
  have q1 : ¬ go = v5.heap.size := by omega
  have q2 : ¬ go = v5.heap.size + 1 := by omega
  have q3 : ¬ go = v5.heap.size + 1 + 1 := by omega
  have l1 : go ≤ v5.heap.size := by omega
  have l2 : go ≤ v5.heap.size + 1 := by omega
  have l3 : go < v5.heap.size + 1 := by omega
  have l4 : go < v5.heap.size + 1 + 1 := by omega
  go_wp2_with fail
  clear q1 q2 q3 l1 l2 l3 l4
  clear co0 co1 co2 co3 co4 fo0 fo1 fo2 fo3 fo4 hneo
  have hgo5 : go < v5.heap.size := Xo.out.lt
  have HZ4 : Hid (ZR v5 s4 (some ⟨g4, 0, none⟩) m4 (ux ah + ux al)) := Z4.out
  clear Z4
  clear Z5
  have hbu : Below v5.heap.size v5 v5 := Below.refl _ _
  obtain ⟨W5, hW5⟩ : ∃ W9, W9 = (((v5.alloc (.cells #[.bool s4, .slice (some ⟨g4, 0, none⟩) m4 m4] 39)).alloc (.cells #[.bool false, .slice none 0 0] 39)).alloc (.cells #[.bool s5, .slice (some ⟨g5, 0, none⟩) m5 m5] 39)) := ⟨_, rfl⟩
  have Xp0 : Hid (Box W5 (v5.heap.size) (.bool s4) (.slice (some ⟨g4, 0, none⟩) m4 m4)) := by rw [hW5]; exact ⟨by go_simp, by go_simp, by go_simp, by go_simp⟩
  have Xq0 : Hid (Box W5 (v5.heap.size + 1) (.bool false) (.slice none 0 0)) := by rw [hW5]; exact ⟨by go_simp, by go_simp, by go_simp, by go_simp⟩
  have Xu0 : Hid (Box W5 (v5.heap.size + 1 + 1) (.bool s5) (.slice (some ⟨g5, 0, none⟩) m5 m5)) := by rw [hW5]; exact ⟨by go_simp, by go_simp, by go_simp, by go_simp⟩
  have hbn : Below v5.heap.size v5 W5 := by rw [hW5]; exact below3 v5 _ _ _
  rw [← hW5]
  clear hW5
  obtain ⟨gu, hgu⟩ : ∃ g, g = v5.heap.size + 1 + 1 := ⟨_, rfl⟩
  have HGu : Hid (w.heap.size ≤ gu) := by rw [hgu]; have := hbw.size; show _ ≤ _; omega
  rw [← hgu] at Xu0
  try rw [← hgu]
  obtain ⟨gq, hgq⟩ : ∃ g, g = v5.heap.size + 1 := ⟨_, rfl⟩
  have HGq : Hid (w.heap.size ≤ gq) := by rw [hgq]; have := hbw.size; show _ ≤ _; omega
  rw [← hgq] at Xq0
  try rw [← hgq]
  obtain ⟨gp, hgp⟩ : ∃ g, g = v5.heap.size := ⟨_, rfl⟩
  have HGp : Hid (w.heap.size ≤ gp) := by rw [hgp]; have := hbw.size; show _ ≤ _; omega
  rw [← hgp] at Xp0
  try rw [← hgp]
  have HGQ : Hid ((go ≠ gq ∧ gp ≠ gq ∧ gu ≠ gq) ∧ v5.heap.size ≤ gq) := by rw [hgp, hgq, hgu]; exact ⟨⟨by omega, by omega, by omega⟩, by omega⟩
  clear hgp hgq hgu
  have hbu' := Below.on hbu hbn
  clear hbu
  have hbu := hbu'
  clear hbu'
  replace Xo : Hid _ := Xo.out.below hbn
  replace hbw := Below.on hbw hbn
  clear hbn
  have Xp := Xp0
  clear Xp0
  have Xq := Xq0
  clear Xq0
  have Xu := Xu0
  clear Xu0
  clear hgo5
  have HQ5 : Hid (gq < W5.heap.size) := Xq.out.lt
  refine (sum20 _).mono ?_
  rintro e v6 ⟨v, rfl, hv, hb6⟩
  obtain ⟨s6, g6, m6, rfl, hg6, hz6, hl6⟩ := hv
  try clear hv
  have HN6 : Hid (W5.heap.size ≤ g6) := hg6
  have HB6 : Hid (W5.heap.size ≤ v6.heap.size) := hb6.size
  have hbu' := Below.on hbu hb6
  clear hbu
  have hbu := hbu'
  clear hbu'
  replace Xo : Hid _ := Xo.out.below hb6
  replace Xp : Hid _ := Xp.out.below hb6
  replace Xq : Hid _ := Xq.out.below hb6
  replace Xu : Hid _ := Xu.out.below hb6
  replace hbw := Below.on hbw hb6
  clear hb6
  have Z6 : Hid (ZR v6 s6 (some ⟨g6, 0, none⟩) m6 (ux bh + ux bl)) := hz6
  have HL6 : Hid (m6 ≤ 2201) := hl6
  clear hz6 hl6 hg6
  obtain ⟨⟨q1, q2, q3⟩, q4⟩ := HGQ.out
  have q5 := Ne.symm q1
  have q6 := Ne.symm q2
  have q7 := Ne.symm q3
  obtain ⟨co0, co1, co2, co3, co4, fo0, fo1, fo2, fo3, fo4⟩ := Xo.out
  have hneo : go < v6.heap.size := World.block_lt_of_cell? v6 _ co0
  obtain ⟨cp0, cp1, fp0, fp1⟩ := Xp.out
  have hnep := Xp.out.lt
  obtain ⟨cq0, cq1, fq0, fq1⟩ := Xq.out
  have hneq := Xq.out.lt
  obtain ⟨cu0, cu1, fu0, fu1⟩ := Xu.out
  have hneu := Xu.out.lt
  go_wp2_with fail
  obtain ⟨W6, hW6⟩ : ∃ W9, W9 = ((v6.setCell ⟨gq, 0, none⟩ (.bool s6)).setCell ⟨gq, 1, none⟩ (.slice (some ⟨g6, 0, none⟩) m6 m6)) := ⟨_, rfl⟩
  rw [← hW6]
  have Yo : Hid (B5q W6 go (.int .i64 8) (U ah) (U al) (U bh) (U bl)) := by rw [hW6]; exact ⟨by go_simp, by go_simp, by go_simp, by go_simp, by go_simp, by go_simp, by go_simp, by go_simp, by go_simp, by go_simp⟩
  have Yp : Hid (Box W6 gp (.bool s4) (.slice (some ⟨g4, 0, none⟩) m4 m4)) := by rw [hW6]; exact ⟨by go_simp, by go_simp, by go_simp, by go_simp⟩
  have Yq : Hid (Box W6 gq (.bool s6) (.slice (some ⟨g6, 0, none⟩) m6 m6)) := by rw [hW6]; exact ⟨by go_simp, by go_simp, by go_simp, by go_simp⟩
  clear co0 co1 co2 co3 co4 fo0 fo1 fo2 fo3 fo4 hneo
  clear cp0 cp1 fp0 fp1 hnep
  clear cq0 cq1 fq0 fq1 hneq
  clear cu0 cu1 fu0 fu1 hneu
  have HZ46 : Hid (ZR W6 s4 (some ⟨g4, 0, none⟩) m4 (ux ah + ux al) ∧ ZR W6 s6 (some ⟨g6, 0, none⟩) m6 (ux bh + ux bl)) := by
    have hne : g6 ≠ gq := by have h1 := HN6.out; have h2 := HQ5.out; omega
    rw [hW6]
    exact ⟨HZ4.out.below (bSet (bSet hbu _ _ _ q4) _ _ _ q4), (Z6.out.set _ _ _ hne).set _ _ _ hne⟩
  have HB6 : Hid (Below w.heap.size w W6) := by rw [hW6]; exact bSet (bSet hbw _ _ _ HGq.out) _ _ _ HGq.out
  clear hW6 hbw hbu q1 q2 q3 q4 q5 q6 q7 Xo Xp Xq Xu Z6 HZ4
  have hbw : Below W6.heap.size W6 W6 := Below.refl _ _
  have Xo := Yo
  have Xp := Yp
  have Xq := Yq
  clear Yo Yp Yq
  have P1 := lpair ah al
  have P2 := lpair bh bl
  obtain ⟨V1, hV1⟩ : ∃ W1, W1 = W6.drew := ⟨_, rfl⟩
  have hbd : Below W6.heap.size W6 V1 := by rw [hV1]; exact bDrew1 (Below.refl _ _)
  replace Xo : Hid _ := Xo.out.below hbd
  replace Xp : Hid _ := Xp.out.below hbd
  replace Xq : Hid _ := Xq.out.below hbd
  replace hbw := Below.on hbw hbd
  clear hbd
  have HJ : Hid ((fun W' : World => W'.cell? ⟨go, 1, none⟩ = some (U ah) ∧ W'.cell? ⟨go, 2, none⟩ = some (U al) ∧ W'.cell? ⟨go, 3, none⟩ = some (U bh) ∧ W'.cell? ⟨go, 4, none⟩ = some (U bl)) V1) := ⟨Xo.out.c1, Xo.out.c2, Xo.out.c3, Xo.out.c4⟩
  refine wp_region_J (fun W' => W'.cell? ⟨go, 1, none⟩ = some (U ah) ∧ W'.cell? ⟨go, 2, none⟩ = some (U al) ∧ W'.cell? ⟨go, 3, none⟩ = some (U bh) ∧ W'.cell? ⟨go, 4, none⟩ = some (U bl)) (by kernel_rfl) ?_
  rw [← hV1]
  clear hV1
  refine wpJ_tq 0 rfl HJ.out ?_
  refine wpJ_tq 1 rfl HJ.out ?_
  refine wpJ_tq 3 rfl HJ.out ?_
  refine wpJ_tq 4 rfl HJ.out ?_
  go_simp
  refine wpJ_nodes fun WP hWP L0 a0 hL ha => ?_
  have N2xy : ∀ (gx : Nat) (gy : Nat) (W' : World), B5q W' go (.int .i64 8) (U ah) (U al) (U bh) (U bl) ∧ Box W' gp (.bool s4) (.slice (some ⟨g4, 0, none⟩) m4 m4) ∧ Box W' gq (.bool s6) (.slice (some ⟨g6, 0, none⟩) m6 m6) ∧ Below W6.heap.size W6 W' ∧ Box W' gx (Fv 0) (Fv 0) ∧ W6.heap.size ≤ gx ∧ gx ≠ go ∧ gx ≠ gp ∧ gx ≠ gq ∧ Box W' gy (Fv 0) (Fv 0) ∧ W6.heap.size ≤ gy ∧ gy ≠ go ∧ gy ≠ gp ∧ gy ≠ gq ∧ gx ≠ gy → WP 2 ((((L0.setIfInBounds 2 true).setIfInBounds 5 true).setIfInBounds 6 true).setIfInBounds 7 true) ((((a0.put (some 95) (.agg #[Fv ah, Fv al])).put (some 98) (.agg #[Fv bh, Fv bl])).put (some 7) (.pointer (some ⟨gx, 0, none⟩))).put (some 8) (.pointer (some ⟨gy, 0, none⟩))) W' := by
    rintro gx gy W' ⟨xo, xp, xq, hbw, xx, hgx, dxo, dxp, dxq, xy, hgy, dyo, dyp, dyq, dd⟩
    subst hWP hL ha
    have Hxo := Hid.mk9 xo
    have Hxp := Hid.mk9 xp
    have Hxq := Hid.mk9 xq
    have Hxx := Hid.mk9 xx
    have Hhgx := Hid.mk9 hgx
    have Hdxo := Hid.mk9 dxo
    have Hdxp := Hid.mk9 dxp
    have Hdxq := Hid.mk9 dxq
    have Hxy := Hid.mk9 xy
    have Hhgy := Hid.mk9 hgy
    have Hdyo := Hid.mk9 dyo
    have Hdyp := Hid.mk9 dyp
    have Hdyq := Hid.mk9 dyq
    have Hdd := Hid.mk9 dd
    clear xo xp xq xx hgx dxo dxp dxq xy hgy dyo dyp dyq dd
    go_simp
    have Xo := Hxo
    have Xp := Hxp
    have Xq := Hxq
    have Xx := Hxx
    have Xy := Hxy
    clear Hxo Hxp Hxq Hxx Hxy
    have exo := Hdxo.out
    have exp := Hdxp.out
    have exq := Hdxq.out
    have eyo := Hdyo.out
    have eyp := Hdyp.out
    have eyq := Hdyq.out
    have fxo := Ne.symm exo
    have fxp := Ne.symm exp
    have fxq := Ne.symm exq
    have fyo := Ne.symm eyo
    have fyp := Ne.symm eyp
    have fyq := Ne.symm eyq
    have e5 := Hdd.out
    have f5 := Ne.symm e5
    have HGx : Hid (W6.heap.size ≤ gx) := Hhgx.out
    have HGy : Hid (W6.heap.size ≤ gy) := Hhgy.out
    obtain ⟨co0, co1, co2, co3, co4, fo0, fo1, fo2, fo3, fo4⟩ := Xo.out
    have hneo : go < W'.heap.size := World.block_lt_of_cell? W' _ co0
    obtain ⟨cx0, cx1, fx0, fx1⟩ := Xx.out
    have hnex := Xx.out.lt
    obtain ⟨cy0, cy1, fy0, fy1⟩ := Xy.out
    have hney := Xy.out.lt
    refine wpJ_on 8 rfl fun KJ hK => ?_
    go_simp
    refine hK _ _ ⟨by go_simp, by go_simp, by go_simp, by go_simp⟩ ?_
    clear hK
    refine wpJ_on 9 rfl fun KJ hK => ?_
    go_simp
    refine hK _ _ ⟨by go_simp, by go_simp, by go_simp, by go_simp⟩ ?_
    clear hK
    refine wpJ_done (by kernel_rfl) ?_ _
    clear co0 co1 co2 co3 co4 fo0 fo1 fo2 fo3 fo4 hneo
    clear cx0 cx1 fx0 fx1 hnex
    clear cy0 cy1 fy0 fy1 hney
    obtain ⟨co0, co1, co2, co3, co4, fo0, fo1, fo2, fo3, fo4⟩ := Xo.out
    have hneo : go < W'.heap.size := World.block_lt_of_cell? W' _ co0
    obtain ⟨cp0, cp1, fp0, fp1⟩ := Xp.out
    have hnep := Xp.out.lt
    obtain ⟨cq0, cq1, fq0, fq1⟩ := Xq.out
    have hneq := Xq.out.lt
    obtain ⟨cx0, cx1, fx0, fx1⟩ := Xx.out
    have hnex := Xx.out.lt
    obtain ⟨cy0, cy1, fy0, fy1⟩ := Xy.out
    have hney := Xy.out.lt
    obtain ⟨Wy, hWy⟩ : ∃ W9, W9 = ((((W'.setCell ⟨gx, 0, none⟩ (Fv ah)).setCell ⟨gx, 1, none⟩ (Fv al)).setCell ⟨gy, 0, none⟩ (Fv bh)).setCell ⟨gy, 1, none⟩ (Fv bl)) := ⟨_, rfl⟩
    have Yx : Hid (Box Wy gx (Fv ah) (Fv al)) := by rw [hWy]; exact ⟨by go_simp, by go_simp, by go_simp, by go_simp⟩
    have Yy : Hid (Box Wy gy (Fv bh) (Fv bl)) := by rw [hWy]; exact ⟨by go_simp, by go_simp, by go_simp, by go_simp⟩
    have Yo : Hid (B5q Wy go (.int .i64 8) (U ah) (U al) (U bh) (U bl)) := by rw [hWy]; exact ⟨by go_simp, by go_simp, by go_simp, by go_simp, by go_simp, by go_simp, by go_simp, by go_simp, by go_simp, by go_simp⟩
    have Yp : Hid (Box Wy gp (.bool s4) (.slice (some ⟨g4, 0, none⟩) m4 m4)) := by rw [hWy]; exact ⟨by go_simp, by go_simp, by go_simp, by go_simp⟩
    have Yq : Hid (Box Wy gq (.bool s6) (.slice (some ⟨g6, 0, none⟩) m6 m6)) := by rw [hWy]; exact ⟨by go_simp, by go_simp, by go_simp, by go_simp⟩
    clear co0 co1 co2 co3 co4 fo0 fo1 fo2 fo3 fo4 hneo
    clear cp0 cp1 fp0 fp1 hnep
    clear cq0 cq1 fq0 fq1 hneq
    clear cx0 cx1 fx0 fx1 hnex
    clear cy0 cy1 fy0 fy1 hney
    have hbw2 : Below W6.heap.size W6 Wy := by rw [hWy]; exact bSet (bSet (bSet (bSet hbw _ _ _ HGx.out) _ _ _ HGx.out) _ _ _ HGy.out) _ _ _ HGy.out
    rw [← hWy]
    clear hWy hbw Xo Xp Xq Xx Xy exo fxo exp fxp exq fxq eyo fyo eyp fyp eyq fyq e5 f5
    have hbw := Below.on HB6.out hbw2
    have ZA : Hid (ZR Wy s4 (some ⟨g4, 0, none⟩) m4 (ux ah + ux al)) := HZ46.out.1.below hbw2
    have ZB : Hid (ZR Wy s6 (some ⟨g6, 0, none⟩) m6 (ux bh + ux bl)) := HZ46.out.2.below hbw2
    clear hbw2
    have Xo := Yo
    have Xp := Yp
    have Xq := Yq
    have Xx := Yx
    have Xy := Yy
    clear Yo Yp Yq Yx Yy
    obtain ⟨co0, co1, co2, co3, co4, fo0, fo1, fo2, fo3, fo4⟩ := Xo.out
    have hneo : go < Wy.heap.size := World.block_lt_of_cell? Wy _ co0
    go_wp2_with fail
    clear co0 co1 co2 co3 co4 fo0 fo1 fo2 fo3 fo4 hneo
    obtain ⟨Wv, hWv⟩ : ∃ W1, W1 = Wy.drew := ⟨_, rfl⟩
    have hbd : Below Wy.heap.size Wy Wv := by rw [hWv]; exact bDrew1 (Below.refl _ _)
    replace Xo : Hid _ := Xo.out.below hbd
    replace Xp : Hid _ := Xp.out.below hbd
    replace Xq : Hid _ := Xq.out.below hbd
    replace Xx : Hid _ := Xx.out.below hbd
    replace Xy : Hid _ := Xy.out.below hbd
    replace ZA : Hid _ := ZA.out.below hbd
    replace ZB : Hid _ := ZB.out.below hbd
    replace hbw := Below.on hbw hbd
    clear hbd
    have HJ : Hid ((fun W' : World => W'.cell? ⟨gx, 0, none⟩ = some (Fv ah) ∧ W'.cell? ⟨gx, 1, none⟩ = some (Fv al) ∧ W'.cell? ⟨gy, 0, none⟩ = some (Fv bh) ∧ W'.cell? ⟨gy, 1, none⟩ = some (Fv bl) ∧ W'.cell? ⟨gp, 0, none⟩ = some (.bool s4) ∧ W'.cell? ⟨gp, 1, none⟩ = some (.slice (some ⟨g4, 0, none⟩) m4 m4) ∧ W'.cell? ⟨gq, 0, none⟩ = some (.bool s6) ∧ W'.cell? ⟨gq, 1, none⟩ = some (.slice (some ⟨g6, 0, none⟩) m6 m6)) Wv) := ⟨Xx.out.c0, Xx.out.c1, Xy.out.c0, Xy.out.c1, Xp.out.c0, Xp.out.c1, Xq.out.c0, Xq.out.c1⟩
    refine wp_region_J (fun W' => W'.cell? ⟨gx, 0, none⟩ = some (Fv ah) ∧ W'.cell? ⟨gx, 1, none⟩ = some (Fv al) ∧ W'.cell? ⟨gy, 0, none⟩ = some (Fv bh) ∧ W'.cell? ⟨gy, 1, none⟩ = some (Fv bl) ∧ W'.cell? ⟨gp, 0, none⟩ = some (.bool s4) ∧ W'.cell? ⟨gp, 1, none⟩ = some (.slice (some ⟨g4, 0, none⟩) m4 m4) ∧ W'.cell? ⟨gq, 0, none⟩ = some (.bool s6) ∧ W'.cell? ⟨gq, 1, none⟩ = some (.slice (some ⟨g6, 0, none⟩) m6 m6)) (by kernel_rfl) ?_
    rw [← hWv]
    clear hWv
    refine wpJ_tq 0 rfl HJ.out ?_
    refine wpJ_tq 1 rfl HJ.out ?_
    refine wpJ_tq 4 rfl HJ.out ?_
    refine wpJ_tq 5 rfl HJ.out ?_
    refine wpJ_on 2 rfl fun KJ hK => ?_
    go_simp
    refine (ddSub_f HC1.out.1 HC3.out.1 HC1.out.2 HC3.out.2 _).mono ?_
    rintro e v9 ⟨s9, r9, rfl, hd9, hq9, hb9⟩
    have HR9 := Hid.mk9 (And.intro hd9 (near_of hq9))
    clear hd9 hq9
    replace Xo : Hid _ := Xo.out.below hb9
    replace Xp : Hid _ := Xp.out.below hb9
    replace Xq : Hid _ := Xq.out.below hb9
    replace Xx : Hid _ := Xx.out.below hb9
    replace Xy : Hid _ := Xy.out.below hb9
    replace ZA : Hid _ := ZA.out.below hb9
    replace ZB : Hid _ := ZB.out.below hb9
    replace hbw := Below.on hbw hb9
    clear hb9
    refine hK _ _ ⟨Xx.out.c0, Xx.out.c1, Xy.out.c0, Xy.out.c1, Xp.out.c0, Xp.out.c1, Xq.out.c0, Xq.out.c1⟩ ?_
    clear hK
    refine wpJ_on 3 rfl fun KJ hK => ?_
    go_simp
    refine (lbits s9 r9 _).mono ?_
    rintro e v10 ⟨rfl, hb10⟩
    replace Xo : Hid _ := Xo.out.below hb10
    replace Xp : Hid _ := Xp.out.below hb10
    replace Xq : Hid _ := Xq.out.below hb10
    replace Xx : Hid _ := Xx.out.below hb10
    replace Xy : Hid _ := Xy.out.below hb10
    replace ZA : Hid _ := ZA.out.below hb10
    replace ZB : Hid _ := ZB.out.below hb10
    replace hbw := Below.on hbw hb10
    clear hb10
    refine hK _ _ ⟨Xx.out.c0, Xx.out.c1, Xy.out.c0, Xy.out.c1, Xp.out.c0, Xp.out.c1, Xq.out.c0, Xq.out.c1⟩ ?_
    clear hK
    refine wpJ_on 6 rfl fun KJ hK => ?_
    go_simp
    refine (rsub04 s4 s6 ZA.out ZB.out (by have := HL4.out; omega) (by have := HL6.out; omega)).mono ?_
    rintro e v11 ⟨v, rfl, hv, hb11⟩
    obtain ⟨s11, g11, m11, rfl, hg11, hz11, hl11⟩ := hv
    try clear hv
    have HN11 : Hid (v10.heap.size ≤ g11) := hg11
    have HB11 : Hid (v10.heap.size ≤ v11.heap.size) := hb11.size
    replace Xo : Hid _ := Xo.out.below hb11
    replace Xp : Hid _ := Xp.out.below hb11
    replace Xq : Hid _ := Xq.out.below hb11
    replace Xx : Hid _ := Xx.out.below hb11
    replace Xy : Hid _ := Xy.out.below hb11
    replace ZA : Hid _ := ZA.out.below hb11
    replace ZB : Hid _ := ZB.out.below hb11
    replace hbw := Below.on hbw hb11
    clear hb11
    have Z11 : Hid (ZR v11 s11 (some ⟨g11, 0, none⟩) m11 (ux ah + ux al - (ux bh + ux bl))) := hz11
    have HL11 : Hid (m11 ≤ max m4 m6 + 1) := hl11
    clear hz11 hl11 hg11
    refine hK _ _ ⟨Xx.out.c0, Xx.out.c1, Xy.out.c0, Xy.out.c1, Xp.out.c0, Xp.out.c1, Xq.out.c0, Xq.out.c1⟩ ?_
    clear hK
    refine wpJ_on 7 rfl fun KJ hK => ?_
    go_simp
    refine (rof04 1 _ (by decide) (by decide)).mono ?_
    rintro e v12 ⟨s12, g12, m12, rfl, hz12, hl12, hb12⟩
    replace Xo : Hid _ := Xo.out.below hb12
    replace Xp : Hid _ := Xp.out.below hb12
    replace Xq : Hid _ := Xq.out.below hb12
    replace Xx : Hid _ := Xx.out.below hb12
    replace Xy : Hid _ := Xy.out.below hb12
    replace ZA : Hid _ := ZA.out.below hb12
    replace ZB : Hid _ := ZB.out.below hb12
    replace Z11 : Hid _ := Z11.out.below hb12
    replace hbw := Below.on hbw hb12
    clear hb12
    have Z12 : Hid (ZR v12 s12 (some ⟨g12, 0, none⟩) m12 1) := hz12
    have HL12 : Hid (m12 ≤ 3) := hl12
    clear hz12 hl12
    refine hK _ _ ⟨Xx.out.c0, Xx.out.c1, Xy.out.c0, Xy.out.c1, Xp.out.c0, Xp.out.c1, Xq.out.c0, Xq.out.c1⟩ ?_
    clear hK
    refine wpJ_on 8 rfl fun KJ hK => ?_
    go_simp
    refine (near20 (k := 103) HR9.out.1 Z11.out Z12.out (by have := HL11.out; have := HL4.out; have := HL6.out; omega) (by have := HL12.out; omega) (by decide) HR9.out.2).mono ?_
    rintro e v13 ⟨rfl, hb13⟩
    replace Xo : Hid _ := Xo.out.below hb13
    replace Xp : Hid _ := Xp.out.below hb13
    replace Xq : Hid _ := Xq.out.below hb13
    replace Xx : Hid _ := Xx.out.below hb13
    replace Xy : Hid _ := Xy.out.below hb13
    replace ZA : Hid _ := ZA.out.below hb13
    replace ZB : Hid _ := ZB.out.below hb13
    replace Z11 : Hid _ := Z11.out.below hb13
    replace Z12 : Hid _ := Z12.out.below hb13
    replace hbw := Below.on hbw hb13
    clear hb13
    clear HJ
    have HJ : Hid ((fun W' : World => W'.cell? ⟨gx, 0, none⟩ = some (Fv ah) ∧ W'.cell? ⟨gx, 1, none⟩ = some (Fv al) ∧ W'.cell? ⟨gy, 0, none⟩ = some (Fv bh) ∧ W'.cell? ⟨gy, 1, none⟩ = some (Fv bl) ∧ W'.cell? ⟨gp, 0, none⟩ = some (.bool s4) ∧ W'.cell? ⟨gp, 1, none⟩ = some (.slice (some ⟨g4, 0, none⟩) m4 m4) ∧ W'.cell? ⟨gq, 0, none⟩ = some (.bool s6) ∧ W'.cell? ⟨gq, 1, none⟩ = some (.slice (some ⟨g6, 0, none⟩) m6 m6)) v13) := ⟨Xx.out.c0, Xx.out.c1, Xy.out.c0, Xy.out.c1, Xp.out.c0, Xp.out.c1, Xq.out.c0, Xq.out.c1⟩
    refine hK _ _ HJ.out ?_
    clear hK
    refine wpJ_tq 9 rfl HJ.out ?_
    refine wpJ_done (by kernel_rfl) ?_ _
    clear HJ
    go_wp2_with fail
    go_ret
    exact ⟨rfl, hbw⟩
  have N2x : ∀ (gx : Nat) (W' : World), B5q W' go (.int .i64 8) (U ah) (U al) (U bh) (U bl) ∧ Box W' gp (.bool s4) (.slice (some ⟨g4, 0, none⟩) m4 m4) ∧ Box W' gq (.bool s6) (.slice (some ⟨g6, 0, none⟩) m6 m6) ∧ Below W6.heap.size W6 W' ∧ Box W' gx (Fv 0) (Fv 0) ∧ W6.heap.size ≤ gx ∧ gx ≠ go ∧ gx ≠ gp ∧ gx ≠ gq → WP 3 (((L0.setIfInBounds 2 true).setIfInBounds 5 true).setIfInBounds 6 true) (((a0.put (some 95) (.agg #[Fv ah, Fv al])).put (some 98) (.agg #[Fv bh, Fv bl])).put (some 7) (.pointer (some ⟨gx, 0, none⟩))) W' := by
    rintro gx W' ⟨xo, xp, xq, hbw, xx, hgx, dxo, dxp, dxq⟩
    subst hWP hL ha
    have Hxo := Hid.mk9 xo
    have Hxp := Hid.mk9 xp
    have Hxq := Hid.mk9 xq
    have Hxx := Hid.mk9 xx
    have Hhgx := Hid.mk9 hgx
    have Hdxo := Hid.mk9 dxo
    have Hdxp := Hid.mk9 dxp
    have Hdxq := Hid.mk9 dxq
    clear xo xp xq xx hgx dxo dxp dxq
    go_simp
    refine wpJ_on 7 rfl fun KJ hK => ?_
    go_simp
    have hb := below1 W' (.cells #[Fv 0, Fv 0] 32)
    refine hK _ _ ⟨(Hxo.out.below hb).c1, (Hxo.out.below hb).c2, (Hxo.out.below hb).c3, (Hxo.out.below hb).c4⟩ ?_
    exact wpJ_same (by kernel_rfl) (by kernel_rfl) (N2xy gx W'.heap.size _ ⟨(Hxo.out.below hb), (Hxp.out.below hb), (Hxq.out.below hb), (Below.on hbw hb), (Hxx.out.below hb), Hhgx.out, Hdxo.out, Hdxp.out, Hdxq.out, (Box.new W' _ _ _), hbw.size, (Nat.ne_of_gt Hxo.out.lt), (Nat.ne_of_gt Hxp.out.lt), (Nat.ne_of_gt Hxq.out.lt), (Nat.ne_of_lt Hxx.out.lt)⟩)
  have N2y : ∀ (gy : Nat) (W' : World), B5q W' go (.int .i64 8) (U ah) (U al) (U bh) (U bl) ∧ Box W' gp (.bool s4) (.slice (some ⟨g4, 0, none⟩) m4 m4) ∧ Box W' gq (.bool s6) (.slice (some ⟨g6, 0, none⟩) m6 m6) ∧ Below W6.heap.size W6 W' ∧ Box W' gy (Fv 0) (Fv 0) ∧ W6.heap.size ≤ gy ∧ gy ≠ go ∧ gy ≠ gp ∧ gy ≠ gq → WP 3 (((L0.setIfInBounds 2 true).setIfInBounds 5 true).setIfInBounds 7 true) (((a0.put (some 95) (.agg #[Fv ah, Fv al])).put (some 98) (.agg #[Fv bh, Fv bl])).put (some 8) (.pointer (some ⟨gy, 0, none⟩))) W' := by
    rintro gy W' ⟨xo, xp, xq, hbw, xy, hgy, dyo, dyp, dyq⟩
    subst hWP hL ha
    have Hxo := Hid.mk9 xo
    have Hxp := Hid.mk9 xp
    have Hxq := Hid.mk9 xq
    have Hxy := Hid.mk9 xy
    have Hhgy := Hid.mk9 hgy
    have Hdyo := Hid.mk9 dyo
    have Hdyp := Hid.mk9 dyp
    have Hdyq := Hid.mk9 dyq
    clear xo xp xq xy hgy dyo dyp dyq
    go_simp
    refine wpJ_on 6 rfl fun KJ hK => ?_
    go_simp
    have hb := below1 W' (.cells #[Fv 0, Fv 0] 32)
    refine hK _ _ ⟨(Hxo.out.below hb).c1, (Hxo.out.below hb).c2, (Hxo.out.below hb).c3, (Hxo.out.below hb).c4⟩ ?_
    exact wpJ_same (by kernel_rfl) (by kernel_rfl) (N2xy W'.heap.size gy _ ⟨(Hxo.out.below hb), (Hxp.out.below hb), (Hxq.out.below hb), (Below.on hbw hb), (Box.new W' _ _ _), hbw.size, (Nat.ne_of_gt Hxo.out.lt), (Nat.ne_of_gt Hxp.out.lt), (Nat.ne_of_gt Hxq.out.lt), (Hxy.out.below hb), Hhgy.out, Hdyo.out, Hdyp.out, Hdyq.out, (Nat.ne_of_gt Hxy.out.lt)⟩)
  have N2 : ∀ (W' : World), B5q W' go (.int .i64 8) (U ah) (U al) (U bh) (U bl) ∧ Box W' gp (.bool s4) (.slice (some ⟨g4, 0, none⟩) m4 m4) ∧ Box W' gq (.bool s6) (.slice (some ⟨g6, 0, none⟩) m6 m6) ∧ Below W6.heap.size W6 W' → WP 4 ((L0.setIfInBounds 2 true).setIfInBounds 5 true) ((a0.put (some 95) (.agg #[Fv ah, Fv al])).put (some 98) (.agg #[Fv bh, Fv bl])) W' := by
    rintro  W' ⟨xo, xp, xq, hbw⟩
    subst hWP hL ha
    have Hxo := Hid.mk9 xo
    have Hxp := Hid.mk9 xp
    have Hxq := Hid.mk9 xq
    clear xo xp xq
    go_simp
    refine wpJ_two (i := 6) (k := 7) (by kernel_rfl) rfl rfl (by kernel_rfl) (by kernel_rfl) (fun KJ hK => ?_) (fun KJ hK => ?_)
    · go_simp
      have hb := below1 W' (.cells #[Fv 0, Fv 0] 32)
      refine hK _ _ ⟨(Hxo.out.below hb).c1, (Hxo.out.below hb).c2, (Hxo.out.below hb).c3, (Hxo.out.below hb).c4⟩ ?_
      exact wpJ_same (by kernel_rfl) (by kernel_rfl) (N2x W'.heap.size _ ⟨(Hxo.out.below hb), (Hxp.out.below hb), (Hxq.out.below hb), (Below.on hbw hb), (Box.new W' _ _ _), hbw.size, (Nat.ne_of_gt Hxo.out.lt), (Nat.ne_of_gt Hxp.out.lt), (Nat.ne_of_gt Hxq.out.lt)⟩)
    · go_simp
      have hb := below1 W' (.cells #[Fv 0, Fv 0] 32)
      refine hK _ _ ⟨(Hxo.out.below hb).c1, (Hxo.out.below hb).c2, (Hxo.out.below hb).c3, (Hxo.out.below hb).c4⟩ ?_
      exact wpJ_same (by kernel_rfl) (by kernel_rfl) (N2y W'.heap.size _ ⟨(Hxo.out.below hb), (Hxp.out.below hb), (Hxq.out.below hb), (Below.on hbw hb), (Box.new W' _ _ _), hbw.size, (Nat.ne_of_gt Hxo.out.lt), (Nat.ne_of_gt Hxp.out.lt), (Nat.ne_of_gt Hxq.out.lt)⟩)
  have N1xy : ∀ (gx : Nat) (gy : Nat) (W' : World), B5q W' go (.int .i64 8) (U ah) (U al) (U bh) (U bl) ∧ Box W' gp (.bool s4) (.slice (some ⟨g4, 0, none⟩) m4 m4) ∧ Box W' gq (.bool s6) (.slice (some ⟨g6, 0, none⟩) m6 m6) ∧ Below W6.heap.size W6 W' ∧ Box W' gx (Fv 0) (Fv 0) ∧ W6.heap.size ≤ gx ∧ gx ≠ go ∧ gx ≠ gp ∧ gx ≠ gq ∧ Box W' gy (Fv 0) (Fv 0) ∧ W6.heap.size ≤ gy ∧ gy ≠ go ∧ gy ≠ gp ∧ gy ≠ gq ∧ gx ≠ gy → WP 3 (((L0.setIfInBounds 2 true).setIfInBounds 6 true).setIfInBounds 7 true) (((a0.put (some 95) (.agg #[Fv ah, Fv al])).put (some 7) (.pointer (some ⟨gx, 0, none⟩))).put (some 8) (.pointer (some ⟨gy, 0, none⟩))) W' := by
    rintro gx gy W' ⟨xo, xp, xq, hbw, xx, hgx, dxo, dxp, dxq, xy, hgy, dyo, dyp, dyq, dd⟩
    subst hWP hL ha
    have Hxo := Hid.mk9 xo
    have Hxp := Hid.mk9 xp
    have Hxq := Hid.mk9 xq
    have Hxx := Hid.mk9 xx
    have Hhgx := Hid.mk9 hgx
    have Hdxo := Hid.mk9 dxo
    have Hdxp := Hid.mk9 dxp
    have Hdxq := Hid.mk9 dxq
    have Hxy := Hid.mk9 xy
    have Hhgy := Hid.mk9 hgy
    have Hdyo := Hid.mk9 dyo
    have Hdyp := Hid.mk9 dyp
    have Hdyq := Hid.mk9 dyq
    have Hdd := Hid.mk9 dd
    clear xo xp xq xx hgx dxo dxp dxq xy hgy dyo dyp dyq dd
    go_simp
    refine wpJ_on 5 rfl fun KJ hK => ?_
    go_simp
    refine (P2 _).mono ?_
    rintro e W2 ⟨rfl, hb⟩
    refine hK _ _ ⟨(Hxo.out.below hb).c1, (Hxo.out.below hb).c2, (Hxo.out.below hb).c3, (Hxo.out.below hb).c4⟩ ?_
    exact wpJ_same (by kernel_rfl) (by kernel_rfl) (N2xy gx gy W2 ⟨(Hxo.out.below hb), (Hxp.out.below hb), (Hxq.out.below hb), (Below.on hbw hb), (Hxx.out.below hb), Hhgx.out, Hdxo.out, Hdxp.out, Hdxq.out, (Hxy.out.below hb), Hhgy.out, Hdyo.out, Hdyp.out, Hdyq.out, Hdd.out⟩)
  have N1x : ∀ (gx : Nat) (W' : World), B5q W' go (.int .i64 8) (U ah) (U al) (U bh) (U bl) ∧ Box W' gp (.bool s4) (.slice (some ⟨g4, 0, none⟩) m4 m4) ∧ Box W' gq (.bool s6) (.slice (some ⟨g6, 0, none⟩) m6 m6) ∧ Below W6.heap.size W6 W' ∧ Box W' gx (Fv 0) (Fv 0) ∧ W6.heap.size ≤ gx ∧ gx ≠ go ∧ gx ≠ gp ∧ gx ≠ gq → WP 4 ((L0.setIfInBounds 2 true).setIfInBounds 6 true) ((a0.put (some 95) (.agg #[Fv ah, Fv al])).put (some 7) (.pointer (some ⟨gx, 0, none⟩))) W' := by
    rintro gx W' ⟨xo, xp, xq, hbw, xx, hgx, dxo, dxp, dxq⟩
    subst hWP hL ha
    have Hxo := Hid.mk9 xo
    have Hxp := Hid.mk9 xp
    have Hxq := Hid.mk9 xq
    have Hxx := Hid.mk9 xx
    have Hhgx := Hid.mk9 hgx
    have Hdxo := Hid.mk9 dxo
    have Hdxp := Hid.mk9 dxp
    have Hdxq := Hid.mk9 dxq
    clear xo xp xq xx hgx dxo dxp dxq
    go_simp
    refine wpJ_two (i := 5) (k := 7) (by kernel_rfl) rfl rfl (by kernel_rfl) (by kernel_rfl) (fun KJ hK => ?_) (fun KJ hK => ?_)
    · go_simp
      refine (P2 _).mono ?_
      rintro e W2 ⟨rfl, hb⟩
      refine hK _ _ ⟨(Hxo.out.below hb).c1, (Hxo.out.below hb).c2, (Hxo.out.below hb).c3, (Hxo.out.below hb).c4⟩ ?_
      exact wpJ_same (by kernel_rfl) (by kernel_rfl) (N2x gx W2 ⟨(Hxo.out.below hb), (Hxp.out.below hb), (Hxq.out.below hb), (Below.on hbw hb), (Hxx.out.below hb), Hhgx.out, Hdxo.out, Hdxp.out, Hdxq.out⟩)
    · go_simp
      have hb := below1 W' (.cells #[Fv 0, Fv 0] 32)
      refine hK _ _ ⟨(Hxo.out.below hb).c1, (Hxo.out.below hb).c2, (Hxo.out.below hb).c3, (Hxo.out.below hb).c4⟩ ?_
      exact wpJ_same (by kernel_rfl) (by kernel_rfl) (N1xy gx W'.heap.size _ ⟨(Hxo.out.below hb), (Hxp.out.below hb), (Hxq.out.below hb), (Below.on hbw hb), (Hxx.out.below hb), Hhgx.out, Hdxo.out, Hdxp.out, Hdxq.out, (Box.new W' _ _ _), hbw.size, (Nat.ne_of_gt Hxo.out.lt), (Nat.ne_of_gt Hxp.out.lt), (Nat.ne_of_gt Hxq.out.lt), (Nat.ne_of_lt Hxx.out.lt)⟩)
  have N1y : ∀ (gy : Nat) (W' : World), B5q W' go (.int .i64 8) (U ah) (U al) (U bh) (U bl) ∧ Box W' gp (.bool s4) (.slice (some ⟨g4, 0, none⟩) m4 m4) ∧ Box W' gq (.bool s6) (.slice (some ⟨g6, 0, none⟩) m6 m6) ∧ Below W6.heap.size W6 W' ∧ Box W' gy (Fv 0) (Fv 0) ∧ W6.heap.size ≤ gy ∧ gy ≠ go ∧ gy ≠ gp ∧ gy ≠ gq → WP 4 ((L0.setIfInBounds 2 true).setIfInBounds 7 true) ((a0.put (some 95) (.agg #[Fv ah, Fv al])).put (some 8) (.pointer (some ⟨gy, 0, none⟩))) W' := by
    rintro gy W' ⟨xo, xp, xq, hbw, xy, hgy, dyo, dyp, dyq⟩
    subst hWP hL ha
    have Hxo := Hid.mk9 xo
    have Hxp := Hid.mk9 xp
    have Hxq := Hid.mk9 xq
    have Hxy := Hid.mk9 xy
    have Hhgy := Hid.mk9 hgy
    have Hdyo := Hid.mk9 dyo
    have Hdyp := Hid.mk9 dyp
    have Hdyq := Hid.mk9 dyq
    clear xo xp xq xy hgy dyo dyp dyq
    go_simp
    refine wpJ_two (i := 5) (k := 6) (by kernel_rfl) rfl rfl (by kernel_rfl) (by kernel_rfl) (fun KJ hK => ?_) (fun KJ hK => ?_)
    · go_simp
      refine (P2 _).mono ?_
      rintro e W2 ⟨rfl, hb⟩
      refine hK _ _ ⟨(Hxo.out.below hb).c1, (Hxo.out.below hb).c2, (Hxo.out.below hb).c3, (Hxo.out.below hb).c4⟩ ?_
      exact wpJ_same (by kernel_rfl) (by kernel_rfl) (N2y gy W2 ⟨(Hxo.out.below hb), (Hxp.out.below hb), (Hxq.out.below hb), (Below.on hbw hb), (Hxy.out.below hb), Hhgy.out, Hdyo.out, Hdyp.out, Hdyq.out⟩)
    · go_simp
      have hb := below1 W' (.cells #[Fv 0, Fv 0] 32)
      refine hK _ _ ⟨(Hxo.out.below hb).c1, (Hxo.out.below hb).c2, (Hxo.out.below hb).c3, (Hxo.out.below hb).c4⟩ ?_
      exact wpJ_same (by kernel_rfl) (by kernel_rfl) (N1xy W'.heap.size gy _ ⟨(Hxo.out.below hb), (Hxp.out.below hb), (Hxq.out.below hb), (Below.on hbw hb), (Box.new W' _ _ _), hbw.size, (Nat.ne_of_gt Hxo.out.lt), (Nat.ne_of_gt Hxp.out.lt), (Nat.ne_of_gt Hxq.out.lt), (Hxy.out.below hb), Hhgy.out, Hdyo.out, Hdyp.out, Hdyq.out, (Nat.ne_of_gt Hxy.out.lt)⟩)
  have N1 : ∀ (W' : World), B5q W' go (.int .i64 8) (U ah) (U al) (U bh) (U bl) ∧ Box W' gp (.bool s4) (.slice (some ⟨g4, 0, none⟩) m4 m4) ∧ Box W' gq (.bool s6) (.slice (some ⟨g6, 0, none⟩) m6 m6) ∧ Below W6.heap.size W6 W' → WP 5 (L0.setIfInBounds 2 true) (a0.put (some 95) (.agg #[Fv ah, Fv al])) W' := by
    rintro  W' ⟨xo, xp, xq, hbw⟩
    subst hWP hL ha
    have Hxo := Hid.mk9 xo
    have Hxp := Hid.mk9 xp
    have Hxq := Hid.mk9 xq
    clear xo xp xq
    go_simp
    refine wpJ_three (i := 5) (k := 6) (l := 7) (by kernel_rfl) rfl rfl rfl (by kernel_rfl) (by kernel_rfl) (by kernel_rfl) (fun KJ hK => ?_) (fun KJ hK => ?_) (fun KJ hK => ?_)
    · go_simp
      refine (P2 _).mono ?_
      rintro e W2 ⟨rfl, hb⟩
      refine hK _ _ ⟨(Hxo.out.below hb).c1, (Hxo.out.below hb).c2, (Hxo.out.below hb).c3, (Hxo.out.below hb).c4⟩ ?_
      exact wpJ_same (by kernel_rfl) (by kernel_rfl) (N2  W2 ⟨(Hxo.out.below hb), (Hxp.out.below hb), (Hxq.out.below hb), (Below.on hbw hb)⟩)
    · go_simp
      have hb := below1 W' (.cells #[Fv 0, Fv 0] 32)
      refine hK _ _ ⟨(Hxo.out.below hb).c1, (Hxo.out.below hb).c2, (Hxo.out.below hb).c3, (Hxo.out.below hb).c4⟩ ?_
      exact wpJ_same (by kernel_rfl) (by kernel_rfl) (N1x W'.heap.size _ ⟨(Hxo.out.below hb), (Hxp.out.below hb), (Hxq.out.below hb), (Below.on hbw hb), (Box.new W' _ _ _), hbw.size, (Nat.ne_of_gt Hxo.out.lt), (Nat.ne_of_gt Hxp.out.lt), (Nat.ne_of_gt Hxq.out.lt)⟩)
    · go_simp
      have hb := below1 W' (.cells #[Fv 0, Fv 0] 32)
      refine hK _ _ ⟨(Hxo.out.below hb).c1, (Hxo.out.below hb).c2, (Hxo.out.below hb).c3, (Hxo.out.below hb).c4⟩ ?_
      exact wpJ_same (by kernel_rfl) (by kernel_rfl) (N1y W'.heap.size _ ⟨(Hxo.out.below hb), (Hxp.out.below hb), (Hxq.out.below hb), (Below.on hbw hb), (Box.new W' _ _ _), hbw.size, (Nat.ne_of_gt Hxo.out.lt), (Nat.ne_of_gt Hxp.out.lt), (Nat.ne_of_gt Hxq.out.lt)⟩)
  have N0xy : ∀ (gx : Nat) (gy : Nat) (W' : World), B5q W' go (.int .i64 8) (U ah) (U al) (U bh) (U bl) ∧ Box W' gp (.bool s4) (.slice (some ⟨g4, 0, none⟩) m4 m4) ∧ Box W' gq (.bool s6) (.slice (some ⟨g6, 0, none⟩) m6 m6) ∧ Below W6.heap.size W6 W' ∧ Box W' gx (Fv 0) (Fv 0) ∧ W6.heap.size ≤ gx ∧ gx ≠ go ∧ gx ≠ gp ∧ gx ≠ gq ∧ Box W' gy (Fv 0) (Fv 0) ∧ W6.heap.size ≤ gy ∧ gy ≠ go ∧ gy ≠ gp ∧ gy ≠ gq ∧ gx ≠ gy → WP 4 ((L0.setIfInBounds 6 true).setIfInBounds 7 true) ((a0.put (some 7) (.pointer (some ⟨gx, 0, none⟩))).put (some 8) (.pointer (some ⟨gy, 0, none⟩))) W' := by
    rintro gx gy W' ⟨xo, xp, xq, hbw, xx, hgx, dxo, dxp, dxq, xy, hgy, dyo, dyp, dyq, dd⟩
    subst hWP hL ha
    have Hxo := Hid.mk9 xo
    have Hxp := Hid.mk9 xp
    have Hxq := Hid.mk9 xq
    have Hxx := Hid.mk9 xx
    have Hhgx := Hid.mk9 hgx
    have Hdxo := Hid.mk9 dxo
    have Hdxp := Hid.mk9 dxp
    have Hdxq := Hid.mk9 dxq
    have Hxy := Hid.mk9 xy
    have Hhgy := Hid.mk9 hgy
    have Hdyo := Hid.mk9 dyo
    have Hdyp := Hid.mk9 dyp
    have Hdyq := Hid.mk9 dyq
    have Hdd := Hid.mk9 dd
    clear xo xp xq xx hgx dxo dxp dxq xy hgy dyo dyp dyq dd
    go_simp
    refine wpJ_on 2 rfl fun KJ hK => ?_
    go_simp
    refine (P1 _).mono ?_
    rintro e W2 ⟨rfl, hb⟩
    refine hK _ _ ⟨(Hxo.out.below hb).c1, (Hxo.out.below hb).c2, (Hxo.out.below hb).c3, (Hxo.out.below hb).c4⟩ ?_
    exact wpJ_same (by kernel_rfl) (by kernel_rfl) (N1xy gx gy W2 ⟨(Hxo.out.below hb), (Hxp.out.below hb), (Hxq.out.below hb), (Below.on hbw hb), (Hxx.out.below hb), Hhgx.out, Hdxo.out, Hdxp.out, Hdxq.out, (Hxy.out.below hb), Hhgy.out, Hdyo.out, Hdyp.out, Hdyq.out, Hdd.out⟩)
  have N0x : ∀ (gx : Nat) (W' : World), B5q W' go (.int .i64 8) (U ah) (U al) (U bh) (U bl) ∧ Box W' gp (.bool s4) (.slice (some ⟨g4, 0, none⟩) m4 m4) ∧ Box W' gq (.bool s6) (.slice (some ⟨g6, 0, none⟩) m6 m6) ∧ Below W6.heap.size W6 W' ∧ Box W' gx (Fv 0) (Fv 0) ∧ W6.heap.size ≤ gx ∧ gx ≠ go ∧ gx ≠ gp ∧ gx ≠ gq → WP 5 (L0.setIfInBounds 6 true) (a0.put (some 7) (.pointer (some ⟨gx, 0, none⟩))) W' := by
    rintro gx W' ⟨xo, xp, xq, hbw, xx, hgx, dxo, dxp, dxq⟩
    subst hWP hL ha
    have Hxo := Hid.mk9 xo
    have Hxp := Hid.mk9 xp
    have Hxq := Hid.mk9 xq
    have Hxx := Hid.mk9 xx
    have Hhgx := Hid.mk9 hgx
    have Hdxo := Hid.mk9 dxo
    have Hdxp := Hid.mk9 dxp
    have Hdxq := Hid.mk9 dxq
    clear xo xp xq xx hgx dxo dxp dxq
    go_simp
    refine wpJ_two (i := 2) (k := 7) (by kernel_rfl) rfl rfl (by kernel_rfl) (by kernel_rfl) (fun KJ hK => ?_) (fun KJ hK => ?_)
    · go_simp
      refine (P1 _).mono ?_
      rintro e W2 ⟨rfl, hb⟩
      refine hK _ _ ⟨(Hxo.out.below hb).c1, (Hxo.out.below hb).c2, (Hxo.out.below hb).c3, (Hxo.out.below hb).c4⟩ ?_
      exact wpJ_same (by kernel_rfl) (by kernel_rfl) (N1x gx W2 ⟨(Hxo.out.below hb), (Hxp.out.below hb), (Hxq.out.below hb), (Below.on hbw hb), (Hxx.out.below hb), Hhgx.out, Hdxo.out, Hdxp.out, Hdxq.out⟩)
    · go_simp
      have hb := below1 W' (.cells #[Fv 0, Fv 0] 32)
      refine hK _ _ ⟨(Hxo.out.below hb).c1, (Hxo.out.below hb).c2, (Hxo.out.below hb).c3, (Hxo.out.below hb).c4⟩ ?_
      exact wpJ_same (by kernel_rfl) (by kernel_rfl) (N0xy gx W'.heap.size _ ⟨(Hxo.out.below hb), (Hxp.out.below hb), (Hxq.out.below hb), (Below.on hbw hb), (Hxx.out.below hb), Hhgx.out, Hdxo.out, Hdxp.out, Hdxq.out, (Box.new W' _ _ _), hbw.size, (Nat.ne_of_gt Hxo.out.lt), (Nat.ne_of_gt Hxp.out.lt), (Nat.ne_of_gt Hxq.out.lt), (Nat.ne_of_lt Hxx.out.lt)⟩)
  have N0y : ∀ (gy : Nat) (W' : World), B5q W' go (.int .i64 8) (U ah) (U al) (U bh) (U bl) ∧ Box W' gp (.bool s4) (.slice (some ⟨g4, 0, none⟩) m4 m4) ∧ Box W' gq (.bool s6) (.slice (some ⟨g6, 0, none⟩) m6 m6) ∧ Below W6.heap.size W6 W' ∧ Box W' gy (Fv 0) (Fv 0) ∧ W6.heap.size ≤ gy ∧ gy ≠ go ∧ gy ≠ gp ∧ gy ≠ gq → WP 5 (L0.setIfInBounds 7 true) (a0.put (some 8) (.pointer (some ⟨gy, 0, none⟩))) W' := by
    rintro gy W' ⟨xo, xp, xq, hbw, xy, hgy, dyo, dyp, dyq⟩
    subst hWP hL ha
    have Hxo := Hid.mk9 xo
    have Hxp := Hid.mk9 xp
    have Hxq := Hid.mk9 xq
    have Hxy := Hid.mk9 xy
    have Hhgy := Hid.mk9 hgy
    have Hdyo := Hid.mk9 dyo
    have Hdyp := Hid.mk9 dyp
    have Hdyq := Hid.mk9 dyq
    clear xo xp xq xy hgy dyo dyp dyq
    go_simp
    refine wpJ_two (i := 2) (k := 6) (by kernel_rfl) rfl rfl (by kernel_rfl) (by kernel_rfl) (fun KJ hK => ?_) (fun KJ hK => ?_)
    · go_simp
      refine (P1 _).mono ?_
      rintro e W2 ⟨rfl, hb⟩
      refine hK _ _ ⟨(Hxo.out.below hb).c1, (Hxo.out.below hb).c2, (Hxo.out.below hb).c3, (Hxo.out.below hb).c4⟩ ?_
      exact wpJ_same (by kernel_rfl) (by kernel_rfl) (N1y gy W2 ⟨(Hxo.out.below hb), (Hxp.out.below hb), (Hxq.out.below hb), (Below.on hbw hb), (Hxy.out.below hb), Hhgy.out, Hdyo.out, Hdyp.out, Hdyq.out⟩)
    · go_simp
      have hb := below1 W' (.cells #[Fv 0, Fv 0] 32)
      refine hK _ _ ⟨(Hxo.out.below hb).c1, (Hxo.out.below hb).c2, (Hxo.out.below hb).c3, (Hxo.out.below hb).c4⟩ ?_
      exact wpJ_same (by kernel_rfl) (by kernel_rfl) (N0xy W'.heap.size gy _ ⟨(Hxo.out.below hb), (Hxp.out.below hb), (Hxq.out.below hb), (Below.on hbw hb), (Box.new W' _ _ _), hbw.size, (Nat.ne_of_gt Hxo.out.lt), (Nat.ne_of_gt Hxp.out.lt), (Nat.ne_of_gt Hxq.out.lt), (Hxy.out.below hb), Hhgy.out, Hdyo.out, Hdyp.out, Hdyq.out, (Nat.ne_of_gt Hxy.out.lt)⟩)
  have N0 : ∀ (W' : World), B5q W' go (.int .i64 8) (U ah) (U al) (U bh) (U bl) ∧ Box W' gp (.bool s4) (.slice (some ⟨g4, 0, none⟩) m4 m4) ∧ Box W' gq (.bool s6) (.slice (some ⟨g6, 0, none⟩) m6 m6) ∧ Below W6.heap.size W6 W' → WP 6 L0 a0 W' := by
    rintro  W' ⟨xo, xp, xq, hbw⟩
    subst hWP hL ha
    have Hxo := Hid.mk9 xo
    have Hxp := Hid.mk9 xp
    have Hxq := Hid.mk9 xq
    clear xo xp xq
    go_simp
    refine wpJ_three (i := 2) (k := 6) (l := 7) (by kernel_rfl) rfl rfl rfl (by kernel_rfl) (by kernel_rfl) (by kernel_rfl) (fun KJ hK => ?_) (fun KJ hK => ?_) (fun KJ hK => ?_)
    · go_simp
      refine (P1 _).mono ?_
      rintro e W2 ⟨rfl, hb⟩
      refine hK _ _ ⟨(Hxo.out.below hb).c1, (Hxo.out.below hb).c2, (Hxo.out.below hb).c3, (Hxo.out.below hb).c4⟩ ?_
      exact wpJ_same (by kernel_rfl) (by kernel_rfl) (N1  W2 ⟨(Hxo.out.below hb), (Hxp.out.below hb), (Hxq.out.below hb), (Below.on hbw hb)⟩)
    · go_simp
      have hb := below1 W' (.cells #[Fv 0, Fv 0] 32)
      refine hK _ _ ⟨(Hxo.out.below hb).c1, (Hxo.out.below hb).c2, (Hxo.out.below hb).c3, (Hxo.out.below hb).c4⟩ ?_
      exact wpJ_same (by kernel_rfl) (by kernel_rfl) (N0x W'.heap.size _ ⟨(Hxo.out.below hb), (Hxp.out.below hb), (Hxq.out.below hb), (Below.on hbw hb), (Box.new W' _ _ _), hbw.size, (Nat.ne_of_gt Hxo.out.lt), (Nat.ne_of_gt Hxp.out.lt), (Nat.ne_of_gt Hxq.out.lt)⟩)
    · go_simp
      have hb := below1 W' (.cells #[Fv 0, Fv 0] 32)
      refine hK _ _ ⟨(Hxo.out.below hb).c1, (Hxo.out.below hb).c2, (Hxo.out.below hb).c3, (Hxo.out.below hb).c4⟩ ?_
      exact wpJ_same (by kernel_rfl) (by kernel_rfl) (N0y W'.heap.size _ ⟨(Hxo.out.below hb), (Hxp.out.below hb), (Hxq.out.below hb), (Below.on hbw hb), (Box.new W' _ _ _), hbw.size, (Nat.ne_of_gt Hxo.out.lt), (Nat.ne_of_gt Hxp.out.lt), (Nat.ne_of_gt Hxq.out.lt)⟩)
  exact N0 V1 ⟨Xo.out, Xp.out, Xq.out, hbw⟩
structure Op20 where
  k : Int
  ah : Nat
  al : Nat
  bh : Nat
  bl : Nat
structure Scr20 (w : World) (P : Option Addr) (N C : Nat) (its : List Op20) : Prop where
  len : its.length = N
  cap : N ≤ C
  big : C ≤ maxLen
  bd : ∀ t ∈ its, t.ah < 18446744073709551616 ∧ t.al < 18446744073709551616 ∧ t.bh < 18446744073709551616 ∧ t.bl < 18446744073709551616
  cells : N = 0 ∨ ∃ g off, P = some ⟨g, off, none⟩ ∧ ∀ i (h : i < its.length), w.cell? ⟨g, off + i * 5, none⟩ = some (.int .i64 its[i].k) ∧ w.cell? ⟨g, off + i * 5 + 1, none⟩ = some (U its[i].ah) ∧ w.cell? ⟨g, off + i * 5 + 2, none⟩ = some (U its[i].al) ∧ w.cell? ⟨g, off + i * 5 + 3, none⟩ = some (U its[i].bh) ∧ w.cell? ⟨g, off + i * 5 + 4, none⟩ = some (U its[i].bl)
theorem Scr20.below {w w' : World} {P : Option Addr} {N C : Nat} {its : List Op20} (h : Scr20 w P N C its) (hb : Below w.heap.size w w') : Scr20 w' P N C its := by
  refine ⟨h.len, h.cap, h.big, h.bd, ?_⟩
  rcases h.cells with h0 | ⟨g, off, hP, hc⟩
  · exact .inl h0
  · refine .inr ⟨g, off, hP, fun i hi => ?_⟩
    obtain ⟨h0, h1, h2, h3, h4⟩ := hc i hi
    have hl : g < w.heap.size := World.block_lt_of_cell? w _ h0
    exact ⟨(hb.cell (p := ⟨g, off + i * 5, none⟩) hl).trans h0, (hb.cell (p := ⟨g, off + i * 5 + 1, none⟩) hl).trans h1, (hb.cell (p := ⟨g, off + i * 5 + 2, none⟩) hl).trans h2, (hb.cell (p := ⟨g, off + i * 5 + 3, none⟩) hl).trans h3, (hb.cell (p := ⟨g, off + i * 5 + 4, none⟩) hl).trans h4⟩
def Play20 (k : Int) : Prop := ∀ (ah al bh bl : Nat) (w : World), (ah < 18446744073709551616 ∧ al < 18446744073709551616 ∧ bh < 18446744073709551616 ∧ bl < 18446744073709551616) → Calls Tryz.prog 22 #[.agg #[.int .i64 k, U ah, U al, U bh, U bl]] w fun en w' => en = .returned (.bool true) ∧ Below w.heap.size w w'
theorem plays20_6 {ah al bh bl : Nat} (h : ah < 18446744073709551616 ∧ al < 18446744073709551616 ∧ bh < 18446744073709551616 ∧ bl < 18446744073709551616) (w : World) :
    Calls Tryz.prog 22 #[.agg #[.int .i64 6, U ah, U al, U bh, U bl]] w fun en w' => en = .returned (.bool true) ∧ Below w.heap.size w w' := by
  have HB := Hid.mk9 h
  clear h
  go_enter Tryz.func22, Tryz.ntmps22
  go_wp2_with fail
  obtain ⟨W0, hW0⟩ : ∃ W0, W0 = (w.alloc (.cells #[.int .i64 6, U ah, U al, U bh, U bl] 48)) := ⟨_, rfl⟩
  have Xo : Hid (B5q W0 (w.heap.size) (.int .i64 6) (U ah) (U al) (U bh) (U bl)) := by rw [hW0]; exact ⟨by go_simp, by go_simp, by go_simp, by go_simp, by go_simp, by go_simp, by go_simp, by go_simp, by go_simp, by go_simp⟩
  have hb0 : Below w.heap.size w W0 := by rw [hW0]; exact below1 w _
  rw [← hW0]
  clear hW0
  have hbw : Below w.heap.size w w := Below.refl _ _
  obtain ⟨go, hgo⟩ : ∃ g, g = w.heap.size := ⟨_, rfl⟩
  have HGo : Hid (w.heap.size ≤ go) := by rw [hgo]; show _ ≤ _; omega
  rw [← hgo] at Xo
  try rw [← hgo]
  clear hgo
  replace hbw := Below.on hbw hb0
  clear hb0
  obtain ⟨co0, co1, co2, co3, co4, fo0, fo1, fo2, fo3, fo4⟩ := Xo.out
  have hneo : go < W0.heap.size := World.block_lt_of_cell? W0 _ co0
  go_wp2_with fail
  clear co0 co1 co2 co3 co4 fo0 fo1 fo2 fo3 fo4 hneo
  refine (reckons_6 HB.out.1 HB.out.2.1 HB.out.2.2.1 HB.out.2.2.2 _).mono ?_
  rintro e v1 ⟨rfl, hb1⟩
  replace Xo : Hid _ := Xo.out.below hb1
  replace hbw := Below.on hbw hb1
  clear hb1
  go_wp2_with fail
  go_ret
  exact ⟨rfl, hbw⟩
theorem plays20_7 {ah al bh bl : Nat} (h : ah < 18446744073709551616 ∧ al < 18446744073709551616 ∧ bh < 18446744073709551616 ∧ bl < 18446744073709551616) (w : World) :
    Calls Tryz.prog 22 #[.agg #[.int .i64 7, U ah, U al, U bh, U bl]] w fun en w' => en = .returned (.bool true) ∧ Below w.heap.size w w' := by
  have HB := Hid.mk9 h
  clear h
  go_enter Tryz.func22, Tryz.ntmps22
  go_wp2_with fail
  obtain ⟨W0, hW0⟩ : ∃ W0, W0 = (w.alloc (.cells #[.int .i64 7, U ah, U al, U bh, U bl] 48)) := ⟨_, rfl⟩
  have Xo : Hid (B5q W0 (w.heap.size) (.int .i64 7) (U ah) (U al) (U bh) (U bl)) := by rw [hW0]; exact ⟨by go_simp, by go_simp, by go_simp, by go_simp, by go_simp, by go_simp, by go_simp, by go_simp, by go_simp, by go_simp⟩
  have hb0 : Below w.heap.size w W0 := by rw [hW0]; exact below1 w _
  rw [← hW0]
  clear hW0
  have hbw : Below w.heap.size w w := Below.refl _ _
  obtain ⟨go, hgo⟩ : ∃ g, g = w.heap.size := ⟨_, rfl⟩
  have HGo : Hid (w.heap.size ≤ go) := by rw [hgo]; show _ ≤ _; omega
  rw [← hgo] at Xo
  try rw [← hgo]
  clear hgo
  replace hbw := Below.on hbw hb0
  clear hb0
  obtain ⟨co0, co1, co2, co3, co4, fo0, fo1, fo2, fo3, fo4⟩ := Xo.out
  have hneo : go < W0.heap.size := World.block_lt_of_cell? W0 _ co0
  go_wp2_with fail
  clear co0 co1 co2 co3 co4 fo0 fo1 fo2 fo3 fo4 hneo
  refine (reckons_7 HB.out.1 HB.out.2.1 HB.out.2.2.1 HB.out.2.2.2 _).mono ?_
  rintro e v1 ⟨rfl, hb1⟩
  replace Xo : Hid _ := Xo.out.below hb1
  replace hbw := Below.on hbw hb1
  clear hb1
  go_wp2_with fail
  go_ret
  exact ⟨rfl, hbw⟩
theorem plays20_8 {ah al bh bl : Nat} (h : ah < 18446744073709551616 ∧ al < 18446744073709551616 ∧ bh < 18446744073709551616 ∧ bl < 18446744073709551616) (w : World) :
    Calls Tryz.prog 22 #[.agg #[.int .i64 8, U ah, U al, U bh, U bl]] w fun en w' => en = .returned (.bool true) ∧ Below w.heap.size w w' := by
  have HB := Hid.mk9 h
  clear h
  go_enter Tryz.func22, Tryz.ntmps22
  go_wp2_with fail
  obtain ⟨W0, hW0⟩ : ∃ W0, W0 = (w.alloc (.cells #[.int .i64 8, U ah, U al, U bh, U bl] 48)) := ⟨_, rfl⟩
  have Xo : Hid (B5q W0 (w.heap.size) (.int .i64 8) (U ah) (U al) (U bh) (U bl)) := by rw [hW0]; exact ⟨by go_simp, by go_simp, by go_simp, by go_simp, by go_simp, by go_simp, by go_simp, by go_simp, by go_simp, by go_simp⟩
  have hb0 : Below w.heap.size w W0 := by rw [hW0]; exact below1 w _
  rw [← hW0]
  clear hW0
  have hbw : Below w.heap.size w w := Below.refl _ _
  obtain ⟨go, hgo⟩ : ∃ g, g = w.heap.size := ⟨_, rfl⟩
  have HGo : Hid (w.heap.size ≤ go) := by rw [hgo]; show _ ≤ _; omega
  rw [← hgo] at Xo
  try rw [← hgo]
  clear hgo
  replace hbw := Below.on hbw hb0
  clear hb0
  obtain ⟨co0, co1, co2, co3, co4, fo0, fo1, fo2, fo3, fo4⟩ := Xo.out
  have hneo : go < W0.heap.size := World.block_lt_of_cell? W0 _ co0
  go_wp2_with fail
  clear co0 co1 co2 co3 co4 fo0 fo1 fo2 fo3 fo4 hneo
  refine (reckons_8 HB.out.1 HB.out.2.1 HB.out.2.2.1 HB.out.2.2.2 _).mono ?_
  rintro e v1 ⟨rfl, hb1⟩
  replace Xo : Hid _ := Xo.out.below hb1
  replace hbw := Below.on hbw hb1
  clear hb1
  go_wp2_with fail
  go_ret
  exact ⟨rfl, hbw⟩
theorem play20_s (k : Int) (h1 : 6 ≤ k) (h2 : k ≤ 8) : Play20 k := by
  intro ah al bh bl w h
  obtain rfl | rfl | rfl : k = 6 ∨ k = 7 ∨ k = 8 := by omega
  · exact plays20_6 h w
  · exact plays20_7 h w
  · exact plays20_8 h w
theorem all20 {P : Option Addr} {N C : Nat} {its : List Op20} {w : World} {lo hi : Int} (h : Scr20 w P N C its)
    (hp : ∀ k, lo ≤ k → k ≤ hi → Play20 k) :
    Calls Tryz.prog 8 #[.slice P N C, .int .i64 lo, .int .i64 hi] w fun en w' => en = .returned (.bool true) ∧ Below w.heap.size w w' := by
  have H : Hid (Scr20 w P N C its) := h
  have HP : Hid (∀ k, lo ≤ k → k ≤ hi → Play20 k) := hp
  have HLN : Hid (its.length = N) := h.len
  have cap := h.cap; have big := h.big
  unfold maxLen at big
  clear h hp
  go_enter Tryz.func8, Tryz.ntmps8
  go_wp2_with fail
  go_loopg [11] N (fun gg iv wr => ∃ k : Nat, k + gg = N ∧ iv = .int .i64 k ∧ Below w.heap.size w wr)
  case atStart => exact ⟨0, by omega, rfl, Below.refl _ _⟩
  case round =>
    obtain ⟨k, hkg, rfl, hbw⟩ := hrel
    cases gk with
    | zero =>
      obtain rfl : k = N := by omega
      have hnk : ¬ (k : Int) < (k : Int) := by omega
      go_wp2_with fail
      go_ret
      exact ⟨rfl, hbw⟩
    | succ gg =>
      have hki : k < its.length := by rw [HLN.out]; omega
      have HR := H.out.below hbw
      obtain ⟨g, off, rfl, hc⟩ := HR.cells.resolve_left (by omega)
      obtain ⟨e0, e1, e2, e3, e4⟩ := hc k hki
      have HAT := Hid.mk9 (HR.bd its[k] (List.getElem_mem hki))
      have HBW : Hid (Below w.heap.size w wr) := hbw
      have hkk : (k : Int) < (N : Int) := by omega
      have hlt : g < wr.heap.size := World.block_lt_of_cell? wr _ e0
      clear hc HR hbw
      generalize its[k].k = kd at *
      generalize its[k].ah = ah at *
      generalize its[k].al = al at *
      generalize its[k].bh = bh at *
      generalize its[k].bl = bl at *
      have HBO : Hid (Below w.heap.size w (wr.alloc (.cells #[.int .i64 kd, U ah, U al, U bh, U bl] 48))) := Below.on HBW.out (below1 wr _)
      clear HBW
      by_cases hlo : lo ≤ kd
      · have hlo2 : ¬ kd < lo := by omega
        by_cases hhi : kd ≤ hi
        · have hhi2 : ¬ hi < kd := by omega
          have HPK : Hid (Play20 kd) := HP.out kd hlo hhi
          go_wp2_with fail
          refine (HPK.out ah al bh bl _ HAT.out).mono ?_
          rintro e wz ⟨rfl, hbq⟩
          have hbz := Below.on HBO.out hbq
          clear hbq e0 e1 e2 e3 e4
          go_wp2_with fail
          go_roundg gg
          case measure => omega
          case rel => exact ⟨k + 1, by omega, by go_num, hbz⟩
        · have hhi2 : hi < kd := by omega
          go_wp2_with fail
          go_roundg gg
          case measure => omega
          case rel => exact ⟨k + 1, by omega, by go_num, HBO.out⟩
      · have hlo2 : kd < lo := by omega
        go_wp2_with fail
        go_roundg gg
        case measure => omega
        case rel => exact ⟨k + 1, by omega, by go_num, HBO.out⟩
theorem ddSums_w {P : Option Addr} {N C : Nat} {its : List Op20} {w : World} (h : Scr20 w P N C its) :
    Calls Tryz.prog 4 #[.slice P N C] w fun en w' => en = .returned (.bool true) ∧ Below w.heap.size w w' := by
  have HS := Hid.mk9 h
  clear h
  go_enter Tryz.func4, Tryz.ntmps4
  go_wp2_with fail
  refine (awake20 _).mono ?_
  rintro en w1 ⟨rfl, hb1⟩
  have HB1 := Hid.mk9 hb1
  clear hb1
  go_wp2_with fail
  refine (all20 (HS.out.below HB1.out) play20_s).mono ?_
  rintro en w2 ⟨rfl, hb2⟩
  have HB2 := Hid.mk9 (Below.on HB1.out hb2)
  clear hb2
  go_wp2_with fail
  go_ret
  exact ⟨rfl, HB2.out⟩
end Go.Proofs.YtcibiadpdcncmaaGreatDoor
namespace Go.Proofs.YtcibiadpdcncmaaGreatDoor
open Go.ChangeShapes Go.WideShapes Go.ChangeAt Go.RowKit Go.Deep
set_option maxRecDepth 20000
set_option maxHeartbeats 0
theorem cellsOfOp20 : Tryz.prog.cellsOf 48 = 5 := by kernel_rfl
theorem cellsOfDD20 : Tryz.prog.cellsOf 28 = 2 := by kernel_rfl
theorem cellsOfi20 : Tryz.prog.cellsOf 3 = 1 := by kernel_rfl
theorem oneCellDD20 {fs : Array Field} (h : Tryz.prog.underlying 28 = some (.struct fs)) : oneCellFields Tryz.prog fs = true := by
  have : (match Tryz.prog.underlying 28 with | some (.struct fs) => oneCellFields Tryz.prog fs | _ => false) = true := by kernel_rfl
  rw [h] at this
  exact this
theorem open_dd20 {H : Type} {enc : TypeId × Value → H} {W : World} {k : Nat} {v0 v1 : Value} {y : DataW H × List MemPlace}
    (h : DataW.trod enc Tryz.prog W 0 (fun _ => true) true k 28 [v0, v1] = some y) :
    ∃ a b : Nat, v0 = U a ∧ v1 = U b ∧ a < 18446744073709551616 ∧ b < 18446744073709551616 := by
  have hone := oneCellDD20 Tryz.underlying28
  obtain ⟨us, kx, _, hux, _, hul, hgx⟩ := DataW.trod_struct Tryz.underlying28 h
  match us, hul with
  | [a0, a1], _ =>
    have x0 := hgx 0 _ rfl
    have x1 := hgx 1 _ rfl
    rw [(hone_of hone 0 _ rfl).1, (hone_of hone 0 _ rfl).2] at x0
    rw [(hone_of hone 1 _ rfl).1, (hone_of hone 1 _ rfl).2] at x1
    have q0 : DataW.trod enc Tryz.prog W 0 (fun _ => true) true kx 26 [v0] = some a0 := x0
    have q1 : DataW.trod enc Tryz.prog W 0 (fun _ => true) true kx 26 [v1] = some a1 := x1
    clear x0 x1
    obtain ⟨a, rfl, wa⟩ := open_fld_int Tryz.underlying26 q0
    obtain ⟨b, rfl, wb⟩ := open_fld_int Tryz.underlying26 q1
    have ba := wf_u64 wa
    have bb := wf_u64 wb
    obtain ⟨n, rfl⟩ := Int.eq_ofNat_of_zero_le ba.1
    obtain ⟨m, rfl⟩ := Int.eq_ofNat_of_zero_le bb.1
    exact ⟨n, m, rfl, rfl, by omega, by omega⟩
theorem open_script20 {H : Type} {enc : TypeId × Value → H} {W : World} {a : Option Addr} {len cap : Nat} {d : DataW H} {ps : List MemPlace}
    (h : DataW.Trod enc Tryz.prog W 0 (fun _ => true) true 22 (.slice a len cap) d ps) :
    ∃ its, Scr20 W a len cap its := by
  obtain ⟨fuel, hf⟩ := h
  rcases DataW.trod_slice Tryz.underlying22 hf with ⟨hcs, _⟩ | ⟨x, l, c, elems, rest, n, _, hcs, hx, hb, hl, hm, hlen, hel, _, _⟩
  · simp [Value.cells] at hcs
    obtain ⟨rfl, rfl, rfl⟩ := hcs
    exact ⟨[], rfl, Nat.le_refl _, by decide, fun t h => by simp at h, .inl rfl⟩
  · simp [Value.cells] at hcs
    obtain ⟨rfl, rfl, rfl⟩ := hcs
    simp only [Prod.mk.injEq] at hx
    obtain ⟨rfl, _⟩ := hx
    obtain ⟨b, off, spot⟩ := x
    have each : ∀ i, i < len → ∃ t : Op20, (W.cell? ((⟨b, off, spot⟩ : Addr).add (i * 5 + 0)) = some (.int .i64 t.k) ∧ W.cell? ((⟨b, off, spot⟩ : Addr).add (i * 5 + 1)) = some (U t.ah) ∧ W.cell? ((⟨b, off, spot⟩ : Addr).add (i * 5 + 2)) = some (U t.al) ∧ W.cell? ((⟨b, off, spot⟩ : Addr).add (i * 5 + 3)) = some (U t.bh) ∧ W.cell? ((⟨b, off, spot⟩ : Addr).add (i * 5 + 4)) = some (U t.bl)) ∧
        (t.ah < 18446744073709551616 ∧ t.al < 18446744073709551616 ∧ t.bh < 18446744073709551616 ∧ t.bl < 18446744073709551616) := by
      intro i hi
      have h1 := hel i hi
      have hie : i < elems.length := by omega
      rw [List.getElem?_eq_getElem hie, Option.bind_eq_some_iff] at h1
      obtain ⟨cs', h2, h3⟩ := h1
      rw [cellsOfOp20] at h2
      obtain ⟨_, hlenN, hcell⟩ := World.cells?_some h2
      obtain ⟨ys, k, _, hxy, _, hxl, hg⟩ := DataW.trod_struct Tryz.underlying48 h3
      match ys, hxl, cs', hlenN with
      | [y0, y1, y2], _, [v0, v1, v2, v3, v4], _ =>
        have k0 : DataW.trod enc Tryz.prog W 0 (fun _ => true) true k 3 [v0] = some y0 := by
          have g' : DataW.trod enc Tryz.prog W 0 (fun _ => true) true k 3 (([v0, v1, v2, v3, v4].drop 0).take (Tryz.prog.cellsOf 3)) = some y0 := hg 0 _ rfl
          rw [cellsOfi20] at g'
          exact g'
        have k1 : DataW.trod enc Tryz.prog W 0 (fun _ => true) true k 28 [v1, v2] = some y1 := by
          have g' : DataW.trod enc Tryz.prog W 0 (fun _ => true) true k 28 (([v0, v1, v2, v3, v4].drop 1).take (Tryz.prog.cellsOf 28)) = some y1 := hg 1 _ rfl
          rw [cellsOfDD20] at g'
          exact g'
        have k2 : DataW.trod enc Tryz.prog W 0 (fun _ => true) true k 28 [v3, v4] = some y2 := by
          have g' : DataW.trod enc Tryz.prog W 0 (fun _ => true) true k 28 (([v0, v1, v2, v3, v4].drop 3).take (Tryz.prog.cellsOf 28)) = some y2 := hg 2 _ rfl
          rw [cellsOfDD20] at g'
          exact g'
        obtain ⟨c0, rfl, _⟩ := open_fld_int Tryz.underlying3 k0
        obtain ⟨a1, a2, rfl, rfl, l1, l2⟩ := open_dd20 k1
        obtain ⟨a3, a4, rfl, rfl, l3, l4⟩ := open_dd20 k2
        have e0 := hcell 0 (by omega)
        have e1 := hcell 1 (by omega)
        have e2 := hcell 2 (by omega)
        have e3 := hcell 3 (by omega)
        have e4 := hcell 4 (by omega)
        rw [add_add] at e0 e1 e2 e3 e4
        exact ⟨⟨c0, a1, a2, a3, a4⟩, ⟨e0, e1, e2, e3, e4⟩, l1, l2, l3, l4⟩
    have inh : Inhabited Op20 := ⟨⟨0, 0, 0, 0, 0⟩⟩
    obtain ⟨q, hq⟩ := choose_lt each
    refine ⟨(List.range len).map q, by simp, hl, hm, ?_, ?_⟩
    · intro t ht
      obtain ⟨i, hi, rfl⟩ := List.mem_map.1 ht
      exact (hq i (List.mem_range.1 hi)).2
    · by_cases h0 : len = 0
      · exact .inl h0
      · have hs := (hq 0 (by omega)).1.1
        have hspot : spot = none := by simpa [Addr.add] using World.cell?_spot hs
        subst hspot
        have hadd : ∀ q : Nat, (⟨b, off, none⟩ : Addr).add q = ⟨b, off + q, none⟩ := by intro q; unfold Addr.add; split <;> simp_all
        refine .inr ⟨b, off, rfl, fun i hi => ?_⟩
        have hi' : i < len := by simpa using hi
        have h5 := (hq i hi').1
        simp only [hadd] at h5
        simpa [Nat.add_assoc] using h5
end Go.Proofs.YtcibiadpdcncmaaGreatDoor
