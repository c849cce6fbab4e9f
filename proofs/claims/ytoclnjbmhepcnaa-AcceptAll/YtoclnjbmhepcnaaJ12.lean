import Derived.Test.YtoclnjbmhepcnaaJ11
namespace Go.Proofs.Ytoclnjbmhepcnaa
open Go.RowKit Go.Shelf
set_option maxRecDepth 20000
set_option maxHeartbeats 0
theorem rabs_any {p : Option Addr} {m : Nat} {w : World} {z : Int} (s : Bool) (h : ZR w s p m z) (hm : m ≤ 100000) :
    Calls Try.prog 42 #[.agg #[.bool s, .slice p m m]] w fun en w' => ∃ v, en = .returned v ∧ GotR w.heap.size w' v (z.natAbs : Int) m ∧ Below w.heap.size w w' := by
  have HA : Hid (ZR w s p m z) := h
  have HM : Hid (m ≤ 100000) := hm
  clear h hm
  go_enter Try.func42, Try.ntmps42
  go_wp2_with fail
  obtain ⟨W0, hW0⟩ : ∃ W0, W0 = ((w.alloc (.cells #[.bool s, .slice p m m] 47)).alloc (.cells #[.bool false, .slice none 0 0] 47)) := ⟨_, rfl⟩
  have Xa : Hid (Box W0 (w.heap.size) (.bool s) (.slice p m m)) := by rw [hW0]; exact ⟨by go_simp, by go_simp, by go_simp, by go_simp⟩
  have Xr : Hid (Box W0 (w.heap.size + 1) (.bool false) (.slice none 0 0)) := by rw [hW0]; exact ⟨by go_simp, by go_simp, by go_simp, by go_simp⟩
  have hb0 : Below w.heap.size w W0 := by rw [hW0]; exact below2 w _ _
  rw [← hW0]
  clear hW0
  have hbw : Below w.heap.size w w := Below.refl _ _
  obtain ⟨gr, hgr⟩ : ∃ g, g = w.heap.size + 1 := ⟨_, rfl⟩
  have HGr : Hid (w.heap.size ≤ gr) := by rw [hgr]; show _ ≤ _; omega
  rw [← hgr] at Xr
  try rw [← hgr]
  obtain ⟨ga, hga⟩ : ∃ g, g = w.heap.size := ⟨_, rfl⟩
  have HGa : Hid (w.heap.size ≤ ga) := by rw [hga]; show _ ≤ _; omega
  rw [← hga] at Xa
  try rw [← hga]
  have HGD : Hid (ga ≠ gr ∧ gr ≠ ga) := by rw [hga, hgr]; exact ⟨by omega, by omega⟩
  clear hga hgr
  replace HA : Hid _ := HA.out.below hb0
  replace hbw := Below.on hbw hb0
  clear hb0
  obtain ⟨zs, hA, hN⟩ := HA.out.ex
  have HRL : Hid (gr < W0.heap.size) := Xr.out.lt
  have hiv : iv false z.natAbs = (z.natAbs : Int) := rfl
  refine (rmk_any false hA hN (by have := HM.out; omega)).mono ?_
  rintro e w1 ⟨v, rfl, hv, hb1⟩
  rw [hiv] at hv
  obtain ⟨s1, g1, m1, rfl, hg1, hz1, hl1⟩ := hv
  clear hA hN hiv
  have HGE : Hid (W0.heap.size ≤ g1 ∧ w.heap.size ≤ W0.heap.size) := ⟨hg1, hbw.size⟩
  replace Xa : Hid _ := Xa.out.below hb1
  replace Xr : Hid _ := Xr.out.below hb1
  replace HA : Hid _ := HA.out.below hb1
  replace hbw := Below.on hbw hb1
  clear hb1
  have ZA : Hid (ZR w1 s1 (some ⟨g1, 0, none⟩) m1 (z.natAbs : Int)) := hz1
  have HL : Hid (m1 ≤ m) := hl1
  clear hg1 hz1 hl1
  obtain ⟨cr0, cr1, fr0, fr1⟩ := Xr.out
  have hner := Xr.out.lt
  go_wp2_with fail
  refine bodyPost_ret (v := .agg #[.bool s1, .slice (some ⟨g1, 0, none⟩) m1 m1]) (by rw [results_cell1 rfl]; go_simp) rfl ⟨_, rfl, ⟨s1, g1, m1, rfl, ?_, ?_, HL.out⟩, ?_⟩
  · exact Nat.le_trans HGE.out.2 HGE.out.1
  · have := HGE.out.1; have := HRL.out
    exact (ZA.out.set _ _ _ (by omega)).set _ _ _ (by omega)
  · exact bSet (bSet hbw _ _ _ HGr.out) _ _ _ HGr.out
theorem Box.off2 {W : World} {g : Nat} {v0 v1 : Value} (h : Box W g v0 v1) {g2 : Nat} (hne : g ≠ g2) (a b : Value) : Box ((W.setCell ⟨g2, 0, none⟩ a).setCell ⟨g2, 1, none⟩ b) g v0 v1 := by
  obtain ⟨c0, c1, f0, f1⟩ := h
  have hne2 := hne.symm
  exact ⟨by go_simp, by go_simp, by go_simp, by go_simp⟩
theorem zr_len {w : World} {s : Bool} {p : Option Addr} {m : Nat} {z : Int} {K : Nat} (h : ZR w s p m z) (hb : bitsN z.natAbs ≤ K) : m ≤ K := by
  obtain ⟨zs, hA, hN⟩ := h.ex
  exact nf_len5 hA hN hb
def cLow (s : Nat) : Int := (vs 4503599627370496 (s - 1) : Int) + (vs 4503599627370496 s : Int)
def cHigh (s : Nat) : Int := (vs 4503599627370496 s : Int) + (vs 4503599627370496 (s + 1) : Int)
def inC (A B : Int) (s : Nat) : Bool := if s % 2 = 0 then decide (0 ≤ cmpI ((A.natAbs : Int) * 2) (cLow s * B)) && decide (cmpI ((A.natAbs : Int) * 2) (cHigh s * B) ≤ 0) else decide (0 < cmpI ((A.natAbs : Int) * 2) (cLow s * B)) && decide (cmpI ((A.natAbs : Int) * 2) (cHigh s * B) < 0)
theorem incell {pa pb : Option Addr} {ma mb r s : Nat} {A B : Int} {sa sb : Bool} {w : World} (hA : ZR w sa pa ma A) (hB : ZR w sb pb mb B) (ba : bitsN A.natAbs ≤ 2400) (bb : bitsN B.natAbs ≤ 200) (hs : r % 9223372036854775808 = s) (hsg : decide (9223372036854775808 ≤ r) = sa) (h0 : s ≠ 0) (h1 : s < 9218868437227405311) :
    Calls Try.prog 24 #[.agg #[.bool sa, .slice pa ma ma], .agg #[.bool sb, .slice pb mb mb], U r] w fun en w' => en = .returned (.bool (inC A B s)) ∧ Below w.heap.size w w' := by
  have ZA : Hid (ZR w sa pa ma A) := hA
  have ZB : Hid (ZR w sb pb mb B) := hB
  have ZB0 : Hid (ZR w sb pb mb B) := hB
  have HQ : Hid (bitsN A.natAbs ≤ 2400 ∧ bitsN B.natAbs ≤ 200 ∧ r % 9223372036854775808 = s ∧ decide (9223372036854775808 ≤ r) = sa ∧ s ≠ 0 ∧ s < 9218868437227405311) := ⟨ba, bb, hs, hsg, h0, h1⟩
  obtain ⟨RB, hRB⟩ : ∃ RB, inC A B s = RB := ⟨_, rfl⟩
  have HRB2 : Hid (inC A B s = RB) := hRB
  rw [hRB]
  clear hRB
  clear hA hB ba bb hs hsg h0 h1
  go_enter Try.func24, Try.ntmps24
  go_wp2_with fail
  obtain ⟨W0, hW0⟩ : ∃ W0, W0 = ((w.alloc (.cells #[.bool sa, .slice pa ma ma] 47)).alloc (.cells #[.bool sb, .slice pb mb mb] 47)) := ⟨_, rfl⟩
  have Xa : Hid (Box W0 (w.heap.size) (.bool sa) (.slice pa ma ma)) := by rw [hW0]; exact ⟨by go_simp, by go_simp, by go_simp, by go_simp⟩
  have Xb : Hid (Box W0 (w.heap.size + 1) (.bool sb) (.slice pb mb mb)) := by rw [hW0]; exact ⟨by go_simp, by go_simp, by go_simp, by go_simp⟩
  have hb0 : Below w.heap.size w W0 := by rw [hW0]; exact below2 w _ _
  rw [← hW0]
  clear hW0
  have hbw : Below w.heap.size w w := Below.refl _ _
  obtain ⟨gb, hgb⟩ : ∃ g, g = w.heap.size + 1 := ⟨_, rfl⟩
  have HGb : Hid (w.heap.size ≤ gb) := by rw [hgb]; show _ ≤ _; omega
  rw [← hgb] at Xb
  try rw [← hgb]
  obtain ⟨ga, hga⟩ : ∃ g, g = w.heap.size := ⟨_, rfl⟩
  have HGa : Hid (w.heap.size ≤ ga) := by rw [hga]; show _ ≤ _; omega
  rw [← hga] at Xa
  try rw [← hga]
  have HGD : Hid (ga ≠ gb ∧ gb ≠ ga) := by rw [hga, hgb]; exact ⟨by omega, by omega⟩
  clear hga hgb
  replace ZA : Hid _ := ZA.out.below hb0
  replace ZB : Hid _ := ZB.out.below hb0
  replace hbw := Below.on hbw hb0
  clear hb0
  refine (rof_64 _).mono ?_
  rintro e v1 ⟨rfl, hb1⟩
  replace Xa : Hid _ := Xa.out.below hb1
  replace Xb : Hid _ := Xb.out.below hb1
  replace ZA : Hid _ := ZA.out.below hb1
  replace ZB : Hid _ := ZB.out.below hb1
  replace hbw := Below.on hbw hb1
  clear hb1
  go_wp2_with fail
  have HDak0 : Hid (ga < v1.heap.size) := Xa.out.lt
  have HDbk0 : Hid (gb < v1.heap.size) := Xb.out.lt
  have Xk0 : Hid (B6q (v1.alloc (.cells #[U 9223372036854775808, .int .i64 53, .int .i64 (-1074), .int .i64 971, U 9218868437227405312, U 9221120237041090561] 63)) v1.heap.size (U 9223372036854775808) (.int .i64 53) (.int .i64 (-1074)) (.int .i64 971) (U 9218868437227405312) (U 9221120237041090561)) := B6q.new v1 _ _ _ _ _ _ _
  have hbn : Below v1.heap.size v1 (v1.alloc (.cells #[U 9223372036854775808, .int .i64 53, .int .i64 (-1074), .int .i64 971, U 9218868437227405312, U 9221120237041090561] 63)) := below1 v1 _
  generalize v1.alloc (.cells #[U 9223372036854775808, .int .i64 53, .int .i64 (-1074), .int .i64 971, U 9218868437227405312, U 9221120237041090561] 63) = W2 at *
  have HGk : Hid (w.heap.size ≤ v1.heap.size) := hbw.size
  replace Xa : Hid _ := Xa.out.below hbn
  replace Xb : Hid _ := Xb.out.below hbn
  replace ZA : Hid _ := ZA.out.below hbn
  replace ZB : Hid _ := ZB.out.below hbn
  replace hbw := Below.on hbw hbn
  clear hbn
  generalize v1.heap.size = gk at *
  have Xk := Xk0
  clear Xk0
  have HDak : Hid (ga ≠ gk) := Nat.ne_of_lt HDak0.out
  have HDbk : Hid (gb ≠ gk) := Nat.ne_of_lt HDbk0.out
  clear HDak0 HDbk0
  obtain ⟨ck0, ck1, ck2, ck3, ck4, ck5, fk0, fk1, fk2, fk3, fk4, fk5⟩ := Xk.out
  have hnek : gk < W2.heap.size := World.block_lt_of_cell? W2 _ ck0
  go_wp2_with fail
  clear ck0 ck1 ck2 ck3 ck4 ck5 fk0 fk1 fk2 fk3 fk4 fk5 hnek
  have HCT : ∀ w, Calls Try.prog 41 #[FV 9223372036854775808 53 (-1074) 971 9218868437227405312 9221120237041090561, U r] w fun e w' => e = .returned (.tuple #[.bool sa, .int .u64 (s : Int)]) ∧ Below w.heap.size w w' := by
    have h := cut_any (S := 9223372036854775808) (I := 9218868437227405312) (Q := 9221120237041090561) (P := 53) (E := -1074) (G := 971) (by decide) (by decide) r
    rw [HQ.out.2.2.1, HQ.out.2.2.2.1] at h
    exact h
  obtain ⟨S, hS⟩ : ∃ S : Int, (s : Int) = S := ⟨_, rfl⟩
  have HS : Hid ((s : Int) = S) := hS
  have d0 : (S == 0) = false := by have := HQ.out.2.2.2.2.1; rw [beq_eq_false_iff_ne]; omega
  have d1 : ¬ 9218868437227405311 ≤ S := by have := HQ.out.2.2.2.2.2; omega
  rw [hS] at HCT
  clear hS
  refine (HCT _).mono ?_
  rintro e v3 ⟨rfl, hb3⟩
  replace Xa : Hid _ := Xa.out.below hb3
  replace Xb : Hid _ := Xb.out.below hb3
  replace Xk : Hid _ := Xk.out.below hb3
  replace ZA : Hid _ := ZA.out.below hb3
  replace ZB : Hid _ := ZB.out.below hb3
  replace hbw := Below.on hbw hb3
  clear hb3
  obtain ⟨ca0, ca1, fa0, fa1⟩ := Xa.out
  have hnea := Xa.out.lt
  obtain ⟨ck0, ck1, ck2, ck3, ck4, ck5, fk0, fk1, fk2, fk3, fk4, fk5⟩ := Xk.out
  have hnek : gk < v3.heap.size := World.block_lt_of_cell? v3 _ ck0
  go_wp2_with fail
  clear ca0 ca1 fa0 fa1 hnea
  clear ck0 ck1 ck2 ck3 ck4 ck5 fk0 fk1 fk2 fk3 fk4 fk5 hnek
  have HGA : Hid (ga < v3.heap.size) := Xa.out.lt
  refine (rabs_any sa ZA.out (by have := zr_len ZA.out HQ.out.1; omega)).mono ?_
  rintro e v4 ⟨v, rfl, hv, hb4⟩
  obtain ⟨s4, g4, m4, rfl, hg4, hz4, hl4⟩ := hv
  have HN4 : Hid (v3.heap.size ≤ g4) := hg4
  have HB4 : Hid (v3.heap.size ≤ v4.heap.size) := hb4.size
  replace Xa : Hid _ := Xa.out.below hb4
  replace Xb : Hid _ := Xb.out.below hb4
  replace Xk : Hid _ := Xk.out.below hb4
  replace ZA : Hid _ := ZA.out.below hb4
  replace ZB : Hid _ := ZB.out.below hb4
  replace hbw := Below.on hbw hb4
  clear hb4
  have Z4 : Hid (ZR v4 s4 (some ⟨g4, 0, none⟩) m4 ((A.natAbs : Int))) := hz4
  have HL4 : Hid (m4 ≤ ma) := hl4
  clear hz4 hl4 hg4
  obtain ⟨ca0, ca1, fa0, fa1⟩ := Xa.out
  have hnea := Xa.out.lt
  go_wp2_with fail
  obtain rfl : s4 = false := Z4.out.sg.trans (decide_eq_false (by omega))
  have hne4 : g4 ≠ ga := by have h1 := HGA.out; have h2 := HN4.out; omega
  have HZ4 : Hid (ZR ((v4.setCell ⟨ga, 0, none⟩ (.bool false)).setCell ⟨ga, 1, none⟩ (.slice (some ⟨g4, 0, none⟩) m4 m4)) false (some ⟨g4, 0, none⟩) m4 (A.natAbs : Int)) := (Z4.out.set _ _ _ hne4).set _ _ _ hne4
  clear hne4
  clear ZA
  clear ZB
  clear Z4
  clear ca0 ca1 fa0 fa1 hnea
  obtain ⟨Wb, hWb⟩ : ∃ W9, W9 = ((v4.setCell ⟨ga, 0, none⟩ (.bool false)).setCell ⟨ga, 1, none⟩ (.slice (some ⟨g4, 0, none⟩) m4 m4)) := ⟨_, rfl⟩
  rw [← hWb] at HZ4
  obtain ⟨ca0, ca1, fa0, fa1⟩ := Xa.out
  have hnea := Xa.out.lt
  have Ya : Hid (Box Wb ga (.bool false) (.slice (some ⟨g4, 0, none⟩) m4 m4)) := by rw [hWb]; exact ⟨by go_simp, by go_simp, by go_simp, by go_simp⟩
  clear ca0 ca1 fa0 fa1 hnea
  have HNab : Hid (ga ≠ gb ∧ gb ≠ ga) := HGD.out
  have Yb : Hid (Box Wb gb (.bool sb) (.slice pb mb mb)) := by rw [hWb]; exact Xb.out.off2 HNab.out.2 _ _
  have hka : gk ≠ ga := HDak.out.symm
  have hak : ga ≠ gk := HDak.out
  obtain ⟨ck0, ck1, ck2, ck3, ck4, ck5, fk0, fk1, fk2, fk3, fk4, fk5⟩ := Xk.out
  have hnek : gk < v4.heap.size := World.block_lt_of_cell? v4 _ ck0
  have Yk : Hid (B6q Wb gk (U 9223372036854775808) (.int .i64 53) (.int .i64 (-1074)) (.int .i64 971) (U 9218868437227405312) (U 9221120237041090561)) := by rw [hWb]; exact ⟨by go_simp, by go_simp, by go_simp, by go_simp, by go_simp, by go_simp, by go_simp, by go_simp, by go_simp, by go_simp, by go_simp, by go_simp⟩
  clear ck0 ck1 ck2 ck3 ck4 ck5 fk0 fk1 fk2 fk3 fk4 fk5 hnek
  have hbw2 : Below w.heap.size w Wb := by rw [hWb]; exact bSet (bSet hbw _ _ _ HGa.out) _ _ _ HGa.out
  rw [← hWb]
  clear hWb hbw Xa Xb Xk hka hak
  have hbw := hbw2
  have Xa := Ya
  have Xb := Yb
  have Xk := Yk
  clear hbw2 Ya Yb Yk
  obtain ⟨S1, hS1⟩ : ∃ S1 : Int, ((s - 1 : Nat) : Int) = S1 := ⟨_, rfl⟩
  obtain ⟨S2, hS2⟩ : ∃ S2 : Int, ((s + 1 : Nat) : Int) = S2 := ⟨_, rfl⟩
  have wS1 : IntKind.u64.wrap (S - 1) = S1 := by have h := HQ.out.2.2.2.2; have h2 := HS.out; rw [IntKind.wrap_u64]; omega
  have wS2 : IntKind.u64.wrap (S + 1) = S2 := by have h := HQ.out.2.2.2.2; have h2 := HS.out; rw [IntKind.wrap_u64]; omega
  have WA : ∀ w, Calls Try.prog 43 #[FV 9223372036854775808 53 (-1074) 971 9218868437227405312 9221120237041090561, .int .u64 S1] w fun en w' => ∃ v, en = .returned v ∧ GotR w.heap.size w' v (vs 4503599627370496 (s - 1) : Int) 2200 ∧ Below w.heap.size w w' := by
    intro w
    have h := rwhole_64 (b := s - 1) w
    have h2 := HQ.out.2.2.2.2
    rw [svS_eq, if_neg (by omega), Nat.mod_eq_of_lt (by omega)] at h
    have h3 := hS1
    rw [← h3]
    exact h
  have WB : ∀ w, Calls Try.prog 43 #[FV 9223372036854775808 53 (-1074) 971 9218868437227405312 9221120237041090561, .int .u64 S] w fun en w' => ∃ v, en = .returned v ∧ GotR w.heap.size w' v (vs 4503599627370496 (s) : Int) 2200 ∧ Below w.heap.size w w' := by
    intro w
    have h := rwhole_64 (b := s) w
    have h2 := HQ.out.2.2.2.2
    rw [svS_eq, if_neg (by omega), Nat.mod_eq_of_lt (by omega)] at h
    have h3 := HS.out
    rw [← h3]
    exact h
  have WC : ∀ w, Calls Try.prog 43 #[FV 9223372036854775808 53 (-1074) 971 9218868437227405312 9221120237041090561, .int .u64 S2] w fun en w' => ∃ v, en = .returned v ∧ GotR w.heap.size w' v (vs 4503599627370496 (s + 1) : Int) 2200 ∧ Below w.heap.size w w' := by
    intro w
    have h := rwhole_64 (b := s + 1) w
    have h2 := HQ.out.2.2.2.2
    rw [svS_eq, if_neg (by omega), Nat.mod_eq_of_lt (by omega)] at h
    have h3 := hS2
    rw [← h3]
    exact h
  clear hS1 hS2
  have hbu : Below Wb.heap.size Wb Wb := Below.refl _ _
  obtain ⟨Wr, hWr⟩ : ∃ W1, W1 = Wb.drew := ⟨_, rfl⟩
  have hbd : Below Wb.heap.size Wb Wr := by rw [hWr]; exact bDrew1 (Below.refl _ _)
  have hbu' := Below.on hbu hbd
  clear hbu
  have hbu := hbu'
  clear hbu'
  replace Xa : Hid _ := Xa.out.below hbd
  replace Xb : Hid _ := Xb.out.below hbd
  replace Xk : Hid _ := Xk.out.below hbd
  replace hbw := Below.on hbw hbd
  clear hbd
  have HJ : Hid ((fun W' : World => W'.cell? ⟨gk, 0, none⟩ = some (U 9223372036854775808) ∧ W'.cell? ⟨gk, 1, none⟩ = some (.int .i64 53) ∧ W'.cell? ⟨gk, 2, none⟩ = some (.int .i64 (-1074)) ∧ W'.cell? ⟨gk, 3, none⟩ = some (.int .i64 971) ∧ W'.cell? ⟨gk, 4, none⟩ = some (U 9218868437227405312) ∧ W'.cell? ⟨gk, 5, none⟩ = some (U 9221120237041090561)) Wr) := ⟨Xk.out.c0, Xk.out.c1, Xk.out.c2, Xk.out.c3, Xk.out.c4, Xk.out.c5⟩
  refine wp_region_J (fun W' => W'.cell? ⟨gk, 0, none⟩ = some (U 9223372036854775808) ∧ W'.cell? ⟨gk, 1, none⟩ = some (.int .i64 53) ∧ W'.cell? ⟨gk, 2, none⟩ = some (.int .i64 (-1074)) ∧ W'.cell? ⟨gk, 3, none⟩ = some (.int .i64 971) ∧ W'.cell? ⟨gk, 4, none⟩ = some (U 9218868437227405312) ∧ W'.cell? ⟨gk, 5, none⟩ = some (U 9221120237041090561)) (by kernel_rfl) ?_
  rw [← hWr]
  clear hWr
  refine wpJ_tq 0 rfl HJ.out ?_
  refine wpJ_tq 1 rfl HJ.out ?_
  refine wpJ_tq 2 rfl HJ.out ?_
  refine wpJ_tq 4 rfl HJ.out ?_
  refine wpJ_tq 5 rfl HJ.out ?_
  obtain ⟨RQ, HRQ, HRP⟩ : ∃ RQ : Act → Act → World → Prop, Hid (∀ a1 a2 a3, (fun a0 a' W' => ∃ gl tA kA nA tB kB nB tC kC nC, a' = ((((a0.put (some 46) (.agg #[.bool tA, .slice (some ⟨kA, 0, none⟩) nA nA])).put (some 49) (.agg #[.bool tB, .slice (some ⟨kB, 0, none⟩) nB nB])).put (some 50) (.agg #[.bool tC, .slice (some ⟨kC, 0, none⟩) nC nC])).put (some 11) (.pointer (some ⟨gl, 0, none⟩))) ∧ Box W' gl (.bool tC) (.slice (some ⟨kC, 0, none⟩) nC nC) ∧ Box W' ga (.bool false) (.slice (some ⟨g4, 0, none⟩) m4 m4) ∧ Box W' gb (.bool sb) (.slice pb mb mb) ∧ B6q W' gk (U 9223372036854775808) (.int .i64 53) (.int .i64 (-1074)) (.int .i64 971) (U 9218868437227405312) (U 9221120237041090561) ∧ ZR W' tC (some ⟨kC, 0, none⟩) nC ((vs 4503599627370496 (s - 1) : Int) + (vs 4503599627370496 s : Int)) ∧ w.heap.size ≤ gl ∧ ga ≠ gl ∧ gb ≠ gl ∧ gk ≠ gl ∧ (nC ≤ 2201) ∧ Below Wb.heap.size Wb W' ∧ Below w.heap.size w W') a1 a2 a3 → RQ a1 a2 a3) ∧ Hid (∀ a1 a2 a3, RQ a1 a2 a3 → (fun a0 a' W' => ∃ gl tA kA nA tB kB nB tC kC nC, a' = ((((a0.put (some 46) (.agg #[.bool tA, .slice (some ⟨kA, 0, none⟩) nA nA])).put (some 49) (.agg #[.bool tB, .slice (some ⟨kB, 0, none⟩) nB nB])).put (some 50) (.agg #[.bool tC, .slice (some ⟨kC, 0, none⟩) nC nC])).put (some 11) (.pointer (some ⟨gl, 0, none⟩))) ∧ Box W' gl (.bool tC) (.slice (some ⟨kC, 0, none⟩) nC nC) ∧ Box W' ga (.bool false) (.slice (some ⟨g4, 0, none⟩) m4 m4) ∧ Box W' gb (.bool sb) (.slice pb mb mb) ∧ B6q W' gk (U 9223372036854775808) (.int .i64 53) (.int .i64 (-1074)) (.int .i64 971) (U 9218868437227405312) (U 9221120237041090561) ∧ ZR W' tC (some ⟨kC, 0, none⟩) nC ((vs 4503599627370496 (s - 1) : Int) + (vs 4503599627370496 s : Int)) ∧ w.heap.size ≤ gl ∧ ga ≠ gl ∧ gb ≠ gl ∧ gk ≠ gl ∧ (nC ≤ 2201) ∧ Below Wb.heap.size Wb W' ∧ Below w.heap.size w W') a1 a2 a3) := ⟨_, fun _ _ _ h => h, fun _ _ _ h => h⟩
  refine wpJ_cutA RQ ?_ ?_
  · intro a' Wc hrq
    obtain ⟨gl, tA, kA, nA, tB, kB, nB, tC, kC, nC, rfl, xbQ, xa, xb, xk, rr, hg, hda, hdb, hdk, hHLC, hbuc, hbc⟩ := HRP.out _ _ _ hrq
    clear hrq HRP HRQ
    clear hbw hbu HJ Xa Xb Xk
    have hbw := hbc
    have hbu := hbuc
    have Xl : Hid (Box Wc gl (.bool tC) (.slice (some ⟨kC, 0, none⟩) nC nC)) := xbQ
    have Xa : Hid (Box Wc ga (.bool false) (.slice (some ⟨g4, 0, none⟩) m4 m4)) := xa
    have Xb : Hid (Box Wc gb (.bool sb) (.slice pb mb mb)) := xb
    have Xk : Hid (B6q Wc gk (U 9223372036854775808) (.int .i64 53) (.int .i64 (-1074)) (.int .i64 971) (U 9218868437227405312) (U 9221120237041090561)) := xk
    have RR : Hid (ZR Wc tC (some ⟨kC, 0, none⟩) nC ((vs 4503599627370496 (s - 1) : Int) + (vs 4503599627370496 s : Int))) := rr
    have HGl : Hid (w.heap.size ≤ gl) := hg
    have HDal : Hid (ga ≠ gl) := hda
    have HDbl : Hid (gb ≠ gl) := hdb
    have HDkl : Hid (gk ≠ gl) := hdk
    have HLC : Hid (nC ≤ 2201) := hHLC
    clear xbQ xa xb xk rr hg hda hdb hdk hHLC hbuc hbc
    obtain ⟨Wl, hWl⟩ : ∃ Wl, Wl = Wc := ⟨_, rfl⟩
    subst hWl
    have ZL : Hid (ZR Wl tC (some ⟨kC, 0, none⟩) nC ((vs 4503599627370496 (s - 1) : Int) + (vs 4503599627370496 s : Int))) := RR.out
    have Z4L : Hid (ZR Wl false (some ⟨g4, 0, none⟩) m4 (A.natAbs : Int)) := HZ4.out.below hbu
    clear RR HZ4 hbu
    have hbu : Below Wl.heap.size Wl Wl := Below.refl _ _
    go_wp2_with fail
    obtain ⟨Wr2, hWr2⟩ : ∃ W1, W1 = Wl.drew := ⟨_, rfl⟩
    have hbd : Below Wl.heap.size Wl Wr2 := by rw [hWr2]; exact bDrew1 (Below.refl _ _)
    have hbu' := Below.on hbu hbd
    clear hbu
    have hbu := hbu'
    clear hbu'
    replace Xl : Hid _ := Xl.out.below hbd
    replace Xa : Hid _ := Xa.out.below hbd
    replace Xb : Hid _ := Xb.out.below hbd
    replace Xk : Hid _ := Xk.out.below hbd
    replace hbw := Below.on hbw hbd
    clear hbd
    have HJ : Hid ((fun W' : World => W'.cell? ⟨gk, 0, none⟩ = some (U 9223372036854775808) ∧ W'.cell? ⟨gk, 1, none⟩ = some (.int .i64 53) ∧ W'.cell? ⟨gk, 2, none⟩ = some (.int .i64 (-1074)) ∧ W'.cell? ⟨gk, 3, none⟩ = some (.int .i64 971) ∧ W'.cell? ⟨gk, 4, none⟩ = some (U 9218868437227405312) ∧ W'.cell? ⟨gk, 5, none⟩ = some (U 9221120237041090561)) Wr2) := ⟨Xk.out.c0, Xk.out.c1, Xk.out.c2, Xk.out.c3, Xk.out.c4, Xk.out.c5⟩
    refine wp_region_J (fun W' => W'.cell? ⟨gk, 0, none⟩ = some (U 9223372036854775808) ∧ W'.cell? ⟨gk, 1, none⟩ = some (.int .i64 53) ∧ W'.cell? ⟨gk, 2, none⟩ = some (.int .i64 (-1074)) ∧ W'.cell? ⟨gk, 3, none⟩ = some (.int .i64 971) ∧ W'.cell? ⟨gk, 4, none⟩ = some (U 9218868437227405312) ∧ W'.cell? ⟨gk, 5, none⟩ = some (U 9221120237041090561)) (by kernel_rfl) ?_
    rw [← hWr2]
    clear hWr2
    refine wpJ_tq 0 rfl HJ.out ?_
    refine wpJ_tq 1 rfl HJ.out ?_
    refine wpJ_tq 3 rfl HJ.out ?_
    refine wpJ_tq 4 rfl HJ.out ?_
    refine wpJ_tq 5 rfl HJ.out ?_
    obtain ⟨RQ, HRQ, HRP⟩ : ∃ RQ : Act → Act → World → Prop, Hid (∀ a1 a2 a3, (fun a0 a' W' => ∃ gh tD kD nD tE kE nE tF kF nF, a' = ((((a0.put (some 53) (.agg #[.bool tD, .slice (some ⟨kD, 0, none⟩) nD nD])).put (some 57) (.agg #[.bool tE, .slice (some ⟨kE, 0, none⟩) nE nE])).put (some 58) (.agg #[.bool tF, .slice (some ⟨kF, 0, none⟩) nF nF])).put (some 12) (.pointer (some ⟨gh, 0, none⟩))) ∧ Box W' gh (.bool tF) (.slice (some ⟨kF, 0, none⟩) nF nF) ∧ Box W' gl (.bool tC) (.slice (some ⟨kC, 0, none⟩) nC nC) ∧ Box W' ga (.bool false) (.slice (some ⟨g4, 0, none⟩) m4 m4) ∧ Box W' gb (.bool sb) (.slice pb mb mb) ∧ B6q W' gk (U 9223372036854775808) (.int .i64 53) (.int .i64 (-1074)) (.int .i64 971) (U 9218868437227405312) (U 9221120237041090561) ∧ ZR W' tF (some ⟨kF, 0, none⟩) nF ((vs 4503599627370496 s : Int) + (vs 4503599627370496 (s + 1) : Int)) ∧ w.heap.size ≤ gh ∧ gl ≠ gh ∧ ga ≠ gh ∧ gb ≠ gh ∧ gk ≠ gh ∧ (nF ≤ 2201) ∧ Below Wl.heap.size Wl W' ∧ Below w.heap.size w W') a1 a2 a3 → RQ a1 a2 a3) ∧ Hid (∀ a1 a2 a3, RQ a1 a2 a3 → (fun a0 a' W' => ∃ gh tD kD nD tE kE nE tF kF nF, a' = ((((a0.put (some 53) (.agg #[.bool tD, .slice (some ⟨kD, 0, none⟩) nD nD])).put (some 57) (.agg #[.bool tE, .slice (some ⟨kE, 0, none⟩) nE nE])).put (some 58) (.agg #[.bool tF, .slice (some ⟨kF, 0, none⟩) nF nF])).put (some 12) (.pointer (some ⟨gh, 0, none⟩))) ∧ Box W' gh (.bool tF) (.slice (some ⟨kF, 0, none⟩) nF nF) ∧ Box W' gl (.bool tC) (.slice (some ⟨kC, 0, none⟩) nC nC) ∧ Box W' ga (.bool false) (.slice (some ⟨g4, 0, none⟩) m4 m4) ∧ Box W' gb (.bool sb) (.slice pb mb mb) ∧ B6q W' gk (U 9223372036854775808) (.int .i64 53) (.int .i64 (-1074)) (.int .i64 971) (U 9218868437227405312) (U 9221120237041090561) ∧ ZR W' tF (some ⟨kF, 0, none⟩) nF ((vs 4503599627370496 s : Int) + (vs 4503599627370496 (s + 1) : Int)) ∧ w.heap.size ≤ gh ∧ gl ≠ gh ∧ ga ≠ gh ∧ gb ≠ gh ∧ gk ≠ gh ∧ (nF ≤ 2201) ∧ Below Wl.heap.size Wl W' ∧ Below w.heap.size w W') a1 a2 a3) := ⟨_, fun _ _ _ h => h, fun _ _ _ h => h⟩
    refine wpJ_cutA RQ ?_ ?_
    · intro a' Wc hrq
      obtain ⟨gh, tD, kD, nD, tE, kE, nE, tF, kF, nF, rfl, xbQ, xl, xa, xb, xk, rr, hg, hdl, hda, hdb, hdk, hHLF, hbuc, hbc⟩ := HRP.out _ _ _ hrq
      clear hrq HRP HRQ
      clear hbw hbu HJ Xl Xa Xb Xk
      have hbw := hbc
      have hbu := hbuc
      have Xh : Hid (Box Wc gh (.bool tF) (.slice (some ⟨kF, 0, none⟩) nF nF)) := xbQ
      have Xl : Hid (Box Wc gl (.bool tC) (.slice (some ⟨kC, 0, none⟩) nC nC)) := xl
      have Xa : Hid (Box Wc ga (.bool false) (.slice (some ⟨g4, 0, none⟩) m4 m4)) := xa
      have Xb : Hid (Box Wc gb (.bool sb) (.slice pb mb mb)) := xb
      have Xk : Hid (B6q Wc gk (U 9223372036854775808) (.int .i64 53) (.int .i64 (-1074)) (.int .i64 971) (U 9218868437227405312) (U 9221120237041090561)) := xk
      have RR : Hid (ZR Wc tF (some ⟨kF, 0, none⟩) nF ((vs 4503599627370496 s : Int) + (vs 4503599627370496 (s + 1) : Int))) := rr
      have HGh : Hid (w.heap.size ≤ gh) := hg
      have HDlh : Hid (gl ≠ gh) := hdl
      have HDah : Hid (ga ≠ gh) := hda
      have HDbh : Hid (gb ≠ gh) := hdb
      have HDkh : Hid (gk ≠ gh) := hdk
      have HLF : Hid (nF ≤ 2201) := hHLF
      clear xbQ xl xa xb xk rr hg hdl hda hdb hdk hHLF hbuc hbc
      obtain ⟨Wh, hWh⟩ : ∃ Wh, Wh = Wc := ⟨_, rfl⟩
      subst hWh
      have ZH : Hid (ZR Wh tF (some ⟨kF, 0, none⟩) nF ((vs 4503599627370496 s : Int) + (vs 4503599627370496 (s + 1) : Int))) := RR.out
      have ZLh : Hid (ZR Wh tC (some ⟨kC, 0, none⟩) nC ((vs 4503599627370496 (s - 1) : Int) + (vs 4503599627370496 s : Int))) := ZL.out.below hbu
      have Z4H : Hid (ZR Wh false (some ⟨g4, 0, none⟩) m4 (A.natAbs : Int)) := Z4L.out.below hbu
      clear RR Z4L ZL hbu
      have hbu : Below Wh.heap.size Wh Wh := Below.refl _ _
      obtain ⟨ca0, ca1, fa0, fa1⟩ := Xa.out
      have hnea := Xa.out.lt
      go_wp2_with fail
      clear ca0 ca1 fa0 fa1 hnea
      clear hbu
      have Z4H' : Hid (ZR Wh false (some ⟨g4, 0, none⟩) m4 (A.natAbs : Int)) := Z4H.out
      clear Z4H
      have ZLH : Hid (ZR Wh tC (some ⟨kC, 0, none⟩) nC ((vs 4503599627370496 (s - 1) : Int) + (vs 4503599627370496 s : Int))) := ZLh.out
      have ZHH : Hid (ZR Wh tF (some ⟨kF, 0, none⟩) nF ((vs 4503599627370496 s : Int) + (vs 4503599627370496 (s + 1) : Int))) := ZH.out
      clear ZLh ZH
      refine (rshl04k false Z4H'.out (by have h1 := zr_len Z4H'.out (show bitsN ((A.natAbs : Int)).natAbs ≤ 2400 by rw [Int.natAbs_natCast]; exact HQ.out.1); omega) 1 1 rfl (by decide)).mono ?_
      rintro e v5 ⟨v, rfl, hv, hb5⟩
      obtain ⟨s5, g5, m5, rfl, hg5, hz5, hl5⟩ := hv
      have HN5 : Hid (Wh.heap.size ≤ g5) := hg5
      have HB5 : Hid (Wh.heap.size ≤ v5.heap.size) := hb5.size
      replace Xh : Hid _ := Xh.out.below hb5
      replace Xl : Hid _ := Xl.out.below hb5
      replace Xa : Hid _ := Xa.out.below hb5
      replace Xb : Hid _ := Xb.out.below hb5
      replace Xk : Hid _ := Xk.out.below hb5
      replace Z4H' : Hid _ := Z4H'.out.below hb5
      replace ZLH : Hid _ := ZLH.out.below hb5
      replace ZHH : Hid _ := ZHH.out.below hb5
      replace hbw := Below.on hbw hb5
      clear hb5
      have Z5 : Hid (ZR v5 s5 (some ⟨g5, 0, none⟩) m5 ((A.natAbs : Int) * 2 ^ 1)) := hz5
      have HL5 : Hid (m5 ≤ 40000) := hl5
      clear hz5 hl5 hg5
      obtain ⟨ca0, ca1, fa0, fa1⟩ := Xa.out
      have hnea := Xa.out.lt
      go_wp2_with fail
      clear ca0 ca1 fa0 fa1 hnea
      have Xt0 : Hid (Box (v5.alloc (.cells #[.bool s5, .slice (some ⟨g5, 0, none⟩) m5 m5] 47)) v5.heap.size (.bool s5) (.slice (some ⟨g5, 0, none⟩) m5 m5)) := Box.new v5 _ _ _
      have hbn : Below v5.heap.size v5 (v5.alloc (.cells #[.bool s5, .slice (some ⟨g5, 0, none⟩) m5 m5] 47)) := below1 v5 _
      generalize v5.alloc (.cells #[.bool s5, .slice (some ⟨g5, 0, none⟩) m5 m5] 47) = Wt at *
      have HGt : Hid (w.heap.size ≤ v5.heap.size) := hbw.size
      replace Xh : Hid _ := Xh.out.below hbn
      replace Xl : Hid _ := Xl.out.below hbn
      replace Xa : Hid _ := Xa.out.below hbn
      replace Xb : Hid _ := Xb.out.below hbn
      replace Xk : Hid _ := Xk.out.below hbn
      replace Z4H' : Hid _ := Z4H'.out.below hbn
      replace ZLH : Hid _ := ZLH.out.below hbn
      replace ZHH : Hid _ := ZHH.out.below hbn
      replace Z5 : Hid _ := Z5.out.below hbn
      replace hbw := Below.on hbw hbn
      clear hbn
      generalize v5.heap.size = gt at *
      have Xt := Xt0
      clear Xt0
      obtain ⟨cc, hcc⟩ : ∃ c, c = cmpI ((A.natAbs : Int) * 2) (cLow s * B) := ⟨_, rfl⟩
      obtain ⟨dd, hdd⟩ : ∃ c, c = cmpI ((A.natAbs : Int) * 2) (cHigh s * B) := ⟨_, rfl⟩
      have HCD : Hid (cc = cmpI ((A.natAbs : Int) * 2) (cLow s * B) ∧ dd = cmpI ((A.natAbs : Int) * 2) (cHigh s * B)) := ⟨hcc, hdd⟩
      clear hcc hdd
      obtain ⟨Wq, hWq⟩ : ∃ W1, W1 = Wt.drew := ⟨_, rfl⟩
      have hbd : Below Wt.heap.size Wt Wq := by rw [hWq]; exact bDrew1 (Below.refl _ _)
      replace Xh : Hid _ := Xh.out.below hbd
      replace Xl : Hid _ := Xl.out.below hbd
      replace Xa : Hid _ := Xa.out.below hbd
      replace Xb : Hid _ := Xb.out.below hbd
      replace Xk : Hid _ := Xk.out.below hbd
      replace Xt : Hid _ := Xt.out.below hbd
      replace Z4H' : Hid _ := Z4H'.out.below hbd
      replace ZLH : Hid _ := ZLH.out.below hbd
      replace ZHH : Hid _ := ZHH.out.below hbd
      replace Z5 : Hid _ := Z5.out.below hbd
      replace hbw := Below.on hbw hbd
      clear hbd
      have HJ : Hid ((fun W' : World => W'.cell? ⟨gt, 0, none⟩ = some (.bool s5) ∧ W'.cell? ⟨gt, 1, none⟩ = some (.slice (some ⟨g5, 0, none⟩) m5 m5) ∧ W'.cell? ⟨gl, 0, none⟩ = some (.bool tC) ∧ W'.cell? ⟨gl, 1, none⟩ = some (.slice (some ⟨kC, 0, none⟩) nC nC) ∧ W'.cell? ⟨gh, 0, none⟩ = some (.bool tF) ∧ W'.cell? ⟨gh, 1, none⟩ = some (.slice (some ⟨kF, 0, none⟩) nF nF) ∧ W'.cell? ⟨gb, 0, none⟩ = some (.bool sb) ∧ W'.cell? ⟨gb, 1, none⟩ = some (.slice pb mb mb)) Wq) := ⟨Xt.out.c0, Xt.out.c1, Xl.out.c0, Xl.out.c1, Xh.out.c0, Xh.out.c1, Xb.out.c0, Xb.out.c1⟩
      refine wp_region_J (fun W' => W'.cell? ⟨gt, 0, none⟩ = some (.bool s5) ∧ W'.cell? ⟨gt, 1, none⟩ = some (.slice (some ⟨g5, 0, none⟩) m5 m5) ∧ W'.cell? ⟨gl, 0, none⟩ = some (.bool tC) ∧ W'.cell? ⟨gl, 1, none⟩ = some (.slice (some ⟨kC, 0, none⟩) nC nC) ∧ W'.cell? ⟨gh, 0, none⟩ = some (.bool tF) ∧ W'.cell? ⟨gh, 1, none⟩ = some (.slice (some ⟨kF, 0, none⟩) nF nF) ∧ W'.cell? ⟨gb, 0, none⟩ = some (.bool sb) ∧ W'.cell? ⟨gb, 1, none⟩ = some (.slice pb mb mb)) (by kernel_rfl) ?_
      rw [← hWq]
      clear hWq
      refine wpJ_tq 0 rfl HJ.out ?_
      refine wpJ_tq 1 rfl HJ.out ?_
      refine wpJ_tq 2 rfl HJ.out ?_
      refine wpJ_tq 5 rfl HJ.out ?_
      refine wpJ_tq 6 rfl HJ.out ?_
      go_simp
      refine wpJ_tq 7 rfl HJ.out ?_
      refine wpJ_on 3 rfl fun KJ hK => ?_
      go_simp
      refine (rmul04 tC sb ZLH.out (ZB0.out.below hbw) (by have := HLC.out; omega) (by have := zr_len ZB0.out HQ.out.2.1; omega)).mono ?_
      rintro e v6 ⟨v, rfl, hv, hb6⟩
      obtain ⟨s6, g6, m6, rfl, hg6, hz6, hl6⟩ := hv
      have HN6 : Hid (Wq.heap.size ≤ g6) := hg6
      have HB6 : Hid (Wq.heap.size ≤ v6.heap.size) := hb6.size
      replace Xh : Hid _ := Xh.out.below hb6
      replace Xl : Hid _ := Xl.out.below hb6
      replace Xa : Hid _ := Xa.out.below hb6
      replace Xb : Hid _ := Xb.out.below hb6
      replace Xk : Hid _ := Xk.out.below hb6
      replace Xt : Hid _ := Xt.out.below hb6
      replace Z4H' : Hid _ := Z4H'.out.below hb6
      replace ZLH : Hid _ := ZLH.out.below hb6
      replace ZHH : Hid _ := ZHH.out.below hb6
      replace Z5 : Hid _ := Z5.out.below hb6
      replace hbw := Below.on hbw hb6
      clear hb6
      have Z6 : Hid (ZR v6 s6 (some ⟨g6, 0, none⟩) m6 (((vs 4503599627370496 (s - 1) : Int) + (vs 4503599627370496 s : Int)) * B)) := hz6
      have HL6 : Hid (m6 ≤ nC + mb) := hl6
      clear hz6 hl6 hg6
      refine hK _ _ ⟨Xt.out.c0, Xt.out.c1, Xl.out.c0, Xl.out.c1, Xh.out.c0, Xh.out.c1, Xb.out.c0, Xb.out.c1⟩ ?_
      clear hK
      refine wpJ_on 4 rfl fun KJ hK => ?_
      go_simp
      refine (rcmp04 s5 s6 Z5.out Z6.out (by have := HL5.out; omega) (by have := HL6.out; have := HLC.out; have := zr_len ZB0.out HQ.out.2.1; omega)).mono ?_
      rintro e v7 ⟨rfl, hb7⟩
      rw [show cmpI ((A.natAbs : Int) * 2 ^ 1) (((vs 4503599627370496 (s - 1) : Int) + (vs 4503599627370496 s : Int)) * B) = cc from HCD.out.1.symm]
      replace Xh : Hid _ := Xh.out.below hb7
      replace Xl : Hid _ := Xl.out.below hb7
      replace Xa : Hid _ := Xa.out.below hb7
      replace Xb : Hid _ := Xb.out.below hb7
      replace Xk : Hid _ := Xk.out.below hb7
      replace Xt : Hid _ := Xt.out.below hb7
      replace Z4H' : Hid _ := Z4H'.out.below hb7
      replace ZLH : Hid _ := ZLH.out.below hb7
      replace ZHH : Hid _ := ZHH.out.below hb7
      replace Z5 : Hid _ := Z5.out.below hb7
      replace Z6 : Hid _ := Z6.out.below hb7
      replace hbw := Below.on hbw hb7
      clear hb7
      refine hK _ _ ⟨Xt.out.c0, Xt.out.c1, Xl.out.c0, Xl.out.c1, Xh.out.c0, Xh.out.c1, Xb.out.c0, Xb.out.c1⟩ ?_
      clear hK
      refine wpJ_on 8 rfl fun KJ hK => ?_
      go_simp
      refine (rmul04 tF sb ZHH.out (ZB0.out.below hbw) (by have := HLF.out; omega) (by have := zr_len ZB0.out HQ.out.2.1; omega)).mono ?_
      rintro e v8 ⟨v, rfl, hv, hb8⟩
      obtain ⟨s8, g8, m8, rfl, hg8, hz8, hl8⟩ := hv
      have HN8 : Hid (v7.heap.size ≤ g8) := hg8
      have HB8 : Hid (v7.heap.size ≤ v8.heap.size) := hb8.size
      replace Xh : Hid _ := Xh.out.below hb8
      replace Xl : Hid _ := Xl.out.below hb8
      replace Xa : Hid _ := Xa.out.below hb8
      replace Xb : Hid _ := Xb.out.below hb8
      replace Xk : Hid _ := Xk.out.below hb8
      replace Xt : Hid _ := Xt.out.below hb8
      replace Z4H' : Hid _ := Z4H'.out.below hb8
      replace ZLH : Hid _ := ZLH.out.below hb8
      replace ZHH : Hid _ := ZHH.out.below hb8
      replace Z5 : Hid _ := Z5.out.below hb8
      replace Z6 : Hid _ := Z6.out.below hb8
      replace hbw := Below.on hbw hb8
      clear hb8
      have Z8 : Hid (ZR v8 s8 (some ⟨g8, 0, none⟩) m8 (((vs 4503599627370496 s : Int) + (vs 4503599627370496 (s + 1) : Int)) * B)) := hz8
      have HL8 : Hid (m8 ≤ nF + mb) := hl8
      clear hz8 hl8 hg8
      refine hK _ _ ⟨Xt.out.c0, Xt.out.c1, Xl.out.c0, Xl.out.c1, Xh.out.c0, Xh.out.c1, Xb.out.c0, Xb.out.c1⟩ ?_
      clear hK
      refine wpJ_on 9 rfl fun KJ hK => ?_
      go_simp
      refine (rcmp04 s5 s8 Z5.out Z8.out (by have := HL5.out; omega) (by have := HL8.out; have := HLF.out; have := zr_len ZB0.out HQ.out.2.1; omega)).mono ?_
      rintro e v9 ⟨rfl, hb9⟩
      rw [show cmpI ((A.natAbs : Int) * 2 ^ 1) (((vs 4503599627370496 s : Int) + (vs 4503599627370496 (s + 1) : Int)) * B) = dd from HCD.out.2.symm]
      replace Xh : Hid _ := Xh.out.below hb9
      replace Xl : Hid _ := Xl.out.below hb9
      replace Xa : Hid _ := Xa.out.below hb9
      replace Xb : Hid _ := Xb.out.below hb9
      replace Xk : Hid _ := Xk.out.below hb9
      replace Xt : Hid _ := Xt.out.below hb9
      replace Z4H' : Hid _ := Z4H'.out.below hb9
      replace ZLH : Hid _ := ZLH.out.below hb9
      replace ZHH : Hid _ := ZHH.out.below hb9
      replace Z5 : Hid _ := Z5.out.below hb9
      replace Z6 : Hid _ := Z6.out.below hb9
      replace Z8 : Hid _ := Z8.out.below hb9
      replace hbw := Below.on hbw hb9
      clear hb9
      clear HJ
      have HJ : Hid ((fun W' : World => W'.cell? ⟨gt, 0, none⟩ = some (.bool s5) ∧ W'.cell? ⟨gt, 1, none⟩ = some (.slice (some ⟨g5, 0, none⟩) m5 m5) ∧ W'.cell? ⟨gl, 0, none⟩ = some (.bool tC) ∧ W'.cell? ⟨gl, 1, none⟩ = some (.slice (some ⟨kC, 0, none⟩) nC nC) ∧ W'.cell? ⟨gh, 0, none⟩ = some (.bool tF) ∧ W'.cell? ⟨gh, 1, none⟩ = some (.slice (some ⟨kF, 0, none⟩) nF nF) ∧ W'.cell? ⟨gb, 0, none⟩ = some (.bool sb) ∧ W'.cell? ⟨gb, 1, none⟩ = some (.slice pb mb mb)) v9) := ⟨Xt.out.c0, Xt.out.c1, Xl.out.c0, Xl.out.c1, Xh.out.c0, Xh.out.c1, Xb.out.c0, Xb.out.c1⟩
      refine hK _ _ HJ.out ?_
      clear hK
      refine wpJ_tq 10 rfl HJ.out ?_
      refine wpJ_tq 11 rfl HJ.out ?_
      refine wpJ_done (by kernel_rfl) ?_ _
      clear HJ
      by_cases hp : s % 2 = 0
      · have hq : (S.tmod 2 == 0) = true := by have h1 := HS.out; rw [Int.tmod_eq_emod_of_nonneg (by omega)]; rw [beq_iff_eq]; omega
        have hrc : RB = (decide (0 ≤ cc) && decide (dd ≤ 0)) := by rw [← HRB2.out]; unfold inC; rw [if_pos hp, ← HCD.out.1, ← HCD.out.2]
        have HRC : Hid (RB = (decide (0 ≤ cc) && decide (dd ≤ 0))) := hrc
        clear hrc
        clear hp
        by_cases h1 : 0 ≤ cc
        · have HH1 : Hid (0 ≤ cc) := h1
          go_wp2_with fail
          go_ret
          refine ⟨?_, hbw⟩
          rw [HRC.out]
          rw [decide_eq_true HH1.out, Bool.true_and]
          try rfl
        · have HH1 : Hid (¬ (0 ≤ cc)) := h1
          go_wp2_with fail
          go_ret
          refine ⟨?_, hbw⟩
          rw [HRC.out]
          rw [decide_eq_false (show ¬ (0 ≤ cc) by have := HH1.out; omega), Bool.false_and]
          try rfl
      · have hq : (S.tmod 2 == 0) = false := by have h1 := HS.out; rw [Int.tmod_eq_emod_of_nonneg (by omega)]; rw [beq_eq_false_iff_ne]; omega
        have hrc : RB = (decide (0 < cc) && decide (dd < 0)) := by rw [← HRB2.out]; unfold inC; rw [if_neg hp, ← HCD.out.1, ← HCD.out.2]
        have HRC : Hid (RB = (decide (0 < cc) && decide (dd < 0))) := hrc
        clear hrc
        clear hp
        by_cases h1 : 0 < cc
        · have HH1 : Hid (0 < cc) := h1
          go_wp2_with fail
          go_ret
          refine ⟨?_, hbw⟩
          rw [HRC.out]
          rw [decide_eq_true HH1.out, Bool.true_and]
          try rfl
        · have HH1 : Hid (¬ (0 < cc)) := h1
          go_wp2_with fail
          go_ret
          refine ⟨?_, hbw⟩
          rw [HRC.out]
          rw [decide_eq_false (show ¬ (0 < cc) by have := HH1.out; omega), Bool.false_and]
          try rfl
    · skip
      refine wpJ_two (i := 2) (k := 8) (by kernel_rfl) rfl rfl (by kernel_rfl) (by kernel_rfl) (fun KJ hK => ?_) (fun KJ hK => ?_)
      · go_simp
        refine (WB _).mono ?_
        rintro e9 uD ⟨v, rfl, hv, hbD⟩
        obtain ⟨tD, kD, nD, rfl, hgD, hzD, hlD⟩ := hv
        have hbu' := Below.on hbu hbD
        clear hbu
        have hbu := hbu'
        clear hbu'
        replace Xl : Hid _ := Xl.out.below hbD
        replace Xa : Hid _ := Xa.out.below hbD
        replace Xb : Hid _ := Xb.out.below hbD
        replace Xk : Hid _ := Xk.out.below hbD
        replace hbw := Below.on hbw hbD
        clear hbD
        have YD : Hid (ZR uD tD (some ⟨kD, 0, none⟩) nD ((vs 4503599627370496 s : Int))) := hzD
        have HLD : Hid (nD ≤ 2200) := hlD
        clear hzD hlD hgD
        clear HJ
        have HJ : Hid ((fun W' : World => W'.cell? ⟨gk, 0, none⟩ = some (U 9223372036854775808) ∧ W'.cell? ⟨gk, 1, none⟩ = some (.int .i64 53) ∧ W'.cell? ⟨gk, 2, none⟩ = some (.int .i64 (-1074)) ∧ W'.cell? ⟨gk, 3, none⟩ = some (.int .i64 971) ∧ W'.cell? ⟨gk, 4, none⟩ = some (U 9218868437227405312) ∧ W'.cell? ⟨gk, 5, none⟩ = some (U 9221120237041090561)) uD) := ⟨Xk.out.c0, Xk.out.c1, Xk.out.c2, Xk.out.c3, Xk.out.c4, Xk.out.c5⟩
        refine hK _ _ HJ.out ?_
        clear hK
        refine wpJ_two (i := 6) (k := 8) (by kernel_rfl) rfl rfl (by kernel_rfl) (by kernel_rfl) (fun KJ hK => ?_) (fun KJ hK => ?_)
        · go_simp
          refine (WC _).mono ?_
          rintro e9 uE ⟨v, rfl, hv, hbE⟩
          obtain ⟨tE, kE, nE, rfl, hgE, hzE, hlE⟩ := hv
          have hbu' := Below.on hbu hbE
          clear hbu
          have hbu := hbu'
          clear hbu'
          replace Xl : Hid _ := Xl.out.below hbE
          replace Xa : Hid _ := Xa.out.below hbE
          replace Xb : Hid _ := Xb.out.below hbE
          replace Xk : Hid _ := Xk.out.below hbE
          replace YD : Hid _ := YD.out.below hbE
          replace hbw := Below.on hbw hbE
          clear hbE
          have YE : Hid (ZR uE tE (some ⟨kE, 0, none⟩) nE ((vs 4503599627370496 (s + 1) : Int))) := hzE
          have HLE : Hid (nE ≤ 2200) := hlE
          clear hzE hlE hgE
          clear HJ
          have HJ : Hid ((fun W' : World => W'.cell? ⟨gk, 0, none⟩ = some (U 9223372036854775808) ∧ W'.cell? ⟨gk, 1, none⟩ = some (.int .i64 53) ∧ W'.cell? ⟨gk, 2, none⟩ = some (.int .i64 (-1074)) ∧ W'.cell? ⟨gk, 3, none⟩ = some (.int .i64 971) ∧ W'.cell? ⟨gk, 4, none⟩ = some (U 9218868437227405312) ∧ W'.cell? ⟨gk, 5, none⟩ = some (U 9221120237041090561)) uE) := ⟨Xk.out.c0, Xk.out.c1, Xk.out.c2, Xk.out.c3, Xk.out.c4, Xk.out.c5⟩
          refine hK _ _ HJ.out ?_
          clear hK
          refine wpJ_two (i := 7) (k := 8) (by kernel_rfl) rfl rfl (by kernel_rfl) (by kernel_rfl) (fun KJ hK => ?_) (fun KJ hK => ?_)
          · go_simp
            refine (radd04 tD tE YD.out YE.out (by have := HLD.out; omega) (by have := HLE.out; omega)).mono ?_
            rintro e9 uF ⟨v, rfl, hv, hbF⟩
            obtain ⟨tF, kF, nF, rfl, hgF, hzF, hlF⟩ := hv
            have HGB : Hid (uE.heap.size ≤ kF) := hgF
            have HLF : Hid (nF ≤ 2201) := by have h1 := hlF; have := HLD.out; have := HLE.out; show _ ≤ _; omega
            have hbu' := Below.on hbu hbF
            clear hbu
            have hbu := hbu'
            clear hbu'
            replace Xl : Hid _ := Xl.out.below hbF
            replace Xa : Hid _ := Xa.out.below hbF
            replace Xb : Hid _ := Xb.out.below hbF
            replace Xk : Hid _ := Xk.out.below hbF
            replace YD : Hid _ := YD.out.below hbF
            replace YE : Hid _ := YE.out.below hbF
            replace hbw := Below.on hbw hbF
            clear hbF
            have RR : Hid (ZR uF tF (some ⟨kF, 0, none⟩) nF ((vs 4503599627370496 s : Int) + (vs 4503599627370496 (s + 1) : Int))) := hzF
            clear hzF hlF hgF
            clear YD
            clear YE
            refine hK _ _ ⟨Xk.out.c0, Xk.out.c1, Xk.out.c2, Xk.out.c3, Xk.out.c4, Xk.out.c5⟩ ?_
            clear hK
            refine wpJ_on 8 rfl fun KJ hK => ?_
            go_simp
            have HDlh : Hid (gl ≠ uF.heap.size) := Nat.ne_of_lt Xl.out.lt
            have HDah : Hid (ga ≠ uF.heap.size) := Nat.ne_of_lt Xa.out.lt
            have HDbh : Hid (gb ≠ uF.heap.size) := Nat.ne_of_lt Xb.out.lt
            have HDkh : Hid (gk ≠ uF.heap.size) := Nat.ne_of_lt Xk.out.lt
            have HLS : Hid (∀ v0 v1, ZR (((uF.alloc (.cells #[.bool false, .slice none 0 0] 47)).setCell ⟨uF.heap.size, 0, none⟩ v0).setCell ⟨uF.heap.size, 1, none⟩ v1) tF (some ⟨kF, 0, none⟩) nF ((vs 4503599627370496 s : Int) + (vs 4503599627370496 (s + 1) : Int))) := fun v0 v1 => RR.out.below (bSet (bSet (below1 _ _) _ _ _ (Nat.le_refl _)) _ _ _ (Nat.le_refl _))
            have HGU : Hid (Wl.heap.size ≤ uF.heap.size) := hbu.size
            have Xh0 : Hid (Box (uF.alloc (.cells #[.bool false, .slice none 0 0] 47)) uF.heap.size (.bool false) (.slice none 0 0)) := Box.new uF _ _ _
            have hbn : Below uF.heap.size uF (uF.alloc (.cells #[.bool false, .slice none 0 0] 47)) := below1 uF _
            generalize uF.alloc (.cells #[.bool false, .slice none 0 0] 47) = Wn at *
            have HGh : Hid (w.heap.size ≤ uF.heap.size) := hbw.size
            have hbu' := Below.on hbu hbn
            clear hbu
            have hbu := hbu'
            clear hbu'
            replace Xl : Hid _ := Xl.out.below hbn
            replace Xa : Hid _ := Xa.out.below hbn
            replace Xb : Hid _ := Xb.out.below hbn
            replace Xk : Hid _ := Xk.out.below hbn
            replace RR : Hid _ := RR.out.below hbn
            replace hbw := Below.on hbw hbn
            clear hbn
            generalize uF.heap.size = gh at *
            have Xh := Xh0
            clear Xh0
            refine hK _ _ ⟨Xk.out.c0, Xk.out.c1, Xk.out.c2, Xk.out.c3, Xk.out.c4, Xk.out.c5⟩ ?_
            clear hK
            obtain ⟨ch0, ch1, fh0, fh1⟩ := Xh.out
            have hneh := Xh.out.lt
            obtain ⟨cl0, cl1, fl0, fl1⟩ := Xl.out
            have hnel := Xl.out.lt
            obtain ⟨ca0, ca1, fa0, fa1⟩ := Xa.out
            have hnea := Xa.out.lt
            obtain ⟨cb0, cb1, fb0, fb1⟩ := Xb.out
            have hneb := Xb.out.lt
            obtain ⟨ck0, ck1, ck2, ck3, ck4, ck5, fk0, fk1, fk2, fk3, fk4, fk5⟩ := Xk.out
            have hnek : gk < Wn.heap.size := World.block_lt_of_cell? Wn _ ck0
            have qal : gl ≠ gh := HDlh.out
            have qbl : gh ≠ gl := fun h => qal h.symm
            have qaa : ga ≠ gh := HDah.out
            have qba : gh ≠ ga := fun h => qaa h.symm
            have qab : gb ≠ gh := HDbh.out
            have qbb : gh ≠ gb := fun h => qab h.symm
            have qak : gk ≠ gh := HDkh.out
            have qbk : gh ≠ gk := fun h => qak h.symm
            refine wpJ_on 9 rfl fun KJ hK => ?_
            go_simp
            have HJ2 : Hid ((fun W' : World => W'.cell? ⟨gk, 0, none⟩ = some (U 9223372036854775808) ∧ W'.cell? ⟨gk, 1, none⟩ = some (.int .i64 53) ∧ W'.cell? ⟨gk, 2, none⟩ = some (.int .i64 (-1074)) ∧ W'.cell? ⟨gk, 3, none⟩ = some (.int .i64 971) ∧ W'.cell? ⟨gk, 4, none⟩ = some (U 9218868437227405312) ∧ W'.cell? ⟨gk, 5, none⟩ = some (U 9221120237041090561)) ((Wn.setCell ⟨gh, 0, none⟩ (.bool tF)).setCell ⟨gh, 1, none⟩ (.slice (some ⟨kF, 0, none⟩) nF nF))) := ⟨by go_simp, by go_simp, by go_simp, by go_simp, by go_simp, by go_simp⟩
            have Xh2 : Hid (Box ((Wn.setCell ⟨gh, 0, none⟩ (.bool tF)).setCell ⟨gh, 1, none⟩ (.slice (some ⟨kF, 0, none⟩) nF nF)) gh (.bool tF) (.slice (some ⟨kF, 0, none⟩) nF nF)) := ⟨by go_simp, by go_simp, by go_simp, by go_simp⟩
            have Xl2 : Hid (Box ((Wn.setCell ⟨gh, 0, none⟩ (.bool tF)).setCell ⟨gh, 1, none⟩ (.slice (some ⟨kF, 0, none⟩) nF nF)) gl (.bool tC) (.slice (some ⟨kC, 0, none⟩) nC nC)) := ⟨by go_simp, by go_simp, by go_simp, by go_simp⟩
            have Xa2 : Hid (Box ((Wn.setCell ⟨gh, 0, none⟩ (.bool tF)).setCell ⟨gh, 1, none⟩ (.slice (some ⟨kF, 0, none⟩) nF nF)) ga (.bool false) (.slice (some ⟨g4, 0, none⟩) m4 m4)) := ⟨by go_simp, by go_simp, by go_simp, by go_simp⟩
            have Xb2 : Hid (Box ((Wn.setCell ⟨gh, 0, none⟩ (.bool tF)).setCell ⟨gh, 1, none⟩ (.slice (some ⟨kF, 0, none⟩) nF nF)) gb (.bool sb) (.slice pb mb mb)) := ⟨by go_simp, by go_simp, by go_simp, by go_simp⟩
            have Xk2 : Hid (B6q ((Wn.setCell ⟨gh, 0, none⟩ (.bool tF)).setCell ⟨gh, 1, none⟩ (.slice (some ⟨kF, 0, none⟩) nF nF)) gk (U 9223372036854775808) (.int .i64 53) (.int .i64 (-1074)) (.int .i64 971) (U 9218868437227405312) (U 9221120237041090561)) := ⟨by go_simp, by go_simp, by go_simp, by go_simp, by go_simp, by go_simp, by go_simp, by go_simp, by go_simp, by go_simp, by go_simp, by go_simp⟩
            have RR2 : Hid (ZR ((Wn.setCell ⟨gh, 0, none⟩ (.bool tF)).setCell ⟨gh, 1, none⟩ (.slice (some ⟨kF, 0, none⟩) nF nF)) tF (some ⟨kF, 0, none⟩) nF ((vs 4503599627370496 s : Int) + (vs 4503599627370496 (s + 1) : Int))) := HLS.out _ _
            have hbu2 : Below Wl.heap.size Wl ((Wn.setCell ⟨gh, 0, none⟩ (.bool tF)).setCell ⟨gh, 1, none⟩ (.slice (some ⟨kF, 0, none⟩) nF nF)) := bSet (bSet hbu _ _ _ HGU.out) _ _ _ HGU.out
            have hbw2 : Below w.heap.size w ((Wn.setCell ⟨gh, 0, none⟩ (.bool tF)).setCell ⟨gh, 1, none⟩ (.slice (some ⟨kF, 0, none⟩) nF nF)) := bSet (bSet hbw _ _ _ HGh.out) _ _ _ HGh.out
            refine hK _ _ HJ2.out ?_
            clear hK HJ
            have HJ := HJ2
            clear HJ2
            refine wpJ_done (by kernel_rfl) ?_ _
            exact ⟨rfl, HRQ.out _ _ _ ⟨gh, tD, kD, nD, tE, kE, nE, tF, kF, nF, by kernel_rfl, Xh2.out, Xl2.out, Xa2.out, Xb2.out, Xk2.out, RR2.out, HGh.out, HDlh.out, HDah.out, HDbh.out, HDkh.out, HLF.out, hbu2, hbw2⟩⟩
          · go_simp
            have HDlh : Hid (gl ≠ uE.heap.size) := Nat.ne_of_lt Xl.out.lt
            have HDah : Hid (ga ≠ uE.heap.size) := Nat.ne_of_lt Xa.out.lt
            have HDbh : Hid (gb ≠ uE.heap.size) := Nat.ne_of_lt Xb.out.lt
            have HDkh : Hid (gk ≠ uE.heap.size) := Nat.ne_of_lt Xk.out.lt
            have HGU : Hid (Wl.heap.size ≤ uE.heap.size) := hbu.size
            have Xh0 : Hid (Box (uE.alloc (.cells #[.bool false, .slice none 0 0] 47)) uE.heap.size (.bool false) (.slice none 0 0)) := Box.new uE _ _ _
            have hbn : Below uE.heap.size uE (uE.alloc (.cells #[.bool false, .slice none 0 0] 47)) := below1 uE _
            generalize uE.alloc (.cells #[.bool false, .slice none 0 0] 47) = Wn at *
            have HGh : Hid (w.heap.size ≤ uE.heap.size) := hbw.size
            have hbu' := Below.on hbu hbn
            clear hbu
            have hbu := hbu'
            clear hbu'
            replace Xl : Hid _ := Xl.out.below hbn
            replace Xa : Hid _ := Xa.out.below hbn
            replace Xb : Hid _ := Xb.out.below hbn
            replace Xk : Hid _ := Xk.out.below hbn
            replace YD : Hid _ := YD.out.below hbn
            replace YE : Hid _ := YE.out.below hbn
            replace hbw := Below.on hbw hbn
            clear hbn
            generalize uE.heap.size = gh at *
            have Xh := Xh0
            clear Xh0
            refine hK _ _ ⟨Xk.out.c0, Xk.out.c1, Xk.out.c2, Xk.out.c3, Xk.out.c4, Xk.out.c5⟩ ?_
            clear hK
            refine wpJ_on 7 rfl fun KJ hK => ?_
            go_simp
            have HLT : Hid (gh < Wn.heap.size) := Xh.out.lt
            refine (radd04 tD tE YD.out YE.out (by have := HLD.out; omega) (by have := HLE.out; omega)).mono ?_
            rintro e9 uF ⟨v, rfl, hv, hbF⟩
            obtain ⟨tF, kF, nF, rfl, hgF, hzF, hlF⟩ := hv
            have HGB : Hid (Wn.heap.size ≤ kF) := hgF
            have HLF : Hid (nF ≤ 2201) := by have h1 := hlF; have := HLD.out; have := HLE.out; show _ ≤ _; omega
            have hbu' := Below.on hbu hbF
            clear hbu
            have hbu := hbu'
            clear hbu'
            replace Xl : Hid _ := Xl.out.below hbF
            replace Xa : Hid _ := Xa.out.below hbF
            replace Xb : Hid _ := Xb.out.below hbF
            replace Xk : Hid _ := Xk.out.below hbF
            replace Xh : Hid _ := Xh.out.below hbF
            replace YD : Hid _ := YD.out.below hbF
            replace YE : Hid _ := YE.out.below hbF
            replace hbw := Below.on hbw hbF
            clear hbF
            have RR : Hid (ZR uF tF (some ⟨kF, 0, none⟩) nF ((vs 4503599627370496 s : Int) + (vs 4503599627370496 (s + 1) : Int))) := hzF
            clear hzF hlF hgF
            clear YD
            clear YE
            have HNE : Hid (kF ≠ gh) := by have h1 := HLT.out; have h2 := HGB.out; show _ ≠ _; omega
            refine hK _ _ ⟨Xk.out.c0, Xk.out.c1, Xk.out.c2, Xk.out.c3, Xk.out.c4, Xk.out.c5⟩ ?_
            clear hK
            obtain ⟨ch0, ch1, fh0, fh1⟩ := Xh.out
            have hneh := Xh.out.lt
            obtain ⟨cl0, cl1, fl0, fl1⟩ := Xl.out
            have hnel := Xl.out.lt
            obtain ⟨ca0, ca1, fa0, fa1⟩ := Xa.out
            have hnea := Xa.out.lt
            obtain ⟨cb0, cb1, fb0, fb1⟩ := Xb.out
            have hneb := Xb.out.lt
            obtain ⟨ck0, ck1, ck2, ck3, ck4, ck5, fk0, fk1, fk2, fk3, fk4, fk5⟩ := Xk.out
            have hnek : gk < uF.heap.size := World.block_lt_of_cell? uF _ ck0
            have qal : gl ≠ gh := HDlh.out
            have qbl : gh ≠ gl := fun h => qal h.symm
            have qaa : ga ≠ gh := HDah.out
            have qba : gh ≠ ga := fun h => qaa h.symm
            have qab : gb ≠ gh := HDbh.out
            have qbb : gh ≠ gb := fun h => qab h.symm
            have qak : gk ≠ gh := HDkh.out
            have qbk : gh ≠ gk := fun h => qak h.symm
            refine wpJ_on 9 rfl fun KJ hK => ?_
            go_simp
            have HJ2 : Hid ((fun W' : World => W'.cell? ⟨gk, 0, none⟩ = some (U 9223372036854775808) ∧ W'.cell? ⟨gk, 1, none⟩ = some (.int .i64 53) ∧ W'.cell? ⟨gk, 2, none⟩ = some (.int .i64 (-1074)) ∧ W'.cell? ⟨gk, 3, none⟩ = some (.int .i64 971) ∧ W'.cell? ⟨gk, 4, none⟩ = some (U 9218868437227405312) ∧ W'.cell? ⟨gk, 5, none⟩ = some (U 9221120237041090561)) ((uF.setCell ⟨gh, 0, none⟩ (.bool tF)).setCell ⟨gh, 1, none⟩ (.slice (some ⟨kF, 0, none⟩) nF nF))) := ⟨by go_simp, by go_simp, by go_simp, by go_simp, by go_simp, by go_simp⟩
            have Xh2 : Hid (Box ((uF.setCell ⟨gh, 0, none⟩ (.bool tF)).setCell ⟨gh, 1, none⟩ (.slice (some ⟨kF, 0, none⟩) nF nF)) gh (.bool tF) (.slice (some ⟨kF, 0, none⟩) nF nF)) := ⟨by go_simp, by go_simp, by go_simp, by go_simp⟩
            have Xl2 : Hid (Box ((uF.setCell ⟨gh, 0, none⟩ (.bool tF)).setCell ⟨gh, 1, none⟩ (.slice (some ⟨kF, 0, none⟩) nF nF)) gl (.bool tC) (.slice (some ⟨kC, 0, none⟩) nC nC)) := ⟨by go_simp, by go_simp, by go_simp, by go_simp⟩
            have Xa2 : Hid (Box ((uF.setCell ⟨gh, 0, none⟩ (.bool tF)).setCell ⟨gh, 1, none⟩ (.slice (some ⟨kF, 0, none⟩) nF nF)) ga (.bool false) (.slice (some ⟨g4, 0, none⟩) m4 m4)) := ⟨by go_simp, by go_simp, by go_simp, by go_simp⟩
            have Xb2 : Hid (Box ((uF.setCell ⟨gh, 0, none⟩ (.bool tF)).setCell ⟨gh, 1, none⟩ (.slice (some ⟨kF, 0, none⟩) nF nF)) gb (.bool sb) (.slice pb mb mb)) := ⟨by go_simp, by go_simp, by go_simp, by go_simp⟩
            have Xk2 : Hid (B6q ((uF.setCell ⟨gh, 0, none⟩ (.bool tF)).setCell ⟨gh, 1, none⟩ (.slice (some ⟨kF, 0, none⟩) nF nF)) gk (U 9223372036854775808) (.int .i64 53) (.int .i64 (-1074)) (.int .i64 971) (U 9218868437227405312) (U 9221120237041090561)) := ⟨by go_simp, by go_simp, by go_simp, by go_simp, by go_simp, by go_simp, by go_simp, by go_simp, by go_simp, by go_simp, by go_simp, by go_simp⟩
            have RR2 : Hid (ZR ((uF.setCell ⟨gh, 0, none⟩ (.bool tF)).setCell ⟨gh, 1, none⟩ (.slice (some ⟨kF, 0, none⟩) nF nF)) tF (some ⟨kF, 0, none⟩) nF ((vs 4503599627370496 s : Int) + (vs 4503599627370496 (s + 1) : Int))) := (RR.out.set _ _ _ HNE.out).set _ _ _ HNE.out
            have hbu2 : Below Wl.heap.size Wl ((uF.setCell ⟨gh, 0, none⟩ (.bool tF)).setCell ⟨gh, 1, none⟩ (.slice (some ⟨kF, 0, none⟩) nF nF)) := bSet (bSet hbu _ _ _ HGU.out) _ _ _ HGU.out
            have hbw2 : Below w.heap.size w ((uF.setCell ⟨gh, 0, none⟩ (.bool tF)).setCell ⟨gh, 1, none⟩ (.slice (some ⟨kF, 0, none⟩) nF nF)) := bSet (bSet hbw _ _ _ HGh.out) _ _ _ HGh.out
            refine hK _ _ HJ2.out ?_
            clear hK HJ
            have HJ := HJ2
            clear HJ2
            refine wpJ_done (by kernel_rfl) ?_ _
            exact ⟨rfl, HRQ.out _ _ _ ⟨gh, tD, kD, nD, tE, kE, nE, tF, kF, nF, by kernel_rfl, Xh2.out, Xl2.out, Xa2.out, Xb2.out, Xk2.out, RR2.out, HGh.out, HDlh.out, HDah.out, HDbh.out, HDkh.out, HLF.out, hbu2, hbw2⟩⟩
        · go_simp
          have HDlh : Hid (gl ≠ uD.heap.size) := Nat.ne_of_lt Xl.out.lt
          have HDah : Hid (ga ≠ uD.heap.size) := Nat.ne_of_lt Xa.out.lt
          have HDbh : Hid (gb ≠ uD.heap.size) := Nat.ne_of_lt Xb.out.lt
          have HDkh : Hid (gk ≠ uD.heap.size) := Nat.ne_of_lt Xk.out.lt
          have HGU : Hid (Wl.heap.size ≤ uD.heap.size) := hbu.size
          have Xh0 : Hid (Box (uD.alloc (.cells #[.bool false, .slice none 0 0] 47)) uD.heap.size (.bool false) (.slice none 0 0)) := Box.new uD _ _ _
          have hbn : Below uD.heap.size uD (uD.alloc (.cells #[.bool false, .slice none 0 0] 47)) := below1 uD _
          generalize uD.alloc (.cells #[.bool false, .slice none 0 0] 47) = Wn at *
          have HGh : Hid (w.heap.size ≤ uD.heap.size) := hbw.size
          have hbu' := Below.on hbu hbn
          clear hbu
          have hbu := hbu'
          clear hbu'
          replace Xl : Hid _ := Xl.out.below hbn
          replace Xa : Hid _ := Xa.out.below hbn
          replace Xb : Hid _ := Xb.out.below hbn
          replace Xk : Hid _ := Xk.out.below hbn
          replace YD : Hid _ := YD.out.below hbn
          replace hbw := Below.on hbw hbn
          clear hbn
          generalize uD.heap.size = gh at *
          have Xh := Xh0
          clear Xh0
          refine hK _ _ ⟨Xk.out.c0, Xk.out.c1, Xk.out.c2, Xk.out.c3, Xk.out.c4, Xk.out.c5⟩ ?_
          clear hK
          refine wpJ_on 6 rfl fun KJ hK => ?_
          go_simp
          refine (WC _).mono ?_
          rintro e9 uE ⟨v, rfl, hv, hbE⟩
          obtain ⟨tE, kE, nE, rfl, hgE, hzE, hlE⟩ := hv
          have hbu' := Below.on hbu hbE
          clear hbu
          have hbu := hbu'
          clear hbu'
          replace Xl : Hid _ := Xl.out.below hbE
          replace Xa : Hid _ := Xa.out.below hbE
          replace Xb : Hid _ := Xb.out.below hbE
          replace Xk : Hid _ := Xk.out.below hbE
          replace Xh : Hid _ := Xh.out.below hbE
          replace YD : Hid _ := YD.out.below hbE
          replace hbw := Below.on hbw hbE
          clear hbE
          have YE : Hid (ZR uE tE (some ⟨kE, 0, none⟩) nE ((vs 4503599627370496 (s + 1) : Int))) := hzE
          have HLE : Hid (nE ≤ 2200) := hlE
          clear hzE hlE hgE
          refine hK _ _ ⟨Xk.out.c0, Xk.out.c1, Xk.out.c2, Xk.out.c3, Xk.out.c4, Xk.out.c5⟩ ?_
          clear hK
          refine wpJ_on 7 rfl fun KJ hK => ?_
          go_simp
          have HLT : Hid (gh < uE.heap.size) := Xh.out.lt
          refine (radd04 tD tE YD.out YE.out (by have := HLD.out; omega) (by have := HLE.out; omega)).mono ?_
          rintro e9 uF ⟨v, rfl, hv, hbF⟩
          obtain ⟨tF, kF, nF, rfl, hgF, hzF, hlF⟩ := hv
          have HGB : Hid (uE.heap.size ≤ kF) := hgF
          have HLF : Hid (nF ≤ 2201) := by have h1 := hlF; have := HLD.out; have := HLE.out; show _ ≤ _; omega
          have hbu' := Below.on hbu hbF
          clear hbu
          have hbu := hbu'
          clear hbu'
          replace Xl : Hid _ := Xl.out.below hbF
          replace Xa : Hid _ := Xa.out.below hbF
          replace Xb : Hid _ := Xb.out.below hbF
          replace Xk : Hid _ := Xk.out.below hbF
          replace Xh : Hid _ := Xh.out.below hbF
          replace YD : Hid _ := YD.out.below hbF
          replace YE : Hid _ := YE.out.below hbF
          replace hbw := Below.on hbw hbF
          clear hbF
          have RR : Hid (ZR uF tF (some ⟨kF, 0, none⟩) nF ((vs 4503599627370496 s : Int) + (vs 4503599627370496 (s + 1) : Int))) := hzF
          clear hzF hlF hgF
          clear YD
          clear YE
          have HNE : Hid (kF ≠ gh) := by have h1 := HLT.out; have h2 := HGB.out; show _ ≠ _; omega
          refine hK _ _ ⟨Xk.out.c0, Xk.out.c1, Xk.out.c2, Xk.out.c3, Xk.out.c4, Xk.out.c5⟩ ?_
          clear hK
          obtain ⟨ch0, ch1, fh0, fh1⟩ := Xh.out
          have hneh := Xh.out.lt
          obtain ⟨cl0, cl1, fl0, fl1⟩ := Xl.out
          have hnel := Xl.out.lt
          obtain ⟨ca0, ca1, fa0, fa1⟩ := Xa.out
          have hnea := Xa.out.lt
          obtain ⟨cb0, cb1, fb0, fb1⟩ := Xb.out
          have hneb := Xb.out.lt
          obtain ⟨ck0, ck1, ck2, ck3, ck4, ck5, fk0, fk1, fk2, fk3, fk4, fk5⟩ := Xk.out
          have hnek : gk < uF.heap.size := World.block_lt_of_cell? uF _ ck0
          have qal : gl ≠ gh := HDlh.out
          have qbl : gh ≠ gl := fun h => qal h.symm
          have qaa : ga ≠ gh := HDah.out
          have qba : gh ≠ ga := fun h => qaa h.symm
          have qab : gb ≠ gh := HDbh.out
          have qbb : gh ≠ gb := fun h => qab h.symm
          have qak : gk ≠ gh := HDkh.out
          have qbk : gh ≠ gk := fun h => qak h.symm
          refine wpJ_on 9 rfl fun KJ hK => ?_
          go_simp
          have HJ2 : Hid ((fun W' : World => W'.cell? ⟨gk, 0, none⟩ = some (U 9223372036854775808) ∧ W'.cell? ⟨gk, 1, none⟩ = some (.int .i64 53) ∧ W'.cell? ⟨gk, 2, none⟩ = some (.int .i64 (-1074)) ∧ W'.cell? ⟨gk, 3, none⟩ = some (.int .i64 971) ∧ W'.cell? ⟨gk, 4, none⟩ = some (U 9218868437227405312) ∧ W'.cell? ⟨gk, 5, none⟩ = some (U 9221120237041090561)) ((uF.setCell ⟨gh, 0, none⟩ (.bool tF)).setCell ⟨gh, 1, none⟩ (.slice (some ⟨kF, 0, none⟩) nF nF))) := ⟨by go_simp, by go_simp, by go_simp, by go_simp, by go_simp, by go_simp⟩
          have Xh2 : Hid (Box ((uF.setCell ⟨gh, 0, none⟩ (.bool tF)).setCell ⟨gh, 1, none⟩ (.slice (some ⟨kF, 0, none⟩) nF nF)) gh (.bool tF) (.slice (some ⟨kF, 0, none⟩) nF nF)) := ⟨by go_simp, by go_simp, by go_simp, by go_simp⟩
          have Xl2 : Hid (Box ((uF.setCell ⟨gh, 0, none⟩ (.bool tF)).setCell ⟨gh, 1, none⟩ (.slice (some ⟨kF, 0, none⟩) nF nF)) gl (.bool tC) (.slice (some ⟨kC, 0, none⟩) nC nC)) := ⟨by go_simp, by go_simp, by go_simp, by go_simp⟩
          have Xa2 : Hid (Box ((uF.setCell ⟨gh, 0, none⟩ (.bool tF)).setCell ⟨gh, 1, none⟩ (.slice (some ⟨kF, 0, none⟩) nF nF)) ga (.bool false) (.slice (some ⟨g4, 0, none⟩) m4 m4)) := ⟨by go_simp, by go_simp, by go_simp, by go_simp⟩
          have Xb2 : Hid (Box ((uF.setCell ⟨gh, 0, none⟩ (.bool tF)).setCell ⟨gh, 1, none⟩ (.slice (some ⟨kF, 0, none⟩) nF nF)) gb (.bool sb) (.slice pb mb mb)) := ⟨by go_simp, by go_simp, by go_simp, by go_simp⟩
          have Xk2 : Hid (B6q ((uF.setCell ⟨gh, 0, none⟩ (.bool tF)).setCell ⟨gh, 1, none⟩ (.slice (some ⟨kF, 0, none⟩) nF nF)) gk (U 9223372036854775808) (.int .i64 53) (.int .i64 (-1074)) (.int .i64 971) (U 9218868437227405312) (U 9221120237041090561)) := ⟨by go_simp, by go_simp, by go_simp, by go_simp, by go_simp, by go_simp, by go_simp, by go_simp, by go_simp, by go_simp, by go_simp, by go_simp⟩
          have RR2 : Hid (ZR ((uF.setCell ⟨gh, 0, none⟩ (.bool tF)).setCell ⟨gh, 1, none⟩ (.slice (some ⟨kF, 0, none⟩) nF nF)) tF (some ⟨kF, 0, none⟩) nF ((vs 4503599627370496 s : Int) + (vs 4503599627370496 (s + 1) : Int))) := (RR.out.set _ _ _ HNE.out).set _ _ _ HNE.out
          have hbu2 : Below Wl.heap.size Wl ((uF.setCell ⟨gh, 0, none⟩ (.bool tF)).setCell ⟨gh, 1, none⟩ (.slice (some ⟨kF, 0, none⟩) nF nF)) := bSet (bSet hbu _ _ _ HGU.out) _ _ _ HGU.out
          have hbw2 : Below w.heap.size w ((uF.setCell ⟨gh, 0, none⟩ (.bool tF)).setCell ⟨gh, 1, none⟩ (.slice (some ⟨kF, 0, none⟩) nF nF)) := bSet (bSet hbw _ _ _ HGh.out) _ _ _ HGh.out
          refine hK _ _ HJ2.out ?_
          clear hK HJ
          have HJ := HJ2
          clear HJ2
          refine wpJ_done (by kernel_rfl) ?_ _
          exact ⟨rfl, HRQ.out _ _ _ ⟨gh, tD, kD, nD, tE, kE, nE, tF, kF, nF, by kernel_rfl, Xh2.out, Xl2.out, Xa2.out, Xb2.out, Xk2.out, RR2.out, HGh.out, HDlh.out, HDah.out, HDbh.out, HDkh.out, HLF.out, hbu2, hbw2⟩⟩
      · go_simp
        have HDlh : Hid (gl ≠ Wr2.heap.size) := Nat.ne_of_lt Xl.out.lt
        have HDah : Hid (ga ≠ Wr2.heap.size) := Nat.ne_of_lt Xa.out.lt
        have HDbh : Hid (gb ≠ Wr2.heap.size) := Nat.ne_of_lt Xb.out.lt
        have HDkh : Hid (gk ≠ Wr2.heap.size) := Nat.ne_of_lt Xk.out.lt
        have HGU : Hid (Wl.heap.size ≤ Wr2.heap.size) := hbu.size
        have Xh0 : Hid (Box (Wr2.alloc (.cells #[.bool false, .slice none 0 0] 47)) Wr2.heap.size (.bool false) (.slice none 0 0)) := Box.new Wr2 _ _ _
        have hbn : Below Wr2.heap.size Wr2 (Wr2.alloc (.cells #[.bool false, .slice none 0 0] 47)) := below1 Wr2 _
        generalize Wr2.alloc (.cells #[.bool false, .slice none 0 0] 47) = Wn at *
        have HGh : Hid (w.heap.size ≤ Wr2.heap.size) := hbw.size
        have hbu' := Below.on hbu hbn
        clear hbu
        have hbu := hbu'
        clear hbu'
        replace Xl : Hid _ := Xl.out.below hbn
        replace Xa : Hid _ := Xa.out.below hbn
        replace Xb : Hid _ := Xb.out.below hbn
        replace Xk : Hid _ := Xk.out.below hbn
        replace hbw := Below.on hbw hbn
        clear hbn
        generalize Wr2.heap.size = gh at *
        have Xh := Xh0
        clear Xh0
        refine hK _ _ ⟨Xk.out.c0, Xk.out.c1, Xk.out.c2, Xk.out.c3, Xk.out.c4, Xk.out.c5⟩ ?_
        clear hK
        refine wpJ_on 2 rfl fun KJ hK => ?_
        go_simp
        refine (WB _).mono ?_
        rintro e9 uD ⟨v, rfl, hv, hbD⟩
        obtain ⟨tD, kD, nD, rfl, hgD, hzD, hlD⟩ := hv
        have hbu' := Below.on hbu hbD
        clear hbu
        have hbu := hbu'
        clear hbu'
        replace Xl : Hid _ := Xl.out.below hbD
        replace Xa : Hid _ := Xa.out.below hbD
        replace Xb : Hid _ := Xb.out.below hbD
        replace Xk : Hid _ := Xk.out.below hbD
        replace Xh : Hid _ := Xh.out.below hbD
        replace hbw := Below.on hbw hbD
        clear hbD
        have YD : Hid (ZR uD tD (some ⟨kD, 0, none⟩) nD ((vs 4503599627370496 s : Int))) := hzD
        have HLD : Hid (nD ≤ 2200) := hlD
        clear hzD hlD hgD
        refine hK _ _ ⟨Xk.out.c0, Xk.out.c1, Xk.out.c2, Xk.out.c3, Xk.out.c4, Xk.out.c5⟩ ?_
        clear hK
        refine wpJ_on 6 rfl fun KJ hK => ?_
        go_simp
        refine (WC _).mono ?_
        rintro e9 uE ⟨v, rfl, hv, hbE⟩
        obtain ⟨tE, kE, nE, rfl, hgE, hzE, hlE⟩ := hv
        have hbu' := Below.on hbu hbE
        clear hbu
        have hbu := hbu'
        clear hbu'
        replace Xl : Hid _ := Xl.out.below hbE
        replace Xa : Hid _ := Xa.out.below hbE
        replace Xb : Hid _ := Xb.out.below hbE
        replace Xk : Hid _ := Xk.out.below hbE
        replace Xh : Hid _ := Xh.out.below hbE
        replace YD : Hid _ := YD.out.below hbE
        replace hbw := Below.on hbw hbE
        clear hbE
        have YE : Hid (ZR uE tE (some ⟨kE, 0, none⟩) nE ((vs 4503599627370496 (s + 1) : Int))) := hzE
        have HLE : Hid (nE ≤ 2200) := hlE
        clear hzE hlE hgE
        refine hK _ _ ⟨Xk.out.c0, Xk.out.c1, Xk.out.c2, Xk.out.c3, Xk.out.c4, Xk.out.c5⟩ ?_
        clear hK
        refine wpJ_on 7 rfl fun KJ hK => ?_
        go_simp
        have HLT : Hid (gh < uE.heap.size) := Xh.out.lt
        refine (radd04 tD tE YD.out YE.out (by have := HLD.out; omega) (by have := HLE.out; omega)).mono ?_
        rintro e9 uF ⟨v, rfl, hv, hbF⟩
        obtain ⟨tF, kF, nF, rfl, hgF, hzF, hlF⟩ := hv
        have HGB : Hid (uE.heap.size ≤ kF) := hgF
        have HLF : Hid (nF ≤ 2201) := by have h1 := hlF; have := HLD.out; have := HLE.out; show _ ≤ _; omega
        have hbu' := Below.on hbu hbF
        clear hbu
        have hbu := hbu'
        clear hbu'
        replace Xl : Hid _ := Xl.out.below hbF
        replace Xa : Hid _ := Xa.out.below hbF
        replace Xb : Hid _ := Xb.out.below hbF
        replace Xk : Hid _ := Xk.out.below hbF
        replace Xh : Hid _ := Xh.out.below hbF
        replace YD : Hid _ := YD.out.below hbF
        replace YE : Hid _ := YE.out.below hbF
        replace hbw := Below.on hbw hbF
        clear hbF
        have RR : Hid (ZR uF tF (some ⟨kF, 0, none⟩) nF ((vs 4503599627370496 s : Int) + (vs 4503599627370496 (s + 1) : Int))) := hzF
        clear hzF hlF hgF
        clear YD
        clear YE
        have HNE : Hid (kF ≠ gh) := by have h1 := HLT.out; have h2 := HGB.out; show _ ≠ _; omega
        refine hK _ _ ⟨Xk.out.c0, Xk.out.c1, Xk.out.c2, Xk.out.c3, Xk.out.c4, Xk.out.c5⟩ ?_
        clear hK
        obtain ⟨ch0, ch1, fh0, fh1⟩ := Xh.out
        have hneh := Xh.out.lt
        obtain ⟨cl0, cl1, fl0, fl1⟩ := Xl.out
        have hnel := Xl.out.lt
        obtain ⟨ca0, ca1, fa0, fa1⟩ := Xa.out
        have hnea := Xa.out.lt
        obtain ⟨cb0, cb1, fb0, fb1⟩ := Xb.out
        have hneb := Xb.out.lt
        obtain ⟨ck0, ck1, ck2, ck3, ck4, ck5, fk0, fk1, fk2, fk3, fk4, fk5⟩ := Xk.out
        have hnek : gk < uF.heap.size := World.block_lt_of_cell? uF _ ck0
        have qal : gl ≠ gh := HDlh.out
        have qbl : gh ≠ gl := fun h => qal h.symm
        have qaa : ga ≠ gh := HDah.out
        have qba : gh ≠ ga := fun h => qaa h.symm
        have qab : gb ≠ gh := HDbh.out
        have qbb : gh ≠ gb := fun h => qab h.symm
        have qak : gk ≠ gh := HDkh.out
        have qbk : gh ≠ gk := fun h => qak h.symm
        refine wpJ_on 9 rfl fun KJ hK => ?_
        go_simp
        have HJ2 : Hid ((fun W' : World => W'.cell? ⟨gk, 0, none⟩ = some (U 9223372036854775808) ∧ W'.cell? ⟨gk, 1, none⟩ = some (.int .i64 53) ∧ W'.cell? ⟨gk, 2, none⟩ = some (.int .i64 (-1074)) ∧ W'.cell? ⟨gk, 3, none⟩ = some (.int .i64 971) ∧ W'.cell? ⟨gk, 4, none⟩ = some (U 9218868437227405312) ∧ W'.cell? ⟨gk, 5, none⟩ = some (U 9221120237041090561)) ((uF.setCell ⟨gh, 0, none⟩ (.bool tF)).setCell ⟨gh, 1, none⟩ (.slice (some ⟨kF, 0, none⟩) nF nF))) := ⟨by go_simp, by go_simp, by go_simp, by go_simp, by go_simp, by go_simp⟩
        have Xh2 : Hid (Box ((uF.setCell ⟨gh, 0, none⟩ (.bool tF)).setCell ⟨gh, 1, none⟩ (.slice (some ⟨kF, 0, none⟩) nF nF)) gh (.bool tF) (.slice (some ⟨kF, 0, none⟩) nF nF)) := ⟨by go_simp, by go_simp, by go_simp, by go_simp⟩
        have Xl2 : Hid (Box ((uF.setCell ⟨gh, 0, none⟩ (.bool tF)).setCell ⟨gh, 1, none⟩ (.slice (some ⟨kF, 0, none⟩) nF nF)) gl (.bool tC) (.slice (some ⟨kC, 0, none⟩) nC nC)) := ⟨by go_simp, by go_simp, by go_simp, by go_simp⟩
        have Xa2 : Hid (Box ((uF.setCell ⟨gh, 0, none⟩ (.bool tF)).setCell ⟨gh, 1, none⟩ (.slice (some ⟨kF, 0, none⟩) nF nF)) ga (.bool false) (.slice (some ⟨g4, 0, none⟩) m4 m4)) := ⟨by go_simp, by go_simp, by go_simp, by go_simp⟩
        have Xb2 : Hid (Box ((uF.setCell ⟨gh, 0, none⟩ (.bool tF)).setCell ⟨gh, 1, none⟩ (.slice (some ⟨kF, 0, none⟩) nF nF)) gb (.bool sb) (.slice pb mb mb)) := ⟨by go_simp, by go_simp, by go_simp, by go_simp⟩
        have Xk2 : Hid (B6q ((uF.setCell ⟨gh, 0, none⟩ (.bool tF)).setCell ⟨gh, 1, none⟩ (.slice (some ⟨kF, 0, none⟩) nF nF)) gk (U 9223372036854775808) (.int .i64 53) (.int .i64 (-1074)) (.int .i64 971) (U 9218868437227405312) (U 9221120237041090561)) := ⟨by go_simp, by go_simp, by go_simp, by go_simp, by go_simp, by go_simp, by go_simp, by go_simp, by go_simp, by go_simp, by go_simp, by go_simp⟩
        have RR2 : Hid (ZR ((uF.setCell ⟨gh, 0, none⟩ (.bool tF)).setCell ⟨gh, 1, none⟩ (.slice (some ⟨kF, 0, none⟩) nF nF)) tF (some ⟨kF, 0, none⟩) nF ((vs 4503599627370496 s : Int) + (vs 4503599627370496 (s + 1) : Int))) := (RR.out.set _ _ _ HNE.out).set _ _ _ HNE.out
        have hbu2 : Below Wl.heap.size Wl ((uF.setCell ⟨gh, 0, none⟩ (.bool tF)).setCell ⟨gh, 1, none⟩ (.slice (some ⟨kF, 0, none⟩) nF nF)) := bSet (bSet hbu _ _ _ HGU.out) _ _ _ HGU.out
        have hbw2 : Below w.heap.size w ((uF.setCell ⟨gh, 0, none⟩ (.bool tF)).setCell ⟨gh, 1, none⟩ (.slice (some ⟨kF, 0, none⟩) nF nF)) := bSet (bSet hbw _ _ _ HGh.out) _ _ _ HGh.out
        refine hK _ _ HJ2.out ?_
        clear hK HJ
        have HJ := HJ2
        clear HJ2
        refine wpJ_done (by kernel_rfl) ?_ _
        exact ⟨rfl, HRQ.out _ _ _ ⟨gh, tD, kD, nD, tE, kE, nE, tF, kF, nF, by kernel_rfl, Xh2.out, Xl2.out, Xa2.out, Xb2.out, Xk2.out, RR2.out, HGh.out, HDlh.out, HDah.out, HDbh.out, HDkh.out, HLF.out, hbu2, hbw2⟩⟩
  · skip
    refine wpJ_two (i := 3) (k := 8) (by kernel_rfl) rfl rfl (by kernel_rfl) (by kernel_rfl) (fun KJ hK => ?_) (fun KJ hK => ?_)
    · go_simp
      refine (WA _).mono ?_
      rintro e9 uA ⟨v, rfl, hv, hbA⟩
      obtain ⟨tA, kA, nA, rfl, hgA, hzA, hlA⟩ := hv
      have hbu' := Below.on hbu hbA
      clear hbu
      have hbu := hbu'
      clear hbu'
      replace Xa : Hid _ := Xa.out.below hbA
      replace Xb : Hid _ := Xb.out.below hbA
      replace Xk : Hid _ := Xk.out.below hbA
      replace hbw := Below.on hbw hbA
      clear hbA
      have YA : Hid (ZR uA tA (some ⟨kA, 0, none⟩) nA ((vs 4503599627370496 (s - 1) : Int))) := hzA
      have HLA : Hid (nA ≤ 2200) := hlA
      clear hzA hlA hgA
      clear HJ
      have HJ : Hid ((fun W' : World => W'.cell? ⟨gk, 0, none⟩ = some (U 9223372036854775808) ∧ W'.cell? ⟨gk, 1, none⟩ = some (.int .i64 53) ∧ W'.cell? ⟨gk, 2, none⟩ = some (.int .i64 (-1074)) ∧ W'.cell? ⟨gk, 3, none⟩ = some (.int .i64 971) ∧ W'.cell? ⟨gk, 4, none⟩ = some (U 9218868437227405312) ∧ W'.cell? ⟨gk, 5, none⟩ = some (U 9221120237041090561)) uA) := ⟨Xk.out.c0, Xk.out.c1, Xk.out.c2, Xk.out.c3, Xk.out.c4, Xk.out.c5⟩
      refine hK _ _ HJ.out ?_
      clear hK
      refine wpJ_two (i := 6) (k := 8) (by kernel_rfl) rfl rfl (by kernel_rfl) (by kernel_rfl) (fun KJ hK => ?_) (fun KJ hK => ?_)
      · go_simp
        refine (WB _).mono ?_
        rintro e9 uB ⟨v, rfl, hv, hbB⟩
        obtain ⟨tB, kB, nB, rfl, hgB, hzB, hlB⟩ := hv
        have hbu' := Below.on hbu hbB
        clear hbu
        have hbu := hbu'
        clear hbu'
        replace Xa : Hid _ := Xa.out.below hbB
        replace Xb : Hid _ := Xb.out.below hbB
        replace Xk : Hid _ := Xk.out.below hbB
        replace YA : Hid _ := YA.out.below hbB
        replace hbw := Below.on hbw hbB
        clear hbB
        have YB : Hid (ZR uB tB (some ⟨kB, 0, none⟩) nB ((vs 4503599627370496 s : Int))) := hzB
        have HLB : Hid (nB ≤ 2200) := hlB
        clear hzB hlB hgB
        clear HJ
        have HJ : Hid ((fun W' : World => W'.cell? ⟨gk, 0, none⟩ = some (U 9223372036854775808) ∧ W'.cell? ⟨gk, 1, none⟩ = some (.int .i64 53) ∧ W'.cell? ⟨gk, 2, none⟩ = some (.int .i64 (-1074)) ∧ W'.cell? ⟨gk, 3, none⟩ = some (.int .i64 971) ∧ W'.cell? ⟨gk, 4, none⟩ = some (U 9218868437227405312) ∧ W'.cell? ⟨gk, 5, none⟩ = some (U 9221120237041090561)) uB) := ⟨Xk.out.c0, Xk.out.c1, Xk.out.c2, Xk.out.c3, Xk.out.c4, Xk.out.c5⟩
        refine hK _ _ HJ.out ?_
        clear hK
        refine wpJ_two (i := 7) (k := 8) (by kernel_rfl) rfl rfl (by kernel_rfl) (by kernel_rfl) (fun KJ hK => ?_) (fun KJ hK => ?_)
        · go_simp
          refine (radd04 tA tB YA.out YB.out (by have := HLA.out; omega) (by have := HLB.out; omega)).mono ?_
          rintro e9 uC ⟨v, rfl, hv, hbC⟩
          obtain ⟨tC, kC, nC, rfl, hgC, hzC, hlC⟩ := hv
          have HGB : Hid (uB.heap.size ≤ kC) := hgC
          have HLC : Hid (nC ≤ 2201) := by have h1 := hlC; have := HLA.out; have := HLB.out; show _ ≤ _; omega
          have hbu' := Below.on hbu hbC
          clear hbu
          have hbu := hbu'
          clear hbu'
          replace Xa : Hid _ := Xa.out.below hbC
          replace Xb : Hid _ := Xb.out.below hbC
          replace Xk : Hid _ := Xk.out.below hbC
          replace YA : Hid _ := YA.out.below hbC
          replace YB : Hid _ := YB.out.below hbC
          replace hbw := Below.on hbw hbC
          clear hbC
          have RR : Hid (ZR uC tC (some ⟨kC, 0, none⟩) nC ((vs 4503599627370496 (s - 1) : Int) + (vs 4503599627370496 s : Int))) := hzC
          clear hzC hlC hgC
          clear YA
          clear YB
          refine hK _ _ ⟨Xk.out.c0, Xk.out.c1, Xk.out.c2, Xk.out.c3, Xk.out.c4, Xk.out.c5⟩ ?_
          clear hK
          refine wpJ_on 8 rfl fun KJ hK => ?_
          go_simp
          have HDal : Hid (ga ≠ uC.heap.size) := Nat.ne_of_lt Xa.out.lt
          have HDbl : Hid (gb ≠ uC.heap.size) := Nat.ne_of_lt Xb.out.lt
          have HDkl : Hid (gk ≠ uC.heap.size) := Nat.ne_of_lt Xk.out.lt
          have HLS : Hid (∀ v0 v1, ZR (((uC.alloc (.cells #[.bool false, .slice none 0 0] 47)).setCell ⟨uC.heap.size, 0, none⟩ v0).setCell ⟨uC.heap.size, 1, none⟩ v1) tC (some ⟨kC, 0, none⟩) nC ((vs 4503599627370496 (s - 1) : Int) + (vs 4503599627370496 s : Int))) := fun v0 v1 => RR.out.below (bSet (bSet (below1 _ _) _ _ _ (Nat.le_refl _)) _ _ _ (Nat.le_refl _))
          have HGU : Hid (Wb.heap.size ≤ uC.heap.size) := hbu.size
          have Xl0 : Hid (Box (uC.alloc (.cells #[.bool false, .slice none 0 0] 47)) uC.heap.size (.bool false) (.slice none 0 0)) := Box.new uC _ _ _
          have hbn : Below uC.heap.size uC (uC.alloc (.cells #[.bool false, .slice none 0 0] 47)) := below1 uC _
          generalize uC.alloc (.cells #[.bool false, .slice none 0 0] 47) = Wn at *
          have HGl : Hid (w.heap.size ≤ uC.heap.size) := hbw.size
          have hbu' := Below.on hbu hbn
          clear hbu
          have hbu := hbu'
          clear hbu'
          replace Xa : Hid _ := Xa.out.below hbn
          replace Xb : Hid _ := Xb.out.below hbn
          replace Xk : Hid _ := Xk.out.below hbn
          replace RR : Hid _ := RR.out.below hbn
          replace hbw := Below.on hbw hbn
          clear hbn
          generalize uC.heap.size = gl at *
          have Xl := Xl0
          clear Xl0
          refine hK _ _ ⟨Xk.out.c0, Xk.out.c1, Xk.out.c2, Xk.out.c3, Xk.out.c4, Xk.out.c5⟩ ?_
          clear hK
          obtain ⟨cl0, cl1, fl0, fl1⟩ := Xl.out
          have hnel := Xl.out.lt
          obtain ⟨ca0, ca1, fa0, fa1⟩ := Xa.out
          have hnea := Xa.out.lt
          obtain ⟨cb0, cb1, fb0, fb1⟩ := Xb.out
          have hneb := Xb.out.lt
          obtain ⟨ck0, ck1, ck2, ck3, ck4, ck5, fk0, fk1, fk2, fk3, fk4, fk5⟩ := Xk.out
          have hnek : gk < Wn.heap.size := World.block_lt_of_cell? Wn _ ck0
          have qaa : ga ≠ gl := HDal.out
          have qba : gl ≠ ga := fun h => qaa h.symm
          have qab : gb ≠ gl := HDbl.out
          have qbb : gl ≠ gb := fun h => qab h.symm
          have qak : gk ≠ gl := HDkl.out
          have qbk : gl ≠ gk := fun h => qak h.symm
          refine wpJ_on 9 rfl fun KJ hK => ?_
          go_simp
          have HJ2 : Hid ((fun W' : World => W'.cell? ⟨gk, 0, none⟩ = some (U 9223372036854775808) ∧ W'.cell? ⟨gk, 1, none⟩ = some (.int .i64 53) ∧ W'.cell? ⟨gk, 2, none⟩ = some (.int .i64 (-1074)) ∧ W'.cell? ⟨gk, 3, none⟩ = some (.int .i64 971) ∧ W'.cell? ⟨gk, 4, none⟩ = some (U 9218868437227405312) ∧ W'.cell? ⟨gk, 5, none⟩ = some (U 9221120237041090561)) ((Wn.setCell ⟨gl, 0, none⟩ (.bool tC)).setCell ⟨gl, 1, none⟩ (.slice (some ⟨kC, 0, none⟩) nC nC))) := ⟨by go_simp, by go_simp, by go_simp, by go_simp, by go_simp, by go_simp⟩
          have Xl2 : Hid (Box ((Wn.setCell ⟨gl, 0, none⟩ (.bool tC)).setCell ⟨gl, 1, none⟩ (.slice (some ⟨kC, 0, none⟩) nC nC)) gl (.bool tC) (.slice (some ⟨kC, 0, none⟩) nC nC)) := ⟨by go_simp, by go_simp, by go_simp, by go_simp⟩
          have Xa2 : Hid (Box ((Wn.setCell ⟨gl, 0, none⟩ (.bool tC)).setCell ⟨gl, 1, none⟩ (.slice (some ⟨kC, 0, none⟩) nC nC)) ga (.bool false) (.slice (some ⟨g4, 0, none⟩) m4 m4)) := ⟨by go_simp, by go_simp, by go_simp, by go_simp⟩
          have Xb2 : Hid (Box ((Wn.setCell ⟨gl, 0, none⟩ (.bool tC)).setCell ⟨gl, 1, none⟩ (.slice (some ⟨kC, 0, none⟩) nC nC)) gb (.bool sb) (.slice pb mb mb)) := ⟨by go_simp, by go_simp, by go_simp, by go_simp⟩
          have Xk2 : Hid (B6q ((Wn.setCell ⟨gl, 0, none⟩ (.bool tC)).setCell ⟨gl, 1, none⟩ (.slice (some ⟨kC, 0, none⟩) nC nC)) gk (U 9223372036854775808) (.int .i64 53) (.int .i64 (-1074)) (.int .i64 971) (U 9218868437227405312) (U 9221120237041090561)) := ⟨by go_simp, by go_simp, by go_simp, by go_simp, by go_simp, by go_simp, by go_simp, by go_simp, by go_simp, by go_simp, by go_simp, by go_simp⟩
          have RR2 : Hid (ZR ((Wn.setCell ⟨gl, 0, none⟩ (.bool tC)).setCell ⟨gl, 1, none⟩ (.slice (some ⟨kC, 0, none⟩) nC nC)) tC (some ⟨kC, 0, none⟩) nC ((vs 4503599627370496 (s - 1) : Int) + (vs 4503599627370496 s : Int))) := HLS.out _ _
          have hbu2 : Below Wb.heap.size Wb ((Wn.setCell ⟨gl, 0, none⟩ (.bool tC)).setCell ⟨gl, 1, none⟩ (.slice (some ⟨kC, 0, none⟩) nC nC)) := bSet (bSet hbu _ _ _ HGU.out) _ _ _ HGU.out
          have hbw2 : Below w.heap.size w ((Wn.setCell ⟨gl, 0, none⟩ (.bool tC)).setCell ⟨gl, 1, none⟩ (.slice (some ⟨kC, 0, none⟩) nC nC)) := bSet (bSet hbw _ _ _ HGl.out) _ _ _ HGl.out
          refine hK _ _ HJ2.out ?_
          clear hK HJ
          have HJ := HJ2
          clear HJ2
          refine wpJ_done (by kernel_rfl) ?_ _
          exact ⟨rfl, HRQ.out _ _ _ ⟨gl, tA, kA, nA, tB, kB, nB, tC, kC, nC, by kernel_rfl, Xl2.out, Xa2.out, Xb2.out, Xk2.out, RR2.out, HGl.out, HDal.out, HDbl.out, HDkl.out, HLC.out, hbu2, hbw2⟩⟩
        · go_simp
          have HDal : Hid (ga ≠ uB.heap.size) := Nat.ne_of_lt Xa.out.lt
          have HDbl : Hid (gb ≠ uB.heap.size) := Nat.ne_of_lt Xb.out.lt
          have HDkl : Hid (gk ≠ uB.heap.size) := Nat.ne_of_lt Xk.out.lt
          have HGU : Hid (Wb.heap.size ≤ uB.heap.size) := hbu.size
          have Xl0 : Hid (Box (uB.alloc (.cells #[.bool false, .slice none 0 0] 47)) uB.heap.size (.bool false) (.slice none 0 0)) := Box.new uB _ _ _
          have hbn : Below uB.heap.size uB (uB.alloc (.cells #[.bool false, .slice none 0 0] 47)) := below1 uB _
          generalize uB.alloc (.cells #[.bool false, .slice none 0 0] 47) = Wn at *
          have HGl : Hid (w.heap.size ≤ uB.heap.size) := hbw.size
          have hbu' := Below.on hbu hbn
          clear hbu
          have hbu := hbu'
          clear hbu'
          replace Xa : Hid _ := Xa.out.below hbn
          replace Xb : Hid _ := Xb.out.below hbn
          replace Xk : Hid _ := Xk.out.below hbn
          replace YA : Hid _ := YA.out.below hbn
          replace YB : Hid _ := YB.out.below hbn
          replace hbw := Below.on hbw hbn
          clear hbn
          generalize uB.heap.size = gl at *
          have Xl := Xl0
          clear Xl0
          refine hK _ _ ⟨Xk.out.c0, Xk.out.c1, Xk.out.c2, Xk.out.c3, Xk.out.c4, Xk.out.c5⟩ ?_
          clear hK
          refine wpJ_on 7 rfl fun KJ hK => ?_
          go_simp
          have HLT : Hid (gl < Wn.heap.size) := Xl.out.lt
          refine (radd04 tA tB YA.out YB.out (by have := HLA.out; omega) (by have := HLB.out; omega)).mono ?_
          rintro e9 uC ⟨v, rfl, hv, hbC⟩
          obtain ⟨tC, kC, nC, rfl, hgC, hzC, hlC⟩ := hv
          have HGB : Hid (Wn.heap.size ≤ kC) := hgC
          have HLC : Hid (nC ≤ 2201) := by have h1 := hlC; have := HLA.out; have := HLB.out; show _ ≤ _; omega
          have hbu' := Below.on hbu hbC
          clear hbu
          have hbu := hbu'
          clear hbu'
          replace Xa : Hid _ := Xa.out.below hbC
          replace Xb : Hid _ := Xb.out.below hbC
          replace Xk : Hid _ := Xk.out.below hbC
          replace Xl : Hid _ := Xl.out.below hbC
          replace YA : Hid _ := YA.out.below hbC
          replace YB : Hid _ := YB.out.below hbC
          replace hbw := Below.on hbw hbC
          clear hbC
          have RR : Hid (ZR uC tC (some ⟨kC, 0, none⟩) nC ((vs 4503599627370496 (s - 1) : Int) + (vs 4503599627370496 s : Int))) := hzC
          clear hzC hlC hgC
          clear YA
          clear YB
          have HNE : Hid (kC ≠ gl) := by have h1 := HLT.out; have h2 := HGB.out; show _ ≠ _; omega
          refine hK _ _ ⟨Xk.out.c0, Xk.out.c1, Xk.out.c2, Xk.out.c3, Xk.out.c4, Xk.out.c5⟩ ?_
          clear hK
          obtain ⟨cl0, cl1, fl0, fl1⟩ := Xl.out
          have hnel := Xl.out.lt
          obtain ⟨ca0, ca1, fa0, fa1⟩ := Xa.out
          have hnea := Xa.out.lt
          obtain ⟨cb0, cb1, fb0, fb1⟩ := Xb.out
          have hneb := Xb.out.lt
          obtain ⟨ck0, ck1, ck2, ck3, ck4, ck5, fk0, fk1, fk2, fk3, fk4, fk5⟩ := Xk.out
          have hnek : gk < uC.heap.size := World.block_lt_of_cell? uC _ ck0
          have qaa : ga ≠ gl := HDal.out
          have qba : gl ≠ ga := fun h => qaa h.symm
          have qab : gb ≠ gl := HDbl.out
          have qbb : gl ≠ gb := fun h => qab h.symm
          have qak : gk ≠ gl := HDkl.out
          have qbk : gl ≠ gk := fun h => qak h.symm
          refine wpJ_on 9 rfl fun KJ hK => ?_
          go_simp
          have HJ2 : Hid ((fun W' : World => W'.cell? ⟨gk, 0, none⟩ = some (U 9223372036854775808) ∧ W'.cell? ⟨gk, 1, none⟩ = some (.int .i64 53) ∧ W'.cell? ⟨gk, 2, none⟩ = some (.int .i64 (-1074)) ∧ W'.cell? ⟨gk, 3, none⟩ = some (.int .i64 971) ∧ W'.cell? ⟨gk, 4, none⟩ = some (U 9218868437227405312) ∧ W'.cell? ⟨gk, 5, none⟩ = some (U 9221120237041090561)) ((uC.setCell ⟨gl, 0, none⟩ (.bool tC)).setCell ⟨gl, 1, none⟩ (.slice (some ⟨kC, 0, none⟩) nC nC))) := ⟨by go_simp, by go_simp, by go_simp, by go_simp, by go_simp, by go_simp⟩
          have Xl2 : Hid (Box ((uC.setCell ⟨gl, 0, none⟩ (.bool tC)).setCell ⟨gl, 1, none⟩ (.slice (some ⟨kC, 0, none⟩) nC nC)) gl (.bool tC) (.slice (some ⟨kC, 0, none⟩) nC nC)) := ⟨by go_simp, by go_simp, by go_simp, by go_simp⟩
          have Xa2 : Hid (Box ((uC.setCell ⟨gl, 0, none⟩ (.bool tC)).setCell ⟨gl, 1, none⟩ (.slice (some ⟨kC, 0, none⟩) nC nC)) ga (.bool false) (.slice (some ⟨g4, 0, none⟩) m4 m4)) := ⟨by go_simp, by go_simp, by go_simp, by go_simp⟩
          have Xb2 : Hid (Box ((uC.setCell ⟨gl, 0, none⟩ (.bool tC)).setCell ⟨gl, 1, none⟩ (.slice (some ⟨kC, 0, none⟩) nC nC)) gb (.bool sb) (.slice pb mb mb)) := ⟨by go_simp, by go_simp, by go_simp, by go_simp⟩
          have Xk2 : Hid (B6q ((uC.setCell ⟨gl, 0, none⟩ (.bool tC)).setCell ⟨gl, 1, none⟩ (.slice (some ⟨kC, 0, none⟩) nC nC)) gk (U 9223372036854775808) (.int .i64 53) (.int .i64 (-1074)) (.int .i64 971) (U 9218868437227405312) (U 9221120237041090561)) := ⟨by go_simp, by go_simp, by go_simp, by go_simp, by go_simp, by go_simp, by go_simp, by go_simp, by go_simp, by go_simp, by go_simp, by go_simp⟩
          have RR2 : Hid (ZR ((uC.setCell ⟨gl, 0, none⟩ (.bool tC)).setCell ⟨gl, 1, none⟩ (.slice (some ⟨kC, 0, none⟩) nC nC)) tC (some ⟨kC, 0, none⟩) nC ((vs 4503599627370496 (s - 1) : Int) + (vs 4503599627370496 s : Int))) := (RR.out.set _ _ _ HNE.out).set _ _ _ HNE.out
          have hbu2 : Below Wb.heap.size Wb ((uC.setCell ⟨gl, 0, none⟩ (.bool tC)).setCell ⟨gl, 1, none⟩ (.slice (some ⟨kC, 0, none⟩) nC nC)) := bSet (bSet hbu _ _ _ HGU.out) _ _ _ HGU.out
          have hbw2 : Below w.heap.size w ((uC.setCell ⟨gl, 0, none⟩ (.bool tC)).setCell ⟨gl, 1, none⟩ (.slice (some ⟨kC, 0, none⟩) nC nC)) := bSet (bSet hbw _ _ _ HGl.out) _ _ _ HGl.out
          refine hK _ _ HJ2.out ?_
          clear hK HJ
          have HJ := HJ2
          clear HJ2
          refine wpJ_done (by kernel_rfl) ?_ _
          exact ⟨rfl, HRQ.out _ _ _ ⟨gl, tA, kA, nA, tB, kB, nB, tC, kC, nC, by kernel_rfl, Xl2.out, Xa2.out, Xb2.out, Xk2.out, RR2.out, HGl.out, HDal.out, HDbl.out, HDkl.out, HLC.out, hbu2, hbw2⟩⟩
      · go_simp
        have HDal : Hid (ga ≠ uA.heap.size) := Nat.ne_of_lt Xa.out.lt
        have HDbl : Hid (gb ≠ uA.heap.size) := Nat.ne_of_lt Xb.out.lt
        have HDkl : Hid (gk ≠ uA.heap.size) := Nat.ne_of_lt Xk.out.lt
        have HGU : Hid (Wb.heap.size ≤ uA.heap.size) := hbu.size
        have Xl0 : Hid (Box (uA.alloc (.cells #[.bool false, .slice none 0 0] 47)) uA.heap.size (.bool false) (.slice none 0 0)) := Box.new uA _ _ _
        have hbn : Below uA.heap.size uA (uA.alloc (.cells #[.bool false, .slice none 0 0] 47)) := below1 uA _
        generalize uA.alloc (.cells #[.bool false, .slice none 0 0] 47) = Wn at *
        have HGl : Hid (w.heap.size ≤ uA.heap.size) := hbw.size
        have hbu' := Below.on hbu hbn
        clear hbu
        have hbu := hbu'
        clear hbu'
        replace Xa : Hid _ := Xa.out.below hbn
        replace Xb : Hid _ := Xb.out.below hbn
        replace Xk : Hid _ := Xk.out.below hbn
        replace YA : Hid _ := YA.out.below hbn
        replace hbw := Below.on hbw hbn
        clear hbn
        generalize uA.heap.size = gl at *
        have Xl := Xl0
        clear Xl0
        refine hK _ _ ⟨Xk.out.c0, Xk.out.c1, Xk.out.c2, Xk.out.c3, Xk.out.c4, Xk.out.c5⟩ ?_
        clear hK
        refine wpJ_on 6 rfl fun KJ hK => ?_
        go_simp
        refine (WB _).mono ?_
        rintro e9 uB ⟨v, rfl, hv, hbB⟩
        obtain ⟨tB, kB, nB, rfl, hgB, hzB, hlB⟩ := hv
        have hbu' := Below.on hbu hbB
        clear hbu
        have hbu := hbu'
        clear hbu'
        replace Xa : Hid _ := Xa.out.below hbB
        replace Xb : Hid _ := Xb.out.below hbB
        replace Xk : Hid _ := Xk.out.below hbB
        replace Xl : Hid _ := Xl.out.below hbB
        replace YA : Hid _ := YA.out.below hbB
        replace hbw := Below.on hbw hbB
        clear hbB
        have YB : Hid (ZR uB tB (some ⟨kB, 0, none⟩) nB ((vs 4503599627370496 s : Int))) := hzB
        have HLB : Hid (nB ≤ 2200) := hlB
        clear hzB hlB hgB
        refine hK _ _ ⟨Xk.out.c0, Xk.out.c1, Xk.out.c2, Xk.out.c3, Xk.out.c4, Xk.out.c5⟩ ?_
        clear hK
        refine wpJ_on 7 rfl fun KJ hK => ?_
        go_simp
        have HLT : Hid (gl < uB.heap.size) := Xl.out.lt
        refine (radd04 tA tB YA.out YB.out (by have := HLA.out; omega) (by have := HLB.out; omega)).mono ?_
        rintro e9 uC ⟨v, rfl, hv, hbC⟩
        obtain ⟨tC, kC, nC, rfl, hgC, hzC, hlC⟩ := hv
        have HGB : Hid (uB.heap.size ≤ kC) := hgC
        have HLC : Hid (nC ≤ 2201) := by have h1 := hlC; have := HLA.out; have := HLB.out; show _ ≤ _; omega
        have hbu' := Below.on hbu hbC
        clear hbu
        have hbu := hbu'
        clear hbu'
        replace Xa : Hid _ := Xa.out.below hbC
        replace Xb : Hid _ := Xb.out.below hbC
        replace Xk : Hid _ := Xk.out.below hbC
        replace Xl : Hid _ := Xl.out.below hbC
        replace YA : Hid _ := YA.out.below hbC
        replace YB : Hid _ := YB.out.below hbC
        replace hbw := Below.on hbw hbC
        clear hbC
        have RR : Hid (ZR uC tC (some ⟨kC, 0, none⟩) nC ((vs 4503599627370496 (s - 1) : Int) + (vs 4503599627370496 s : Int))) := hzC
        clear hzC hlC hgC
        clear YA
        clear YB
        have HNE : Hid (kC ≠ gl) := by have h1 := HLT.out; have h2 := HGB.out; show _ ≠ _; omega
        refine hK _ _ ⟨Xk.out.c0, Xk.out.c1, Xk.out.c2, Xk.out.c3, Xk.out.c4, Xk.out.c5⟩ ?_
        clear hK
        obtain ⟨cl0, cl1, fl0, fl1⟩ := Xl.out
        have hnel := Xl.out.lt
        obtain ⟨ca0, ca1, fa0, fa1⟩ := Xa.out
        have hnea := Xa.out.lt
        obtain ⟨cb0, cb1, fb0, fb1⟩ := Xb.out
        have hneb := Xb.out.lt
        obtain ⟨ck0, ck1, ck2, ck3, ck4, ck5, fk0, fk1, fk2, fk3, fk4, fk5⟩ := Xk.out
        have hnek : gk < uC.heap.size := World.block_lt_of_cell? uC _ ck0
        have qaa : ga ≠ gl := HDal.out
        have qba : gl ≠ ga := fun h => qaa h.symm
        have qab : gb ≠ gl := HDbl.out
        have qbb : gl ≠ gb := fun h => qab h.symm
        have qak : gk ≠ gl := HDkl.out
        have qbk : gl ≠ gk := fun h => qak h.symm
        refine wpJ_on 9 rfl fun KJ hK => ?_
        go_simp
        have HJ2 : Hid ((fun W' : World => W'.cell? ⟨gk, 0, none⟩ = some (U 9223372036854775808) ∧ W'.cell? ⟨gk, 1, none⟩ = some (.int .i64 53) ∧ W'.cell? ⟨gk, 2, none⟩ = some (.int .i64 (-1074)) ∧ W'.cell? ⟨gk, 3, none⟩ = some (.int .i64 971) ∧ W'.cell? ⟨gk, 4, none⟩ = some (U 9218868437227405312) ∧ W'.cell? ⟨gk, 5, none⟩ = some (U 9221120237041090561)) ((uC.setCell ⟨gl, 0, none⟩ (.bool tC)).setCell ⟨gl, 1, none⟩ (.slice (some ⟨kC, 0, none⟩) nC nC))) := ⟨by go_simp, by go_simp, by go_simp, by go_simp, by go_simp, by go_simp⟩
        have Xl2 : Hid (Box ((uC.setCell ⟨gl, 0, none⟩ (.bool tC)).setCell ⟨gl, 1, none⟩ (.slice (some ⟨kC, 0, none⟩) nC nC)) gl (.bool tC) (.slice (some ⟨kC, 0, none⟩) nC nC)) := ⟨by go_simp, by go_simp, by go_simp, by go_simp⟩
        have Xa2 : Hid (Box ((uC.setCell ⟨gl, 0, none⟩ (.bool tC)).setCell ⟨gl, 1, none⟩ (.slice (some ⟨kC, 0, none⟩) nC nC)) ga (.bool false) (.slice (some ⟨g4, 0, none⟩) m4 m4)) := ⟨by go_simp, by go_simp, by go_simp, by go_simp⟩
        have Xb2 : Hid (Box ((uC.setCell ⟨gl, 0, none⟩ (.bool tC)).setCell ⟨gl, 1, none⟩ (.slice (some ⟨kC, 0, none⟩) nC nC)) gb (.bool sb) (.slice pb mb mb)) := ⟨by go_simp, by go_simp, by go_simp, by go_simp⟩
        have Xk2 : Hid (B6q ((uC.setCell ⟨gl, 0, none⟩ (.bool tC)).setCell ⟨gl, 1, none⟩ (.slice (some ⟨kC, 0, none⟩) nC nC)) gk (U 9223372036854775808) (.int .i64 53) (.int .i64 (-1074)) (.int .i64 971) (U 9218868437227405312) (U 9221120237041090561)) := ⟨by go_simp, by go_simp, by go_simp, by go_simp, by go_simp, by go_simp, by go_simp, by go_simp, by go_simp, by go_simp, by go_simp, by go_simp⟩
        have RR2 : Hid (ZR ((uC.setCell ⟨gl, 0, none⟩ (.bool tC)).setCell ⟨gl, 1, none⟩ (.slice (some ⟨kC, 0, none⟩) nC nC)) tC (some ⟨kC, 0, none⟩) nC ((vs 4503599627370496 (s - 1) : Int) + (vs 4503599627370496 s : Int))) := (RR.out.set _ _ _ HNE.out).set _ _ _ HNE.out
        have hbu2 : Below Wb.heap.size Wb ((uC.setCell ⟨gl, 0, none⟩ (.bool tC)).setCell ⟨gl, 1, none⟩ (.slice (some ⟨kC, 0, none⟩) nC nC)) := bSet (bSet hbu _ _ _ HGU.out) _ _ _ HGU.out
        have hbw2 : Below w.heap.size w ((uC.setCell ⟨gl, 0, none⟩ (.bool tC)).setCell ⟨gl, 1, none⟩ (.slice (some ⟨kC, 0, none⟩) nC nC)) := bSet (bSet hbw _ _ _ HGl.out) _ _ _ HGl.out
        refine hK _ _ HJ2.out ?_
        clear hK HJ
        have HJ := HJ2
        clear HJ2
        refine wpJ_done (by kernel_rfl) ?_ _
        exact ⟨rfl, HRQ.out _ _ _ ⟨gl, tA, kA, nA, tB, kB, nB, tC, kC, nC, by kernel_rfl, Xl2.out, Xa2.out, Xb2.out, Xk2.out, RR2.out, HGl.out, HDal.out, HDbl.out, HDkl.out, HLC.out, hbu2, hbw2⟩⟩
    · go_simp
      have HDal : Hid (ga ≠ Wr.heap.size) := Nat.ne_of_lt Xa.out.lt
      have HDbl : Hid (gb ≠ Wr.heap.size) := Nat.ne_of_lt Xb.out.lt
      have HDkl : Hid (gk ≠ Wr.heap.size) := Nat.ne_of_lt Xk.out.lt
      have HGU : Hid (Wb.heap.size ≤ Wr.heap.size) := hbu.size
      have Xl0 : Hid (Box (Wr.alloc (.cells #[.bool false, .slice none 0 0] 47)) Wr.heap.size (.bool false) (.slice none 0 0)) := Box.new Wr _ _ _
      have hbn : Below Wr.heap.size Wr (Wr.alloc (.cells #[.bool false, .slice none 0 0] 47)) := below1 Wr _
      generalize Wr.alloc (.cells #[.bool false, .slice none 0 0] 47) = Wn at *
      have HGl : Hid (w.heap.size ≤ Wr.heap.size) := hbw.size
      have hbu' := Below.on hbu hbn
      clear hbu
      have hbu := hbu'
      clear hbu'
      replace Xa : Hid _ := Xa.out.below hbn
      replace Xb : Hid _ := Xb.out.below hbn
      replace Xk : Hid _ := Xk.out.below hbn
      replace hbw := Below.on hbw hbn
      clear hbn
      generalize Wr.heap.size = gl at *
      have Xl := Xl0
      clear Xl0
      refine hK _ _ ⟨Xk.out.c0, Xk.out.c1, Xk.out.c2, Xk.out.c3, Xk.out.c4, Xk.out.c5⟩ ?_
      clear hK
      refine wpJ_on 3 rfl fun KJ hK => ?_
      go_simp
      refine (WA _).mono ?_
      rintro e9 uA ⟨v, rfl, hv, hbA⟩
      obtain ⟨tA, kA, nA, rfl, hgA, hzA, hlA⟩ := hv
      have hbu' := Below.on hbu hbA
      clear hbu
      have hbu := hbu'
      clear hbu'
      replace Xa : Hid _ := Xa.out.below hbA
      replace Xb : Hid _ := Xb.out.below hbA
      replace Xk : Hid _ := Xk.out.below hbA
      replace Xl : Hid _ := Xl.out.below hbA
      replace hbw := Below.on hbw hbA
      clear hbA
      have YA : Hid (ZR uA tA (some ⟨kA, 0, none⟩) nA ((vs 4503599627370496 (s - 1) : Int))) := hzA
      have HLA : Hid (nA ≤ 2200) := hlA
      clear hzA hlA hgA
      refine hK _ _ ⟨Xk.out.c0, Xk.out.c1, Xk.out.c2, Xk.out.c3, Xk.out.c4, Xk.out.c5⟩ ?_
      clear hK
      refine wpJ_on 6 rfl fun KJ hK => ?_
      go_simp
      refine (WB _).mono ?_
      rintro e9 uB ⟨v, rfl, hv, hbB⟩
      obtain ⟨tB, kB, nB, rfl, hgB, hzB, hlB⟩ := hv
      have hbu' := Below.on hbu hbB
      clear hbu
      have hbu := hbu'
      clear hbu'
      replace Xa : Hid _ := Xa.out.below hbB
      replace Xb : Hid _ := Xb.out.below hbB
      replace Xk : Hid _ := Xk.out.below hbB
      replace Xl : Hid _ := Xl.out.below hbB
      replace YA : Hid _ := YA.out.below hbB
      replace hbw := Below.on hbw hbB
      clear hbB
      have YB : Hid (ZR uB tB (some ⟨kB, 0, none⟩) nB ((vs 4503599627370496 s : Int))) := hzB
      have HLB : Hid (nB ≤ 2200) := hlB
      clear hzB hlB hgB
      refine hK _ _ ⟨Xk.out.c0, Xk.out.c1, Xk.out.c2, Xk.out.c3, Xk.out.c4, Xk.out.c5⟩ ?_
      clear hK
      refine wpJ_on 7 rfl fun KJ hK => ?_
      go_simp
      have HLT : Hid (gl < uB.heap.size) := Xl.out.lt
      refine (radd04 tA tB YA.out YB.out (by have := HLA.out; omega) (by have := HLB.out; omega)).mono ?_
      rintro e9 uC ⟨v, rfl, hv, hbC⟩
      obtain ⟨tC, kC, nC, rfl, hgC, hzC, hlC⟩ := hv
      have HGB : Hid (uB.heap.size ≤ kC) := hgC
      have HLC : Hid (nC ≤ 2201) := by have h1 := hlC; have := HLA.out; have := HLB.out; show _ ≤ _; omega
      have hbu' := Below.on hbu hbC
      clear hbu
      have hbu := hbu'
      clear hbu'
      replace Xa : Hid _ := Xa.out.below hbC
      replace Xb : Hid _ := Xb.out.below hbC
      replace Xk : Hid _ := Xk.out.below hbC
      replace Xl : Hid _ := Xl.out.below hbC
      replace YA : Hid _ := YA.out.below hbC
      replace YB : Hid _ := YB.out.below hbC
      replace hbw := Below.on hbw hbC
      clear hbC
      have RR : Hid (ZR uC tC (some ⟨kC, 0, none⟩) nC ((vs 4503599627370496 (s - 1) : Int) + (vs 4503599627370496 s : Int))) := hzC
      clear hzC hlC hgC
      clear YA
      clear YB
      have HNE : Hid (kC ≠ gl) := by have h1 := HLT.out; have h2 := HGB.out; show _ ≠ _; omega
      refine hK _ _ ⟨Xk.out.c0, Xk.out.c1, Xk.out.c2, Xk.out.c3, Xk.out.c4, Xk.out.c5⟩ ?_
      clear hK
      obtain ⟨cl0, cl1, fl0, fl1⟩ := Xl.out
      have hnel := Xl.out.lt
      obtain ⟨ca0, ca1, fa0, fa1⟩ := Xa.out
      have hnea := Xa.out.lt
      obtain ⟨cb0, cb1, fb0, fb1⟩ := Xb.out
      have hneb := Xb.out.lt
      obtain ⟨ck0, ck1, ck2, ck3, ck4, ck5, fk0, fk1, fk2, fk3, fk4, fk5⟩ := Xk.out
      have hnek : gk < uC.heap.size := World.block_lt_of_cell? uC _ ck0
      have qaa : ga ≠ gl := HDal.out
      have qba : gl ≠ ga := fun h => qaa h.symm
      have qab : gb ≠ gl := HDbl.out
      have qbb : gl ≠ gb := fun h => qab h.symm
      have qak : gk ≠ gl := HDkl.out
      have qbk : gl ≠ gk := fun h => qak h.symm
      refine wpJ_on 9 rfl fun KJ hK => ?_
      go_simp
      have HJ2 : Hid ((fun W' : World => W'.cell? ⟨gk, 0, none⟩ = some (U 9223372036854775808) ∧ W'.cell? ⟨gk, 1, none⟩ = some (.int .i64 53) ∧ W'.cell? ⟨gk, 2, none⟩ = some (.int .i64 (-1074)) ∧ W'.cell? ⟨gk, 3, none⟩ = some (.int .i64 971) ∧ W'.cell? ⟨gk, 4, none⟩ = some (U 9218868437227405312) ∧ W'.cell? ⟨gk, 5, none⟩ = some (U 9221120237041090561)) ((uC.setCell ⟨gl, 0, none⟩ (.bool tC)).setCell ⟨gl, 1, none⟩ (.slice (some ⟨kC, 0, none⟩) nC nC))) := ⟨by go_simp, by go_simp, by go_simp, by go_simp, by go_simp, by go_simp⟩
      have Xl2 : Hid (Box ((uC.setCell ⟨gl, 0, none⟩ (.bool tC)).setCell ⟨gl, 1, none⟩ (.slice (some ⟨kC, 0, none⟩) nC nC)) gl (.bool tC) (.slice (some ⟨kC, 0, none⟩) nC nC)) := ⟨by go_simp, by go_simp, by go_simp, by go_simp⟩
      have Xa2 : Hid (Box ((uC.setCell ⟨gl, 0, none⟩ (.bool tC)).setCell ⟨gl, 1, none⟩ (.slice (some ⟨kC, 0, none⟩) nC nC)) ga (.bool false) (.slice (some ⟨g4, 0, none⟩) m4 m4)) := ⟨by go_simp, by go_simp, by go_simp, by go_simp⟩
      have Xb2 : Hid (Box ((uC.setCell ⟨gl, 0, none⟩ (.bool tC)).setCell ⟨gl, 1, none⟩ (.slice (some ⟨kC, 0, none⟩) nC nC)) gb (.bool sb) (.slice pb mb mb)) := ⟨by go_simp, by go_simp, by go_simp, by go_simp⟩
      have Xk2 : Hid (B6q ((uC.setCell ⟨gl, 0, none⟩ (.bool tC)).setCell ⟨gl, 1, none⟩ (.slice (some ⟨kC, 0, none⟩) nC nC)) gk (U 9223372036854775808) (.int .i64 53) (.int .i64 (-1074)) (.int .i64 971) (U 9218868437227405312) (U 9221120237041090561)) := ⟨by go_simp, by go_simp, by go_simp, by go_simp, by go_simp, by go_simp, by go_simp, by go_simp, by go_simp, by go_simp, by go_simp, by go_simp⟩
      have RR2 : Hid (ZR ((uC.setCell ⟨gl, 0, none⟩ (.bool tC)).setCell ⟨gl, 1, none⟩ (.slice (some ⟨kC, 0, none⟩) nC nC)) tC (some ⟨kC, 0, none⟩) nC ((vs 4503599627370496 (s - 1) : Int) + (vs 4503599627370496 s : Int))) := (RR.out.set _ _ _ HNE.out).set _ _ _ HNE.out
      have hbu2 : Below Wb.heap.size Wb ((uC.setCell ⟨gl, 0, none⟩ (.bool tC)).setCell ⟨gl, 1, none⟩ (.slice (some ⟨kC, 0, none⟩) nC nC)) := bSet (bSet hbu _ _ _ HGU.out) _ _ _ HGU.out
      have hbw2 : Below w.heap.size w ((uC.setCell ⟨gl, 0, none⟩ (.bool tC)).setCell ⟨gl, 1, none⟩ (.slice (some ⟨kC, 0, none⟩) nC nC)) := bSet (bSet hbw _ _ _ HGl.out) _ _ _ HGl.out
      refine hK _ _ HJ2.out ?_
      clear hK HJ
      have HJ := HJ2
      clear HJ2
      refine wpJ_done (by kernel_rfl) ?_ _
      exact ⟨rfl, HRQ.out _ _ _ ⟨gl, tA, kA, nA, tB, kB, nB, tC, kC, nC, by kernel_rfl, Xl2.out, Xa2.out, Xb2.out, Xk2.out, RR2.out, HGl.out, HDal.out, HDbl.out, HDkl.out, HLC.out, hbu2, hbw2⟩⟩
end Go.Proofs.Ytoclnjbmhepcnaa
namespace Go.Proofs.Ytoclnjbmhepcnaa
open Go.RowKit
set_option maxRecDepth 20000
set_option maxHeartbeats 0
theorem marg {h l a m X R e : Int} (_h0 : 0 < h) (hR0 : 0 < R) (hR : R ≤ 1267650600228229401496703205376) (h1 : 2 * (X * R) = 3 * h) (hm : 0 ≤ m) (h2 : 9007199254740992 * (X - m) ≤ m) (h3 : 9007199254740992 * (m - X) ≤ m)
    (he : 0 ≤ e) (h4 : 9007199254740992 * e ≤ a) (h5 : a ≤ l + m + e) (h6 : 9007199254740992 * l ≤ h) : 14 * h ≤ 10 * (m * R - e * R) ∧ m * R + e * R ≤ 2 * h - h / 4 - 1 ∧ 0 ≤ e * R ∧ 0 ≤ m * R := by
  have g2 := Int.mul_le_mul_of_nonneg_right h2 (Int.le_of_lt hR0)
  have g3 := Int.mul_le_mul_of_nonneg_right h3 (Int.le_of_lt hR0)
  have g4 := Int.mul_le_mul_of_nonneg_right h4 (Int.le_of_lt hR0)
  have g5 := Int.mul_le_mul_of_nonneg_right h5 (Int.le_of_lt hR0)
  have g6 := Int.mul_le_mul_of_nonneg_right h6 (Int.le_of_lt hR0)
  have g7 : h * R ≤ h * 1267650600228229401496703205376 := Int.mul_le_mul_of_nonneg_left hR (by omega)
  have g8 := Int.mul_nonneg he (Int.le_of_lt hR0)
  have g9 := Int.mul_nonneg hm (Int.le_of_lt hR0)
  rw [Int.mul_assoc] at g2 g3 g4 g6
  rw [Int.sub_mul] at g2 g3
  rw [Int.add_mul, Int.add_mul] at g5
  generalize m * R = M at *
  generalize e * R = E at *
  generalize l * R = L at *
  generalize a * R = A at *
  generalize X * R = Y at *
  generalize h * R = HR at *
  omega
theorem pk_le {k : Nat} (h : k ≤ 100) : ((2 ^ k : Nat) : Int) ≤ 1267650600228229401496703205376 := by
  have : 2 ^ k ≤ 2 ^ 100 := p2le h
  rw [show 2 ^ 100 = 1267650600228229401496703205376 by decide] at this
  omega
theorem acc_marg {hi lo k : Nat} (k1 : 56 ≤ k) (k2 : k ≤ 100) (sz : SzF hi) (d : DdF hi lo) {t : Int} (ht : t = mgR k (ux hi) ∨ t = -mgR k (ux hi)) :
    ∃ e : Int, 0 ≤ e ∧ rv (ux lo + t) - (ux lo + t) ≤ e ∧ -(rv (ux lo + t) - (ux lo + t)) ≤ e ∧ 14 * ((ux hi).natAbs : Int) ≤ 10 * (mgR k (ux hi) * ((2 ^ k : Nat) : Int) - e * ((2 ^ k : Nat) : Int)) ∧ mgR k (ux hi) * ((2 ^ k : Nat) : Int) + e * ((2 ^ k : Nat) : Int) ≤ 2 * ((ux hi).natAbs : Int) - ((ux hi).natAbs : Int) / 4 - 1 ∧ 0 ≤ e * ((2 ^ k : Nat) : Int) ∧ 0 ≤ mgR k (ux hi) * ((2 ^ k : Nat) : Int) := by
  have m1 := (mg_facts rfl k1 k2 sz).1
  have m4 := (mg_facts rfl k1 k2 sz).2.2.2
  have hx := mgX_exact k2 sz
  have hne := sz.ne
  have hl := dd_little d
  have hq := m4.little (by decide)
  rw [show 2 ^ 53 = 9007199254740992 by decide] at hq
  have ht2 : t.natAbs ≤ (mgR k (ux hi)).natAbs := by rcases ht with h | h <;> rw [h] <;> first | exact Nat.le_refl _ | (rw [Int.natAbs_neg]; exact Nat.le_refl _)
  have ha := (rv_rn (acc_bd rfl k1 k2 sz d ht2).2.2.2).little (by decide)
  rw [show 2 ^ 53 = 9007199254740992 by decide] at ha
  have hp : (0 : Int) < ((2 ^ k : Nat) : Int) := Int.ofNat_lt.2 (p2pos k)
  have h1 : 2 * ((mgX k (ux hi) : Int) * ((2 ^ k : Nat) : Int)) = 3 * ((ux hi).natAbs : Int) := by
    rw [p2succ] at hx
    have h2 : mgX k (ux hi) * (2 * 2 ^ k) = 2 * (mgX k (ux hi) * 2 ^ k) := by rw [← Nat.mul_assoc, Nat.mul_comm _ 2, Nat.mul_assoc]
    rw [h2] at hx
    rw [← Int.natCast_mul]
    omega
  have hb : t.natAbs ≤ (mgR k (ux hi)).natAbs := ht2
  clear ht ht2 hx
  generalize mgX k (ux hi) = X at *
  generalize mgR k (ux hi) = m at *
  generalize rv (ux lo + t) = a at *
  generalize ux lo = L at *
  generalize ux hi = H at *
  obtain ⟨e, he⟩ : ∃ e : Nat, e = (L + t - a).natAbs := ⟨_, rfl⟩
  rw [← he] at ha
  refine ⟨(e : Int), by omega, by omega, by omega, ?_⟩
  exact marg (l := (L.natAbs : Int)) (a := (a.natAbs : Int)) (X := (X : Int)) (by omega) hp (pk_le k2) h1 m1 (by omega) (by omega) (by omega) (by omega) (by omega) (by omega)
theorem cmp_facts {x y : Int} : (0 ≤ cmpI x y → y ≤ x) ∧ (cmpI x y ≤ 0 → x ≤ y) ∧ (y < x → cmpI x y = 1) ∧ (x < y → cmpI x y = -1) := by
  unfold cmpI
  refine ⟨fun h => ?_, fun h => ?_, fun h => ?_, fun h => ?_⟩
  · split at h
    · omega
    · omega
  · split at h
    · omega
    · split at h <;> omega
  · rw [if_neg (by omega), if_neg (by omega)]
  · rw [if_pos h]
theorem inC_of {A B : Int} {s : Nat} (h1 : cLow s * B < (A.natAbs : Int) * 2) (h2 : (A.natAbs : Int) * 2 < cHigh s * B) : inC A B s = true := by
  unfold inC
  rw [cmp_facts.2.2.1 h1, cmp_facts.2.2.2 h2]
  split <;> rfl
theorem inC_le {A B : Int} {s : Nat} (h : inC A B s = true) : cLow s * B ≤ (A.natAbs : Int) * 2 ∧ (A.natAbs : Int) * 2 ≤ cHigh s * B := by
  unfold inC at h
  split at h
  · rw [Bool.and_eq_true, decide_eq_true_iff, decide_eq_true_iff] at h
    exact ⟨cmp_facts.1 h.1, cmp_facts.2.1 h.2⟩
  · rw [Bool.and_eq_true, decide_eq_true_iff, decide_eq_true_iff] at h
    exact ⟨cmp_facts.1 (by omega), cmp_facts.2.1 (by omega)⟩
theorem cell_facts {hi : Nat} (sz : SzF hi) (hp : hi < 9223372036854775808) : ∃ g h g' : Int, ux hi = h ∧ 0 < h ∧ cLow (hi % 9223372036854775808) = g + h ∧ cHigh (hi % 9223372036854775808) = h + g' ∧ 0 ≤ g ∧ g < h ∧ h < g' ∧ 4503599627370496 * (g' - h) ≤ h ∧ Fl 53 g ∧ Fl 53 g' ∧ (∀ t, t < 9218868437227405312 → t ≠ hi % 9223372036854775808 → (vs 4503599627370496 t : Int) ≤ g ∨ g' ≤ (vs 4503599627370496 t : Int)) := by
  obtain ⟨q, m, q1, q2, g1, g2, g3⟩ := sz_q sz.least
  have hl := sz.least
  have hm := sz.most
  have e1 : hi % 9223372036854775808 = hi := Nat.mod_eq_of_lt hp
  rw [e1] at q2 g3 hl hm ⊢
  have v1 : vs 4503599627370496 (hi - 1) < vs 4503599627370496 hi := vs_mono (by decide) (by omega)
  have e2 : hi + 1 = q * 4503599627370496 + (m + 1) := by
    have := g3
    unfold vs at this
    rw [← q2] at this
    have h5 := Nat.eq_of_mul_eq_mul_right (p2pos q) this
    omega
  have v2 : vs 4503599627370496 (hi + 1) = (m + 1) * 2 ^ q := by rw [e2]; exact vs_at q (m + 1) (.inr (by omega)) (by omega)
  have hP := p2pos q
  have v3 : 4503599627370496 * 2 ^ q ≤ m * 2 ^ q := Nat.mul_le_mul_right _ g1
  have f1 : Fl 53 (ux (hi - 1)) := Fin64.fl ⟨by omega, by omega⟩
  have f2 : Fl 53 (ux (hi + 1)) := Fin64.fl ⟨by omega, by omega⟩
  rw [ux_pos (by omega)] at f1 f2
  refine ⟨(vs 4503599627370496 (hi - 1) : Int), (vs 4503599627370496 hi : Int), (vs 4503599627370496 (hi + 1) : Int), ux_pos hp, by omega, rfl, rfl, by omega, by omega, ?_, ?_, f1, f2, fun t ht hne => ?_⟩
  · rw [v2, g3, Nat.add_mul]; omega
  · rw [v2, g3, Nat.add_mul]; omega
  · rcases Nat.lt_or_gt_of_ne hne with h | h
    · refine .inl (Int.ofNat_le.2 ?_)
      rcases Nat.lt_or_eq_of_le (show t ≤ hi - 1 by omega) with h2 | h2
      · exact Nat.le_of_lt (vs_mono (by decide) h2)
      · rw [h2]; exact Nat.le_refl _
    · refine .inr (Int.ofNat_le.2 ?_)
      rcases Nat.lt_or_eq_of_le (show hi + 1 ≤ t by omega) with h2 | h2
      · exact Nat.le_of_lt (vs_mono (by decide) h2)
      · rw [← h2]; exact Nat.le_refl _
theorem rn_low {X h g : Int} (hr : Rn 53 X h) (hg : Fl 53 g) (h1 : g < h) : g + h ≤ 2 * X := by
  have := hr.2 _ hg
  omega
theorem rn_high {X h g : Int} (hr : Rn 53 X h) (hg : Fl 53 g) (h1 : h < g) : 2 * X ≤ h + g := by
  have := hr.2 _ hg
  omega
theorem sound_calc {g h g' L m a b e1 e2 P : Int} (c1 : 0 < h) (c4 : 0 ≤ g) (c5 : g < h) (c6 : h < g') (c7 : 4503599627370496 * (g' - h) ≤ h) (hP : 0 < P) (hL : 9007199254740992 * L.natAbs ≤ h.natAbs) (l1 : g + h ≤ 2 * (h + a)) (l2 : 2 * (h + b) ≤ h + g')
    (a2 : a - (L + -m) ≤ e1) (b3 : -(b - (L + m)) ≤ e2) (a4 : 14 * (h.natAbs : Int) ≤ 10 * (m * P - e1 * P)) (b4 : 14 * (h.natAbs : Int) ≤ 10 * (m * P - e2 * P)) :
    0 < h + L ∧ (g + h) * (P + 1) < (((h + L) * P).natAbs : Int) * 2 ∧ (((h + L) * P).natAbs : Int) * 2 < (h + g') * (P + 1) ∧ (g + h) * (P - 1) < (((h + L) * P).natAbs : Int) * 2 ∧ (((h + L) * P).natAbs : Int) * 2 < (h + g') * (P - 1) := by
  have hv : 0 < h + L := by omega
  have hva : (((h + L) * P).natAbs : Int) = (h + L) * P := by
    have := Int.mul_pos hv hP
    omega
  have hh : ((h.natAbs : Nat) : Int) = h := by omega
  rw [hva]
  rw [hh] at a4 b4
  have w1 : (g + h) * P ≤ (2 * (h + L - m + e1)) * P := Int.mul_le_mul_of_nonneg_right (by omega) (Int.le_of_lt hP)
  have w2 : (2 * (h + L + m - e2)) * P ≤ (h + g') * P := Int.mul_le_mul_of_nonneg_right (by omega) (Int.le_of_lt hP)
  clear l1 l2 a2 b3 hva hh hL
  simp only [Int.mul_assoc, Int.add_mul, Int.sub_mul] at w1 w2
  simp only [Int.mul_add, Int.mul_sub, Int.add_mul, Int.mul_one]
  generalize m * P = M at *
  generalize e1 * P = E1 at *
  generalize e2 * P = E2 at *
  generalize L * P = LP at *
  generalize g * P = G at *
  generalize g' * P = G' at *
  generalize h * P = HP at *
  omega
theorem sound_pos {hi lo k : Nat} (hA : AccP hi lo k) (hp : hi < 9223372036854775808) : 0 < ux hi + ux lo ∧ inC ((ux hi + ux lo) * ((2 ^ k : Nat) : Int)) (((2 ^ k : Nat) : Int) + 1) (hi % 9223372036854775808) = true ∧ inC ((ux hi + ux lo) * ((2 ^ k : Nat) : Int)) (((2 ^ k : Nat) : Int) - 1) (hi % 9223372036854775808) = true := by
  obtain ⟨k1, k2, sz, d, dn, up⟩ := hA
  have t1 : (-mgR k (ux hi)).natAbs ≤ (mgR k (ux hi)).natAbs := by rw [Int.natAbs_neg]; exact Nat.le_refl _
  have r1 := rv_rn (acc_bd rfl k1 k2 sz d t1).2.2.1
  have r2 := rv_rn (acc_bd rfl k1 k2 sz d (Nat.le_refl (mgR k (ux hi)).natAbs)).2.2.1
  rw [Int.sub_eq_add_neg] at dn
  rw [dn] at r1
  rw [up] at r2
  obtain ⟨e1, a1, a2, a3, a4, a5, a6, a7⟩ := acc_marg k1 k2 sz d (t := -mgR k (ux hi)) (.inr rfl)
  obtain ⟨e2, b1, b2, b3, b4, b5, b6, b7⟩ := acc_marg k1 k2 sz d (t := mgR k (ux hi)) (.inl rfl)
  obtain ⟨g, h, g', rfl, c1, c2, c3, c4, c5, c6, c7, c8, c9, _⟩ := cell_facts sz hp
  have hl := dd_little d
  have l1 := rn_low r1 c8 c5
  have l2 := rn_high r2 c9 c6
  have hR : (0 : Int) < ((2 ^ k : Nat) : Int) := Int.ofNat_lt.2 (p2pos k)
  obtain ⟨r1, r2, r3, r4, r5⟩ := sound_calc c1 c4 c5 c6 c7 hR hl l1 l2 a2 b3 a4 b4
  rw [← c2] at r2 r4
  rw [← c3] at r3 r5
  exact ⟨r1, inC_of r2 r3, inC_of r4 r5⟩
theorem sound_all {hi lo k : Nat} (hA : AccP hi lo k) : decide (9223372036854775808 ≤ hi) = decide ((ux hi + ux lo) * ((2 ^ k : Nat) : Int) < 0) ∧ inC ((ux hi + ux lo) * ((2 ^ k : Nat) : Int)) (((2 ^ k : Nat) : Int) + 1) (hi % 9223372036854775808) = true ∧ inC ((ux hi + ux lo) * ((2 ^ k : Nat) : Int)) (((2 ^ k : Nat) : Int) - 1) (hi % 9223372036854775808) = true := by
  have hP : (0 : Int) < ((2 ^ k : Nat) : Int) := Int.ofNat_lt.2 (p2pos k)
  by_cases hp : hi < 9223372036854775808
  · obtain ⟨h1, h2, h3⟩ := sound_pos hA hp
    have := Int.mul_pos h1 hP
    exact ⟨by rw [decide_eq_false (by omega), decide_eq_false (by omega)], h2, h3⟩
  · have hF := hA.flip
    have hlt := hA.sz.fin.lt
    obtain ⟨f1, f2, f3⟩ := flip_ux hlt
    obtain ⟨g1, _, _⟩ := flip_ux hA.dd.lo.lt
    have hp2 : flipS hi < 9223372036854775808 := by unfold flipS; rw [if_pos (by omega)]; omega
    obtain ⟨h1, h2, h3⟩ := sound_pos hF hp2
    rw [f1, g1, show -ux hi + -ux lo = -(ux hi + ux lo) by omega] at h1 h2 h3
    rw [f3, Int.neg_mul] at h2 h3
    have key : ∀ A B s, inC (-A) B s = inC A B s := fun A B s => by unfold inC; rw [Int.natAbs_neg]
    rw [key] at h2 h3
    have := Int.mul_pos h1 hP
    rw [Int.neg_mul] at this
    exact ⟨by rw [decide_eq_true (by omega), decide_eq_true (by omega)], h2, h3⟩
theorem rv_cell {hi : Nat} {X : Int} (sz : SzF hi) (hp : hi < 9223372036854775808) (hX : X.natAbs ≤ MaxU) (h1 : cLow (hi % 9223372036854775808) < 2 * X) (h2 : 2 * X < cHigh (hi % 9223372036854775808)) : rv X = ux hi := by
  obtain ⟨g, h, g', rfl, c1, c2, c3, c4, c5, c6, _, _, _, c10⟩ := cell_facts sz hp
  rw [c2] at h1
  rw [c3] at h2
  have hr := rv_rn hX
  have hb := hr.2 _ sz.fin.fl
  have hv : rv X = (vs 4503599627370496 (rg 0 X.natAbs) : Int) := by unfold rv; rw [if_neg (by omega)]
  by_cases he : rg 0 X.natAbs = hi % 9223372036854775808
  · rw [hv, he, ux_pos hp, Nat.mod_eq_of_lt hp]
  · rcases c10 _ (rg_fin hX) he with h3 | h3
    · rw [← hv] at h3; omega
    · rw [← hv] at h3; omega
theorem must_calc {g h g' L m a b e1 e2 P Q : Int} (c1 : 0 < h) (hQ : 1 ≤ Q) (hPQ : P = 2 * Q) (hL : 9007199254740992 * L.natAbs ≤ h.natAbs)
    (a2 : a - (L + -m) ≤ e1) (a3 : -(a - (L + -m)) ≤ e1) (b2 : b - (L + m) ≤ e2) (b3 : -(b - (L + m)) ≤ e2) (a4 : 14 * (h.natAbs : Int) ≤ 10 * (m * P - e1 * P)) (b4 : 14 * (h.natAbs : Int) ≤ 10 * (m * P - e2 * P))
    (a5 : m * P + e1 * P ≤ 2 * (h.natAbs : Int) - (h.natAbs : Int) / 4 - 1) (b5 : m * P + e2 * P ≤ 2 * (h.natAbs : Int) - (h.natAbs : Int) / 4 - 1)
    (w1 : (g + h) * Q ≤ (((h + L) * (Q - 1)).natAbs : Int) * 2) (w2 : (((h + L) * (Q + 1)).natAbs : Int) * 2 ≤ (h + g') * Q) :
    g + h < 2 * (h + a) ∧ 2 * (h + a) < h + g' ∧ g + h < 2 * (h + b) ∧ 2 * (h + b) < h + g' := by
  have hh : ((h.natAbs : Nat) : Int) = h := by omega
  have hv : 0 < h + L := by omega
  have v1 : (((h + L) * (Q - 1)).natAbs : Int) = (h + L) * Q - (h + L) := by
    have := Int.mul_nonneg (Int.le_of_lt hv) (show 0 ≤ Q - 1 by omega)
    rw [Int.mul_sub, Int.mul_one] at this ⊢
    omega
  have v2 : (((h + L) * (Q + 1)).natAbs : Int) = (h + L) * Q + (h + L) := by
    have := Int.mul_nonneg (Int.le_of_lt hv) (show 0 ≤ Q + 1 by omega)
    rw [Int.mul_add, Int.mul_one] at this ⊢
    omega
  rw [v1] at w1
  rw [v2] at w2
  rw [hh] at a4 b4 a5 b5
  have x1 : m * P = 2 * (m * Q) := by rw [hPQ, ← Int.mul_assoc, Int.mul_comm m 2, Int.mul_assoc]
  have x2 : e1 * P = 2 * (e1 * Q) := by rw [hPQ, ← Int.mul_assoc, Int.mul_comm e1 2, Int.mul_assoc]
  have x3 : e2 * P = 2 * (e2 * Q) := by rw [hPQ, ← Int.mul_assoc, Int.mul_comm e2 2, Int.mul_assoc]
  rw [x1, x2] at a4 a5
  rw [x1, x3] at b4 b5
  have hQ0 : 0 ≤ Q := by omega
  have me1 : e1 < m := by
    refine Int.lt_of_not_ge fun hc => ?_
    have := Int.mul_le_mul_of_nonneg_right hc hQ0
    omega
  have me2 : e2 < m := by
    refine Int.lt_of_not_ge fun hc => ?_
    have := Int.mul_le_mul_of_nonneg_right hc hQ0
    omega
  refine ⟨?_, ?_, ?_, ?_⟩
  · refine Int.lt_of_not_ge fun hc => ?_
    have y := Int.mul_le_mul_of_nonneg_right (show 2 * (h + L - m - e1) ≤ g + h by omega) hQ0
    rw [Int.mul_assoc, Int.sub_mul, Int.sub_mul] at y
    clear a2 a3 b2 b3 v1 v2 hc x1 x2 x3
    generalize (h + L) * Q = A at *
    generalize (g + h) * Q = B at *
    omega
  · refine Int.lt_of_not_ge fun hc => ?_
    have y := Int.mul_le_mul_of_nonneg_right (show h + g' ≤ 2 * (h + L) by omega) hQ0
    rw [Int.mul_assoc] at y
    clear a2 a3 b2 b3 v1 v2 hc x1 x2 x3 a4 a5 b4 b5 me1 me2
    generalize (h + L) * Q = A at *
    generalize (h + g') * Q = B at *
    omega
  · refine Int.lt_of_not_ge fun hc => ?_
    have y := Int.mul_le_mul_of_nonneg_right (show 2 * (h + L) ≤ g + h by omega) hQ0
    rw [Int.mul_assoc] at y
    clear a2 a3 b2 b3 v1 v2 hc x1 x2 x3 a4 a5 b4 b5 me1 me2
    generalize (h + L) * Q = A at *
    generalize (g + h) * Q = B at *
    omega
  · refine Int.lt_of_not_ge fun hc => ?_
    have y := Int.mul_le_mul_of_nonneg_right (show h + g' ≤ 2 * (h + L + m + e2) by omega) hQ0
    rw [Int.mul_assoc, show (h + L + m + e2) * Q = (h + L) * Q + m * Q + e2 * Q by rw [Int.add_mul, Int.add_mul]] at y
    clear a2 a3 b2 b3 v1 v2 hc x1 x2 x3
    generalize (h + L) * Q = A at *
    generalize (h + g') * Q = B at *
    omega
theorem must_pos {hi lo k : Nat} (k1 : 56 ≤ k) (k2 : k ≤ 100) (sz : SzF hi) (d : DdF hi lo) (hp : hi < 9223372036854775808)
    (h1 : inC ((ux hi + ux lo) * (((2 ^ (k - 1) : Nat) : Int) - 1)) ((2 ^ (k - 1) : Nat) : Int) (hi % 9223372036854775808) = true) (h2 : inC ((ux hi + ux lo) * (((2 ^ (k - 1) : Nat) : Int) + 1)) ((2 ^ (k - 1) : Nat) : Int) (hi % 9223372036854775808) = true) : AccP hi lo k := by
  have t1 : (-mgR k (ux hi)).natAbs ≤ (mgR k (ux hi)).natAbs := by rw [Int.natAbs_neg]; exact Nat.le_refl _
  have n1 := (acc_bd rfl k1 k2 sz d t1).2.2.1
  have n2 := (acc_bd rfl k1 k2 sz d (Nat.le_refl (mgR k (ux hi)).natAbs)).2.2.1
  obtain ⟨e1, a1, a2, a3, a4, a5, a6, a7⟩ := acc_marg k1 k2 sz d (t := -mgR k (ux hi)) (.inr rfl)
  obtain ⟨e2, b1, b2, b3, b4, b5, b6, b7⟩ := acc_marg k1 k2 sz d (t := mgR k (ux hi)) (.inl rfl)
  have w1 := (inC_le h1).1
  have w2 := (inC_le h2).2
  have hl := dd_little d
  have hPQ : ((2 ^ k : Nat) : Int) = 2 * ((2 ^ (k - 1) : Nat) : Int) := by
    have := p2succ (k - 1)
    rw [show k - 1 + 1 = k by omega] at this
    omega
  have hQ : (1 : Int) ≤ ((2 ^ (k - 1) : Nat) : Int) := by have := p2pos (k - 1); omega
  have hcf := cell_facts sz hp
  obtain ⟨g, h, g', hh, c1, c2, c3, _⟩ := hcf
  rw [c2] at w1
  rw [c3] at w2
  subst hh
  obtain ⟨r1, r2, r3, r4⟩ := must_calc c1 hQ hPQ hl a2 a3 b2 b3 a4 b4 a5 b5 w1 w2
  rw [← c2] at r1 r3
  rw [← c3] at r2 r4
  exact ⟨k1, k2, sz, d, by rw [Int.sub_eq_add_neg]; exact rv_cell sz hp n1 r1 r2, rv_cell sz hp n2 r3 r4⟩
theorem flip_flip {b : Nat} (h : b < 18446744073709551616) : flipS (flipS b) = b := by
  unfold flipS
  by_cases h1 : 9223372036854775808 ≤ b
  · rw [if_pos h1, if_neg (by omega)]; omega
  · rw [if_neg h1, if_pos (by omega)]; omega
theorem must_all {hi lo k : Nat} (k1 : 56 ≤ k) (k2 : k ≤ 100) (sz : SzF hi) (d : DdF hi lo)
    (h1 : inC ((ux hi + ux lo) * (((2 ^ (k - 1) : Nat) : Int) - 1)) ((2 ^ (k - 1) : Nat) : Int) (hi % 9223372036854775808) = true) (h2 : inC ((ux hi + ux lo) * (((2 ^ (k - 1) : Nat) : Int) + 1)) ((2 ^ (k - 1) : Nat) : Int) (hi % 9223372036854775808) = true) : AccP hi lo k := by
  by_cases hp : hi < 9223372036854775808
  · exact must_pos k1 k2 sz d hp h1 h2
  · have hlt := sz.fin.lt
    obtain ⟨f1, f2, f3⟩ := flip_ux hlt
    obtain ⟨g1, _, _⟩ := flip_ux d.lo.lt
    have hp2 : flipS hi < 9223372036854775808 := by unfold flipS; rw [if_pos (by omega)]; omega
    have key : ∀ A B s, inC (-A) B s = inC A B s := fun A B s => by unfold inC; rw [Int.natAbs_neg]
    have hh := must_pos (hi := flipS hi) (lo := flipS lo) k1 k2 ⟨sz.fin.flipS, by rw [f3]; exact sz.least, by rw [f3]; exact sz.most⟩ d.neg hp2
      (by rw [f1, g1, f3, show -ux hi + -ux lo = -(ux hi + ux lo) by omega, Int.neg_mul, key]; exact h1)
      (by rw [f1, g1, f3, show -ux hi + -ux lo = -(ux hi + ux lo) by omega, Int.neg_mul, key]; exact h2)
    have := hh.flip
    rw [flip_flip hlt, flip_flip d.lo.lt] at this
    exact this
end Go.Proofs.Ytoclnjbmhepcnaa
