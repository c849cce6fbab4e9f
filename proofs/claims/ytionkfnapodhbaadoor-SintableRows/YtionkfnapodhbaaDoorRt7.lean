import Derived.Test.YtionkfnapodhbaaDoorJ13
namespace Go.Proofs.YtionkfnapodhbaaDoor
open Go.RowKit Go.Shelf
set_option maxRecDepth 20000
set_option maxHeartbeats 0
theorem sincos_ok {w : World} {p : Option Addr} {m : Nat} {y : Int} (s : Bool) (h : ZR w s p m y) (hm : m ≤ 60) (q : Nat) (hq1 : 324 < q) (hq2 : q ≤ 400) (hy : y.natAbs ≤ 2 ^ q) {N A : Nat} (hN : N = q + 104) (hA : A = y.natAbs * 2 ^ 94) {S1 C1 S2 C2 : Int} (hL : scL A N (N + 1) 0 (2 ^ N) 0 0 = (S1, C1)) (hB : scB N 10 S1 C1 = true) (hD : scD N 10 S1 C1 = (S2, C2)) :
    Calls Tryd.prog 37 #[.agg #[.bool s, .slice p m m], .int .i64 q] w fun en w' => ∃ v1 v2, en = .returned (.tuple #[v1, v2]) ∧ GotR w.heap.size w' v1 (rFs (iv s S2.natAbs) 104) 10000 ∧ GotR w.heap.size w' v2 (rFs C2 104) 10000 ∧ Below w.heap.size w w' := by
  have HY : Hid (ZR w s p m y ∧ m ≤ 60) := ⟨h, hm⟩
  obtain ⟨q64, hq64⟩ : ∃ q64, q64 = q + 64 := ⟨_, rfl⟩
  have w1 : wrap64 ((q : Int) + 64) = (q64 : Int) := by simp only [wrap64]; omega
  have w2 : wrap64 ((q64 : Int) + 40) = (N : Int) := by simp only [wrap64]; omega
  have w5 : IntKind.i64.wrap ((q : Int) + 64) = (q64 : Int) := by simp [IntKind.wrap, IntKind.signed, IntKind.bits]; omega
  have w6 : IntKind.i64.wrap ((q64 : Int) + 40) = (N : Int) := by simp [IntKind.wrap, IntKind.signed, IntKind.bits]; omega
  have w3 : wrap64 ((N : Int) - (q : Int)) = 104 := by simp only [wrap64]; omega
  have w4 : IntKind.i64.wrap ((N : Int) - (q : Int)) = 104 := by simp [IntKind.wrap, IntKind.signed, IntKind.bits]; omega
  obtain ⟨E6, hE6⟩ : ∃ E6, E6 = 32 * 20 := ⟨_, rfl⟩
  have HE6 : Hid (E6 = 32 * 20) := hE6
  clear hE6
  have HH := halv_ok q hq1 hq2
  have HC : Hid (324 < q ∧ q ≤ 400 ∧ y.natAbs ≤ 2 ^ q ∧ N = q + 104 ∧ A = y.natAbs * 2 ^ 94) := ⟨hq1, hq2, hy, hN, hA⟩
  have HS : Hid (scL A N (N + 1) 0 (2 ^ N) 0 0 = (S1, C1) ∧ scB N 10 S1 C1 = true ∧ scD N 10 S1 C1 = (S2, C2)) := ⟨hL, hB, hD⟩
  clear h hm hq1 hq2 hy hN hA hL hB hD hq64
  go_enter Tryd.func37, Tryd.ntmps37
  go_wp2_with fail
  obtain ⟨W0, hW0⟩ : ∃ W0, W0 = (((w.alloc (.cells #[.bool s, .slice p m m] 50)).alloc (.cells #[.bool false, .slice none 0 0] 50)).alloc (.cells #[.bool false, .slice none 0 0] 50)) := ⟨_, rfl⟩
  have Xy : Hid (Box W0 (w.heap.size) (.bool s) (.slice p m m)) := by rw [hW0]; exact ⟨by go_simp, by go_simp, by go_simp, by go_simp⟩
  have Xr : Hid (Box W0 (w.heap.size + 1) (.bool false) (.slice none 0 0)) := by rw [hW0]; exact ⟨by go_simp, by go_simp, by go_simp, by go_simp⟩
  have Xu : Hid (Box W0 (w.heap.size + 1 + 1) (.bool false) (.slice none 0 0)) := by rw [hW0]; exact ⟨by go_simp, by go_simp, by go_simp, by go_simp⟩
  have hb0 : Below w.heap.size w W0 := by rw [hW0]; exact below3 w _ _ _
  rw [← hW0]
  clear hW0
  have hbw : Below w.heap.size w w := Below.refl _ _
  obtain ⟨gu, hgu⟩ : ∃ g, g = w.heap.size + 1 + 1 := ⟨_, rfl⟩
  have HGu : Hid (w.heap.size ≤ gu) := by rw [hgu]; show _ ≤ _; omega
  rw [← hgu] at Xu
  try rw [← hgu]
  obtain ⟨gr, hgr⟩ : ∃ g, g = w.heap.size + 1 := ⟨_, rfl⟩
  have HGr : Hid (w.heap.size ≤ gr) := by rw [hgr]; show _ ≤ _; omega
  rw [← hgr] at Xr
  try rw [← hgr]
  obtain ⟨gy, hgy⟩ : ∃ g, g = w.heap.size := ⟨_, rfl⟩
  have HGy : Hid (w.heap.size ≤ gy) := by rw [hgy]; show _ ≤ _; omega
  rw [← hgy] at Xy
  try rw [← hgy]
  have HGD : Hid (gy ≠ gr ∧ gy ≠ gu ∧ gr ≠ gy ∧ gr ≠ gu ∧ gu ≠ gy ∧ gu ≠ gr) := by rw [hgy, hgr, hgu]; exact ⟨by omega, by omega, by omega, by omega, by omega, by omega⟩
  clear hgy hgr hgu
  replace hbw := Below.on hbw hb0
  clear hb0
  refine (HH _).mono ?_
  rintro e9 v9 ⟨rfl, hw⟩
  obtain rfl := hw.symm
  clear hw HH
  obtain ⟨cy0, cy1, fy0, fy1⟩ := Xy.out
  have hney := Xy.out.lt
  go_wp2_with fail
  clear cy0 cy1 fy0 fy1 hney
  refine (rshl04 s (HY.out.1.below hbw) (by have := HY.out.2; omega) 94 (.inl (by decide))).mono ?_
  rintro e v1 ⟨v, rfl, hv, hb1⟩
  obtain ⟨s1, g1, m1, rfl, hg1, hz1, hl1⟩ := hv
  try clear hv
  have HN1 : Hid (W0.heap.size ≤ g1) := hg1
  have HB1 : Hid (W0.heap.size ≤ v1.heap.size) := hb1.size
  replace Xy : Hid _ := Xy.out.below hb1
  replace Xr : Hid _ := Xr.out.below hb1
  replace Xu : Hid _ := Xu.out.below hb1
  replace hbw := Below.on hbw hb1
  clear hb1
  have Z1 : Hid (ZR v1 s1 (some ⟨g1, 0, none⟩) m1 (y * 2 ^ 94)) := hz1
  have HL1 : Hid (m1 ≤ 40000) := hl1
  clear hz1 hl1 hg1
  go_wp2_with fail
  have Xa0 : Hid (Box (v1.alloc (.cells #[.bool s1, .slice (some ⟨g1, 0, none⟩) m1 m1] 50)) v1.heap.size (.bool s1) (.slice (some ⟨g1, 0, none⟩) m1 m1)) := Box.new v1 _ _ _
  have hbn : Below v1.heap.size v1 (v1.alloc (.cells #[.bool s1, .slice (some ⟨g1, 0, none⟩) m1 m1] 50)) := below1 v1 _
  generalize v1.alloc (.cells #[.bool s1, .slice (some ⟨g1, 0, none⟩) m1 m1] 50) = Wa at *
  have HGa : Hid (w.heap.size ≤ v1.heap.size) := hbw.size
  replace Xy : Hid _ := Xy.out.below hbn
  replace Xr : Hid _ := Xr.out.below hbn
  replace Xu : Hid _ := Xu.out.below hbn
  replace Z1 : Hid _ := Z1.out.below hbn
  replace hbw := Below.on hbw hbn
  clear hbn
  generalize v1.heap.size = ga at *
  have Xa := Xa0
  clear Xa0
  refine (rn_pow2 N (by have := HC.out; omega)).mono ?_
  rintro en v2 ⟨p2, m2, rfl, hn2, hb2⟩
  replace Xy : Hid _ := Xy.out.below hb2
  replace Xr : Hid _ := Xr.out.below hb2
  replace Xu : Hid _ := Xu.out.below hb2
  replace Xa : Hid _ := Xa.out.below hb2
  replace Z1 : Hid _ := Z1.out.below hb2
  replace hbw := Below.on hbw hb2
  clear hb2
  have N2 : Hid (RN v2 p2 m2 (2 ^ N)) := hn2
  clear hn2
  go_wp2_with fail
  obtain ⟨zs, hA, hN⟩ := N2.out.mem
  refine (rmk_any false hA hN (by have := N2.out.len; omega)).mono ?_
  rintro e v3 ⟨v, rfl, hv, hb3⟩
  rw [show iv false (2 ^ N) = ((2 ^ N : Nat) : Int) from rfl] at hv
  obtain ⟨s3, g3, m3, rfl, hg3, hz3, hl3⟩ := hv
  try clear hv
  have HN3 : Hid (v2.heap.size ≤ g3) := hg3
  have HB3 : Hid (v2.heap.size ≤ v3.heap.size) := hb3.size
  replace Xy : Hid _ := Xy.out.below hb3
  replace Xr : Hid _ := Xr.out.below hb3
  replace Xu : Hid _ := Xu.out.below hb3
  replace Xa : Hid _ := Xa.out.below hb3
  replace Z1 : Hid _ := Z1.out.below hb3
  replace N2 : Hid (RN v3 p2 m2 (2 ^ N)) := N2.out.below hb3
  replace hbw := Below.on hbw hb3
  clear hb3
  have Z3 : Hid (ZR v3 s3 (some ⟨g3, 0, none⟩) m3 (((2 ^ N : Nat) : Int))) := hz3
  have HL3 : Hid (m3 ≤ m2) := hl3
  clear hz3 hl3 hg3
  clear hA hN
  go_wp2_with fail
  have HBK : Hid (gy < v3.heap.size ∧ ga < v3.heap.size ∧ gr < v3.heap.size ∧ gu < v3.heap.size) := ⟨Xy.out.lt, Xa.out.lt, Xr.out.lt, Xu.out.lt⟩
  have HZ1 : Hid (m1 = 0 ∨ g1 < v3.heap.size) := by rcases Nat.eq_zero_or_pos m1 with h | h; (exact .inl h); exact .inr (Z1.out.blk9 (by omega))
  have HZ3 : Hid (m3 = 0 ∨ g3 < v3.heap.size) := by rcases Nat.eq_zero_or_pos m3 with h | h; (exact .inl h); exact .inr (Z3.out.blk9 (by omega))
  obtain ⟨Wt, hWt⟩ : ∃ W9, W9 = ((((v3.alloc (.cells #[.bool s3, .slice (some ⟨g3, 0, none⟩) m3 m3] 50)).alloc (.cells #[.bool false, .slice none 0 0] 50)).alloc (.cells #[.bool false, .slice none 0 0] 50)).alloc (.cells #[.bool s3, .slice (some ⟨g3, 0, none⟩) m3 m3] 50)) := ⟨_, rfl⟩
  have Xo0 : Hid (Box Wt (v3.heap.size) (.bool s3) (.slice (some ⟨g3, 0, none⟩) m3 m3)) := by rw [hWt]; exact ⟨by go_simp, by go_simp, by go_simp, by go_simp⟩
  have Xs0 : Hid (Box Wt (v3.heap.size + 1) (.bool false) (.slice none 0 0)) := by rw [hWt]; exact ⟨by go_simp, by go_simp, by go_simp, by go_simp⟩
  have Xc0 : Hid (Box Wt (v3.heap.size + 1 + 1) (.bool false) (.slice none 0 0)) := by rw [hWt]; exact ⟨by go_simp, by go_simp, by go_simp, by go_simp⟩
  have Xt0 : Hid (Box Wt (v3.heap.size + 1 + 1 + 1) (.bool s3) (.slice (some ⟨g3, 0, none⟩) m3 m3)) := by rw [hWt]; exact ⟨by go_simp, by go_simp, by go_simp, by go_simp⟩
  have hbn : Below v3.heap.size v3 Wt := by rw [hWt]; exact below4 v3 _ _ _ _
  have hsz : Wt.heap.size = v3.heap.size + 4 := by rw [hWt]; simp
  rw [← hWt]
  clear hWt
  obtain ⟨B, hBB⟩ : ∃ B, B = v3.heap.size := ⟨_, rfl⟩
  obtain ⟨gt, hgt⟩ : ∃ g, g = v3.heap.size + 1 + 1 + 1 := ⟨_, rfl⟩
  have HGt : Hid (w.heap.size ≤ gt) := by rw [hgt]; have := hbw.size; show _ ≤ _; omega
  rw [← hgt] at Xt0
  try rw [← hgt]
  obtain ⟨gc, hgc⟩ : ∃ g, g = v3.heap.size + 1 + 1 := ⟨_, rfl⟩
  have HGc : Hid (w.heap.size ≤ gc) := by rw [hgc]; have := hbw.size; show _ ≤ _; omega
  rw [← hgc] at Xc0
  try rw [← hgc]
  obtain ⟨gs, hgs⟩ : ∃ g, g = v3.heap.size + 1 := ⟨_, rfl⟩
  have HGs : Hid (w.heap.size ≤ gs) := by rw [hgs]; have := hbw.size; show _ ≤ _; omega
  rw [← hgs] at Xs0
  try rw [← hgs]
  obtain ⟨go, hgo⟩ : ∃ g, g = v3.heap.size := ⟨_, rfl⟩
  have HGo : Hid (w.heap.size ≤ go) := by rw [hgo]; have := hbw.size; show _ ≤ _; omega
  rw [← hgo] at Xo0
  try rw [← hgo]
  have HD : Hid (gy < B ∧ ga < B ∧ gr < B ∧ gu < B ∧ go = B ∧ gs = B + 1 ∧ gc = B + 2 ∧ gt = B + 3 ∧ B + 4 ≤ Wt.heap.size ∧ w.heap.size ≤ B ∧ (m1 = 0 ∨ g1 < B) ∧ (m3 = 0 ∨ g3 < B)) := ⟨by have := HBK.out; omega, by have := HBK.out; omega, by have := HBK.out; omega, by have := HBK.out; omega, by omega, by omega, by omega, by omega, by omega, by have := hbw.size; omega, by rw [hBB]; exact HZ1.out, by rw [hBB]; exact HZ3.out⟩
  clear HBK HZ1 HZ3 hBB hgo hgs hgc hgt hsz
  clear N2
  replace Xy : Hid _ := Xy.out.below hbn
  replace Xr : Hid _ := Xr.out.below hbn
  replace Xu : Hid _ := Xu.out.below hbn
  replace Xa : Hid _ := Xa.out.below hbn
  replace Z1 : Hid _ := Z1.out.below hbn
  replace Z3 : Hid _ := Z3.out.below hbn
  replace hbw := Below.on hbw hbn
  clear hbn
  have Xo := Xo0
  clear Xo0
  have Xs := Xs0
  clear Xs0
  have Xc := Xc0
  clear Xc0
  have Xt := Xt0
  clear Xt0
  have HZFs : Hid (m1 ≤ 20 ∧ m3 ≤ 20) := ⟨zr_len32 Z1.out (E := E6) HE6.out (by have h := HC.out; have h6 := HE6.out; rw [Int.natAbs_mul, show ((2 : Int) ^ 94).natAbs = 2 ^ 94 from rfl]; exact sz_a h.2.2.1 (by omega)), zr_len32 Z3.out (E := E6) HE6.out (by rw [Int.natAbs_natCast]; have h := HC.out; have h6 := HE6.out; exact (Nat.pow_lt_pow_iff_right (by decide)).2 (by omega))⟩
  have ZA : Hid (ZF gs gc gt Wt s1 (some ⟨g1, 0, none⟩) m1 (y * 2 ^ 94)) := ⟨Z1.out, (HD.out.2.2.2.2.2.2.2.2.2.2.1).imp id fun h => ⟨g1, rfl, by have := HD.out; omega, by have := HD.out; omega, by have := HD.out; omega⟩⟩
  have ZO : Hid (ZF gs gc gt Wt s3 (some ⟨g3, 0, none⟩) m3 (((2 ^ N : Nat) : Int))) := ⟨Z3.out, (HD.out.2.2.2.2.2.2.2.2.2.2.2).imp id fun h => ⟨g3, rfl, by have := HD.out; omega, by have := HD.out; omega, by have := HD.out; omega⟩⟩
  have Z00 : Hid (ZF gs gc gt Wt false none 0 (0)) := ⟨⟨⟨[], At32.empty _ _ _ (by decide), Nf.nil _⟩, rfl⟩, .inl rfl⟩
  have HW34 := Hid.mk9 (And.intro w3 w4)
  clear w1 w2 w5 w6 w3 w4
  go_loopg [13] (N + 1) (fun gk iv wr => ∃ (i t : Nat) (S C : Int) (xs xc xt : Bool) (ps pc pt : Option Addr) (ms mc mt : Nat), iv = .int .i64 i ∧ i + gk = N + 1 ∧ t < 2 ^ gk ∧ scL A N gk i t S C = (S1, C1) ∧ ms ≤ 200 + i ∧ mc ≤ 200 + i ∧ Box wr gs (.bool xs) (.slice ps ms ms) ∧ Box wr gc (.bool xc) (.slice pc mc mc) ∧ Box wr gt (.bool xt) (.slice pt mt mt) ∧ ZF gs gc gt wr xs ps ms (S) ∧ ZF gs gc gt wr xc pc mc (C) ∧ ZF gs gc gt wr xt pt mt ((t : Int)) ∧ Box wr gy (.bool s) (.slice p m m) ∧ Box wr gr (.bool false) (.slice none 0 0) ∧ Box wr gu (.bool false) (.slice none 0 0) ∧ Box wr ga (.bool s1) (.slice (some ⟨g1, 0, none⟩) m1 m1) ∧ Box wr go (.bool s3) (.slice (some ⟨g3, 0, none⟩) m3 m3) ∧ ZF gs gc gt wr s1 (some ⟨g1, 0, none⟩) m1 (y * 2 ^ 94) ∧ ZF gs gc gt wr s3 (some ⟨g3, 0, none⟩) m3 (((2 ^ N : Nat) : Int)) ∧ B + 4 ≤ wr.heap.size ∧ Below w.heap.size w wr)
  case atStart => exact ⟨0, 2 ^ N, 0, 0, false, false, s3, none, none, _, 0, 0, m3, rfl, by omega, (Nat.pow_lt_pow_iff_right (by decide)).2 (by omega), HS.out.1, by omega, by omega, Xs.out, Xc.out, Xt.out, Z00.out, Z00.out, ZO.out, Xy.out, Xr.out, Xu.out, Xa.out, Xo.out, ZA.out, ZO.out, HD.out.2.2.2.2.2.2.2.2.1, hbw⟩
  case round =>
    clear Xs Xc Xt Z00 ZO ZA Xy Xr Xu Xa Xo hbw Z1 Z3
    obtain ⟨i, t, S, C, xs, xc, xt, ps, pc, pt, ms, mc, mt, rfl, hig, htg, hsc, hms, hmc, xs', xc', xt', zs', zc', zt', xy', xr', xu', xa', xo', za', zo', hB4, hbw⟩ := hrel
    have Xs : Hid (Box wr gs (.bool xs) (.slice ps ms ms)) := xs'
    have Xc : Hid (Box wr gc (.bool xc) (.slice pc mc mc)) := xc'
    have Xt : Hid (Box wr gt (.bool xt) (.slice pt mt mt)) := xt'
    have Xy : Hid (Box wr gy (.bool s) (.slice p m m)) := xy'
    have Xr : Hid (Box wr gr (.bool false) (.slice none 0 0)) := xr'
    have Xu : Hid (Box wr gu (.bool false) (.slice none 0 0)) := xu'
    have Xa : Hid (Box wr ga (.bool s1) (.slice (some ⟨g1, 0, none⟩) m1 m1)) := xa'
    have Xo : Hid (Box wr go (.bool s3) (.slice (some ⟨g3, 0, none⟩) m3 m3)) := xo'
    have ZS : Hid (ZF gs gc gt wr xs ps ms (S)) := zs'
    have ZC : Hid (ZF gs gc gt wr xc pc mc (C)) := zc'
    have ZTT : Hid (ZF gs gc gt wr xt pt mt ((t : Int))) := zt'
    have ZA : Hid (ZF gs gc gt wr s1 (some ⟨g1, 0, none⟩) m1 (y * 2 ^ 94)) := za'
    have ZO : Hid (ZF gs gc gt wr s3 (some ⟨g3, 0, none⟩) m3 (((2 ^ N : Nat) : Int))) := zo'
    have HI : Hid (ms ≤ 200 + i ∧ mc ≤ 200 + i ∧ B + 4 ≤ wr.heap.size) := ⟨hms, hmc, hB4⟩
    clear xs' xc' xt' xy' xr' xu' xa' xo' zs' zc' zt' za' zo' hms hmc hB4
    have SB : Hid (SzB (B + 4) wr) := ⟨HI.out.2.2⟩
    obtain ⟨ct0, ct1, ft0, ft1⟩ := Xt.out
    have hnet := Xt.out.lt
    go_wp2_with fail
    clear ct0 ct1 ft0 ft1 hnet
    refine (rsign04 xt ZTT.out.zr).mono ?_
    rintro e v5 ⟨rfl, hb5⟩
    have HBW5 : Hid (wr.heap.size ≤ v5.heap.size) := hb5.size
    replace Xs : Hid _ := Xs.out.below hb5
    replace Xc : Hid _ := Xc.out.below hb5
    replace Xt : Hid _ := Xt.out.below hb5
    replace Xy : Hid _ := Xy.out.below hb5
    replace Xr : Hid _ := Xr.out.below hb5
    replace Xu : Hid _ := Xu.out.below hb5
    replace Xa : Hid _ := Xa.out.below hb5
    replace Xo : Hid _ := Xo.out.below hb5
    replace SB : Hid (SzB (B + 4) v5) := SB.out.below hb5
    replace ZS : Hid (ZF gs gc gt v5 xs ps ms (S)) := ZS.out.below hb5
    replace ZC : Hid (ZF gs gc gt v5 xc pc mc (C)) := ZC.out.below hb5
    replace ZTT : Hid (ZF gs gc gt v5 xt pt mt ((t : Int))) := ZTT.out.below hb5
    replace ZA : Hid (ZF gs gc gt v5 s1 (some ⟨g1, 0, none⟩) m1 (y * 2 ^ 94)) := ZA.out.below hb5
    replace ZO : Hid (ZF gs gc gt v5 s3 (some ⟨g3, 0, none⟩) m3 (((2 ^ N : Nat) : Int))) := ZO.out.below hb5
    replace hbw := Below.on hbw hb5
    clear hb5
    by_cases ht0 : t = 0
    · subst ht0
      rw [scL_zero] at hsc
      obtain ⟨rfl, rfl⟩ := Prod.mk.inj hsc
      clear hsc htg hig
      rw [show sgnI ((0 : Nat) : Int) = 0 from rfl]
      go_wp2_with fail
      go_loopg [71] 10 (fun gk iv wr => ∃ (k : Nat) (S C : Int) (xs xc : Bool) (ps pc : Option Addr) (ms mc : Nat), iv = .int .i64 k ∧ k + gk = 10 ∧ scB N gk S C = true ∧ scD N gk S C = (S2, C2) ∧ Box wr gs (.bool xs) (.slice ps ms ms) ∧ Box wr gc (.bool xc) (.slice pc mc mc) ∧ ZF gs gc gt wr xs ps ms (S) ∧ ZF gs gc gt wr xc pc mc (C) ∧ Box wr gy (.bool s) (.slice p m m) ∧ Box wr gr (.bool false) (.slice none 0 0) ∧ Box wr gu (.bool false) (.slice none 0 0) ∧ Box wr ga (.bool s1) (.slice (some ⟨g1, 0, none⟩) m1 m1) ∧ Box wr go (.bool s3) (.slice (some ⟨g3, 0, none⟩) m3 m3) ∧ ZF gs gc gt wr s1 (some ⟨g1, 0, none⟩) m1 (y * 2 ^ 94) ∧ ZF gs gc gt wr s3 (some ⟨g3, 0, none⟩) m3 (((2 ^ N : Nat) : Int)) ∧ B + 4 ≤ wr.heap.size ∧ Below w.heap.size w wr)
      case atStart => exact ⟨0, _, _, xs, xc, ps, pc, ms, mc, rfl, by omega, HS.out.2.1, HS.out.2.2, Xs.out, Xc.out, ZS.out, ZC.out, Xy.out, Xr.out, Xu.out, Xa.out, Xo.out, ZA.out, ZO.out, SB.out.le, hbw⟩
      case round =>
        clear Xs Xc Xt ZS ZC ZTT ZA ZO Xy Xr Xu Xa Xo SB hbw
        obtain ⟨k, S, C, xs, xc, ps, pc, ms, mc, rfl, hkg, hsb, hsd, xs', xc', zs', zc', xy', xr', xu', xa', xo', za', zo', hB4, hbw⟩ := hrel
        have Xs : Hid (Box wr gs (.bool xs) (.slice ps ms ms)) := xs'
        have Xc : Hid (Box wr gc (.bool xc) (.slice pc mc mc)) := xc'
        have Xy : Hid (Box wr gy (.bool s) (.slice p m m)) := xy'
        have Xr : Hid (Box wr gr (.bool false) (.slice none 0 0)) := xr'
        have Xu : Hid (Box wr gu (.bool false) (.slice none 0 0)) := xu'
        have Xa : Hid (Box wr ga (.bool s1) (.slice (some ⟨g1, 0, none⟩) m1 m1)) := xa'
        have Xo : Hid (Box wr go (.bool s3) (.slice (some ⟨g3, 0, none⟩) m3 m3)) := xo'
        have ZS : Hid (ZF gs gc gt wr xs ps ms (S)) := zs'
        have ZC : Hid (ZF gs gc gt wr xc pc mc (C)) := zc'
        have ZA : Hid (ZF gs gc gt wr s1 (some ⟨g1, 0, none⟩) m1 (y * 2 ^ 94)) := za'
        have ZO : Hid (ZF gs gc gt wr s3 (some ⟨g3, 0, none⟩) m3 (((2 ^ N : Nat) : Int))) := zo'
        have SB : Hid (SzB (B + 4) wr) := ⟨hB4⟩
        clear xs' xc' xy' xr' xu' xa' xo' zs' zc' za' zo' hB4
        have hsz := scB_sz hsb
        have HSZ2 : Hid (ms ≤ 20 ∧ mc ≤ 20) := ⟨zr_len32 ZS.out.zr (E := E6) HE6.out (Nat.lt_of_lt_of_le hsz.1 (Nat.pow_le_pow_right (by decide) (by have h2 := HC.out; have h6 := HE6.out; omega))), zr_len32 ZC.out.zr (E := E6) HE6.out (Nat.lt_of_lt_of_le hsz.2 (Nat.pow_le_pow_right (by decide) (by have h2 := HC.out; have h6 := HE6.out; omega)))⟩
        clear hsz
        cases gk with
        | zero =>
          obtain rfl : k = 10 := by omega
          obtain ⟨rfl, rfl⟩ := Prod.mk.inj hsd
          clear hsd hsb hkg
          obtain ⟨cy0, cy1, fy0, fy1⟩ := Xy.out
          have hney := Xy.out.lt
          obtain ⟨cs0, cs1, fs0, fs1⟩ := Xs.out
          have hnes := Xs.out.lt
          go_wp2_with fail
          clear cy0 cy1 fy0 fy1 hney
          clear cs0 cs1 fs0 fs1 hnes
          obtain ⟨zs9, hA9, hN9⟩ := ZS.out.zr.ex
          have HSo31 : Hid (B + 4 ≤ wr.heap.size) := SB.out.le
          refine (rmk_any s hA9 hN9 (by have := HSZ2.out; omega)).mono ?_
          rintro e v31 ⟨v, rfl, hv, hb31⟩
          obtain ⟨s31, g31, m31, rfl, hg31, hz31, hl31⟩ := hv
          try clear hv
          have HN31 : Hid (wr.heap.size ≤ g31) := hg31
          have HB31 : Hid (wr.heap.size ≤ v31.heap.size) := hb31.size
          replace Xs : Hid _ := Xs.out.below hb31
          replace Xc : Hid _ := Xc.out.below hb31
          replace Xy : Hid _ := Xy.out.below hb31
          replace Xr : Hid _ := Xr.out.below hb31
          replace Xu : Hid _ := Xu.out.below hb31
          replace Xa : Hid _ := Xa.out.below hb31
          replace Xo : Hid _ := Xo.out.below hb31
          replace SB : Hid (SzB (B + 4) v31) := SB.out.below hb31
          replace ZS : Hid (ZF gs gc gt v31 xs ps ms (S)) := ZS.out.below hb31
          replace ZC : Hid (ZF gs gc gt v31 xc pc mc (C)) := ZC.out.below hb31
          replace ZA : Hid (ZF gs gc gt v31 s1 (some ⟨g1, 0, none⟩) m1 (y * 2 ^ 94)) := ZA.out.below hb31
          replace ZO : Hid (ZF gs gc gt v31 s3 (some ⟨g3, 0, none⟩) m3 (((2 ^ N : Nat) : Int))) := ZO.out.below hb31
          replace hbw := Below.on hbw hb31
          clear hb31
          have Z31 : Hid (ZR v31 s31 (some ⟨g31, 0, none⟩) m31 (iv s S.natAbs)) := hz31
          have HL31 : Hid (m31 ≤ ms) := hl31
          clear hz31 hl31 hg31
          have ZN31 : Hid (ZF gs gc gt v31 s31 (some ⟨g31, 0, none⟩) m31 (iv s S.natAbs)) := ZF.new Z31.out (B := B + 4) (by have := HN31.out; have := HSo31.out; omega) (by have := HD.out; omega)
          clear HSo31
          clear Z31
          clear hA9 hN9
          clear ZS
          obtain ⟨cs0, cs1, fs0, fs1⟩ := Xs.out
          have hnes := Xs.out.lt
          go_wp2_with fail
          obtain ⟨V32, hV32⟩ : ∃ W9, W9 = ((v31.setCell ⟨gs, 0, none⟩ (.bool s31)).setCell ⟨gs, 1, none⟩ (.slice (some ⟨g31, 0, none⟩) m31 m31)) := ⟨_, rfl⟩
          have Ys : Hid (Box V32 gs (.bool s31) (.slice (some ⟨g31, 0, none⟩) m31 m31)) := by rw [hV32]; exact Xs.out.put2 _ _
          have Yc : Hid (Box V32 gc (.bool xc) (.slice pc mc mc)) := by rw [hV32]; exact Xc.out.off2 (by have h := HD.out; omega) _ _
          have Yy : Hid (Box V32 gy (.bool s) (.slice p m m)) := by rw [hV32]; exact Xy.out.off2 (by have h := HD.out; omega) _ _
          have Yr : Hid (Box V32 gr (.bool false) (.slice none 0 0)) := by rw [hV32]; exact Xr.out.off2 (by have h := HD.out; omega) _ _
          have Yu : Hid (Box V32 gu (.bool false) (.slice none 0 0)) := by rw [hV32]; exact Xu.out.off2 (by have h := HD.out; omega) _ _
          have Ya : Hid (Box V32 ga (.bool s1) (.slice (some ⟨g1, 0, none⟩) m1 m1)) := by rw [hV32]; exact Xa.out.off2 (by have h := HD.out; omega) _ _
          have Yo : Hid (Box V32 go (.bool s3) (.slice (some ⟨g3, 0, none⟩) m3 m3)) := by rw [hV32]; exact Xo.out.off2 (by have h := HD.out; omega) _ _
          have SB' : Hid (SzB (B + 4) V32) := by rw [hV32]; exact (SB.out.put _ _ _).put _ _ _
          have ZC' : Hid (ZF gs gc gt V32 xc pc mc (C)) := by rw [hV32]; exact (ZC.out.set _ _ _ (.inl rfl)).set _ _ _ (.inl rfl)
          have ZA' : Hid (ZF gs gc gt V32 s1 (some ⟨g1, 0, none⟩) m1 (y * 2 ^ 94)) := by rw [hV32]; exact (ZA.out.set _ _ _ (.inl rfl)).set _ _ _ (.inl rfl)
          have ZO' : Hid (ZF gs gc gt V32 s3 (some ⟨g3, 0, none⟩) m3 (((2 ^ N : Nat) : Int))) := by rw [hV32]; exact (ZO.out.set _ _ _ (.inl rfl)).set _ _ _ (.inl rfl)
          have ZN31' : Hid (ZF gs gc gt V32 s31 (some ⟨g31, 0, none⟩) m31 (iv s S.natAbs)) := by rw [hV32]; exact (ZN31.out.set _ _ _ (.inl rfl)).set _ _ _ (.inl rfl)
          have hbw2 : Below w.heap.size w V32 := by rw [hV32]; exact bSet (bSet hbw _ _ _ HGs.out) _ _ _ HGs.out
          clear cs0 cs1 fs0 fs1 hnes
          rw [← hV32]
          clear hV32 hbw Xs Xc Xy Xr Xu Xa Xo
          have hbw := hbw2
          clear hbw2
          have Xs := Ys
          clear Ys
          have Xc := Yc
          clear Yc
          have Xy := Yy
          clear Yy
          have Xr := Yr
          clear Yr
          have Xu := Yu
          clear Yu
          have Xa := Ya
          clear Ya
          have Xo := Yo
          clear Yo
          clear SB
          have SB := SB'
          clear SB'
          clear ZC
          have ZC := ZC'
          clear ZC'
          clear ZA
          have ZA := ZA'
          clear ZA'
          clear ZO
          have ZO := ZO'
          clear ZO'
          clear ZN31
          have ZN31 := ZN31'
          clear ZN31'
          obtain ⟨w3, w4⟩ := HW34.out
          have HRB : Hid (gr < V32.heap.size ∧ gu < V32.heap.size ∧ w.heap.size ≤ V32.heap.size) := ⟨Xr.out.lt, Xu.out.lt, hbw.size⟩
          obtain ⟨V33, hV33⟩ : ∃ W1, W1 = V32.drew := ⟨_, rfl⟩
          have hbd : Below V32.heap.size V32 V33 := by rw [hV33]; exact bDrew1 (Below.refl _ _)
          replace Xs : Hid _ := Xs.out.below hbd
          replace Xc : Hid _ := Xc.out.below hbd
          replace Xy : Hid _ := Xy.out.below hbd
          replace Xr : Hid _ := Xr.out.below hbd
          replace Xu : Hid _ := Xu.out.below hbd
          replace Xa : Hid _ := Xa.out.below hbd
          replace Xo : Hid _ := Xo.out.below hbd
          replace SB : Hid (SzB (B + 4) V33) := SB.out.below hbd
          replace ZC : Hid (ZF gs gc gt V33 xc pc mc (C)) := ZC.out.below hbd
          replace ZA : Hid (ZF gs gc gt V33 s1 (some ⟨g1, 0, none⟩) m1 (y * 2 ^ 94)) := ZA.out.below hbd
          replace ZO : Hid (ZF gs gc gt V33 s3 (some ⟨g3, 0, none⟩) m3 (((2 ^ N : Nat) : Int))) := ZO.out.below hbd
          replace ZN31 : Hid (ZF gs gc gt V33 s31 (some ⟨g31, 0, none⟩) m31 (iv s S.natAbs)) := ZN31.out.below hbd
          replace hbw := Below.on hbw hbd
          clear hbd
          have HJ : Hid ((fun W' : World => W'.cell? ⟨gs, 0, none⟩ = some (.bool s31) ∧ W'.cell? ⟨gs, 1, none⟩ = some (.slice (some ⟨g31, 0, none⟩) m31 m31) ∧ W'.cell? ⟨gc, 0, none⟩ = some (.bool xc) ∧ W'.cell? ⟨gc, 1, none⟩ = some (.slice pc mc mc)) V33) := ⟨Xs.out.c0, Xs.out.c1, Xc.out.c0, Xc.out.c1⟩
          refine wp_region_J (fun W' => W'.cell? ⟨gs, 0, none⟩ = some (.bool s31) ∧ W'.cell? ⟨gs, 1, none⟩ = some (.slice (some ⟨g31, 0, none⟩) m31 m31) ∧ W'.cell? ⟨gc, 0, none⟩ = some (.bool xc) ∧ W'.cell? ⟨gc, 1, none⟩ = some (.slice pc mc mc)) (by kernel_rfl) ?_
          rw [← hV33]
          clear hV33
          have HRB2 : Hid (gr < V33.heap.size ∧ gu < V33.heap.size ∧ w.heap.size ≤ V33.heap.size) := ⟨Xr.out.lt, Xu.out.lt, hbw.size⟩
          refine wpJ_tq 0 rfl HJ.out ?_
          refine wpJ_tq 1 rfl HJ.out ?_
          refine wpJ_tq 2 rfl HJ.out ?_
          refine wpJ_tq 3 rfl HJ.out ?_
          refine wpJ_tq 5 rfl HJ.out ?_
          go_simp
          refine wpJ_tq 6 rfl HJ.out ?_
          refine wpJ_tq 7 rfl HJ.out ?_
          refine wpJ_tq 8 rfl HJ.out ?_
          refine wpJ_on 4 rfl fun KJ hK => ?_
          go_simp
          refine (rfloorshr04 s31 ZN31.out.zr (by have := HL31.out; have := HSZ2.out; omega) 104 (by decide)).mono ?_
          rintro e v34 ⟨v, rfl, hv, hb34⟩
          obtain ⟨s34, g34, m34, rfl, hg34, hz34, hl34⟩ := hv
          try clear hv
          have HN34 : Hid (V33.heap.size ≤ g34) := hg34
          have HB34 : Hid (V33.heap.size ≤ v34.heap.size) := hb34.size
          replace Xs : Hid _ := Xs.out.below hb34
          replace Xc : Hid _ := Xc.out.below hb34
          replace Xy : Hid _ := Xy.out.below hb34
          replace Xr : Hid _ := Xr.out.below hb34
          replace Xu : Hid _ := Xu.out.below hb34
          replace Xa : Hid _ := Xa.out.below hb34
          replace Xo : Hid _ := Xo.out.below hb34
          replace SB : Hid (SzB (B + 4) v34) := SB.out.below hb34
          replace ZC : Hid (ZF gs gc gt v34 xc pc mc (C)) := ZC.out.below hb34
          replace ZA : Hid (ZF gs gc gt v34 s1 (some ⟨g1, 0, none⟩) m1 (y * 2 ^ 94)) := ZA.out.below hb34
          replace ZO : Hid (ZF gs gc gt v34 s3 (some ⟨g3, 0, none⟩) m3 (((2 ^ N : Nat) : Int))) := ZO.out.below hb34
          replace ZN31 : Hid (ZF gs gc gt v34 s31 (some ⟨g31, 0, none⟩) m31 (iv s S.natAbs)) := ZN31.out.below hb34
          replace hbw := Below.on hbw hb34
          clear hb34
          have Z34 : Hid (ZR v34 s34 (some ⟨g34, 0, none⟩) m34 (rFs (iv s S.natAbs) 104)) := hz34
          have HL34 : Hid (m34 ≤ m31 + 4) := hl34
          clear hz34 hl34 hg34
          have HRB3 : Hid (gr < v34.heap.size ∧ gu < v34.heap.size ∧ w.heap.size ≤ v34.heap.size) := ⟨Xr.out.lt, Xu.out.lt, hbw.size⟩
          refine hK _ _ ⟨Xs.out.c0, Xs.out.c1, Xc.out.c0, Xc.out.c1⟩ ?_
          clear hK
          refine wpJ_on 9 rfl fun KJ hK => ?_
          go_simp
          refine (rfloorshr04 xc ZC.out.zr (by have := HSZ2.out; omega) 104 (by decide)).mono ?_
          rintro e v35 ⟨v, rfl, hv, hb35⟩
          obtain ⟨s35, g35, m35, rfl, hg35, hz35, hl35⟩ := hv
          try clear hv
          have HN35 : Hid (v34.heap.size ≤ g35) := hg35
          have HB35 : Hid (v34.heap.size ≤ v35.heap.size) := hb35.size
          replace Xs : Hid _ := Xs.out.below hb35
          replace Xc : Hid _ := Xc.out.below hb35
          replace Xy : Hid _ := Xy.out.below hb35
          replace Xr : Hid _ := Xr.out.below hb35
          replace Xu : Hid _ := Xu.out.below hb35
          replace Xa : Hid _ := Xa.out.below hb35
          replace Xo : Hid _ := Xo.out.below hb35
          replace SB : Hid (SzB (B + 4) v35) := SB.out.below hb35
          replace ZC : Hid (ZF gs gc gt v35 xc pc mc (C)) := ZC.out.below hb35
          replace ZA : Hid (ZF gs gc gt v35 s1 (some ⟨g1, 0, none⟩) m1 (y * 2 ^ 94)) := ZA.out.below hb35
          replace ZO : Hid (ZF gs gc gt v35 s3 (some ⟨g3, 0, none⟩) m3 (((2 ^ N : Nat) : Int))) := ZO.out.below hb35
          replace ZN31 : Hid (ZF gs gc gt v35 s31 (some ⟨g31, 0, none⟩) m31 (iv s S.natAbs)) := ZN31.out.below hb35
          replace Z34 : Hid _ := Z34.out.below hb35
          replace hbw := Below.on hbw hb35
          clear hb35
          have Z35 : Hid (ZR v35 s35 (some ⟨g35, 0, none⟩) m35 (rFs C 104)) := hz35
          have HL35 : Hid (m35 ≤ mc + 4) := hl35
          clear hz35 hl35 hg35
          refine hK _ _ ⟨Xs.out.c0, Xs.out.c1, Xc.out.c0, Xc.out.c1⟩ ?_
          clear hK
          clear w3 w4
          have hu1 : gr ≠ gu := HGD.out.2.2.2.1
          have hu2 : gu ≠ gr := hu1.symm
          have hnsr : gs ≠ gr := by have h := HD.out; omega
          have hmsr : gr ≠ gs := by have h := HD.out; omega
          have hnsu : gs ≠ gu := by have h := HD.out; omega
          have hmsu : gu ≠ gs := by have h := HD.out; omega
          have hncr : gc ≠ gr := by have h := HD.out; omega
          have hmcr : gr ≠ gc := by have h := HD.out; omega
          have hncu : gc ≠ gu := by have h := HD.out; omega
          have hmcu : gu ≠ gc := by have h := HD.out; omega
          obtain ⟨cr0, cr1, fr0, fr1⟩ := Xr.out
          have hner := Xr.out.lt
          obtain ⟨cu0, cu1, fu0, fu1⟩ := Xu.out
          have hneu := Xu.out.lt
          obtain ⟨cs0, cs1, fs0, fs1⟩ := Xs.out
          have hnes := Xs.out.lt
          obtain ⟨cc0, cc1, fc0, fc1⟩ := Xc.out
          have hnec := Xc.out.lt
          refine wpJ_on 10 rfl fun KJ hK => ?_
          go_simp
          have HJ2 : Hid ((fun W' : World => W'.cell? ⟨gs, 0, none⟩ = some (.bool s31) ∧ W'.cell? ⟨gs, 1, none⟩ = some (.slice (some ⟨g31, 0, none⟩) m31 m31) ∧ W'.cell? ⟨gc, 0, none⟩ = some (.bool xc) ∧ W'.cell? ⟨gc, 1, none⟩ = some (.slice pc mc mc)) ((v35.setCell ⟨gr, 0, none⟩ (.bool s34)).setCell ⟨gr, 1, none⟩ (.slice (some ⟨g34, 0, none⟩) m34 m34))) := ⟨by go_simp, by go_simp, by go_simp, by go_simp⟩
          refine hK _ _ HJ2.out ?_
          clear hK HJ
          have HJ := HJ2
          clear HJ2
          refine wpJ_on 11 rfl fun KJ hK => ?_
          go_simp
          have HJ2 : Hid ((fun W' : World => W'.cell? ⟨gs, 0, none⟩ = some (.bool s31) ∧ W'.cell? ⟨gs, 1, none⟩ = some (.slice (some ⟨g31, 0, none⟩) m31 m31) ∧ W'.cell? ⟨gc, 0, none⟩ = some (.bool xc) ∧ W'.cell? ⟨gc, 1, none⟩ = some (.slice pc mc mc)) ((((v35.setCell ⟨gr, 0, none⟩ (.bool s34)).setCell ⟨gr, 1, none⟩ (.slice (some ⟨g34, 0, none⟩) m34 m34)).setCell ⟨gu, 0, none⟩ (.bool s35)).setCell ⟨gu, 1, none⟩ (.slice (some ⟨g35, 0, none⟩) m35 m35))) := ⟨by go_simp, by go_simp, by go_simp, by go_simp⟩
          refine hK _ _ HJ2.out ?_
          clear hK HJ
          have HJ := HJ2
          clear HJ2
          go_simp
          refine wpJ_done (by kernel_rfl) ?_ _
          clear HJ
          go_wp2_with fail
          refine bodyPost_ret (v := .tuple #[.agg #[.bool s34, .slice (some ⟨g34, 0, none⟩) m34 m34], .agg #[.bool s35, .slice (some ⟨g35, 0, none⟩) m35 m35]]) (by rw [results_cell2 rfl]; go_simp) rfl ⟨_, _, rfl, ⟨s34, g34, m34, rfl, Nat.le_trans HRB2.out.2.2 HN34.out, ?_, by have := HL34.out; have := HL31.out; have := HSZ2.out; omega⟩, ⟨s35, g35, m35, rfl, Nat.le_trans HRB3.out.2.2 HN35.out, ?_, by have := HL35.out; have := HSZ2.out; omega⟩, ?_⟩
          · have h1 := HN34.out; have h2 := HRB2.out
            exact (((Z34.out.set _ _ _ (by omega)).set _ _ _ (by omega)).set _ _ _ (by omega)).set _ _ _ (by omega)
          · have h1 := HN35.out; have h2 := HRB3.out
            exact (((Z35.out.set _ _ _ (by omega)).set _ _ _ (by omega)).set _ _ _ (by omega)).set _ _ _ (by omega)
          · exact bSet (bSet (bSet (bSet (hbw) _ _ _ HGr.out) _ _ _ HGr.out) _ _ _ HGu.out) _ _ _ HGu.out
        | succ gj =>
          have hk10 : (k : Int) < 10 := by omega
          have HK := Hid.mk9 (And.intro hkg (And.intro hsb hsd))
          clear hkg hsb hsd
          go_wp2_with fail
          obtain ⟨V20, hV20⟩ : ∃ W9, W9 = wr.drew := ⟨_, rfl⟩
          have hbd : Below wr.heap.size wr V20 := by rw [hV20]; exact bDrew1 (Below.refl _ _)
          replace Xs : Hid _ := Xs.out.below hbd
          replace Xc : Hid _ := Xc.out.below hbd
          replace Xy : Hid _ := Xy.out.below hbd
          replace Xr : Hid _ := Xr.out.below hbd
          replace Xu : Hid _ := Xu.out.below hbd
          replace Xa : Hid _ := Xa.out.below hbd
          replace Xo : Hid _ := Xo.out.below hbd
          replace SB : Hid (SzB (B + 4) V20) := SB.out.below hbd
          replace ZS : Hid (ZF gs gc gt V20 xs ps ms (S)) := ZS.out.below hbd
          replace ZC : Hid (ZF gs gc gt V20 xc pc mc (C)) := ZC.out.below hbd
          replace ZA : Hid (ZF gs gc gt V20 s1 (some ⟨g1, 0, none⟩) m1 (y * 2 ^ 94)) := ZA.out.below hbd
          replace ZO : Hid (ZF gs gc gt V20 s3 (some ⟨g3, 0, none⟩) m3 (((2 ^ N : Nat) : Int))) := ZO.out.below hbd
          replace hbw := Below.on hbw hbd
          clear hbd
          have HJ : Hid ((fun W' : World => W'.cell? ⟨gs, 0, none⟩ = some (.bool xs) ∧ W'.cell? ⟨gs, 1, none⟩ = some (.slice ps ms ms) ∧ W'.cell? ⟨gc, 0, none⟩ = some (.bool xc) ∧ W'.cell? ⟨gc, 1, none⟩ = some (.slice pc mc mc) ∧ W'.cell? ⟨go, 0, none⟩ = some (.bool s3) ∧ W'.cell? ⟨go, 1, none⟩ = some (.slice (some ⟨g3, 0, none⟩) m3 m3)) V20) := ⟨Xs.out.c0, Xs.out.c1, Xc.out.c0, Xc.out.c1, Xo.out.c0, Xo.out.c1⟩
          refine wp_region_M (fun W' => W'.cell? ⟨gs, 0, none⟩ = some (.bool xs) ∧ W'.cell? ⟨gs, 1, none⟩ = some (.slice ps ms ms) ∧ W'.cell? ⟨gc, 0, none⟩ = some (.bool xc) ∧ W'.cell? ⟨gc, 1, none⟩ = some (.slice pc mc mc) ∧ W'.cell? ⟨go, 0, none⟩ = some (.bool s3) ∧ W'.cell? ⟨go, 1, none⟩ = some (.slice (some ⟨g3, 0, none⟩) m3 m3)) 12 (by kernel_rfl) ?_
          rw [← hV20]
          clear hV20
          refine wpM_take (i := 0) (v := ?v9x0) rfl (by kernel_rfl) (by kernel_rfl) (by kernel_rfl) (fun _ _ _ h => h) (by kernel_rfl) ?hy9x0 HJ.out ?rest9x0
          case hy9x0 => (intro W' hJ; obtain ⟨j0, j1, j2, j3, j4, j5⟩ := hJ; go_simp; first | done | with_reducible rfl)
          refine wpM_take (i := 1) (v := ?v10x1) rfl (by kernel_rfl) (by kernel_rfl) (by kernel_rfl) (fun _ _ _ h => h) (by kernel_rfl) ?hy10x1 HJ.out ?rest10x1
          case hy10x1 => (intro W' hJ; obtain ⟨j0, j1, j2, j3, j4, j5⟩ := hJ; go_simp; first | done | with_reducible rfl)
          refine wpM_take (i := 2) (v := ?v11x2) rfl (by kernel_rfl) (by kernel_rfl) (by kernel_rfl) (fun _ _ _ h => h) (by kernel_rfl) ?hy11x2 HJ.out ?rest11x2
          case hy11x2 => (intro W' hJ; obtain ⟨j0, j1, j2, j3, j4, j5⟩ := hJ; go_simp; first | done | with_reducible rfl)
          refine wpM_take (i := 5) (v := ?v12x5) rfl (by kernel_rfl) (by kernel_rfl) (by kernel_rfl) (fun _ _ _ h => h) (by kernel_rfl) ?hy12x5 HJ.out ?rest12x5
          case hy12x5 => (intro W' hJ; obtain ⟨j0, j1, j2, j3, j4, j5⟩ := hJ; go_simp; first | done | with_reducible rfl)
          refine wpM_take (i := 6) (v := ?v13x6) rfl (by kernel_rfl) (by kernel_rfl) (by kernel_rfl) (fun _ _ _ h => h) (by kernel_rfl) ?hy13x6 HJ.out ?rest13x6
          case hy13x6 => (intro W' hJ; obtain ⟨j0, j1, j2, j3, j4, j5⟩ := hJ; go_simp; first | done | with_reducible rfl)
          go_simp
          refine wpM_take (i := 7) (v := ?v14x7) rfl (by kernel_rfl) (by kernel_rfl) (by kernel_rfl) (fun _ _ _ h => h) (by kernel_rfl) ?hy14x7 HJ.out ?rest14x7
          case hy14x7 => (intro W' hJ; obtain ⟨j0, j1, j2, j3, j4, j5⟩ := hJ; go_simp; first | done | with_reducible rfl)
          refine wpM_take (i := 8) (v := ?v15x8) rfl (by kernel_rfl) (by kernel_rfl) (by kernel_rfl) (fun _ _ _ h => h) (by kernel_rfl) ?hy15x8 HJ.out ?rest15x8
          case hy15x8 => (intro W' hJ; obtain ⟨j0, j1, j2, j3, j4, j5⟩ := hJ; go_simp; first | done | with_reducible rfl)
          go_simp
          refine wpM_one (i := 3) (by kernel_rfl) rfl (by kernel_rfl) (fun KJ hK => ?_)
          go_simp
          have HSo21 : Hid (B + 4 ≤ V20.heap.size) := SB.out.le
          refine (tmul7 xs xc ZS.out.zr ZC.out.zr (by have := HSZ2.out; omega) (by have := HSZ2.out; omega) N (by have := HC.out; omega)).mono ?_
          rintro e v21 ⟨v, rfl, hv, hb21⟩
          obtain ⟨s21, g21, m21, rfl, hg21, hz21, hl21⟩ := hv
          try clear hv
          have HN21 : Hid (V20.heap.size ≤ g21) := hg21
          have HB21 : Hid (V20.heap.size ≤ v21.heap.size) := hb21.size
          replace Xs : Hid _ := Xs.out.below hb21
          replace Xc : Hid _ := Xc.out.below hb21
          replace Xy : Hid _ := Xy.out.below hb21
          replace Xr : Hid _ := Xr.out.below hb21
          replace Xu : Hid _ := Xu.out.below hb21
          replace Xa : Hid _ := Xa.out.below hb21
          replace Xo : Hid _ := Xo.out.below hb21
          replace SB : Hid (SzB (B + 4) v21) := SB.out.below hb21
          replace ZS : Hid (ZF gs gc gt v21 xs ps ms (S)) := ZS.out.below hb21
          replace ZC : Hid (ZF gs gc gt v21 xc pc mc (C)) := ZC.out.below hb21
          replace ZA : Hid (ZF gs gc gt v21 s1 (some ⟨g1, 0, none⟩) m1 (y * 2 ^ 94)) := ZA.out.below hb21
          replace ZO : Hid (ZF gs gc gt v21 s3 (some ⟨g3, 0, none⟩) m3 (((2 ^ N : Nat) : Int))) := ZO.out.below hb21
          replace hbw := Below.on hbw hb21
          clear hb21
          have Z21 : Hid (ZR v21 s21 (some ⟨g21, 0, none⟩) m21 (rFs (S * C) N)) := hz21
          have HL21 : Hid (m21 ≤ 5000) := hl21
          clear hz21 hl21 hg21
          have ZN21 : Hid (ZF gs gc gt v21 s21 (some ⟨g21, 0, none⟩) m21 (rFs (S * C) N)) := ZF.new Z21.out (B := B + 4) (by have := HN21.out; have := HSo21.out; omega) (by have := HD.out; omega)
          clear HSo21
          clear Z21
          refine hK _ _ ⟨Xs.out.c0, Xs.out.c1, Xc.out.c0, Xc.out.c1, Xo.out.c0, Xo.out.c1⟩ ?_
          clear hK
          refine wpM_one (i := 4) (by kernel_rfl) rfl (by kernel_rfl) (fun KJ hK => ?_)
          go_simp
          have HSo22 : Hid (B + 4 ≤ v21.heap.size) := SB.out.le
          refine (rshl04 s21 ZN21.out.zr (by have := HL21.out; omega) 1 (.inl (by decide))).mono ?_
          rintro e v22 ⟨v, rfl, hv, hb22⟩
          obtain ⟨s22, g22, m22, rfl, hg22, hz22, hl22⟩ := hv
          try clear hv
          have HN22 : Hid (v21.heap.size ≤ g22) := hg22
          have HB22 : Hid (v21.heap.size ≤ v22.heap.size) := hb22.size
          replace Xs : Hid _ := Xs.out.below hb22
          replace Xc : Hid _ := Xc.out.below hb22
          replace Xy : Hid _ := Xy.out.below hb22
          replace Xr : Hid _ := Xr.out.below hb22
          replace Xu : Hid _ := Xu.out.below hb22
          replace Xa : Hid _ := Xa.out.below hb22
          replace Xo : Hid _ := Xo.out.below hb22
          replace SB : Hid (SzB (B + 4) v22) := SB.out.below hb22
          replace ZS : Hid (ZF gs gc gt v22 xs ps ms (S)) := ZS.out.below hb22
          replace ZC : Hid (ZF gs gc gt v22 xc pc mc (C)) := ZC.out.below hb22
          replace ZA : Hid (ZF gs gc gt v22 s1 (some ⟨g1, 0, none⟩) m1 (y * 2 ^ 94)) := ZA.out.below hb22
          replace ZO : Hid (ZF gs gc gt v22 s3 (some ⟨g3, 0, none⟩) m3 (((2 ^ N : Nat) : Int))) := ZO.out.below hb22
          replace ZN21 : Hid (ZF gs gc gt v22 s21 (some ⟨g21, 0, none⟩) m21 (rFs (S * C) N)) := ZN21.out.below hb22
          replace hbw := Below.on hbw hb22
          clear hb22
          have Z22 : Hid (ZR v22 s22 (some ⟨g22, 0, none⟩) m22 (rFs (S * C) N * 2 ^ 1)) := hz22
          have HL22 : Hid (m22 ≤ 40000) := hl22
          clear hz22 hl22 hg22
          have ZN22 : Hid (ZF gs gc gt v22 s22 (some ⟨g22, 0, none⟩) m22 (rFs (S * C) N * 2 ^ 1)) := ZF.new Z22.out (B := B + 4) (by have := HN22.out; have := HSo22.out; omega) (by have := HD.out; omega)
          clear HSo22
          clear Z22
          refine hK _ _ ⟨Xs.out.c0, Xs.out.c1, Xc.out.c0, Xc.out.c1, Xo.out.c0, Xo.out.c1⟩ ?_
          clear hK
          refine wpM_one (i := 9) (by kernel_rfl) rfl (by kernel_rfl) (fun KJ hK => ?_)
          go_simp
          have HSo23 : Hid (B + 4 ≤ v22.heap.size) := SB.out.le
          refine (tmul7 xs xs ZS.out.zr ZS.out.zr (by have := HSZ2.out; omega) (by have := HSZ2.out; omega) N (by have := HC.out; omega)).mono ?_
          rintro e v23 ⟨v, rfl, hv, hb23⟩
          obtain ⟨s23, g23, m23, rfl, hg23, hz23, hl23⟩ := hv
          try clear hv
          have HN23 : Hid (v22.heap.size ≤ g23) := hg23
          have HB23 : Hid (v22.heap.size ≤ v23.heap.size) := hb23.size
          replace Xs : Hid _ := Xs.out.below hb23
          replace Xc : Hid _ := Xc.out.below hb23
          replace Xy : Hid _ := Xy.out.below hb23
          replace Xr : Hid _ := Xr.out.below hb23
          replace Xu : Hid _ := Xu.out.below hb23
          replace Xa : Hid _ := Xa.out.below hb23
          replace Xo : Hid _ := Xo.out.below hb23
          replace SB : Hid (SzB (B + 4) v23) := SB.out.below hb23
          replace ZS : Hid (ZF gs gc gt v23 xs ps ms (S)) := ZS.out.below hb23
          replace ZC : Hid (ZF gs gc gt v23 xc pc mc (C)) := ZC.out.below hb23
          replace ZA : Hid (ZF gs gc gt v23 s1 (some ⟨g1, 0, none⟩) m1 (y * 2 ^ 94)) := ZA.out.below hb23
          replace ZO : Hid (ZF gs gc gt v23 s3 (some ⟨g3, 0, none⟩) m3 (((2 ^ N : Nat) : Int))) := ZO.out.below hb23
          replace ZN21 : Hid (ZF gs gc gt v23 s21 (some ⟨g21, 0, none⟩) m21 (rFs (S * C) N)) := ZN21.out.below hb23
          replace ZN22 : Hid (ZF gs gc gt v23 s22 (some ⟨g22, 0, none⟩) m22 (rFs (S * C) N * 2 ^ 1)) := ZN22.out.below hb23
          replace hbw := Below.on hbw hb23
          clear hb23
          have Z23 : Hid (ZR v23 s23 (some ⟨g23, 0, none⟩) m23 (rFs (S * S) N)) := hz23
          have HL23 : Hid (m23 ≤ 5000) := hl23
          clear hz23 hl23 hg23
          have ZN23 : Hid (ZF gs gc gt v23 s23 (some ⟨g23, 0, none⟩) m23 (rFs (S * S) N)) := ZF.new Z23.out (B := B + 4) (by have := HN23.out; have := HSo23.out; omega) (by have := HD.out; omega)
          clear HSo23
          clear Z23
          refine hK _ _ ⟨Xs.out.c0, Xs.out.c1, Xc.out.c0, Xc.out.c1, Xo.out.c0, Xo.out.c1⟩ ?_
          clear hK
          refine wpM_one (i := 10) (by kernel_rfl) rfl (by kernel_rfl) (fun KJ hK => ?_)
          go_simp
          have HSo24 : Hid (B + 4 ≤ v23.heap.size) := SB.out.le
          refine (rshl04 s23 ZN23.out.zr (by have := HL23.out; omega) 1 (.inl (by decide))).mono ?_
          rintro e v24 ⟨v, rfl, hv, hb24⟩
          obtain ⟨s24, g24, m24, rfl, hg24, hz24, hl24⟩ := hv
          try clear hv
          have HN24 : Hid (v23.heap.size ≤ g24) := hg24
          have HB24 : Hid (v23.heap.size ≤ v24.heap.size) := hb24.size
          replace Xs : Hid _ := Xs.out.below hb24
          replace Xc : Hid _ := Xc.out.below hb24
          replace Xy : Hid _ := Xy.out.below hb24
          replace Xr : Hid _ := Xr.out.below hb24
          replace Xu : Hid _ := Xu.out.below hb24
          replace Xa : Hid _ := Xa.out.below hb24
          replace Xo : Hid _ := Xo.out.below hb24
          replace SB : Hid (SzB (B + 4) v24) := SB.out.below hb24
          replace ZS : Hid (ZF gs gc gt v24 xs ps ms (S)) := ZS.out.below hb24
          replace ZC : Hid (ZF gs gc gt v24 xc pc mc (C)) := ZC.out.below hb24
          replace ZA : Hid (ZF gs gc gt v24 s1 (some ⟨g1, 0, none⟩) m1 (y * 2 ^ 94)) := ZA.out.below hb24
          replace ZO : Hid (ZF gs gc gt v24 s3 (some ⟨g3, 0, none⟩) m3 (((2 ^ N : Nat) : Int))) := ZO.out.below hb24
          replace ZN21 : Hid (ZF gs gc gt v24 s21 (some ⟨g21, 0, none⟩) m21 (rFs (S * C) N)) := ZN21.out.below hb24
          replace ZN22 : Hid (ZF gs gc gt v24 s22 (some ⟨g22, 0, none⟩) m22 (rFs (S * C) N * 2 ^ 1)) := ZN22.out.below hb24
          replace ZN23 : Hid (ZF gs gc gt v24 s23 (some ⟨g23, 0, none⟩) m23 (rFs (S * S) N)) := ZN23.out.below hb24
          replace hbw := Below.on hbw hb24
          clear hb24
          have Z24 : Hid (ZR v24 s24 (some ⟨g24, 0, none⟩) m24 (rFs (S * S) N * 2 ^ 1)) := hz24
          have HL24 : Hid (m24 ≤ 40000) := hl24
          clear hz24 hl24 hg24
          have ZN24 : Hid (ZF gs gc gt v24 s24 (some ⟨g24, 0, none⟩) m24 (rFs (S * S) N * 2 ^ 1)) := ZF.new Z24.out (B := B + 4) (by have := HN24.out; have := HSo24.out; omega) (by have := HD.out; omega)
          clear HSo24
          clear Z24
          refine hK _ _ ⟨Xs.out.c0, Xs.out.c1, Xc.out.c0, Xc.out.c1, Xo.out.c0, Xo.out.c1⟩ ?_
          clear hK
          refine wpM_one (i := 11) (by kernel_rfl) rfl (by kernel_rfl) (fun KJ hK => ?_)
          go_simp
          have HSo25 : Hid (B + 4 ≤ v24.heap.size) := SB.out.le
          refine (rsub04 s3 s24 ZO.out.zr ZN24.out.zr (by have := HZFs.out; omega) (by have := HL24.out; omega)).mono ?_
          rintro e v25 ⟨v, rfl, hv, hb25⟩
          obtain ⟨s25, g25, m25, rfl, hg25, hz25, hl25⟩ := hv
          try clear hv
          have HN25 : Hid (v24.heap.size ≤ g25) := hg25
          have HB25 : Hid (v24.heap.size ≤ v25.heap.size) := hb25.size
          replace Xs : Hid _ := Xs.out.below hb25
          replace Xc : Hid _ := Xc.out.below hb25
          replace Xy : Hid _ := Xy.out.below hb25
          replace Xr : Hid _ := Xr.out.below hb25
          replace Xu : Hid _ := Xu.out.below hb25
          replace Xa : Hid _ := Xa.out.below hb25
          replace Xo : Hid _ := Xo.out.below hb25
          replace SB : Hid (SzB (B + 4) v25) := SB.out.below hb25
          replace ZS : Hid (ZF gs gc gt v25 xs ps ms (S)) := ZS.out.below hb25
          replace ZC : Hid (ZF gs gc gt v25 xc pc mc (C)) := ZC.out.below hb25
          replace ZA : Hid (ZF gs gc gt v25 s1 (some ⟨g1, 0, none⟩) m1 (y * 2 ^ 94)) := ZA.out.below hb25
          replace ZO : Hid (ZF gs gc gt v25 s3 (some ⟨g3, 0, none⟩) m3 (((2 ^ N : Nat) : Int))) := ZO.out.below hb25
          replace ZN21 : Hid (ZF gs gc gt v25 s21 (some ⟨g21, 0, none⟩) m21 (rFs (S * C) N)) := ZN21.out.below hb25
          replace ZN22 : Hid (ZF gs gc gt v25 s22 (some ⟨g22, 0, none⟩) m22 (rFs (S * C) N * 2 ^ 1)) := ZN22.out.below hb25
          replace ZN23 : Hid (ZF gs gc gt v25 s23 (some ⟨g23, 0, none⟩) m23 (rFs (S * S) N)) := ZN23.out.below hb25
          replace ZN24 : Hid (ZF gs gc gt v25 s24 (some ⟨g24, 0, none⟩) m24 (rFs (S * S) N * 2 ^ 1)) := ZN24.out.below hb25
          replace hbw := Below.on hbw hb25
          clear hb25
          have Z25 : Hid (ZR v25 s25 (some ⟨g25, 0, none⟩) m25 (((2 ^ N : Nat) : Int) - rFs (S * S) N * 2 ^ 1)) := hz25
          have HL25 : Hid (m25 ≤ max m3 m24 + 1) := hl25
          clear hz25 hl25 hg25
          have ZN25 : Hid (ZF gs gc gt v25 s25 (some ⟨g25, 0, none⟩) m25 (((2 ^ N : Nat) : Int) - rFs (S * S) N * 2 ^ 1)) := ZF.new Z25.out (B := B + 4) (by have := HN25.out; have := HSo25.out; omega) (by have := HD.out; omega)
          clear HSo25
          clear Z25
          refine hK _ _ ⟨Xs.out.c0, Xs.out.c1, Xc.out.c0, Xc.out.c1, Xo.out.c0, Xo.out.c1⟩ ?_
          clear hK
          go_simp
          have ne0 : gs ≠ gc := by have h := HD.out; omega
          have ne1 : gc ≠ gs := by have h := HD.out; omega
          obtain ⟨cs0, cs1, fs0, fs1⟩ := Xs.out
          have hnes := Xs.out.lt
          obtain ⟨cc0, cc1, fc0, fc1⟩ := Xc.out
          have hnec := Xc.out.lt
          refine wpM_last (i := 12) (by decide) (by kernel_rfl) rfl (by kernel_rfl) (fun KJ hK => ?_)
          go_simp
          refine hK _ _ ?_
          clear hK
          refine wpM_last (i := 13) (by decide) (by kernel_rfl) rfl (by kernel_rfl) (fun KJ hK => ?_)
          go_simp
          refine hK _ _ ?_
          clear hK
          clear HJ ne0 ne1
          refine wpM_done (by kernel_rfl) ?_ _
          clear cc0 cc1 fc0 fc1 hnec
          clear ZS
          clear ZC
          clear ZN21
          clear ZN23
          clear ZN24
          obtain ⟨V26, hV26⟩ : ∃ W9, W9 = ((v25.setCell ⟨gs, 0, none⟩ (.bool s22)).setCell ⟨gs, 1, none⟩ (.slice (some ⟨g22, 0, none⟩) m22 m22)) := ⟨_, rfl⟩
          have Ys : Hid (Box V26 gs (.bool s22) (.slice (some ⟨g22, 0, none⟩) m22 m22)) := by rw [hV26]; exact Xs.out.put2 _ _
          have Yc : Hid (Box V26 gc (.bool xc) (.slice pc mc mc)) := by rw [hV26]; exact Xc.out.off2 (by have h := HD.out; omega) _ _
          have Yy : Hid (Box V26 gy (.bool s) (.slice p m m)) := by rw [hV26]; exact Xy.out.off2 (by have h := HD.out; omega) _ _
          have Yr : Hid (Box V26 gr (.bool false) (.slice none 0 0)) := by rw [hV26]; exact Xr.out.off2 (by have h := HD.out; omega) _ _
          have Yu : Hid (Box V26 gu (.bool false) (.slice none 0 0)) := by rw [hV26]; exact Xu.out.off2 (by have h := HD.out; omega) _ _
          have Ya : Hid (Box V26 ga (.bool s1) (.slice (some ⟨g1, 0, none⟩) m1 m1)) := by rw [hV26]; exact Xa.out.off2 (by have h := HD.out; omega) _ _
          have Yo : Hid (Box V26 go (.bool s3) (.slice (some ⟨g3, 0, none⟩) m3 m3)) := by rw [hV26]; exact Xo.out.off2 (by have h := HD.out; omega) _ _
          have SB' : Hid (SzB (B + 4) V26) := by rw [hV26]; exact (SB.out.put _ _ _).put _ _ _
          have ZA' : Hid (ZF gs gc gt V26 s1 (some ⟨g1, 0, none⟩) m1 (y * 2 ^ 94)) := by rw [hV26]; exact (ZA.out.set _ _ _ (.inl rfl)).set _ _ _ (.inl rfl)
          have ZO' : Hid (ZF gs gc gt V26 s3 (some ⟨g3, 0, none⟩) m3 (((2 ^ N : Nat) : Int))) := by rw [hV26]; exact (ZO.out.set _ _ _ (.inl rfl)).set _ _ _ (.inl rfl)
          have ZN22' : Hid (ZF gs gc gt V26 s22 (some ⟨g22, 0, none⟩) m22 (rFs (S * C) N * 2 ^ 1)) := by rw [hV26]; exact (ZN22.out.set _ _ _ (.inl rfl)).set _ _ _ (.inl rfl)
          have ZN25' : Hid (ZF gs gc gt V26 s25 (some ⟨g25, 0, none⟩) m25 (((2 ^ N : Nat) : Int) - rFs (S * S) N * 2 ^ 1)) := by rw [hV26]; exact (ZN25.out.set _ _ _ (.inl rfl)).set _ _ _ (.inl rfl)
          have hbw2 : Below w.heap.size w V26 := by rw [hV26]; exact bSet (bSet hbw _ _ _ HGs.out) _ _ _ HGs.out
          clear cs0 cs1 fs0 fs1 hnes
          rw [← hV26]
          clear hV26 hbw Xs Xc Xy Xr Xu Xa Xo
          have hbw := hbw2
          clear hbw2
          have Xs := Ys
          clear Ys
          have Xc := Yc
          clear Yc
          have Xy := Yy
          clear Yy
          have Xr := Yr
          clear Yr
          have Xu := Yu
          clear Yu
          have Xa := Ya
          clear Ya
          have Xo := Yo
          clear Yo
          clear SB
          have SB := SB'
          clear SB'
          clear ZA
          have ZA := ZA'
          clear ZA'
          clear ZO
          have ZO := ZO'
          clear ZO'
          clear ZN22
          have ZN22 := ZN22'
          clear ZN22'
          clear ZN25
          have ZN25 := ZN25'
          clear ZN25'
          obtain ⟨cc0, cc1, fc0, fc1⟩ := Xc.out
          have hnec := Xc.out.lt
          obtain ⟨V27, hV27⟩ : ∃ W9, W9 = ((V26.setCell ⟨gc, 0, none⟩ (.bool s25)).setCell ⟨gc, 1, none⟩ (.slice (some ⟨g25, 0, none⟩) m25 m25)) := ⟨_, rfl⟩
          have Yc : Hid (Box V27 gc (.bool s25) (.slice (some ⟨g25, 0, none⟩) m25 m25)) := by rw [hV27]; exact Xc.out.put2 _ _
          have Ys : Hid (Box V27 gs (.bool s22) (.slice (some ⟨g22, 0, none⟩) m22 m22)) := by rw [hV27]; exact Xs.out.off2 (by have h := HD.out; omega) _ _
          have Yy : Hid (Box V27 gy (.bool s) (.slice p m m)) := by rw [hV27]; exact Xy.out.off2 (by have h := HD.out; omega) _ _
          have Yr : Hid (Box V27 gr (.bool false) (.slice none 0 0)) := by rw [hV27]; exact Xr.out.off2 (by have h := HD.out; omega) _ _
          have Yu : Hid (Box V27 gu (.bool false) (.slice none 0 0)) := by rw [hV27]; exact Xu.out.off2 (by have h := HD.out; omega) _ _
          have Ya : Hid (Box V27 ga (.bool s1) (.slice (some ⟨g1, 0, none⟩) m1 m1)) := by rw [hV27]; exact Xa.out.off2 (by have h := HD.out; omega) _ _
          have Yo : Hid (Box V27 go (.bool s3) (.slice (some ⟨g3, 0, none⟩) m3 m3)) := by rw [hV27]; exact Xo.out.off2 (by have h := HD.out; omega) _ _
          have SB' : Hid (SzB (B + 4) V27) := by rw [hV27]; exact (SB.out.put _ _ _).put _ _ _
          have ZA' : Hid (ZF gs gc gt V27 s1 (some ⟨g1, 0, none⟩) m1 (y * 2 ^ 94)) := by rw [hV27]; exact (ZA.out.set _ _ _ (.inr (.inl rfl))).set _ _ _ (.inr (.inl rfl))
          have ZO' : Hid (ZF gs gc gt V27 s3 (some ⟨g3, 0, none⟩) m3 (((2 ^ N : Nat) : Int))) := by rw [hV27]; exact (ZO.out.set _ _ _ (.inr (.inl rfl))).set _ _ _ (.inr (.inl rfl))
          have ZN22' : Hid (ZF gs gc gt V27 s22 (some ⟨g22, 0, none⟩) m22 (rFs (S * C) N * 2 ^ 1)) := by rw [hV27]; exact (ZN22.out.set _ _ _ (.inr (.inl rfl))).set _ _ _ (.inr (.inl rfl))
          have ZN25' : Hid (ZF gs gc gt V27 s25 (some ⟨g25, 0, none⟩) m25 (((2 ^ N : Nat) : Int) - rFs (S * S) N * 2 ^ 1)) := by rw [hV27]; exact (ZN25.out.set _ _ _ (.inr (.inl rfl))).set _ _ _ (.inr (.inl rfl))
          have hbw2 : Below w.heap.size w V27 := by rw [hV27]; exact bSet (bSet hbw _ _ _ HGc.out) _ _ _ HGc.out
          clear cc0 cc1 fc0 fc1 hnec
          rw [← hV27]
          clear hV27 hbw Xs Xc Xy Xr Xu Xa Xo
          have hbw := hbw2
          clear hbw2
          have Xs := Ys
          clear Ys
          have Xc := Yc
          clear Yc
          have Xy := Yy
          clear Yy
          have Xr := Yr
          clear Yr
          have Xu := Yu
          clear Yu
          have Xa := Ya
          clear Ya
          have Xo := Yo
          clear Yo
          clear SB
          have SB := SB'
          clear SB'
          clear ZA
          have ZA := ZA'
          clear ZA'
          clear ZO
          have ZO := ZO'
          clear ZO'
          clear ZN22
          have ZN22 := ZN22'
          clear ZN22'
          clear ZN25
          have ZN25 := ZN25'
          clear ZN25'
          obtain ⟨w11, w12⟩ := sc_w2 (k := k) (by have := HK.out.1; omega)
          go_wp2_with fail
          have hK3 := HK.out
          go_roundg gj
          case measure => omega
          case rel =>
            exact ⟨k + 1, _, _, s22, s25, (some ⟨g22, 0, none⟩), (some ⟨g25, 0, none⟩), m22, m25, by go_num, by omega, scB_next hK3.2.1, hK3.2.2, Xs.out, Xc.out, ZN22.out, ZN25.out, Xy.out, Xr.out, Xu.out, Xa.out, Xo.out, ZA.out, ZO.out, SB.out.le, hbw⟩
    · obtain ⟨gj, rfl⟩ : ∃ gj, gk = gj + 1 := by
        cases gk with
        | zero => exact absurd htg (by rw [Nat.pow_zero]; omega)
        | succ g => exact ⟨g, rfl⟩
      have hsg : sgnI (t : Int) = 1 := by unfold sgnI; rw [if_neg (by omega), if_neg (by omega)]
      rw [hsg]
      have HT : Hid (t ≠ 0 ∧ t < 2 ^ (gj + 1) ∧ i + (gj + 1) = N + 1 ∧ scL A N (gj + 1) i t S C = (S1, C1)) := ⟨ht0, htg, hig, hsc⟩
      clear ht0 htg hig hsc hsg
      obtain ⟨i1, hi1⟩ : ∃ i1, i1 = i + 1 := ⟨_, rfl⟩
      have HW : Hid (wrap64 ((i : Int) + 1) = (i1 : Int) ∧ IntKind.i64.wrap ((i : Int) + 1) = (i1 : Int) ∧ IntKind.u32.wrap (i1 : Int) = (i1 : Int)) := sc_w hi1 (by have := HT.out; have := HC.out; omega)
      have HI1 : Hid (i1 = i + 1 ∧ i1 ≤ 600) := ⟨hi1, by have := HT.out; have := HC.out; omega⟩
      clear hi1
      have h4 : i % 4 = 0 ∨ i % 4 = 1 ∨ i % 4 = 2 ∨ i % 4 = 3 := by omega
      rcases h4 with h4 | h4 | h4 | h4
      · have i2 : (i : Int).tmod 2 = 0 := by rw [Int.tmod_eq_emod_of_nonneg (by omega)]; omega
        have i4 : (i : Int).tmod 4 = 0 := by rw [Int.tmod_eq_emod_of_nonneg (by omega)]; omega
        have i5 : (i : Int) % 2 = 0 := by omega
        have i6 : (i : Int) % 4 = 0 := by omega
        obtain ⟨cc0, cc1, fc0, fc1⟩ := Xc.out
        have hnec := Xc.out.lt
        obtain ⟨ct0, ct1, ft0, ft1⟩ := Xt.out
        have hnet := Xt.out.lt
        go_wp2_with fail
        clear cc0 cc1 fc0 fc1 hnec
        clear ct0 ct1 ft0 ft1 hnet
        have HMT : Hid (mt ≤ 20) := zr_len32 ZTT.out.zr (E := E6) HE6.out (by rw [Int.natAbs_natCast]; have h := HT.out; have h2 := HC.out; have h6 := HE6.out; exact Nat.lt_of_lt_of_le h.2.1 (Nat.pow_le_pow_right (by decide) (by omega)))
        have HSo6 : Hid (B + 4 ≤ v5.heap.size) := SB.out.le
        refine (tturn_a xc xt ZC.out.zr ZTT.out.zr (by have := HI.out; have := HT.out; have := HC.out; omega) (by have := HMT.out; omega)).mono ?_
        rintro e v6 ⟨v, rfl, hv, hb6⟩
        obtain ⟨s6, g6, m6, rfl, hg6, hz6, hl6⟩ := hv
        try clear hv
        have HN6 : Hid (v5.heap.size ≤ g6) := hg6
        have HB6 : Hid (v5.heap.size ≤ v6.heap.size) := hb6.size
        replace Xs : Hid _ := Xs.out.below hb6
        replace Xc : Hid _ := Xc.out.below hb6
        replace Xt : Hid _ := Xt.out.below hb6
        replace Xy : Hid _ := Xy.out.below hb6
        replace Xr : Hid _ := Xr.out.below hb6
        replace Xu : Hid _ := Xu.out.below hb6
        replace Xa : Hid _ := Xa.out.below hb6
        replace Xo : Hid _ := Xo.out.below hb6
        replace SB : Hid (SzB (B + 4) v6) := SB.out.below hb6
        replace ZS : Hid (ZF gs gc gt v6 xs ps ms (S)) := ZS.out.below hb6
        replace ZC : Hid (ZF gs gc gt v6 xc pc mc (C)) := ZC.out.below hb6
        replace ZTT : Hid (ZF gs gc gt v6 xt pt mt ((t : Int))) := ZTT.out.below hb6
        replace ZA : Hid (ZF gs gc gt v6 s1 (some ⟨g1, 0, none⟩) m1 (y * 2 ^ 94)) := ZA.out.below hb6
        replace ZO : Hid (ZF gs gc gt v6 s3 (some ⟨g3, 0, none⟩) m3 (((2 ^ N : Nat) : Int))) := ZO.out.below hb6
        replace hbw := Below.on hbw hb6
        clear hb6
        have Z6 : Hid (ZR v6 s6 (some ⟨g6, 0, none⟩) m6 (C + (t : Int))) := hz6
        have HL6 : Hid (m6 ≤ max mc mt + 1) := hl6
        clear hz6 hl6 hg6
        have ZN6 : Hid (ZF gs gc gt v6 s6 (some ⟨g6, 0, none⟩) m6 (C + (t : Int))) := ZF.new Z6.out (B := B + 4) (by have := HN6.out; have := HSo6.out; omega) (by have := HD.out; omega)
        clear HSo6
        clear Z6
        have H4 := Hid.mk9 h4
        clear h4
        clear ZC
        have ne0 : gc ≠ gt := by have h := HD.out; omega
        have ne1 : gt ≠ gc := by have h := HD.out; omega
        have ne2 : gc ≠ ga := by have h := HD.out; omega
        have ne3 : ga ≠ gc := by have h := HD.out; omega
        obtain ⟨cc0, cc1, fc0, fc1⟩ := Xc.out
        have hnec := Xc.out.lt
        obtain ⟨ct0, ct1, ft0, ft1⟩ := Xt.out
        have hnet := Xt.out.lt
        obtain ⟨ca0, ca1, fa0, fa1⟩ := Xa.out
        have hnea := Xa.out.lt
        go_wp2_with fail
        clear ct0 ct1 ft0 ft1 hnet
        clear ca0 ca1 fa0 fa1 hnea
        clear ne0 ne1 ne2 ne3
        obtain ⟨V7, hV7⟩ : ∃ W9, W9 = ((v6.setCell ⟨gc, 0, none⟩ (.bool s6)).setCell ⟨gc, 1, none⟩ (.slice (some ⟨g6, 0, none⟩) m6 m6)) := ⟨_, rfl⟩
        have Yc : Hid (Box V7 gc (.bool s6) (.slice (some ⟨g6, 0, none⟩) m6 m6)) := by rw [hV7]; exact Xc.out.put2 _ _
        have Ys : Hid (Box V7 gs (.bool xs) (.slice ps ms ms)) := by rw [hV7]; exact Xs.out.off2 (by have h := HD.out; omega) _ _
        have Yt : Hid (Box V7 gt (.bool xt) (.slice pt mt mt)) := by rw [hV7]; exact Xt.out.off2 (by have h := HD.out; omega) _ _
        have Yy : Hid (Box V7 gy (.bool s) (.slice p m m)) := by rw [hV7]; exact Xy.out.off2 (by have h := HD.out; omega) _ _
        have Yr : Hid (Box V7 gr (.bool false) (.slice none 0 0)) := by rw [hV7]; exact Xr.out.off2 (by have h := HD.out; omega) _ _
        have Yu : Hid (Box V7 gu (.bool false) (.slice none 0 0)) := by rw [hV7]; exact Xu.out.off2 (by have h := HD.out; omega) _ _
        have Ya : Hid (Box V7 ga (.bool s1) (.slice (some ⟨g1, 0, none⟩) m1 m1)) := by rw [hV7]; exact Xa.out.off2 (by have h := HD.out; omega) _ _
        have Yo : Hid (Box V7 go (.bool s3) (.slice (some ⟨g3, 0, none⟩) m3 m3)) := by rw [hV7]; exact Xo.out.off2 (by have h := HD.out; omega) _ _
        have SB' : Hid (SzB (B + 4) V7) := by rw [hV7]; exact (SB.out.put _ _ _).put _ _ _
        have ZS' : Hid (ZF gs gc gt V7 xs ps ms (S)) := by rw [hV7]; exact (ZS.out.set _ _ _ (.inr (.inl rfl))).set _ _ _ (.inr (.inl rfl))
        have ZTT' : Hid (ZF gs gc gt V7 xt pt mt ((t : Int))) := by rw [hV7]; exact (ZTT.out.set _ _ _ (.inr (.inl rfl))).set _ _ _ (.inr (.inl rfl))
        have ZA' : Hid (ZF gs gc gt V7 s1 (some ⟨g1, 0, none⟩) m1 (y * 2 ^ 94)) := by rw [hV7]; exact (ZA.out.set _ _ _ (.inr (.inl rfl))).set _ _ _ (.inr (.inl rfl))
        have ZO' : Hid (ZF gs gc gt V7 s3 (some ⟨g3, 0, none⟩) m3 (((2 ^ N : Nat) : Int))) := by rw [hV7]; exact (ZO.out.set _ _ _ (.inr (.inl rfl))).set _ _ _ (.inr (.inl rfl))
        have ZN6' : Hid (ZF gs gc gt V7 s6 (some ⟨g6, 0, none⟩) m6 (C + (t : Int))) := by rw [hV7]; exact (ZN6.out.set _ _ _ (.inr (.inl rfl))).set _ _ _ (.inr (.inl rfl))
        have hbw2 : Below w.heap.size w V7 := by rw [hV7]; exact bSet (bSet hbw _ _ _ HGc.out) _ _ _ HGc.out
        clear cc0 cc1 fc0 fc1 hnec
        rw [← hV7]
        clear hV7 hbw Xs Xc Xt Xy Xr Xu Xa Xo
        have hbw := hbw2
        clear hbw2
        have Xs := Ys
        clear Ys
        have Xc := Yc
        clear Yc
        have Xt := Yt
        clear Yt
        have Xy := Yy
        clear Yy
        have Xr := Yr
        clear Yr
        have Xu := Yu
        clear Yu
        have Xa := Ya
        clear Ya
        have Xo := Yo
        clear Yo
        clear SB
        have SB := SB'
        clear SB'
        clear ZS
        have ZS := ZS'
        clear ZS'
        clear ZTT
        have ZTT := ZTT'
        clear ZTT'
        clear ZA
        have ZA := ZA'
        clear ZA'
        clear ZO
        have ZO := ZO'
        clear ZO'
        clear ZN6
        have ZN6 := ZN6'
        clear ZN6'
        have HMA : Hid (m1 ≤ 20) := HZFs.out.1
        obtain ⟨V8, hV8⟩ : ∃ W9, W9 = V7.drew := ⟨_, rfl⟩
        have hbd : Below V7.heap.size V7 V8 := by rw [hV8]; exact bDrew1 (Below.refl _ _)
        replace Xs : Hid _ := Xs.out.below hbd
        replace Xc : Hid _ := Xc.out.below hbd
        replace Xt : Hid _ := Xt.out.below hbd
        replace Xy : Hid _ := Xy.out.below hbd
        replace Xr : Hid _ := Xr.out.below hbd
        replace Xu : Hid _ := Xu.out.below hbd
        replace Xa : Hid _ := Xa.out.below hbd
        replace Xo : Hid _ := Xo.out.below hbd
        replace SB : Hid (SzB (B + 4) V8) := SB.out.below hbd
        replace ZS : Hid (ZF gs gc gt V8 xs ps ms (S)) := ZS.out.below hbd
        replace ZTT : Hid (ZF gs gc gt V8 xt pt mt ((t : Int))) := ZTT.out.below hbd
        replace ZA : Hid (ZF gs gc gt V8 s1 (some ⟨g1, 0, none⟩) m1 (y * 2 ^ 94)) := ZA.out.below hbd
        replace ZO : Hid (ZF gs gc gt V8 s3 (some ⟨g3, 0, none⟩) m3 (((2 ^ N : Nat) : Int))) := ZO.out.below hbd
        replace ZN6 : Hid (ZF gs gc gt V8 s6 (some ⟨g6, 0, none⟩) m6 (C + (t : Int))) := ZN6.out.below hbd
        replace hbw := Below.on hbw hbd
        clear hbd
        have HJ : Hid ((fun W' : World => W'.cell? ⟨gt, 0, none⟩ = some (.bool xt) ∧ W'.cell? ⟨gt, 1, none⟩ = some (.slice pt mt mt) ∧ W'.cell? ⟨ga, 0, none⟩ = some (.bool s1) ∧ W'.cell? ⟨ga, 1, none⟩ = some (.slice (some ⟨g1, 0, none⟩) m1 m1)) V8) := ⟨Xt.out.c0, Xt.out.c1, Xa.out.c0, Xa.out.c1⟩
        refine wp_region_L (fun W' => W'.cell? ⟨gt, 0, none⟩ = some (.bool xt) ∧ W'.cell? ⟨gt, 1, none⟩ = some (.slice pt mt mt) ∧ W'.cell? ⟨ga, 0, none⟩ = some (.bool s1) ∧ W'.cell? ⟨ga, 1, none⟩ = some (.slice (some ⟨g1, 0, none⟩) m1 m1)) 5 (by kernel_rfl) ?_
        rw [← hV8]
        clear hV8
        refine wpL_take (i := 0) (v := ?v16x0) rfl (by kernel_rfl) (by kernel_rfl) (by kernel_rfl) (fun _ _ _ h => h) (by kernel_rfl) ?hy16x0 HJ.out ?rest16x0
        case hy16x0 => (intro W' hJ; obtain ⟨j0, j1, j2, j3⟩ := hJ; go_simp; first | done | with_reducible rfl)
        refine wpL_take (i := 1) (v := ?v17x1) rfl (by kernel_rfl) (by kernel_rfl) (by kernel_rfl) (fun _ _ _ h => h) (by kernel_rfl) ?hy17x1 HJ.out ?rest17x1
        case hy17x1 => (intro W' hJ; obtain ⟨j0, j1, j2, j3⟩ := hJ; go_simp; first | done | with_reducible rfl)
        refine wpL_take (i := 3) (v := ?v18x3) rfl (by kernel_rfl) (by kernel_rfl) (by kernel_rfl) (fun _ _ _ h => h) (by kernel_rfl) ?hy18x3 HJ.out ?rest18x3
        case hy18x3 => (intro W' hJ; obtain ⟨j0, j1, j2, j3⟩ := hJ; go_simp; first | done | with_reducible rfl)
        refine wpL_one (i := 2) (by kernel_rfl) rfl (by kernel_rfl) (fun KJ hK => ?_)
        go_simp
        have HSo8 : Hid (B + 4 ≤ V8.heap.size) := SB.out.le
        refine (tabs s1 ZA.out.zr (by have := HMA.out; omega)).mono ?_
        rintro e v8 ⟨v, rfl, hv, hb8⟩
        obtain ⟨s8, g8, m8, rfl, hg8, hz8, hl8⟩ := hv
        try clear hv
        have HN8 : Hid (V8.heap.size ≤ g8) := hg8
        have HB8 : Hid (V8.heap.size ≤ v8.heap.size) := hb8.size
        replace Xs : Hid _ := Xs.out.below hb8
        replace Xc : Hid _ := Xc.out.below hb8
        replace Xt : Hid _ := Xt.out.below hb8
        replace Xy : Hid _ := Xy.out.below hb8
        replace Xr : Hid _ := Xr.out.below hb8
        replace Xu : Hid _ := Xu.out.below hb8
        replace Xa : Hid _ := Xa.out.below hb8
        replace Xo : Hid _ := Xo.out.below hb8
        replace SB : Hid (SzB (B + 4) v8) := SB.out.below hb8
        replace ZS : Hid (ZF gs gc gt v8 xs ps ms (S)) := ZS.out.below hb8
        replace ZTT : Hid (ZF gs gc gt v8 xt pt mt ((t : Int))) := ZTT.out.below hb8
        replace ZA : Hid (ZF gs gc gt v8 s1 (some ⟨g1, 0, none⟩) m1 (y * 2 ^ 94)) := ZA.out.below hb8
        replace ZO : Hid (ZF gs gc gt v8 s3 (some ⟨g3, 0, none⟩) m3 (((2 ^ N : Nat) : Int))) := ZO.out.below hb8
        replace ZN6 : Hid (ZF gs gc gt v8 s6 (some ⟨g6, 0, none⟩) m6 (C + (t : Int))) := ZN6.out.below hb8
        replace hbw := Below.on hbw hb8
        clear hb8
        have Z8 : Hid (ZR v8 s8 (some ⟨g8, 0, none⟩) m8 (((y * 2 ^ 94).natAbs : Int))) := hz8
        have HL8 : Hid (m8 ≤ m1) := hl8
        clear hz8 hl8 hg8
        have ZN8 : Hid (ZF gs gc gt v8 s8 (some ⟨g8, 0, none⟩) m8 (((y * 2 ^ 94).natAbs : Int))) := ZF.new Z8.out (B := B + 4) (by have := HN8.out; have := HSo8.out; omega) (by have := HD.out; omega)
        clear HSo8
        clear Z8
        have HMA8 : Hid (m8 ≤ 20) := by have h1 := HL8.out; have h2 := HMA.out; exact Nat.le_trans h1 h2
        refine hK _ _ ⟨Xt.out.c0, Xt.out.c1, Xa.out.c0, Xa.out.c1⟩ ?_
        clear hK
        refine wpL_one (i := 4) (by kernel_rfl) rfl (by kernel_rfl) (fun KJ hK => ?_)
        go_simp
        have HSo9 : Hid (B + 4 ≤ v8.heap.size) := SB.out.le
        refine (tmul7 xt s8 ZTT.out.zr ZN8.out.zr (by have := HMT.out; omega) (by have := HMA8.out; omega) N (by have := HC.out; omega)).mono ?_
        rintro e v9 ⟨v, rfl, hv, hb9⟩
        have hv9 : rFs ((t : Int) * ((y * 2 ^ 94).natAbs : Int)) N = ((t * A / 2 ^ N : Nat) : Int) := by rw [HC.out.2.2.2.2, Int.natAbs_mul, show ((2 : Int) ^ 94).natAbs = 2 ^ 94 from rfl]; exact rFs_nat _ _ _
        rw [hv9] at hv
        clear hv9
        obtain ⟨s9, g9, m9, rfl, hg9, hz9, hl9⟩ := hv
        try clear hv
        have HN9 : Hid (v8.heap.size ≤ g9) := hg9
        have HB9 : Hid (v8.heap.size ≤ v9.heap.size) := hb9.size
        replace Xs : Hid _ := Xs.out.below hb9
        replace Xc : Hid _ := Xc.out.below hb9
        replace Xt : Hid _ := Xt.out.below hb9
        replace Xy : Hid _ := Xy.out.below hb9
        replace Xr : Hid _ := Xr.out.below hb9
        replace Xu : Hid _ := Xu.out.below hb9
        replace Xa : Hid _ := Xa.out.below hb9
        replace Xo : Hid _ := Xo.out.below hb9
        replace SB : Hid (SzB (B + 4) v9) := SB.out.below hb9
        replace ZS : Hid (ZF gs gc gt v9 xs ps ms (S)) := ZS.out.below hb9
        replace ZTT : Hid (ZF gs gc gt v9 xt pt mt ((t : Int))) := ZTT.out.below hb9
        replace ZA : Hid (ZF gs gc gt v9 s1 (some ⟨g1, 0, none⟩) m1 (y * 2 ^ 94)) := ZA.out.below hb9
        replace ZO : Hid (ZF gs gc gt v9 s3 (some ⟨g3, 0, none⟩) m3 (((2 ^ N : Nat) : Int))) := ZO.out.below hb9
        replace ZN6 : Hid (ZF gs gc gt v9 s6 (some ⟨g6, 0, none⟩) m6 (C + (t : Int))) := ZN6.out.below hb9
        replace ZN8 : Hid (ZF gs gc gt v9 s8 (some ⟨g8, 0, none⟩) m8 (((y * 2 ^ 94).natAbs : Int))) := ZN8.out.below hb9
        replace hbw := Below.on hbw hb9
        clear hb9
        have Z9 : Hid (ZR v9 s9 (some ⟨g9, 0, none⟩) m9 (((t * A / 2 ^ N : Nat) : Int))) := hz9
        have HL9 : Hid (m9 ≤ 5000) := hl9
        clear hz9 hl9 hg9
        have ZN9 : Hid (ZF gs gc gt v9 s9 (some ⟨g9, 0, none⟩) m9 (((t * A / 2 ^ N : Nat) : Int))) := ZF.new Z9.out (B := B + 4) (by have := HN9.out; have := HSo9.out; omega) (by have := HD.out; omega)
        clear HSo9
        clear Z9
        clear ZN8
        have HM9 : Hid (m9 ≤ 20) := zr_len32 ZN9.out.zr (E := E6) HE6.out (by rw [Int.natAbs_natCast]; have h := HT.out; have h2 := HC.out; have h6 := HE6.out; exact Nat.lt_of_lt_of_le (sc_next h.2.1 (sc_half h2.2.2.1 h2.2.2.2.1 h2.2.2.2.2)) (Nat.pow_le_pow_right (by decide) (by omega)))
        refine hK _ _ ⟨Xt.out.c0, Xt.out.c1, Xa.out.c0, Xa.out.c1⟩ ?_
        clear hK
        go_simp
        obtain ⟨ct0, ct1, ft0, ft1⟩ := Xt.out
        have hnet := Xt.out.lt
        refine wpL_last (by kernel_rfl) rfl (by kernel_rfl) (fun KJ hK => ?_)
        go_simp
        refine hK _ _ ?_
        clear hK HJ
        refine wpL_done (by kernel_rfl) ?_ _
        clear ZTT
        obtain ⟨V10, hV10⟩ : ∃ W9, W9 = ((v9.setCell ⟨gt, 0, none⟩ (.bool s9)).setCell ⟨gt, 1, none⟩ (.slice (some ⟨g9, 0, none⟩) m9 m9)) := ⟨_, rfl⟩
        have Yt : Hid (Box V10 gt (.bool s9) (.slice (some ⟨g9, 0, none⟩) m9 m9)) := by rw [hV10]; exact Xt.out.put2 _ _
        have Ys : Hid (Box V10 gs (.bool xs) (.slice ps ms ms)) := by rw [hV10]; exact Xs.out.off2 (by have h := HD.out; omega) _ _
        have Yc : Hid (Box V10 gc (.bool s6) (.slice (some ⟨g6, 0, none⟩) m6 m6)) := by rw [hV10]; exact Xc.out.off2 (by have h := HD.out; omega) _ _
        have Yy : Hid (Box V10 gy (.bool s) (.slice p m m)) := by rw [hV10]; exact Xy.out.off2 (by have h := HD.out; omega) _ _
        have Yr : Hid (Box V10 gr (.bool false) (.slice none 0 0)) := by rw [hV10]; exact Xr.out.off2 (by have h := HD.out; omega) _ _
        have Yu : Hid (Box V10 gu (.bool false) (.slice none 0 0)) := by rw [hV10]; exact Xu.out.off2 (by have h := HD.out; omega) _ _
        have Ya : Hid (Box V10 ga (.bool s1) (.slice (some ⟨g1, 0, none⟩) m1 m1)) := by rw [hV10]; exact Xa.out.off2 (by have h := HD.out; omega) _ _
        have Yo : Hid (Box V10 go (.bool s3) (.slice (some ⟨g3, 0, none⟩) m3 m3)) := by rw [hV10]; exact Xo.out.off2 (by have h := HD.out; omega) _ _
        have SB' : Hid (SzB (B + 4) V10) := by rw [hV10]; exact (SB.out.put _ _ _).put _ _ _
        have ZS' : Hid (ZF gs gc gt V10 xs ps ms (S)) := by rw [hV10]; exact (ZS.out.set _ _ _ (.inr (.inr rfl))).set _ _ _ (.inr (.inr rfl))
        have ZA' : Hid (ZF gs gc gt V10 s1 (some ⟨g1, 0, none⟩) m1 (y * 2 ^ 94)) := by rw [hV10]; exact (ZA.out.set _ _ _ (.inr (.inr rfl))).set _ _ _ (.inr (.inr rfl))
        have ZO' : Hid (ZF gs gc gt V10 s3 (some ⟨g3, 0, none⟩) m3 (((2 ^ N : Nat) : Int))) := by rw [hV10]; exact (ZO.out.set _ _ _ (.inr (.inr rfl))).set _ _ _ (.inr (.inr rfl))
        have ZN6' : Hid (ZF gs gc gt V10 s6 (some ⟨g6, 0, none⟩) m6 (C + (t : Int))) := by rw [hV10]; exact (ZN6.out.set _ _ _ (.inr (.inr rfl))).set _ _ _ (.inr (.inr rfl))
        have ZN9' : Hid (ZF gs gc gt V10 s9 (some ⟨g9, 0, none⟩) m9 (((t * A / 2 ^ N : Nat) : Int))) := by rw [hV10]; exact (ZN9.out.set _ _ _ (.inr (.inr rfl))).set _ _ _ (.inr (.inr rfl))
        have hbw2 : Below w.heap.size w V10 := by rw [hV10]; exact bSet (bSet hbw _ _ _ HGt.out) _ _ _ HGt.out
        clear ct0 ct1 ft0 ft1 hnet
        rw [← hV10]
        clear hV10 hbw Xs Xc Xt Xy Xr Xu Xa Xo
        have hbw := hbw2
        clear hbw2
        have Xs := Ys
        clear Ys
        have Xc := Yc
        clear Yc
        have Xt := Yt
        clear Yt
        have Xy := Yy
        clear Yy
        have Xr := Yr
        clear Yr
        have Xu := Yu
        clear Yu
        have Xa := Ya
        clear Ya
        have Xo := Yo
        clear Yo
        clear SB
        have SB := SB'
        clear SB'
        clear ZS
        have ZS := ZS'
        clear ZS'
        clear ZA
        have ZA := ZA'
        clear ZA'
        clear ZO
        have ZO := ZO'
        clear ZO'
        clear ZN6
        have ZN6 := ZN6'
        clear ZN6'
        clear ZN9
        have ZN9 := ZN9'
        clear ZN9'
        obtain ⟨w11, w12, u32⟩ := HW.out
        obtain ⟨ct0, ct1, ft0, ft1⟩ := Xt.out
        have hnet := Xt.out.lt
        go_wp2_with fail
        clear ct0 ct1 ft0 ft1 hnet
        clear w11 w12 u32
        have RN9 : RN V10 (some ⟨g9, 0, none⟩) m9 (t * A / 2 ^ N) := by have h := ZN9.out.zr.rn (by have := HM9.out; omega); rw [Int.natAbs_natCast] at h; exact h
        refine (rn_divs RN9 i1 (by have := HI1.out; omega) (by have := HI1.out; show _ < 4294967296; omega)).mono ?_
        rintro en v11 ⟨p11, m11, r11, rfl, hn11, hb11⟩
        clear RN9
        replace Xs : Hid _ := Xs.out.below hb11
        replace Xc : Hid _ := Xc.out.below hb11
        replace Xt : Hid _ := Xt.out.below hb11
        replace Xy : Hid _ := Xy.out.below hb11
        replace Xr : Hid _ := Xr.out.below hb11
        replace Xu : Hid _ := Xu.out.below hb11
        replace Xa : Hid _ := Xa.out.below hb11
        replace Xo : Hid _ := Xo.out.below hb11
        replace SB : Hid (SzB (B + 4) v11) := SB.out.below hb11
        replace ZS : Hid (ZF gs gc gt v11 xs ps ms (S)) := ZS.out.below hb11
        replace ZA : Hid (ZF gs gc gt v11 s1 (some ⟨g1, 0, none⟩) m1 (y * 2 ^ 94)) := ZA.out.below hb11
        replace ZO : Hid (ZF gs gc gt v11 s3 (some ⟨g3, 0, none⟩) m3 (((2 ^ N : Nat) : Int))) := ZO.out.below hb11
        replace ZN6 : Hid (ZF gs gc gt v11 s6 (some ⟨g6, 0, none⟩) m6 (C + (t : Int))) := ZN6.out.below hb11
        replace ZN9 : Hid (ZF gs gc gt v11 s9 (some ⟨g9, 0, none⟩) m9 (((t * A / 2 ^ N : Nat) : Int))) := ZN9.out.below hb11
        replace hbw := Below.on hbw hb11
        clear hb11
        clear ZN9
        have HN11 : Hid (RN v11 p11 m11 (t * A / 2 ^ N / i1)) := by first | exact hn11 | exact hn11.1
        clear hn11
        go_wp2_with fail
        obtain ⟨zs, hA, hN⟩ := HN11.out.mem
        have HSo12 : Hid (B + 4 ≤ v11.heap.size) := SB.out.le
        refine (rmk_any false hA hN (by have := HN11.out.len; omega)).mono ?_
        rintro e v12 ⟨v, rfl, hv, hb12⟩
        rw [show iv false (t * A / 2 ^ N / i1) = ((t * A / 2 ^ N / i1 : Nat) : Int) from rfl] at hv
        obtain ⟨s12, g12, m12, rfl, hg12, hz12, hl12⟩ := hv
        try clear hv
        have HN12 : Hid (v11.heap.size ≤ g12) := hg12
        have HB12 : Hid (v11.heap.size ≤ v12.heap.size) := hb12.size
        replace Xs : Hid _ := Xs.out.below hb12
        replace Xc : Hid _ := Xc.out.below hb12
        replace Xt : Hid _ := Xt.out.below hb12
        replace Xy : Hid _ := Xy.out.below hb12
        replace Xr : Hid _ := Xr.out.below hb12
        replace Xu : Hid _ := Xu.out.below hb12
        replace Xa : Hid _ := Xa.out.below hb12
        replace Xo : Hid _ := Xo.out.below hb12
        replace SB : Hid (SzB (B + 4) v12) := SB.out.below hb12
        replace ZS : Hid (ZF gs gc gt v12 xs ps ms (S)) := ZS.out.below hb12
        replace ZA : Hid (ZF gs gc gt v12 s1 (some ⟨g1, 0, none⟩) m1 (y * 2 ^ 94)) := ZA.out.below hb12
        replace ZO : Hid (ZF gs gc gt v12 s3 (some ⟨g3, 0, none⟩) m3 (((2 ^ N : Nat) : Int))) := ZO.out.below hb12
        replace ZN6 : Hid (ZF gs gc gt v12 s6 (some ⟨g6, 0, none⟩) m6 (C + (t : Int))) := ZN6.out.below hb12
        replace HN11 : Hid (RN v12 p11 m11 (t * A / 2 ^ N / i1)) := HN11.out.below hb12
        replace hbw := Below.on hbw hb12
        clear hb12
        have Z12 : Hid (ZR v12 s12 (some ⟨g12, 0, none⟩) m12 (((t * A / 2 ^ N / i1 : Nat) : Int))) := hz12
        have HL12 : Hid (m12 ≤ m11) := hl12
        clear hz12 hl12 hg12
        have ZN12 : Hid (ZF gs gc gt v12 s12 (some ⟨g12, 0, none⟩) m12 (((t * A / 2 ^ N / i1 : Nat) : Int))) := ZF.new Z12.out (B := B + 4) (by have := HN12.out; have := HSo12.out; omega) (by have := HD.out; omega)
        clear HSo12
        clear Z12
        clear hA hN
        clear HN11
        obtain ⟨w11, w12, u32⟩ := HW.out
        obtain ⟨ct0, ct1, ft0, ft1⟩ := Xt.out
        have hnet := Xt.out.lt
        go_wp2_with fail
        obtain ⟨V13, hV13⟩ : ∃ W9, W9 = ((v12.setCell ⟨gt, 0, none⟩ (.bool s12)).setCell ⟨gt, 1, none⟩ (.slice (some ⟨g12, 0, none⟩) m12 m12)) := ⟨_, rfl⟩
        have Yt : Hid (Box V13 gt (.bool s12) (.slice (some ⟨g12, 0, none⟩) m12 m12)) := by rw [hV13]; exact Xt.out.put2 _ _
        have Ys : Hid (Box V13 gs (.bool xs) (.slice ps ms ms)) := by rw [hV13]; exact Xs.out.off2 (by have h := HD.out; omega) _ _
        have Yc : Hid (Box V13 gc (.bool s6) (.slice (some ⟨g6, 0, none⟩) m6 m6)) := by rw [hV13]; exact Xc.out.off2 (by have h := HD.out; omega) _ _
        have Yy : Hid (Box V13 gy (.bool s) (.slice p m m)) := by rw [hV13]; exact Xy.out.off2 (by have h := HD.out; omega) _ _
        have Yr : Hid (Box V13 gr (.bool false) (.slice none 0 0)) := by rw [hV13]; exact Xr.out.off2 (by have h := HD.out; omega) _ _
        have Yu : Hid (Box V13 gu (.bool false) (.slice none 0 0)) := by rw [hV13]; exact Xu.out.off2 (by have h := HD.out; omega) _ _
        have Ya : Hid (Box V13 ga (.bool s1) (.slice (some ⟨g1, 0, none⟩) m1 m1)) := by rw [hV13]; exact Xa.out.off2 (by have h := HD.out; omega) _ _
        have Yo : Hid (Box V13 go (.bool s3) (.slice (some ⟨g3, 0, none⟩) m3 m3)) := by rw [hV13]; exact Xo.out.off2 (by have h := HD.out; omega) _ _
        have SB' : Hid (SzB (B + 4) V13) := by rw [hV13]; exact (SB.out.put _ _ _).put _ _ _
        have ZS' : Hid (ZF gs gc gt V13 xs ps ms (S)) := by rw [hV13]; exact (ZS.out.set _ _ _ (.inr (.inr rfl))).set _ _ _ (.inr (.inr rfl))
        have ZA' : Hid (ZF gs gc gt V13 s1 (some ⟨g1, 0, none⟩) m1 (y * 2 ^ 94)) := by rw [hV13]; exact (ZA.out.set _ _ _ (.inr (.inr rfl))).set _ _ _ (.inr (.inr rfl))
        have ZO' : Hid (ZF gs gc gt V13 s3 (some ⟨g3, 0, none⟩) m3 (((2 ^ N : Nat) : Int))) := by rw [hV13]; exact (ZO.out.set _ _ _ (.inr (.inr rfl))).set _ _ _ (.inr (.inr rfl))
        have ZN6' : Hid (ZF gs gc gt V13 s6 (some ⟨g6, 0, none⟩) m6 (C + (t : Int))) := by rw [hV13]; exact (ZN6.out.set _ _ _ (.inr (.inr rfl))).set _ _ _ (.inr (.inr rfl))
        have ZN12' : Hid (ZF gs gc gt V13 s12 (some ⟨g12, 0, none⟩) m12 (((t * A / 2 ^ N / i1 : Nat) : Int))) := by rw [hV13]; exact (ZN12.out.set _ _ _ (.inr (.inr rfl))).set _ _ _ (.inr (.inr rfl))
        have hbw2 : Below w.heap.size w V13 := by rw [hV13]; exact bSet (bSet hbw _ _ _ HGt.out) _ _ _ HGt.out
        clear ct0 ct1 ft0 ft1 hnet
        rw [← hV13]
        clear hV13 hbw Xs Xc Xt Xy Xr Xu Xa Xo
        have hbw := hbw2
        clear hbw2
        have Xs := Ys
        clear Ys
        have Xc := Yc
        clear Yc
        have Xt := Yt
        clear Yt
        have Xy := Yy
        clear Yy
        have Xr := Yr
        clear Yr
        have Xu := Yu
        clear Yu
        have Xa := Ya
        clear Ya
        have Xo := Yo
        clear Yo
        clear SB
        have SB := SB'
        clear SB'
        clear ZS
        have ZS := ZS'
        clear ZS'
        clear ZA
        have ZA := ZA'
        clear ZA'
        clear ZO
        have ZO := ZO'
        clear ZO'
        clear ZN6
        have ZN6 := ZN6'
        clear ZN6'
        clear ZN12
        have ZN12 := ZN12'
        clear ZN12'
        clear w11 w12 u32
        have hT := HT.out
        rw [show scL A N (gj + 1) i t S C = scL A N gj (i + 1) (t * A / 2 ^ N / (i + 1)) (if i % 2 = 0 then S else if i % 4 = 3 then S - (t : Int) else S + (t : Int)) (if i % 2 = 0 then (if i % 4 = 2 then C - (t : Int) else C + (t : Int)) else C) from if_neg hT.1] at hT
        have hi := HI1.out.1
        subst hi
        have hsc2 : scL A N gj (i + 1) (t * A / 2 ^ N / (i + 1)) S (C + (t : Int)) = (S1, C1) := by
          have h := hT.2.2.2
          rw [if_pos (show i % 2 = 0 by have := H4.out; omega), if_pos (show i % 2 = 0 by have := H4.out; omega), if_neg (show ¬ i % 4 = 2 by have := H4.out; omega)] at h
          exact h
        go_roundg gj
        case measure => omega
        case rel =>
          exact ⟨i + 1, t * A / 2 ^ N / (i + 1), S, C + (t : Int), xs, s6, s12, ps, (some ⟨g6, 0, none⟩), (some ⟨g12, 0, none⟩), ms, m6, m12, by go_num, by omega, Nat.lt_of_le_of_lt (Nat.div_le_self _ _) (sc_next hT.2.1 (sc_half HC.out.2.2.1 HC.out.2.2.2.1 HC.out.2.2.2.2)), hsc2, by have := HI.out; have := HL6.out; have := HMT.out; omega, by have := HI.out; have := HL6.out; have := HMT.out; omega, Xs.out, Xc.out, Xt.out, ZS.out, ZN6.out, ZN12.out, Xy.out, Xr.out, Xu.out, Xa.out, Xo.out, ZA.out, ZO.out, SB.out.le, hbw⟩
      · have i2 : (i : Int).tmod 2 = 1 := by rw [Int.tmod_eq_emod_of_nonneg (by omega)]; omega
        have i4 : (i : Int).tmod 4 = 1 := by rw [Int.tmod_eq_emod_of_nonneg (by omega)]; omega
        have i5 : (i : Int) % 2 = 1 := by omega
        have i6 : (i : Int) % 4 = 1 := by omega
        obtain ⟨cs0, cs1, fs0, fs1⟩ := Xs.out
        have hnes := Xs.out.lt
        obtain ⟨ct0, ct1, ft0, ft1⟩ := Xt.out
        have hnet := Xt.out.lt
        go_wp2_with fail
        clear cs0 cs1 fs0 fs1 hnes
        clear ct0 ct1 ft0 ft1 hnet
        have HMT : Hid (mt ≤ 20) := zr_len32 ZTT.out.zr (E := E6) HE6.out (by rw [Int.natAbs_natCast]; have h := HT.out; have h2 := HC.out; have h6 := HE6.out; exact Nat.lt_of_lt_of_le h.2.1 (Nat.pow_le_pow_right (by decide) (by omega)))
        have HSo6 : Hid (B + 4 ≤ v5.heap.size) := SB.out.le
        refine (tturn_a xs xt ZS.out.zr ZTT.out.zr (by have := HI.out; have := HT.out; have := HC.out; omega) (by have := HMT.out; omega)).mono ?_
        rintro e v6 ⟨v, rfl, hv, hb6⟩
        obtain ⟨s6, g6, m6, rfl, hg6, hz6, hl6⟩ := hv
        try clear hv
        have HN6 : Hid (v5.heap.size ≤ g6) := hg6
        have HB6 : Hid (v5.heap.size ≤ v6.heap.size) := hb6.size
        replace Xs : Hid _ := Xs.out.below hb6
        replace Xc : Hid _ := Xc.out.below hb6
        replace Xt : Hid _ := Xt.out.below hb6
        replace Xy : Hid _ := Xy.out.below hb6
        replace Xr : Hid _ := Xr.out.below hb6
        replace Xu : Hid _ := Xu.out.below hb6
        replace Xa : Hid _ := Xa.out.below hb6
        replace Xo : Hid _ := Xo.out.below hb6
        replace SB : Hid (SzB (B + 4) v6) := SB.out.below hb6
        replace ZS : Hid (ZF gs gc gt v6 xs ps ms (S)) := ZS.out.below hb6
        replace ZC : Hid (ZF gs gc gt v6 xc pc mc (C)) := ZC.out.below hb6
        replace ZTT : Hid (ZF gs gc gt v6 xt pt mt ((t : Int))) := ZTT.out.below hb6
        replace ZA : Hid (ZF gs gc gt v6 s1 (some ⟨g1, 0, none⟩) m1 (y * 2 ^ 94)) := ZA.out.below hb6
        replace ZO : Hid (ZF gs gc gt v6 s3 (some ⟨g3, 0, none⟩) m3 (((2 ^ N : Nat) : Int))) := ZO.out.below hb6
        replace hbw := Below.on hbw hb6
        clear hb6
        have Z6 : Hid (ZR v6 s6 (some ⟨g6, 0, none⟩) m6 (S + (t : Int))) := hz6
        have HL6 : Hid (m6 ≤ max ms mt + 1) := hl6
        clear hz6 hl6 hg6
        have ZN6 : Hid (ZF gs gc gt v6 s6 (some ⟨g6, 0, none⟩) m6 (S + (t : Int))) := ZF.new Z6.out (B := B + 4) (by have := HN6.out; have := HSo6.out; omega) (by have := HD.out; omega)
        clear HSo6
        clear Z6
        have H4 := Hid.mk9 h4
        clear h4
        clear ZS
        have ne0 : gs ≠ gt := by have h := HD.out; omega
        have ne1 : gt ≠ gs := by have h := HD.out; omega
        have ne2 : gs ≠ ga := by have h := HD.out; omega
        have ne3 : ga ≠ gs := by have h := HD.out; omega
        obtain ⟨cs0, cs1, fs0, fs1⟩ := Xs.out
        have hnes := Xs.out.lt
        obtain ⟨ct0, ct1, ft0, ft1⟩ := Xt.out
        have hnet := Xt.out.lt
        obtain ⟨ca0, ca1, fa0, fa1⟩ := Xa.out
        have hnea := Xa.out.lt
        go_wp2_with fail
        clear ct0 ct1 ft0 ft1 hnet
        clear ca0 ca1 fa0 fa1 hnea
        clear ne0 ne1 ne2 ne3
        obtain ⟨V7, hV7⟩ : ∃ W9, W9 = ((v6.setCell ⟨gs, 0, none⟩ (.bool s6)).setCell ⟨gs, 1, none⟩ (.slice (some ⟨g6, 0, none⟩) m6 m6)) := ⟨_, rfl⟩
        have Ys : Hid (Box V7 gs (.bool s6) (.slice (some ⟨g6, 0, none⟩) m6 m6)) := by rw [hV7]; exact Xs.out.put2 _ _
        have Yc : Hid (Box V7 gc (.bool xc) (.slice pc mc mc)) := by rw [hV7]; exact Xc.out.off2 (by have h := HD.out; omega) _ _
        have Yt : Hid (Box V7 gt (.bool xt) (.slice pt mt mt)) := by rw [hV7]; exact Xt.out.off2 (by have h := HD.out; omega) _ _
        have Yy : Hid (Box V7 gy (.bool s) (.slice p m m)) := by rw [hV7]; exact Xy.out.off2 (by have h := HD.out; omega) _ _
        have Yr : Hid (Box V7 gr (.bool false) (.slice none 0 0)) := by rw [hV7]; exact Xr.out.off2 (by have h := HD.out; omega) _ _
        have Yu : Hid (Box V7 gu (.bool false) (.slice none 0 0)) := by rw [hV7]; exact Xu.out.off2 (by have h := HD.out; omega) _ _
        have Ya : Hid (Box V7 ga (.bool s1) (.slice (some ⟨g1, 0, none⟩) m1 m1)) := by rw [hV7]; exact Xa.out.off2 (by have h := HD.out; omega) _ _
        have Yo : Hid (Box V7 go (.bool s3) (.slice (some ⟨g3, 0, none⟩) m3 m3)) := by rw [hV7]; exact Xo.out.off2 (by have h := HD.out; omega) _ _
        have SB' : Hid (SzB (B + 4) V7) := by rw [hV7]; exact (SB.out.put _ _ _).put _ _ _
        have ZC' : Hid (ZF gs gc gt V7 xc pc mc (C)) := by rw [hV7]; exact (ZC.out.set _ _ _ (.inl rfl)).set _ _ _ (.inl rfl)
        have ZTT' : Hid (ZF gs gc gt V7 xt pt mt ((t : Int))) := by rw [hV7]; exact (ZTT.out.set _ _ _ (.inl rfl)).set _ _ _ (.inl rfl)
        have ZA' : Hid (ZF gs gc gt V7 s1 (some ⟨g1, 0, none⟩) m1 (y * 2 ^ 94)) := by rw [hV7]; exact (ZA.out.set _ _ _ (.inl rfl)).set _ _ _ (.inl rfl)
        have ZO' : Hid (ZF gs gc gt V7 s3 (some ⟨g3, 0, none⟩) m3 (((2 ^ N : Nat) : Int))) := by rw [hV7]; exact (ZO.out.set _ _ _ (.inl rfl)).set _ _ _ (.inl rfl)
        have ZN6' : Hid (ZF gs gc gt V7 s6 (some ⟨g6, 0, none⟩) m6 (S + (t : Int))) := by rw [hV7]; exact (ZN6.out.set _ _ _ (.inl rfl)).set _ _ _ (.inl rfl)
        have hbw2 : Below w.heap.size w V7 := by rw [hV7]; exact bSet (bSet hbw _ _ _ HGs.out) _ _ _ HGs.out
        clear cs0 cs1 fs0 fs1 hnes
        rw [← hV7]
        clear hV7 hbw Xs Xc Xt Xy Xr Xu Xa Xo
        have hbw := hbw2
        clear hbw2
        have Xs := Ys
        clear Ys
        have Xc := Yc
        clear Yc
        have Xt := Yt
        clear Yt
        have Xy := Yy
        clear Yy
        have Xr := Yr
        clear Yr
        have Xu := Yu
        clear Yu
        have Xa := Ya
        clear Ya
        have Xo := Yo
        clear Yo
        clear SB
        have SB := SB'
        clear SB'
        clear ZC
        have ZC := ZC'
        clear ZC'
        clear ZTT
        have ZTT := ZTT'
        clear ZTT'
        clear ZA
        have ZA := ZA'
        clear ZA'
        clear ZO
        have ZO := ZO'
        clear ZO'
        clear ZN6
        have ZN6 := ZN6'
        clear ZN6'
        have HMA : Hid (m1 ≤ 20) := HZFs.out.1
        obtain ⟨V8, hV8⟩ : ∃ W9, W9 = V7.drew := ⟨_, rfl⟩
        have hbd : Below V7.heap.size V7 V8 := by rw [hV8]; exact bDrew1 (Below.refl _ _)
        replace Xs : Hid _ := Xs.out.below hbd
        replace Xc : Hid _ := Xc.out.below hbd
        replace Xt : Hid _ := Xt.out.below hbd
        replace Xy : Hid _ := Xy.out.below hbd
        replace Xr : Hid _ := Xr.out.below hbd
        replace Xu : Hid _ := Xu.out.below hbd
        replace Xa : Hid _ := Xa.out.below hbd
        replace Xo : Hid _ := Xo.out.below hbd
        replace SB : Hid (SzB (B + 4) V8) := SB.out.below hbd
        replace ZC : Hid (ZF gs gc gt V8 xc pc mc (C)) := ZC.out.below hbd
        replace ZTT : Hid (ZF gs gc gt V8 xt pt mt ((t : Int))) := ZTT.out.below hbd
        replace ZA : Hid (ZF gs gc gt V8 s1 (some ⟨g1, 0, none⟩) m1 (y * 2 ^ 94)) := ZA.out.below hbd
        replace ZO : Hid (ZF gs gc gt V8 s3 (some ⟨g3, 0, none⟩) m3 (((2 ^ N : Nat) : Int))) := ZO.out.below hbd
        replace ZN6 : Hid (ZF gs gc gt V8 s6 (some ⟨g6, 0, none⟩) m6 (S + (t : Int))) := ZN6.out.below hbd
        replace hbw := Below.on hbw hbd
        clear hbd
        have HJ : Hid ((fun W' : World => W'.cell? ⟨gt, 0, none⟩ = some (.bool xt) ∧ W'.cell? ⟨gt, 1, none⟩ = some (.slice pt mt mt) ∧ W'.cell? ⟨ga, 0, none⟩ = some (.bool s1) ∧ W'.cell? ⟨ga, 1, none⟩ = some (.slice (some ⟨g1, 0, none⟩) m1 m1)) V8) := ⟨Xt.out.c0, Xt.out.c1, Xa.out.c0, Xa.out.c1⟩
        refine wp_region_L (fun W' => W'.cell? ⟨gt, 0, none⟩ = some (.bool xt) ∧ W'.cell? ⟨gt, 1, none⟩ = some (.slice pt mt mt) ∧ W'.cell? ⟨ga, 0, none⟩ = some (.bool s1) ∧ W'.cell? ⟨ga, 1, none⟩ = some (.slice (some ⟨g1, 0, none⟩) m1 m1)) 5 (by kernel_rfl) ?_
        rw [← hV8]
        clear hV8
        refine wpL_take (i := 0) (v := ?v19x0) rfl (by kernel_rfl) (by kernel_rfl) (by kernel_rfl) (fun _ _ _ h => h) (by kernel_rfl) ?hy19x0 HJ.out ?rest19x0
        case hy19x0 => (intro W' hJ; obtain ⟨j0, j1, j2, j3⟩ := hJ; go_simp; first | done | with_reducible rfl)
        refine wpL_take (i := 1) (v := ?v20x1) rfl (by kernel_rfl) (by kernel_rfl) (by kernel_rfl) (fun _ _ _ h => h) (by kernel_rfl) ?hy20x1 HJ.out ?rest20x1
        case hy20x1 => (intro W' hJ; obtain ⟨j0, j1, j2, j3⟩ := hJ; go_simp; first | done | with_reducible rfl)
        refine wpL_take (i := 3) (v := ?v21x3) rfl (by kernel_rfl) (by kernel_rfl) (by kernel_rfl) (fun _ _ _ h => h) (by kernel_rfl) ?hy21x3 HJ.out ?rest21x3
        case hy21x3 => (intro W' hJ; obtain ⟨j0, j1, j2, j3⟩ := hJ; go_simp; first | done | with_reducible rfl)
        refine wpL_one (i := 2) (by kernel_rfl) rfl (by kernel_rfl) (fun KJ hK => ?_)
        go_simp
        have HSo8 : Hid (B + 4 ≤ V8.heap.size) := SB.out.le
        refine (tabs s1 ZA.out.zr (by have := HMA.out; omega)).mono ?_
        rintro e v8 ⟨v, rfl, hv, hb8⟩
        obtain ⟨s8, g8, m8, rfl, hg8, hz8, hl8⟩ := hv
        try clear hv
        have HN8 : Hid (V8.heap.size ≤ g8) := hg8
        have HB8 : Hid (V8.heap.size ≤ v8.heap.size) := hb8.size
        replace Xs : Hid _ := Xs.out.below hb8
        replace Xc : Hid _ := Xc.out.below hb8
        replace Xt : Hid _ := Xt.out.below hb8
        replace Xy : Hid _ := Xy.out.below hb8
        replace Xr : Hid _ := Xr.out.below hb8
        replace Xu : Hid _ := Xu.out.below hb8
        replace Xa : Hid _ := Xa.out.below hb8
        replace Xo : Hid _ := Xo.out.below hb8
        replace SB : Hid (SzB (B + 4) v8) := SB.out.below hb8
        replace ZC : Hid (ZF gs gc gt v8 xc pc mc (C)) := ZC.out.below hb8
        replace ZTT : Hid (ZF gs gc gt v8 xt pt mt ((t : Int))) := ZTT.out.below hb8
        replace ZA : Hid (ZF gs gc gt v8 s1 (some ⟨g1, 0, none⟩) m1 (y * 2 ^ 94)) := ZA.out.below hb8
        replace ZO : Hid (ZF gs gc gt v8 s3 (some ⟨g3, 0, none⟩) m3 (((2 ^ N : Nat) : Int))) := ZO.out.below hb8
        replace ZN6 : Hid (ZF gs gc gt v8 s6 (some ⟨g6, 0, none⟩) m6 (S + (t : Int))) := ZN6.out.below hb8
        replace hbw := Below.on hbw hb8
        clear hb8
        have Z8 : Hid (ZR v8 s8 (some ⟨g8, 0, none⟩) m8 (((y * 2 ^ 94).natAbs : Int))) := hz8
        have HL8 : Hid (m8 ≤ m1) := hl8
        clear hz8 hl8 hg8
        have ZN8 : Hid (ZF gs gc gt v8 s8 (some ⟨g8, 0, none⟩) m8 (((y * 2 ^ 94).natAbs : Int))) := ZF.new Z8.out (B := B + 4) (by have := HN8.out; have := HSo8.out; omega) (by have := HD.out; omega)
        clear HSo8
        clear Z8
        have HMA8 : Hid (m8 ≤ 20) := by have h1 := HL8.out; have h2 := HMA.out; exact Nat.le_trans h1 h2
        refine hK _ _ ⟨Xt.out.c0, Xt.out.c1, Xa.out.c0, Xa.out.c1⟩ ?_
        clear hK
        refine wpL_one (i := 4) (by kernel_rfl) rfl (by kernel_rfl) (fun KJ hK => ?_)
        go_simp
        have HSo9 : Hid (B + 4 ≤ v8.heap.size) := SB.out.le
        refine (tmul7 xt s8 ZTT.out.zr ZN8.out.zr (by have := HMT.out; omega) (by have := HMA8.out; omega) N (by have := HC.out; omega)).mono ?_
        rintro e v9 ⟨v, rfl, hv, hb9⟩
        have hv9 : rFs ((t : Int) * ((y * 2 ^ 94).natAbs : Int)) N = ((t * A / 2 ^ N : Nat) : Int) := by rw [HC.out.2.2.2.2, Int.natAbs_mul, show ((2 : Int) ^ 94).natAbs = 2 ^ 94 from rfl]; exact rFs_nat _ _ _
        rw [hv9] at hv
        clear hv9
        obtain ⟨s9, g9, m9, rfl, hg9, hz9, hl9⟩ := hv
        try clear hv
        have HN9 : Hid (v8.heap.size ≤ g9) := hg9
        have HB9 : Hid (v8.heap.size ≤ v9.heap.size) := hb9.size
        replace Xs : Hid _ := Xs.out.below hb9
        replace Xc : Hid _ := Xc.out.below hb9
        replace Xt : Hid _ := Xt.out.below hb9
        replace Xy : Hid _ := Xy.out.below hb9
        replace Xr : Hid _ := Xr.out.below hb9
        replace Xu : Hid _ := Xu.out.below hb9
        replace Xa : Hid _ := Xa.out.below hb9
        replace Xo : Hid _ := Xo.out.below hb9
        replace SB : Hid (SzB (B + 4) v9) := SB.out.below hb9
        replace ZC : Hid (ZF gs gc gt v9 xc pc mc (C)) := ZC.out.below hb9
        replace ZTT : Hid (ZF gs gc gt v9 xt pt mt ((t : Int))) := ZTT.out.below hb9
        replace ZA : Hid (ZF gs gc gt v9 s1 (some ⟨g1, 0, none⟩) m1 (y * 2 ^ 94)) := ZA.out.below hb9
        replace ZO : Hid (ZF gs gc gt v9 s3 (some ⟨g3, 0, none⟩) m3 (((2 ^ N : Nat) : Int))) := ZO.out.below hb9
        replace ZN6 : Hid (ZF gs gc gt v9 s6 (some ⟨g6, 0, none⟩) m6 (S + (t : Int))) := ZN6.out.below hb9
        replace ZN8 : Hid (ZF gs gc gt v9 s8 (some ⟨g8, 0, none⟩) m8 (((y * 2 ^ 94).natAbs : Int))) := ZN8.out.below hb9
        replace hbw := Below.on hbw hb9
        clear hb9
        have Z9 : Hid (ZR v9 s9 (some ⟨g9, 0, none⟩) m9 (((t * A / 2 ^ N : Nat) : Int))) := hz9
        have HL9 : Hid (m9 ≤ 5000) := hl9
        clear hz9 hl9 hg9
        have ZN9 : Hid (ZF gs gc gt v9 s9 (some ⟨g9, 0, none⟩) m9 (((t * A / 2 ^ N : Nat) : Int))) := ZF.new Z9.out (B := B + 4) (by have := HN9.out; have := HSo9.out; omega) (by have := HD.out; omega)
        clear HSo9
        clear Z9
        clear ZN8
        have HM9 : Hid (m9 ≤ 20) := zr_len32 ZN9.out.zr (E := E6) HE6.out (by rw [Int.natAbs_natCast]; have h := HT.out; have h2 := HC.out; have h6 := HE6.out; exact Nat.lt_of_lt_of_le (sc_next h.2.1 (sc_half h2.2.2.1 h2.2.2.2.1 h2.2.2.2.2)) (Nat.pow_le_pow_right (by decide) (by omega)))
        refine hK _ _ ⟨Xt.out.c0, Xt.out.c1, Xa.out.c0, Xa.out.c1⟩ ?_
        clear hK
        go_simp
        obtain ⟨ct0, ct1, ft0, ft1⟩ := Xt.out
        have hnet := Xt.out.lt
        refine wpL_last (by kernel_rfl) rfl (by kernel_rfl) (fun KJ hK => ?_)
        go_simp
        refine hK _ _ ?_
        clear hK HJ
        refine wpL_done (by kernel_rfl) ?_ _
        clear ZTT
        obtain ⟨V10, hV10⟩ : ∃ W9, W9 = ((v9.setCell ⟨gt, 0, none⟩ (.bool s9)).setCell ⟨gt, 1, none⟩ (.slice (some ⟨g9, 0, none⟩) m9 m9)) := ⟨_, rfl⟩
        have Yt : Hid (Box V10 gt (.bool s9) (.slice (some ⟨g9, 0, none⟩) m9 m9)) := by rw [hV10]; exact Xt.out.put2 _ _
        have Ys : Hid (Box V10 gs (.bool s6) (.slice (some ⟨g6, 0, none⟩) m6 m6)) := by rw [hV10]; exact Xs.out.off2 (by have h := HD.out; omega) _ _
        have Yc : Hid (Box V10 gc (.bool xc) (.slice pc mc mc)) := by rw [hV10]; exact Xc.out.off2 (by have h := HD.out; omega) _ _
        have Yy : Hid (Box V10 gy (.bool s) (.slice p m m)) := by rw [hV10]; exact Xy.out.off2 (by have h := HD.out; omega) _ _
        have Yr : Hid (Box V10 gr (.bool false) (.slice none 0 0)) := by rw [hV10]; exact Xr.out.off2 (by have h := HD.out; omega) _ _
        have Yu : Hid (Box V10 gu (.bool false) (.slice none 0 0)) := by rw [hV10]; exact Xu.out.off2 (by have h := HD.out; omega) _ _
        have Ya : Hid (Box V10 ga (.bool s1) (.slice (some ⟨g1, 0, none⟩) m1 m1)) := by rw [hV10]; exact Xa.out.off2 (by have h := HD.out; omega) _ _
        have Yo : Hid (Box V10 go (.bool s3) (.slice (some ⟨g3, 0, none⟩) m3 m3)) := by rw [hV10]; exact Xo.out.off2 (by have h := HD.out; omega) _ _
        have SB' : Hid (SzB (B + 4) V10) := by rw [hV10]; exact (SB.out.put _ _ _).put _ _ _
        have ZC' : Hid (ZF gs gc gt V10 xc pc mc (C)) := by rw [hV10]; exact (ZC.out.set _ _ _ (.inr (.inr rfl))).set _ _ _ (.inr (.inr rfl))
        have ZA' : Hid (ZF gs gc gt V10 s1 (some ⟨g1, 0, none⟩) m1 (y * 2 ^ 94)) := by rw [hV10]; exact (ZA.out.set _ _ _ (.inr (.inr rfl))).set _ _ _ (.inr (.inr rfl))
        have ZO' : Hid (ZF gs gc gt V10 s3 (some ⟨g3, 0, none⟩) m3 (((2 ^ N : Nat) : Int))) := by rw [hV10]; exact (ZO.out.set _ _ _ (.inr (.inr rfl))).set _ _ _ (.inr (.inr rfl))
        have ZN6' : Hid (ZF gs gc gt V10 s6 (some ⟨g6, 0, none⟩) m6 (S + (t : Int))) := by rw [hV10]; exact (ZN6.out.set _ _ _ (.inr (.inr rfl))).set _ _ _ (.inr (.inr rfl))
        have ZN9' : Hid (ZF gs gc gt V10 s9 (some ⟨g9, 0, none⟩) m9 (((t * A / 2 ^ N : Nat) : Int))) := by rw [hV10]; exact (ZN9.out.set _ _ _ (.inr (.inr rfl))).set _ _ _ (.inr (.inr rfl))
        have hbw2 : Below w.heap.size w V10 := by rw [hV10]; exact bSet (bSet hbw _ _ _ HGt.out) _ _ _ HGt.out
        clear ct0 ct1 ft0 ft1 hnet
        rw [← hV10]
        clear hV10 hbw Xs Xc Xt Xy Xr Xu Xa Xo
        have hbw := hbw2
        clear hbw2
        have Xs := Ys
        clear Ys
        have Xc := Yc
        clear Yc
        have Xt := Yt
        clear Yt
        have Xy := Yy
        clear Yy
        have Xr := Yr
        clear Yr
        have Xu := Yu
        clear Yu
        have Xa := Ya
        clear Ya
        have Xo := Yo
        clear Yo
        clear SB
        have SB := SB'
        clear SB'
        clear ZC
        have ZC := ZC'
        clear ZC'
        clear ZA
        have ZA := ZA'
        clear ZA'
        clear ZO
        have ZO := ZO'
        clear ZO'
        clear ZN6
        have ZN6 := ZN6'
        clear ZN6'
        clear ZN9
        have ZN9 := ZN9'
        clear ZN9'
        obtain ⟨w11, w12, u32⟩ := HW.out
        obtain ⟨ct0, ct1, ft0, ft1⟩ := Xt.out
        have hnet := Xt.out.lt
        go_wp2_with fail
        clear ct0 ct1 ft0 ft1 hnet
        clear w11 w12 u32
        have RN9 : RN V10 (some ⟨g9, 0, none⟩) m9 (t * A / 2 ^ N) := by have h := ZN9.out.zr.rn (by have := HM9.out; omega); rw [Int.natAbs_natCast] at h; exact h
        refine (rn_divs RN9 i1 (by have := HI1.out; omega) (by have := HI1.out; show _ < 4294967296; omega)).mono ?_
        rintro en v11 ⟨p11, m11, r11, rfl, hn11, hb11⟩
        clear RN9
        replace Xs : Hid _ := Xs.out.below hb11
        replace Xc : Hid _ := Xc.out.below hb11
        replace Xt : Hid _ := Xt.out.below hb11
        replace Xy : Hid _ := Xy.out.below hb11
        replace Xr : Hid _ := Xr.out.below hb11
        replace Xu : Hid _ := Xu.out.below hb11
        replace Xa : Hid _ := Xa.out.below hb11
        replace Xo : Hid _ := Xo.out.below hb11
        replace SB : Hid (SzB (B + 4) v11) := SB.out.below hb11
        replace ZC : Hid (ZF gs gc gt v11 xc pc mc (C)) := ZC.out.below hb11
        replace ZA : Hid (ZF gs gc gt v11 s1 (some ⟨g1, 0, none⟩) m1 (y * 2 ^ 94)) := ZA.out.below hb11
        replace ZO : Hid (ZF gs gc gt v11 s3 (some ⟨g3, 0, none⟩) m3 (((2 ^ N : Nat) : Int))) := ZO.out.below hb11
        replace ZN6 : Hid (ZF gs gc gt v11 s6 (some ⟨g6, 0, none⟩) m6 (S + (t : Int))) := ZN6.out.below hb11
        replace ZN9 : Hid (ZF gs gc gt v11 s9 (some ⟨g9, 0, none⟩) m9 (((t * A / 2 ^ N : Nat) : Int))) := ZN9.out.below hb11
        replace hbw := Below.on hbw hb11
        clear hb11
        clear ZN9
        have HN11 : Hid (RN v11 p11 m11 (t * A / 2 ^ N / i1)) := by first | exact hn11 | exact hn11.1
        clear hn11
        go_wp2_with fail
        obtain ⟨zs, hA, hN⟩ := HN11.out.mem
        have HSo12 : Hid (B + 4 ≤ v11.heap.size) := SB.out.le
        refine (rmk_any false hA hN (by have := HN11.out.len; omega)).mono ?_
        rintro e v12 ⟨v, rfl, hv, hb12⟩
        rw [show iv false (t * A / 2 ^ N / i1) = ((t * A / 2 ^ N / i1 : Nat) : Int) from rfl] at hv
        obtain ⟨s12, g12, m12, rfl, hg12, hz12, hl12⟩ := hv
        try clear hv
        have HN12 : Hid (v11.heap.size ≤ g12) := hg12
        have HB12 : Hid (v11.heap.size ≤ v12.heap.size) := hb12.size
        replace Xs : Hid _ := Xs.out.below hb12
        replace Xc : Hid _ := Xc.out.below hb12
        replace Xt : Hid _ := Xt.out.below hb12
        replace Xy : Hid _ := Xy.out.below hb12
        replace Xr : Hid _ := Xr.out.below hb12
        replace Xu : Hid _ := Xu.out.below hb12
        replace Xa : Hid _ := Xa.out.below hb12
        replace Xo : Hid _ := Xo.out.below hb12
        replace SB : Hid (SzB (B + 4) v12) := SB.out.below hb12
        replace ZC : Hid (ZF gs gc gt v12 xc pc mc (C)) := ZC.out.below hb12
        replace ZA : Hid (ZF gs gc gt v12 s1 (some ⟨g1, 0, none⟩) m1 (y * 2 ^ 94)) := ZA.out.below hb12
        replace ZO : Hid (ZF gs gc gt v12 s3 (some ⟨g3, 0, none⟩) m3 (((2 ^ N : Nat) : Int))) := ZO.out.below hb12
        replace ZN6 : Hid (ZF gs gc gt v12 s6 (some ⟨g6, 0, none⟩) m6 (S + (t : Int))) := ZN6.out.below hb12
        replace HN11 : Hid (RN v12 p11 m11 (t * A / 2 ^ N / i1)) := HN11.out.below hb12
        replace hbw := Below.on hbw hb12
        clear hb12
        have Z12 : Hid (ZR v12 s12 (some ⟨g12, 0, none⟩) m12 (((t * A / 2 ^ N / i1 : Nat) : Int))) := hz12
        have HL12 : Hid (m12 ≤ m11) := hl12
        clear hz12 hl12 hg12
        have ZN12 : Hid (ZF gs gc gt v12 s12 (some ⟨g12, 0, none⟩) m12 (((t * A / 2 ^ N / i1 : Nat) : Int))) := ZF.new Z12.out (B := B + 4) (by have := HN12.out; have := HSo12.out; omega) (by have := HD.out; omega)
        clear HSo12
        clear Z12
        clear hA hN
        clear HN11
        obtain ⟨w11, w12, u32⟩ := HW.out
        obtain ⟨ct0, ct1, ft0, ft1⟩ := Xt.out
        have hnet := Xt.out.lt
        go_wp2_with fail
        obtain ⟨V13, hV13⟩ : ∃ W9, W9 = ((v12.setCell ⟨gt, 0, none⟩ (.bool s12)).setCell ⟨gt, 1, none⟩ (.slice (some ⟨g12, 0, none⟩) m12 m12)) := ⟨_, rfl⟩
        have Yt : Hid (Box V13 gt (.bool s12) (.slice (some ⟨g12, 0, none⟩) m12 m12)) := by rw [hV13]; exact Xt.out.put2 _ _
        have Ys : Hid (Box V13 gs (.bool s6) (.slice (some ⟨g6, 0, none⟩) m6 m6)) := by rw [hV13]; exact Xs.out.off2 (by have h := HD.out; omega) _ _
        have Yc : Hid (Box V13 gc (.bool xc) (.slice pc mc mc)) := by rw [hV13]; exact Xc.out.off2 (by have h := HD.out; omega) _ _
        have Yy : Hid (Box V13 gy (.bool s) (.slice p m m)) := by rw [hV13]; exact Xy.out.off2 (by have h := HD.out; omega) _ _
        have Yr : Hid (Box V13 gr (.bool false) (.slice none 0 0)) := by rw [hV13]; exact Xr.out.off2 (by have h := HD.out; omega) _ _
        have Yu : Hid (Box V13 gu (.bool false) (.slice none 0 0)) := by rw [hV13]; exact Xu.out.off2 (by have h := HD.out; omega) _ _
        have Ya : Hid (Box V13 ga (.bool s1) (.slice (some ⟨g1, 0, none⟩) m1 m1)) := by rw [hV13]; exact Xa.out.off2 (by have h := HD.out; omega) _ _
        have Yo : Hid (Box V13 go (.bool s3) (.slice (some ⟨g3, 0, none⟩) m3 m3)) := by rw [hV13]; exact Xo.out.off2 (by have h := HD.out; omega) _ _
        have SB' : Hid (SzB (B + 4) V13) := by rw [hV13]; exact (SB.out.put _ _ _).put _ _ _
        have ZC' : Hid (ZF gs gc gt V13 xc pc mc (C)) := by rw [hV13]; exact (ZC.out.set _ _ _ (.inr (.inr rfl))).set _ _ _ (.inr (.inr rfl))
        have ZA' : Hid (ZF gs gc gt V13 s1 (some ⟨g1, 0, none⟩) m1 (y * 2 ^ 94)) := by rw [hV13]; exact (ZA.out.set _ _ _ (.inr (.inr rfl))).set _ _ _ (.inr (.inr rfl))
        have ZO' : Hid (ZF gs gc gt V13 s3 (some ⟨g3, 0, none⟩) m3 (((2 ^ N : Nat) : Int))) := by rw [hV13]; exact (ZO.out.set _ _ _ (.inr (.inr rfl))).set _ _ _ (.inr (.inr rfl))
        have ZN6' : Hid (ZF gs gc gt V13 s6 (some ⟨g6, 0, none⟩) m6 (S + (t : Int))) := by rw [hV13]; exact (ZN6.out.set _ _ _ (.inr (.inr rfl))).set _ _ _ (.inr (.inr rfl))
        have ZN12' : Hid (ZF gs gc gt V13 s12 (some ⟨g12, 0, none⟩) m12 (((t * A / 2 ^ N / i1 : Nat) : Int))) := by rw [hV13]; exact (ZN12.out.set _ _ _ (.inr (.inr rfl))).set _ _ _ (.inr (.inr rfl))
        have hbw2 : Below w.heap.size w V13 := by rw [hV13]; exact bSet (bSet hbw _ _ _ HGt.out) _ _ _ HGt.out
        clear ct0 ct1 ft0 ft1 hnet
        rw [← hV13]
        clear hV13 hbw Xs Xc Xt Xy Xr Xu Xa Xo
        have hbw := hbw2
        clear hbw2
        have Xs := Ys
        clear Ys
        have Xc := Yc
        clear Yc
        have Xt := Yt
        clear Yt
        have Xy := Yy
        clear Yy
        have Xr := Yr
        clear Yr
        have Xu := Yu
        clear Yu
        have Xa := Ya
        clear Ya
        have Xo := Yo
        clear Yo
        clear SB
        have SB := SB'
        clear SB'
        clear ZC
        have ZC := ZC'
        clear ZC'
        clear ZA
        have ZA := ZA'
        clear ZA'
        clear ZO
        have ZO := ZO'
        clear ZO'
        clear ZN6
        have ZN6 := ZN6'
        clear ZN6'
        clear ZN12
        have ZN12 := ZN12'
        clear ZN12'
        clear w11 w12 u32
        have hT := HT.out
        rw [show scL A N (gj + 1) i t S C = scL A N gj (i + 1) (t * A / 2 ^ N / (i + 1)) (if i % 2 = 0 then S else if i % 4 = 3 then S - (t : Int) else S + (t : Int)) (if i % 2 = 0 then (if i % 4 = 2 then C - (t : Int) else C + (t : Int)) else C) from if_neg hT.1] at hT
        have hi := HI1.out.1
        subst hi
        have hsc2 : scL A N gj (i + 1) (t * A / 2 ^ N / (i + 1)) (S + (t : Int)) C = (S1, C1) := by
          have h := hT.2.2.2
          rw [if_neg (show ¬ i % 2 = 0 by have := H4.out; omega), if_neg (show ¬ i % 4 = 3 by have := H4.out; omega), if_neg (show ¬ i % 2 = 0 by have := H4.out; omega)] at h
          exact h
        go_roundg gj
        case measure => omega
        case rel =>
          exact ⟨i + 1, t * A / 2 ^ N / (i + 1), S + (t : Int), C, s6, xc, s12, (some ⟨g6, 0, none⟩), pc, (some ⟨g12, 0, none⟩), m6, mc, m12, by go_num, by omega, Nat.lt_of_le_of_lt (Nat.div_le_self _ _) (sc_next hT.2.1 (sc_half HC.out.2.2.1 HC.out.2.2.2.1 HC.out.2.2.2.2)), hsc2, by have := HI.out; have := HL6.out; have := HMT.out; omega, by have := HI.out; have := HL6.out; have := HMT.out; omega, Xs.out, Xc.out, Xt.out, ZN6.out, ZC.out, ZN12.out, Xy.out, Xr.out, Xu.out, Xa.out, Xo.out, ZA.out, ZO.out, SB.out.le, hbw⟩
      · have i2 : (i : Int).tmod 2 = 0 := by rw [Int.tmod_eq_emod_of_nonneg (by omega)]; omega
        have i4 : (i : Int).tmod 4 = 2 := by rw [Int.tmod_eq_emod_of_nonneg (by omega)]; omega
        have i5 : (i : Int) % 2 = 0 := by omega
        have i6 : (i : Int) % 4 = 2 := by omega
        obtain ⟨cc0, cc1, fc0, fc1⟩ := Xc.out
        have hnec := Xc.out.lt
        obtain ⟨ct0, ct1, ft0, ft1⟩ := Xt.out
        have hnet := Xt.out.lt
        go_wp2_with fail
        clear cc0 cc1 fc0 fc1 hnec
        clear ct0 ct1 ft0 ft1 hnet
        have HMT : Hid (mt ≤ 20) := zr_len32 ZTT.out.zr (E := E6) HE6.out (by rw [Int.natAbs_natCast]; have h := HT.out; have h2 := HC.out; have h6 := HE6.out; exact Nat.lt_of_lt_of_le h.2.1 (Nat.pow_le_pow_right (by decide) (by omega)))
        have HSo6 : Hid (B + 4 ≤ v5.heap.size) := SB.out.le
        refine (tturn_s xc xt ZC.out.zr ZTT.out.zr (by have := HI.out; have := HT.out; have := HC.out; omega) (by have := HMT.out; omega)).mono ?_
        rintro e v6 ⟨v, rfl, hv, hb6⟩
        obtain ⟨s6, g6, m6, rfl, hg6, hz6, hl6⟩ := hv
        try clear hv
        have HN6 : Hid (v5.heap.size ≤ g6) := hg6
        have HB6 : Hid (v5.heap.size ≤ v6.heap.size) := hb6.size
        replace Xs : Hid _ := Xs.out.below hb6
        replace Xc : Hid _ := Xc.out.below hb6
        replace Xt : Hid _ := Xt.out.below hb6
        replace Xy : Hid _ := Xy.out.below hb6
        replace Xr : Hid _ := Xr.out.below hb6
        replace Xu : Hid _ := Xu.out.below hb6
        replace Xa : Hid _ := Xa.out.below hb6
        replace Xo : Hid _ := Xo.out.below hb6
        replace SB : Hid (SzB (B + 4) v6) := SB.out.below hb6
        replace ZS : Hid (ZF gs gc gt v6 xs ps ms (S)) := ZS.out.below hb6
        replace ZC : Hid (ZF gs gc gt v6 xc pc mc (C)) := ZC.out.below hb6
        replace ZTT : Hid (ZF gs gc gt v6 xt pt mt ((t : Int))) := ZTT.out.below hb6
        replace ZA : Hid (ZF gs gc gt v6 s1 (some ⟨g1, 0, none⟩) m1 (y * 2 ^ 94)) := ZA.out.below hb6
        replace ZO : Hid (ZF gs gc gt v6 s3 (some ⟨g3, 0, none⟩) m3 (((2 ^ N : Nat) : Int))) := ZO.out.below hb6
        replace hbw := Below.on hbw hb6
        clear hb6
        have Z6 : Hid (ZR v6 s6 (some ⟨g6, 0, none⟩) m6 (C - (t : Int))) := hz6
        have HL6 : Hid (m6 ≤ max mc mt + 1) := hl6
        clear hz6 hl6 hg6
        have ZN6 : Hid (ZF gs gc gt v6 s6 (some ⟨g6, 0, none⟩) m6 (C - (t : Int))) := ZF.new Z6.out (B := B + 4) (by have := HN6.out; have := HSo6.out; omega) (by have := HD.out; omega)
        clear HSo6
        clear Z6
        have H4 := Hid.mk9 h4
        clear h4
        clear ZC
        have ne0 : gc ≠ gt := by have h := HD.out; omega
        have ne1 : gt ≠ gc := by have h := HD.out; omega
        have ne2 : gc ≠ ga := by have h := HD.out; omega
        have ne3 : ga ≠ gc := by have h := HD.out; omega
        obtain ⟨cc0, cc1, fc0, fc1⟩ := Xc.out
        have hnec := Xc.out.lt
        obtain ⟨ct0, ct1, ft0, ft1⟩ := Xt.out
        have hnet := Xt.out.lt
        obtain ⟨ca0, ca1, fa0, fa1⟩ := Xa.out
        have hnea := Xa.out.lt
        go_wp2_with fail
        clear ct0 ct1 ft0 ft1 hnet
        clear ca0 ca1 fa0 fa1 hnea
        clear ne0 ne1 ne2 ne3
        obtain ⟨V7, hV7⟩ : ∃ W9, W9 = ((v6.setCell ⟨gc, 0, none⟩ (.bool s6)).setCell ⟨gc, 1, none⟩ (.slice (some ⟨g6, 0, none⟩) m6 m6)) := ⟨_, rfl⟩
        have Yc : Hid (Box V7 gc (.bool s6) (.slice (some ⟨g6, 0, none⟩) m6 m6)) := by rw [hV7]; exact Xc.out.put2 _ _
        have Ys : Hid (Box V7 gs (.bool xs) (.slice ps ms ms)) := by rw [hV7]; exact Xs.out.off2 (by have h := HD.out; omega) _ _
        have Yt : Hid (Box V7 gt (.bool xt) (.slice pt mt mt)) := by rw [hV7]; exact Xt.out.off2 (by have h := HD.out; omega) _ _
        have Yy : Hid (Box V7 gy (.bool s) (.slice p m m)) := by rw [hV7]; exact Xy.out.off2 (by have h := HD.out; omega) _ _
        have Yr : Hid (Box V7 gr (.bool false) (.slice none 0 0)) := by rw [hV7]; exact Xr.out.off2 (by have h := HD.out; omega) _ _
        have Yu : Hid (Box V7 gu (.bool false) (.slice none 0 0)) := by rw [hV7]; exact Xu.out.off2 (by have h := HD.out; omega) _ _
        have Ya : Hid (Box V7 ga (.bool s1) (.slice (some ⟨g1, 0, none⟩) m1 m1)) := by rw [hV7]; exact Xa.out.off2 (by have h := HD.out; omega) _ _
        have Yo : Hid (Box V7 go (.bool s3) (.slice (some ⟨g3, 0, none⟩) m3 m3)) := by rw [hV7]; exact Xo.out.off2 (by have h := HD.out; omega) _ _
        have SB' : Hid (SzB (B + 4) V7) := by rw [hV7]; exact (SB.out.put _ _ _).put _ _ _
        have ZS' : Hid (ZF gs gc gt V7 xs ps ms (S)) := by rw [hV7]; exact (ZS.out.set _ _ _ (.inr (.inl rfl))).set _ _ _ (.inr (.inl rfl))
        have ZTT' : Hid (ZF gs gc gt V7 xt pt mt ((t : Int))) := by rw [hV7]; exact (ZTT.out.set _ _ _ (.inr (.inl rfl))).set _ _ _ (.inr (.inl rfl))
        have ZA' : Hid (ZF gs gc gt V7 s1 (some ⟨g1, 0, none⟩) m1 (y * 2 ^ 94)) := by rw [hV7]; exact (ZA.out.set _ _ _ (.inr (.inl rfl))).set _ _ _ (.inr (.inl rfl))
        have ZO' : Hid (ZF gs gc gt V7 s3 (some ⟨g3, 0, none⟩) m3 (((2 ^ N : Nat) : Int))) := by rw [hV7]; exact (ZO.out.set _ _ _ (.inr (.inl rfl))).set _ _ _ (.inr (.inl rfl))
        have ZN6' : Hid (ZF gs gc gt V7 s6 (some ⟨g6, 0, none⟩) m6 (C - (t : Int))) := by rw [hV7]; exact (ZN6.out.set _ _ _ (.inr (.inl rfl))).set _ _ _ (.inr (.inl rfl))
        have hbw2 : Below w.heap.size w V7 := by rw [hV7]; exact bSet (bSet hbw _ _ _ HGc.out) _ _ _ HGc.out
        clear cc0 cc1 fc0 fc1 hnec
        rw [← hV7]
        clear hV7 hbw Xs Xc Xt Xy Xr Xu Xa Xo
        have hbw := hbw2
        clear hbw2
        have Xs := Ys
        clear Ys
        have Xc := Yc
        clear Yc
        have Xt := Yt
        clear Yt
        have Xy := Yy
        clear Yy
        have Xr := Yr
        clear Yr
        have Xu := Yu
        clear Yu
        have Xa := Ya
        clear Ya
        have Xo := Yo
        clear Yo
        clear SB
        have SB := SB'
        clear SB'
        clear ZS
        have ZS := ZS'
        clear ZS'
        clear ZTT
        have ZTT := ZTT'
        clear ZTT'
        clear ZA
        have ZA := ZA'
        clear ZA'
        clear ZO
        have ZO := ZO'
        clear ZO'
        clear ZN6
        have ZN6 := ZN6'
        clear ZN6'
        have HMA : Hid (m1 ≤ 20) := HZFs.out.1
        obtain ⟨V8, hV8⟩ : ∃ W9, W9 = V7.drew := ⟨_, rfl⟩
        have hbd : Below V7.heap.size V7 V8 := by rw [hV8]; exact bDrew1 (Below.refl _ _)
        replace Xs : Hid _ := Xs.out.below hbd
        replace Xc : Hid _ := Xc.out.below hbd
        replace Xt : Hid _ := Xt.out.below hbd
        replace Xy : Hid _ := Xy.out.below hbd
        replace Xr : Hid _ := Xr.out.below hbd
        replace Xu : Hid _ := Xu.out.below hbd
        replace Xa : Hid _ := Xa.out.below hbd
        replace Xo : Hid _ := Xo.out.below hbd
        replace SB : Hid (SzB (B + 4) V8) := SB.out.below hbd
        replace ZS : Hid (ZF gs gc gt V8 xs ps ms (S)) := ZS.out.below hbd
        replace ZTT : Hid (ZF gs gc gt V8 xt pt mt ((t : Int))) := ZTT.out.below hbd
        replace ZA : Hid (ZF gs gc gt V8 s1 (some ⟨g1, 0, none⟩) m1 (y * 2 ^ 94)) := ZA.out.below hbd
        replace ZO : Hid (ZF gs gc gt V8 s3 (some ⟨g3, 0, none⟩) m3 (((2 ^ N : Nat) : Int))) := ZO.out.below hbd
        replace ZN6 : Hid (ZF gs gc gt V8 s6 (some ⟨g6, 0, none⟩) m6 (C - (t : Int))) := ZN6.out.below hbd
        replace hbw := Below.on hbw hbd
        clear hbd
        have HJ : Hid ((fun W' : World => W'.cell? ⟨gt, 0, none⟩ = some (.bool xt) ∧ W'.cell? ⟨gt, 1, none⟩ = some (.slice pt mt mt) ∧ W'.cell? ⟨ga, 0, none⟩ = some (.bool s1) ∧ W'.cell? ⟨ga, 1, none⟩ = some (.slice (some ⟨g1, 0, none⟩) m1 m1)) V8) := ⟨Xt.out.c0, Xt.out.c1, Xa.out.c0, Xa.out.c1⟩
        refine wp_region_L (fun W' => W'.cell? ⟨gt, 0, none⟩ = some (.bool xt) ∧ W'.cell? ⟨gt, 1, none⟩ = some (.slice pt mt mt) ∧ W'.cell? ⟨ga, 0, none⟩ = some (.bool s1) ∧ W'.cell? ⟨ga, 1, none⟩ = some (.slice (some ⟨g1, 0, none⟩) m1 m1)) 5 (by kernel_rfl) ?_
        rw [← hV8]
        clear hV8
        refine wpL_take (i := 0) (v := ?v22x0) rfl (by kernel_rfl) (by kernel_rfl) (by kernel_rfl) (fun _ _ _ h => h) (by kernel_rfl) ?hy22x0 HJ.out ?rest22x0
        case hy22x0 => (intro W' hJ; obtain ⟨j0, j1, j2, j3⟩ := hJ; go_simp; first | done | with_reducible rfl)
        refine wpL_take (i := 1) (v := ?v23x1) rfl (by kernel_rfl) (by kernel_rfl) (by kernel_rfl) (fun _ _ _ h => h) (by kernel_rfl) ?hy23x1 HJ.out ?rest23x1
        case hy23x1 => (intro W' hJ; obtain ⟨j0, j1, j2, j3⟩ := hJ; go_simp; first | done | with_reducible rfl)
        refine wpL_take (i := 3) (v := ?v24x3) rfl (by kernel_rfl) (by kernel_rfl) (by kernel_rfl) (fun _ _ _ h => h) (by kernel_rfl) ?hy24x3 HJ.out ?rest24x3
        case hy24x3 => (intro W' hJ; obtain ⟨j0, j1, j2, j3⟩ := hJ; go_simp; first | done | with_reducible rfl)
        refine wpL_one (i := 2) (by kernel_rfl) rfl (by kernel_rfl) (fun KJ hK => ?_)
        go_simp
        have HSo8 : Hid (B + 4 ≤ V8.heap.size) := SB.out.le
        refine (tabs s1 ZA.out.zr (by have := HMA.out; omega)).mono ?_
        rintro e v8 ⟨v, rfl, hv, hb8⟩
        obtain ⟨s8, g8, m8, rfl, hg8, hz8, hl8⟩ := hv
        try clear hv
        have HN8 : Hid (V8.heap.size ≤ g8) := hg8
        have HB8 : Hid (V8.heap.size ≤ v8.heap.size) := hb8.size
        replace Xs : Hid _ := Xs.out.below hb8
        replace Xc : Hid _ := Xc.out.below hb8
        replace Xt : Hid _ := Xt.out.below hb8
        replace Xy : Hid _ := Xy.out.below hb8
        replace Xr : Hid _ := Xr.out.below hb8
        replace Xu : Hid _ := Xu.out.below hb8
        replace Xa : Hid _ := Xa.out.below hb8
        replace Xo : Hid _ := Xo.out.below hb8
        replace SB : Hid (SzB (B + 4) v8) := SB.out.below hb8
        replace ZS : Hid (ZF gs gc gt v8 xs ps ms (S)) := ZS.out.below hb8
        replace ZTT : Hid (ZF gs gc gt v8 xt pt mt ((t : Int))) := ZTT.out.below hb8
        replace ZA : Hid (ZF gs gc gt v8 s1 (some ⟨g1, 0, none⟩) m1 (y * 2 ^ 94)) := ZA.out.below hb8
        replace ZO : Hid (ZF gs gc gt v8 s3 (some ⟨g3, 0, none⟩) m3 (((2 ^ N : Nat) : Int))) := ZO.out.below hb8
        replace ZN6 : Hid (ZF gs gc gt v8 s6 (some ⟨g6, 0, none⟩) m6 (C - (t : Int))) := ZN6.out.below hb8
        replace hbw := Below.on hbw hb8
        clear hb8
        have Z8 : Hid (ZR v8 s8 (some ⟨g8, 0, none⟩) m8 (((y * 2 ^ 94).natAbs : Int))) := hz8
        have HL8 : Hid (m8 ≤ m1) := hl8
        clear hz8 hl8 hg8
        have ZN8 : Hid (ZF gs gc gt v8 s8 (some ⟨g8, 0, none⟩) m8 (((y * 2 ^ 94).natAbs : Int))) := ZF.new Z8.out (B := B + 4) (by have := HN8.out; have := HSo8.out; omega) (by have := HD.out; omega)
        clear HSo8
        clear Z8
        have HMA8 : Hid (m8 ≤ 20) := by have h1 := HL8.out; have h2 := HMA.out; exact Nat.le_trans h1 h2
        refine hK _ _ ⟨Xt.out.c0, Xt.out.c1, Xa.out.c0, Xa.out.c1⟩ ?_
        clear hK
        refine wpL_one (i := 4) (by kernel_rfl) rfl (by kernel_rfl) (fun KJ hK => ?_)
        go_simp
        have HSo9 : Hid (B + 4 ≤ v8.heap.size) := SB.out.le
        refine (tmul7 xt s8 ZTT.out.zr ZN8.out.zr (by have := HMT.out; omega) (by have := HMA8.out; omega) N (by have := HC.out; omega)).mono ?_
        rintro e v9 ⟨v, rfl, hv, hb9⟩
        have hv9 : rFs ((t : Int) * ((y * 2 ^ 94).natAbs : Int)) N = ((t * A / 2 ^ N : Nat) : Int) := by rw [HC.out.2.2.2.2, Int.natAbs_mul, show ((2 : Int) ^ 94).natAbs = 2 ^ 94 from rfl]; exact rFs_nat _ _ _
        rw [hv9] at hv
        clear hv9
        obtain ⟨s9, g9, m9, rfl, hg9, hz9, hl9⟩ := hv
        try clear hv
        have HN9 : Hid (v8.heap.size ≤ g9) := hg9
        have HB9 : Hid (v8.heap.size ≤ v9.heap.size) := hb9.size
        replace Xs : Hid _ := Xs.out.below hb9
        replace Xc : Hid _ := Xc.out.below hb9
        replace Xt : Hid _ := Xt.out.below hb9
        replace Xy : Hid _ := Xy.out.below hb9
        replace Xr : Hid _ := Xr.out.below hb9
        replace Xu : Hid _ := Xu.out.below hb9
        replace Xa : Hid _ := Xa.out.below hb9
        replace Xo : Hid _ := Xo.out.below hb9
        replace SB : Hid (SzB (B + 4) v9) := SB.out.below hb9
        replace ZS : Hid (ZF gs gc gt v9 xs ps ms (S)) := ZS.out.below hb9
        replace ZTT : Hid (ZF gs gc gt v9 xt pt mt ((t : Int))) := ZTT.out.below hb9
        replace ZA : Hid (ZF gs gc gt v9 s1 (some ⟨g1, 0, none⟩) m1 (y * 2 ^ 94)) := ZA.out.below hb9
        replace ZO : Hid (ZF gs gc gt v9 s3 (some ⟨g3, 0, none⟩) m3 (((2 ^ N : Nat) : Int))) := ZO.out.below hb9
        replace ZN6 : Hid (ZF gs gc gt v9 s6 (some ⟨g6, 0, none⟩) m6 (C - (t : Int))) := ZN6.out.below hb9
        replace ZN8 : Hid (ZF gs gc gt v9 s8 (some ⟨g8, 0, none⟩) m8 (((y * 2 ^ 94).natAbs : Int))) := ZN8.out.below hb9
        replace hbw := Below.on hbw hb9
        clear hb9
        have Z9 : Hid (ZR v9 s9 (some ⟨g9, 0, none⟩) m9 (((t * A / 2 ^ N : Nat) : Int))) := hz9
        have HL9 : Hid (m9 ≤ 5000) := hl9
        clear hz9 hl9 hg9
        have ZN9 : Hid (ZF gs gc gt v9 s9 (some ⟨g9, 0, none⟩) m9 (((t * A / 2 ^ N : Nat) : Int))) := ZF.new Z9.out (B := B + 4) (by have := HN9.out; have := HSo9.out; omega) (by have := HD.out; omega)
        clear HSo9
        clear Z9
        clear ZN8
        have HM9 : Hid (m9 ≤ 20) := zr_len32 ZN9.out.zr (E := E6) HE6.out (by rw [Int.natAbs_natCast]; have h := HT.out; have h2 := HC.out; have h6 := HE6.out; exact Nat.lt_of_lt_of_le (sc_next h.2.1 (sc_half h2.2.2.1 h2.2.2.2.1 h2.2.2.2.2)) (Nat.pow_le_pow_right (by decide) (by omega)))
        refine hK _ _ ⟨Xt.out.c0, Xt.out.c1, Xa.out.c0, Xa.out.c1⟩ ?_
        clear hK
        go_simp
        obtain ⟨ct0, ct1, ft0, ft1⟩ := Xt.out
        have hnet := Xt.out.lt
        refine wpL_last (by kernel_rfl) rfl (by kernel_rfl) (fun KJ hK => ?_)
        go_simp
        refine hK _ _ ?_
        clear hK HJ
        refine wpL_done (by kernel_rfl) ?_ _
        clear ZTT
        obtain ⟨V10, hV10⟩ : ∃ W9, W9 = ((v9.setCell ⟨gt, 0, none⟩ (.bool s9)).setCell ⟨gt, 1, none⟩ (.slice (some ⟨g9, 0, none⟩) m9 m9)) := ⟨_, rfl⟩
        have Yt : Hid (Box V10 gt (.bool s9) (.slice (some ⟨g9, 0, none⟩) m9 m9)) := by rw [hV10]; exact Xt.out.put2 _ _
        have Ys : Hid (Box V10 gs (.bool xs) (.slice ps ms ms)) := by rw [hV10]; exact Xs.out.off2 (by have h := HD.out; omega) _ _
        have Yc : Hid (Box V10 gc (.bool s6) (.slice (some ⟨g6, 0, none⟩) m6 m6)) := by rw [hV10]; exact Xc.out.off2 (by have h := HD.out; omega) _ _
        have Yy : Hid (Box V10 gy (.bool s) (.slice p m m)) := by rw [hV10]; exact Xy.out.off2 (by have h := HD.out; omega) _ _
        have Yr : Hid (Box V10 gr (.bool false) (.slice none 0 0)) := by rw [hV10]; exact Xr.out.off2 (by have h := HD.out; omega) _ _
        have Yu : Hid (Box V10 gu (.bool false) (.slice none 0 0)) := by rw [hV10]; exact Xu.out.off2 (by have h := HD.out; omega) _ _
        have Ya : Hid (Box V10 ga (.bool s1) (.slice (some ⟨g1, 0, none⟩) m1 m1)) := by rw [hV10]; exact Xa.out.off2 (by have h := HD.out; omega) _ _
        have Yo : Hid (Box V10 go (.bool s3) (.slice (some ⟨g3, 0, none⟩) m3 m3)) := by rw [hV10]; exact Xo.out.off2 (by have h := HD.out; omega) _ _
        have SB' : Hid (SzB (B + 4) V10) := by rw [hV10]; exact (SB.out.put _ _ _).put _ _ _
        have ZS' : Hid (ZF gs gc gt V10 xs ps ms (S)) := by rw [hV10]; exact (ZS.out.set _ _ _ (.inr (.inr rfl))).set _ _ _ (.inr (.inr rfl))
        have ZA' : Hid (ZF gs gc gt V10 s1 (some ⟨g1, 0, none⟩) m1 (y * 2 ^ 94)) := by rw [hV10]; exact (ZA.out.set _ _ _ (.inr (.inr rfl))).set _ _ _ (.inr (.inr rfl))
        have ZO' : Hid (ZF gs gc gt V10 s3 (some ⟨g3, 0, none⟩) m3 (((2 ^ N : Nat) : Int))) := by rw [hV10]; exact (ZO.out.set _ _ _ (.inr (.inr rfl))).set _ _ _ (.inr (.inr rfl))
        have ZN6' : Hid (ZF gs gc gt V10 s6 (some ⟨g6, 0, none⟩) m6 (C - (t : Int))) := by rw [hV10]; exact (ZN6.out.set _ _ _ (.inr (.inr rfl))).set _ _ _ (.inr (.inr rfl))
        have ZN9' : Hid (ZF gs gc gt V10 s9 (some ⟨g9, 0, none⟩) m9 (((t * A / 2 ^ N : Nat) : Int))) := by rw [hV10]; exact (ZN9.out.set _ _ _ (.inr (.inr rfl))).set _ _ _ (.inr (.inr rfl))
        have hbw2 : Below w.heap.size w V10 := by rw [hV10]; exact bSet (bSet hbw _ _ _ HGt.out) _ _ _ HGt.out
        clear ct0 ct1 ft0 ft1 hnet
        rw [← hV10]
        clear hV10 hbw Xs Xc Xt Xy Xr Xu Xa Xo
        have hbw := hbw2
        clear hbw2
        have Xs := Ys
        clear Ys
        have Xc := Yc
        clear Yc
        have Xt := Yt
        clear Yt
        have Xy := Yy
        clear Yy
        have Xr := Yr
        clear Yr
        have Xu := Yu
        clear Yu
        have Xa := Ya
        clear Ya
        have Xo := Yo
        clear Yo
        clear SB
        have SB := SB'
        clear SB'
        clear ZS
        have ZS := ZS'
        clear ZS'
        clear ZA
        have ZA := ZA'
        clear ZA'
        clear ZO
        have ZO := ZO'
        clear ZO'
        clear ZN6
        have ZN6 := ZN6'
        clear ZN6'
        clear ZN9
        have ZN9 := ZN9'
        clear ZN9'
        obtain ⟨w11, w12, u32⟩ := HW.out
        obtain ⟨ct0, ct1, ft0, ft1⟩ := Xt.out
        have hnet := Xt.out.lt
        go_wp2_with fail
        clear ct0 ct1 ft0 ft1 hnet
        clear w11 w12 u32
        have RN9 : RN V10 (some ⟨g9, 0, none⟩) m9 (t * A / 2 ^ N) := by have h := ZN9.out.zr.rn (by have := HM9.out; omega); rw [Int.natAbs_natCast] at h; exact h
        refine (rn_divs RN9 i1 (by have := HI1.out; omega) (by have := HI1.out; show _ < 4294967296; omega)).mono ?_
        rintro en v11 ⟨p11, m11, r11, rfl, hn11, hb11⟩
        clear RN9
        replace Xs : Hid _ := Xs.out.below hb11
        replace Xc : Hid _ := Xc.out.below hb11
        replace Xt : Hid _ := Xt.out.below hb11
        replace Xy : Hid _ := Xy.out.below hb11
        replace Xr : Hid _ := Xr.out.below hb11
        replace Xu : Hid _ := Xu.out.below hb11
        replace Xa : Hid _ := Xa.out.below hb11
        replace Xo : Hid _ := Xo.out.below hb11
        replace SB : Hid (SzB (B + 4) v11) := SB.out.below hb11
        replace ZS : Hid (ZF gs gc gt v11 xs ps ms (S)) := ZS.out.below hb11
        replace ZA : Hid (ZF gs gc gt v11 s1 (some ⟨g1, 0, none⟩) m1 (y * 2 ^ 94)) := ZA.out.below hb11
        replace ZO : Hid (ZF gs gc gt v11 s3 (some ⟨g3, 0, none⟩) m3 (((2 ^ N : Nat) : Int))) := ZO.out.below hb11
        replace ZN6 : Hid (ZF gs gc gt v11 s6 (some ⟨g6, 0, none⟩) m6 (C - (t : Int))) := ZN6.out.below hb11
        replace ZN9 : Hid (ZF gs gc gt v11 s9 (some ⟨g9, 0, none⟩) m9 (((t * A / 2 ^ N : Nat) : Int))) := ZN9.out.below hb11
        replace hbw := Below.on hbw hb11
        clear hb11
        clear ZN9
        have HN11 : Hid (RN v11 p11 m11 (t * A / 2 ^ N / i1)) := by first | exact hn11 | exact hn11.1
        clear hn11
        go_wp2_with fail
        obtain ⟨zs, hA, hN⟩ := HN11.out.mem
        have HSo12 : Hid (B + 4 ≤ v11.heap.size) := SB.out.le
        refine (rmk_any false hA hN (by have := HN11.out.len; omega)).mono ?_
        rintro e v12 ⟨v, rfl, hv, hb12⟩
        rw [show iv false (t * A / 2 ^ N / i1) = ((t * A / 2 ^ N / i1 : Nat) : Int) from rfl] at hv
        obtain ⟨s12, g12, m12, rfl, hg12, hz12, hl12⟩ := hv
        try clear hv
        have HN12 : Hid (v11.heap.size ≤ g12) := hg12
        have HB12 : Hid (v11.heap.size ≤ v12.heap.size) := hb12.size
        replace Xs : Hid _ := Xs.out.below hb12
        replace Xc : Hid _ := Xc.out.below hb12
        replace Xt : Hid _ := Xt.out.below hb12
        replace Xy : Hid _ := Xy.out.below hb12
        replace Xr : Hid _ := Xr.out.below hb12
        replace Xu : Hid _ := Xu.out.below hb12
        replace Xa : Hid _ := Xa.out.below hb12
        replace Xo : Hid _ := Xo.out.below hb12
        replace SB : Hid (SzB (B + 4) v12) := SB.out.below hb12
        replace ZS : Hid (ZF gs gc gt v12 xs ps ms (S)) := ZS.out.below hb12
        replace ZA : Hid (ZF gs gc gt v12 s1 (some ⟨g1, 0, none⟩) m1 (y * 2 ^ 94)) := ZA.out.below hb12
        replace ZO : Hid (ZF gs gc gt v12 s3 (some ⟨g3, 0, none⟩) m3 (((2 ^ N : Nat) : Int))) := ZO.out.below hb12
        replace ZN6 : Hid (ZF gs gc gt v12 s6 (some ⟨g6, 0, none⟩) m6 (C - (t : Int))) := ZN6.out.below hb12
        replace HN11 : Hid (RN v12 p11 m11 (t * A / 2 ^ N / i1)) := HN11.out.below hb12
        replace hbw := Below.on hbw hb12
        clear hb12
        have Z12 : Hid (ZR v12 s12 (some ⟨g12, 0, none⟩) m12 (((t * A / 2 ^ N / i1 : Nat) : Int))) := hz12
        have HL12 : Hid (m12 ≤ m11) := hl12
        clear hz12 hl12 hg12
        have ZN12 : Hid (ZF gs gc gt v12 s12 (some ⟨g12, 0, none⟩) m12 (((t * A / 2 ^ N / i1 : Nat) : Int))) := ZF.new Z12.out (B := B + 4) (by have := HN12.out; have := HSo12.out; omega) (by have := HD.out; omega)
        clear HSo12
        clear Z12
        clear hA hN
        clear HN11
        obtain ⟨w11, w12, u32⟩ := HW.out
        obtain ⟨ct0, ct1, ft0, ft1⟩ := Xt.out
        have hnet := Xt.out.lt
        go_wp2_with fail
        obtain ⟨V13, hV13⟩ : ∃ W9, W9 = ((v12.setCell ⟨gt, 0, none⟩ (.bool s12)).setCell ⟨gt, 1, none⟩ (.slice (some ⟨g12, 0, none⟩) m12 m12)) := ⟨_, rfl⟩
        have Yt : Hid (Box V13 gt (.bool s12) (.slice (some ⟨g12, 0, none⟩) m12 m12)) := by rw [hV13]; exact Xt.out.put2 _ _
        have Ys : Hid (Box V13 gs (.bool xs) (.slice ps ms ms)) := by rw [hV13]; exact Xs.out.off2 (by have h := HD.out; omega) _ _
        have Yc : Hid (Box V13 gc (.bool s6) (.slice (some ⟨g6, 0, none⟩) m6 m6)) := by rw [hV13]; exact Xc.out.off2 (by have h := HD.out; omega) _ _
        have Yy : Hid (Box V13 gy (.bool s) (.slice p m m)) := by rw [hV13]; exact Xy.out.off2 (by have h := HD.out; omega) _ _
        have Yr : Hid (Box V13 gr (.bool false) (.slice none 0 0)) := by rw [hV13]; exact Xr.out.off2 (by have h := HD.out; omega) _ _
        have Yu : Hid (Box V13 gu (.bool false) (.slice none 0 0)) := by rw [hV13]; exact Xu.out.off2 (by have h := HD.out; omega) _ _
        have Ya : Hid (Box V13 ga (.bool s1) (.slice (some ⟨g1, 0, none⟩) m1 m1)) := by rw [hV13]; exact Xa.out.off2 (by have h := HD.out; omega) _ _
        have Yo : Hid (Box V13 go (.bool s3) (.slice (some ⟨g3, 0, none⟩) m3 m3)) := by rw [hV13]; exact Xo.out.off2 (by have h := HD.out; omega) _ _
        have SB' : Hid (SzB (B + 4) V13) := by rw [hV13]; exact (SB.out.put _ _ _).put _ _ _
        have ZS' : Hid (ZF gs gc gt V13 xs ps ms (S)) := by rw [hV13]; exact (ZS.out.set _ _ _ (.inr (.inr rfl))).set _ _ _ (.inr (.inr rfl))
        have ZA' : Hid (ZF gs gc gt V13 s1 (some ⟨g1, 0, none⟩) m1 (y * 2 ^ 94)) := by rw [hV13]; exact (ZA.out.set _ _ _ (.inr (.inr rfl))).set _ _ _ (.inr (.inr rfl))
        have ZO' : Hid (ZF gs gc gt V13 s3 (some ⟨g3, 0, none⟩) m3 (((2 ^ N : Nat) : Int))) := by rw [hV13]; exact (ZO.out.set _ _ _ (.inr (.inr rfl))).set _ _ _ (.inr (.inr rfl))
        have ZN6' : Hid (ZF gs gc gt V13 s6 (some ⟨g6, 0, none⟩) m6 (C - (t : Int))) := by rw [hV13]; exact (ZN6.out.set _ _ _ (.inr (.inr rfl))).set _ _ _ (.inr (.inr rfl))
        have ZN12' : Hid (ZF gs gc gt V13 s12 (some ⟨g12, 0, none⟩) m12 (((t * A / 2 ^ N / i1 : Nat) : Int))) := by rw [hV13]; exact (ZN12.out.set _ _ _ (.inr (.inr rfl))).set _ _ _ (.inr (.inr rfl))
        have hbw2 : Below w.heap.size w V13 := by rw [hV13]; exact bSet (bSet hbw _ _ _ HGt.out) _ _ _ HGt.out
        clear ct0 ct1 ft0 ft1 hnet
        rw [← hV13]
        clear hV13 hbw Xs Xc Xt Xy Xr Xu Xa Xo
        have hbw := hbw2
        clear hbw2
        have Xs := Ys
        clear Ys
        have Xc := Yc
        clear Yc
        have Xt := Yt
        clear Yt
        have Xy := Yy
        clear Yy
        have Xr := Yr
        clear Yr
        have Xu := Yu
        clear Yu
        have Xa := Ya
        clear Ya
        have Xo := Yo
        clear Yo
        clear SB
        have SB := SB'
        clear SB'
        clear ZS
        have ZS := ZS'
        clear ZS'
        clear ZA
        have ZA := ZA'
        clear ZA'
        clear ZO
        have ZO := ZO'
        clear ZO'
        clear ZN6
        have ZN6 := ZN6'
        clear ZN6'
        clear ZN12
        have ZN12 := ZN12'
        clear ZN12'
        clear w11 w12 u32
        have hT := HT.out
        rw [show scL A N (gj + 1) i t S C = scL A N gj (i + 1) (t * A / 2 ^ N / (i + 1)) (if i % 2 = 0 then S else if i % 4 = 3 then S - (t : Int) else S + (t : Int)) (if i % 2 = 0 then (if i % 4 = 2 then C - (t : Int) else C + (t : Int)) else C) from if_neg hT.1] at hT
        have hi := HI1.out.1
        subst hi
        have hsc2 : scL A N gj (i + 1) (t * A / 2 ^ N / (i + 1)) S (C - (t : Int)) = (S1, C1) := by
          have h := hT.2.2.2
          rw [if_pos (show i % 2 = 0 by have := H4.out; omega), if_pos (show i % 2 = 0 by have := H4.out; omega), if_pos (show i % 4 = 2 by have := H4.out; omega)] at h
          exact h
        go_roundg gj
        case measure => omega
        case rel =>
          exact ⟨i + 1, t * A / 2 ^ N / (i + 1), S, C - (t : Int), xs, s6, s12, ps, (some ⟨g6, 0, none⟩), (some ⟨g12, 0, none⟩), ms, m6, m12, by go_num, by omega, Nat.lt_of_le_of_lt (Nat.div_le_self _ _) (sc_next hT.2.1 (sc_half HC.out.2.2.1 HC.out.2.2.2.1 HC.out.2.2.2.2)), hsc2, by have := HI.out; have := HL6.out; have := HMT.out; omega, by have := HI.out; have := HL6.out; have := HMT.out; omega, Xs.out, Xc.out, Xt.out, ZS.out, ZN6.out, ZN12.out, Xy.out, Xr.out, Xu.out, Xa.out, Xo.out, ZA.out, ZO.out, SB.out.le, hbw⟩
      · have i2 : (i : Int).tmod 2 = 1 := by rw [Int.tmod_eq_emod_of_nonneg (by omega)]; omega
        have i4 : (i : Int).tmod 4 = 3 := by rw [Int.tmod_eq_emod_of_nonneg (by omega)]; omega
        have i5 : (i : Int) % 2 = 1 := by omega
        have i6 : (i : Int) % 4 = 3 := by omega
        obtain ⟨cs0, cs1, fs0, fs1⟩ := Xs.out
        have hnes := Xs.out.lt
        obtain ⟨ct0, ct1, ft0, ft1⟩ := Xt.out
        have hnet := Xt.out.lt
        go_wp2_with fail
        clear cs0 cs1 fs0 fs1 hnes
        clear ct0 ct1 ft0 ft1 hnet
        have HMT : Hid (mt ≤ 20) := zr_len32 ZTT.out.zr (E := E6) HE6.out (by rw [Int.natAbs_natCast]; have h := HT.out; have h2 := HC.out; have h6 := HE6.out; exact Nat.lt_of_lt_of_le h.2.1 (Nat.pow_le_pow_right (by decide) (by omega)))
        have HSo6 : Hid (B + 4 ≤ v5.heap.size) := SB.out.le
        refine (tturn_s xs xt ZS.out.zr ZTT.out.zr (by have := HI.out; have := HT.out; have := HC.out; omega) (by have := HMT.out; omega)).mono ?_
        rintro e v6 ⟨v, rfl, hv, hb6⟩
        obtain ⟨s6, g6, m6, rfl, hg6, hz6, hl6⟩ := hv
        try clear hv
        have HN6 : Hid (v5.heap.size ≤ g6) := hg6
        have HB6 : Hid (v5.heap.size ≤ v6.heap.size) := hb6.size
        replace Xs : Hid _ := Xs.out.below hb6
        replace Xc : Hid _ := Xc.out.below hb6
        replace Xt : Hid _ := Xt.out.below hb6
        replace Xy : Hid _ := Xy.out.below hb6
        replace Xr : Hid _ := Xr.out.below hb6
        replace Xu : Hid _ := Xu.out.below hb6
        replace Xa : Hid _ := Xa.out.below hb6
        replace Xo : Hid _ := Xo.out.below hb6
        replace SB : Hid (SzB (B + 4) v6) := SB.out.below hb6
        replace ZS : Hid (ZF gs gc gt v6 xs ps ms (S)) := ZS.out.below hb6
        replace ZC : Hid (ZF gs gc gt v6 xc pc mc (C)) := ZC.out.below hb6
        replace ZTT : Hid (ZF gs gc gt v6 xt pt mt ((t : Int))) := ZTT.out.below hb6
        replace ZA : Hid (ZF gs gc gt v6 s1 (some ⟨g1, 0, none⟩) m1 (y * 2 ^ 94)) := ZA.out.below hb6
        replace ZO : Hid (ZF gs gc gt v6 s3 (some ⟨g3, 0, none⟩) m3 (((2 ^ N : Nat) : Int))) := ZO.out.below hb6
        replace hbw := Below.on hbw hb6
        clear hb6
        have Z6 : Hid (ZR v6 s6 (some ⟨g6, 0, none⟩) m6 (S - (t : Int))) := hz6
        have HL6 : Hid (m6 ≤ max ms mt + 1) := hl6
        clear hz6 hl6 hg6
        have ZN6 : Hid (ZF gs gc gt v6 s6 (some ⟨g6, 0, none⟩) m6 (S - (t : Int))) := ZF.new Z6.out (B := B + 4) (by have := HN6.out; have := HSo6.out; omega) (by have := HD.out; omega)
        clear HSo6
        clear Z6
        have H4 := Hid.mk9 h4
        clear h4
        clear ZS
        have ne0 : gs ≠ gt := by have h := HD.out; omega
        have ne1 : gt ≠ gs := by have h := HD.out; omega
        have ne2 : gs ≠ ga := by have h := HD.out; omega
        have ne3 : ga ≠ gs := by have h := HD.out; omega
        obtain ⟨cs0, cs1, fs0, fs1⟩ := Xs.out
        have hnes := Xs.out.lt
        obtain ⟨ct0, ct1, ft0, ft1⟩ := Xt.out
        have hnet := Xt.out.lt
        obtain ⟨ca0, ca1, fa0, fa1⟩ := Xa.out
        have hnea := Xa.out.lt
        go_wp2_with fail
        clear ct0 ct1 ft0 ft1 hnet
        clear ca0 ca1 fa0 fa1 hnea
        clear ne0 ne1 ne2 ne3
        obtain ⟨V7, hV7⟩ : ∃ W9, W9 = ((v6.setCell ⟨gs, 0, none⟩ (.bool s6)).setCell ⟨gs, 1, none⟩ (.slice (some ⟨g6, 0, none⟩) m6 m6)) := ⟨_, rfl⟩
        have Ys : Hid (Box V7 gs (.bool s6) (.slice (some ⟨g6, 0, none⟩) m6 m6)) := by rw [hV7]; exact Xs.out.put2 _ _
        have Yc : Hid (Box V7 gc (.bool xc) (.slice pc mc mc)) := by rw [hV7]; exact Xc.out.off2 (by have h := HD.out; omega) _ _
        have Yt : Hid (Box V7 gt (.bool xt) (.slice pt mt mt)) := by rw [hV7]; exact Xt.out.off2 (by have h := HD.out; omega) _ _
        have Yy : Hid (Box V7 gy (.bool s) (.slice p m m)) := by rw [hV7]; exact Xy.out.off2 (by have h := HD.out; omega) _ _
        have Yr : Hid (Box V7 gr (.bool false) (.slice none 0 0)) := by rw [hV7]; exact Xr.out.off2 (by have h := HD.out; omega) _ _
        have Yu : Hid (Box V7 gu (.bool false) (.slice none 0 0)) := by rw [hV7]; exact Xu.out.off2 (by have h := HD.out; omega) _ _
        have Ya : Hid (Box V7 ga (.bool s1) (.slice (some ⟨g1, 0, none⟩) m1 m1)) := by rw [hV7]; exact Xa.out.off2 (by have h := HD.out; omega) _ _
        have Yo : Hid (Box V7 go (.bool s3) (.slice (some ⟨g3, 0, none⟩) m3 m3)) := by rw [hV7]; exact Xo.out.off2 (by have h := HD.out; omega) _ _
        have SB' : Hid (SzB (B + 4) V7) := by rw [hV7]; exact (SB.out.put _ _ _).put _ _ _
        have ZC' : Hid (ZF gs gc gt V7 xc pc mc (C)) := by rw [hV7]; exact (ZC.out.set _ _ _ (.inl rfl)).set _ _ _ (.inl rfl)
        have ZTT' : Hid (ZF gs gc gt V7 xt pt mt ((t : Int))) := by rw [hV7]; exact (ZTT.out.set _ _ _ (.inl rfl)).set _ _ _ (.inl rfl)
        have ZA' : Hid (ZF gs gc gt V7 s1 (some ⟨g1, 0, none⟩) m1 (y * 2 ^ 94)) := by rw [hV7]; exact (ZA.out.set _ _ _ (.inl rfl)).set _ _ _ (.inl rfl)
        have ZO' : Hid (ZF gs gc gt V7 s3 (some ⟨g3, 0, none⟩) m3 (((2 ^ N : Nat) : Int))) := by rw [hV7]; exact (ZO.out.set _ _ _ (.inl rfl)).set _ _ _ (.inl rfl)
        have ZN6' : Hid (ZF gs gc gt V7 s6 (some ⟨g6, 0, none⟩) m6 (S - (t : Int))) := by rw [hV7]; exact (ZN6.out.set _ _ _ (.inl rfl)).set _ _ _ (.inl rfl)
        have hbw2 : Below w.heap.size w V7 := by rw [hV7]; exact bSet (bSet hbw _ _ _ HGs.out) _ _ _ HGs.out
        clear cs0 cs1 fs0 fs1 hnes
        rw [← hV7]
        clear hV7 hbw Xs Xc Xt Xy Xr Xu Xa Xo
        have hbw := hbw2
        clear hbw2
        have Xs := Ys
        clear Ys
        have Xc := Yc
        clear Yc
        have Xt := Yt
        clear Yt
        have Xy := Yy
        clear Yy
        have Xr := Yr
        clear Yr
        have Xu := Yu
        clear Yu
        have Xa := Ya
        clear Ya
        have Xo := Yo
        clear Yo
        clear SB
        have SB := SB'
        clear SB'
        clear ZC
        have ZC := ZC'
        clear ZC'
        clear ZTT
        have ZTT := ZTT'
        clear ZTT'
        clear ZA
        have ZA := ZA'
        clear ZA'
        clear ZO
        have ZO := ZO'
        clear ZO'
        clear ZN6
        have ZN6 := ZN6'
        clear ZN6'
        have HMA : Hid (m1 ≤ 20) := HZFs.out.1
        obtain ⟨V8, hV8⟩ : ∃ W9, W9 = V7.drew := ⟨_, rfl⟩
        have hbd : Below V7.heap.size V7 V8 := by rw [hV8]; exact bDrew1 (Below.refl _ _)
        replace Xs : Hid _ := Xs.out.below hbd
        replace Xc : Hid _ := Xc.out.below hbd
        replace Xt : Hid _ := Xt.out.below hbd
        replace Xy : Hid _ := Xy.out.below hbd
        replace Xr : Hid _ := Xr.out.below hbd
        replace Xu : Hid _ := Xu.out.below hbd
        replace Xa : Hid _ := Xa.out.below hbd
        replace Xo : Hid _ := Xo.out.below hbd
        replace SB : Hid (SzB (B + 4) V8) := SB.out.below hbd
        replace ZC : Hid (ZF gs gc gt V8 xc pc mc (C)) := ZC.out.below hbd
        replace ZTT : Hid (ZF gs gc gt V8 xt pt mt ((t : Int))) := ZTT.out.below hbd
        replace ZA : Hid (ZF gs gc gt V8 s1 (some ⟨g1, 0, none⟩) m1 (y * 2 ^ 94)) := ZA.out.below hbd
        replace ZO : Hid (ZF gs gc gt V8 s3 (some ⟨g3, 0, none⟩) m3 (((2 ^ N : Nat) : Int))) := ZO.out.below hbd
        replace ZN6 : Hid (ZF gs gc gt V8 s6 (some ⟨g6, 0, none⟩) m6 (S - (t : Int))) := ZN6.out.below hbd
        replace hbw := Below.on hbw hbd
        clear hbd
        have HJ : Hid ((fun W' : World => W'.cell? ⟨gt, 0, none⟩ = some (.bool xt) ∧ W'.cell? ⟨gt, 1, none⟩ = some (.slice pt mt mt) ∧ W'.cell? ⟨ga, 0, none⟩ = some (.bool s1) ∧ W'.cell? ⟨ga, 1, none⟩ = some (.slice (some ⟨g1, 0, none⟩) m1 m1)) V8) := ⟨Xt.out.c0, Xt.out.c1, Xa.out.c0, Xa.out.c1⟩
        refine wp_region_L (fun W' => W'.cell? ⟨gt, 0, none⟩ = some (.bool xt) ∧ W'.cell? ⟨gt, 1, none⟩ = some (.slice pt mt mt) ∧ W'.cell? ⟨ga, 0, none⟩ = some (.bool s1) ∧ W'.cell? ⟨ga, 1, none⟩ = some (.slice (some ⟨g1, 0, none⟩) m1 m1)) 5 (by kernel_rfl) ?_
        rw [← hV8]
        clear hV8
        refine wpL_take (i := 0) (v := ?v25x0) rfl (by kernel_rfl) (by kernel_rfl) (by kernel_rfl) (fun _ _ _ h => h) (by kernel_rfl) ?hy25x0 HJ.out ?rest25x0
        case hy25x0 => (intro W' hJ; obtain ⟨j0, j1, j2, j3⟩ := hJ; go_simp; first | done | with_reducible rfl)
        refine wpL_take (i := 1) (v := ?v26x1) rfl (by kernel_rfl) (by kernel_rfl) (by kernel_rfl) (fun _ _ _ h => h) (by kernel_rfl) ?hy26x1 HJ.out ?rest26x1
        case hy26x1 => (intro W' hJ; obtain ⟨j0, j1, j2, j3⟩ := hJ; go_simp; first | done | with_reducible rfl)
        refine wpL_take (i := 3) (v := ?v27x3) rfl (by kernel_rfl) (by kernel_rfl) (by kernel_rfl) (fun _ _ _ h => h) (by kernel_rfl) ?hy27x3 HJ.out ?rest27x3
        case hy27x3 => (intro W' hJ; obtain ⟨j0, j1, j2, j3⟩ := hJ; go_simp; first | done | with_reducible rfl)
        refine wpL_one (i := 2) (by kernel_rfl) rfl (by kernel_rfl) (fun KJ hK => ?_)
        go_simp
        have HSo8 : Hid (B + 4 ≤ V8.heap.size) := SB.out.le
        refine (tabs s1 ZA.out.zr (by have := HMA.out; omega)).mono ?_
        rintro e v8 ⟨v, rfl, hv, hb8⟩
        obtain ⟨s8, g8, m8, rfl, hg8, hz8, hl8⟩ := hv
        try clear hv
        have HN8 : Hid (V8.heap.size ≤ g8) := hg8
        have HB8 : Hid (V8.heap.size ≤ v8.heap.size) := hb8.size
        replace Xs : Hid _ := Xs.out.below hb8
        replace Xc : Hid _ := Xc.out.below hb8
        replace Xt : Hid _ := Xt.out.below hb8
        replace Xy : Hid _ := Xy.out.below hb8
        replace Xr : Hid _ := Xr.out.below hb8
        replace Xu : Hid _ := Xu.out.below hb8
        replace Xa : Hid _ := Xa.out.below hb8
        replace Xo : Hid _ := Xo.out.below hb8
        replace SB : Hid (SzB (B + 4) v8) := SB.out.below hb8
        replace ZC : Hid (ZF gs gc gt v8 xc pc mc (C)) := ZC.out.below hb8
        replace ZTT : Hid (ZF gs gc gt v8 xt pt mt ((t : Int))) := ZTT.out.below hb8
        replace ZA : Hid (ZF gs gc gt v8 s1 (some ⟨g1, 0, none⟩) m1 (y * 2 ^ 94)) := ZA.out.below hb8
        replace ZO : Hid (ZF gs gc gt v8 s3 (some ⟨g3, 0, none⟩) m3 (((2 ^ N : Nat) : Int))) := ZO.out.below hb8
        replace ZN6 : Hid (ZF gs gc gt v8 s6 (some ⟨g6, 0, none⟩) m6 (S - (t : Int))) := ZN6.out.below hb8
        replace hbw := Below.on hbw hb8
        clear hb8
        have Z8 : Hid (ZR v8 s8 (some ⟨g8, 0, none⟩) m8 (((y * 2 ^ 94).natAbs : Int))) := hz8
        have HL8 : Hid (m8 ≤ m1) := hl8
        clear hz8 hl8 hg8
        have ZN8 : Hid (ZF gs gc gt v8 s8 (some ⟨g8, 0, none⟩) m8 (((y * 2 ^ 94).natAbs : Int))) := ZF.new Z8.out (B := B + 4) (by have := HN8.out; have := HSo8.out; omega) (by have := HD.out; omega)
        clear HSo8
        clear Z8
        have HMA8 : Hid (m8 ≤ 20) := by have h1 := HL8.out; have h2 := HMA.out; exact Nat.le_trans h1 h2
        refine hK _ _ ⟨Xt.out.c0, Xt.out.c1, Xa.out.c0, Xa.out.c1⟩ ?_
        clear hK
        refine wpL_one (i := 4) (by kernel_rfl) rfl (by kernel_rfl) (fun KJ hK => ?_)
        go_simp
        have HSo9 : Hid (B + 4 ≤ v8.heap.size) := SB.out.le
        refine (tmul7 xt s8 ZTT.out.zr ZN8.out.zr (by have := HMT.out; omega) (by have := HMA8.out; omega) N (by have := HC.out; omega)).mono ?_
        rintro e v9 ⟨v, rfl, hv, hb9⟩
        have hv9 : rFs ((t : Int) * ((y * 2 ^ 94).natAbs : Int)) N = ((t * A / 2 ^ N : Nat) : Int) := by rw [HC.out.2.2.2.2, Int.natAbs_mul, show ((2 : Int) ^ 94).natAbs = 2 ^ 94 from rfl]; exact rFs_nat _ _ _
        rw [hv9] at hv
        clear hv9
        obtain ⟨s9, g9, m9, rfl, hg9, hz9, hl9⟩ := hv
        try clear hv
        have HN9 : Hid (v8.heap.size ≤ g9) := hg9
        have HB9 : Hid (v8.heap.size ≤ v9.heap.size) := hb9.size
        replace Xs : Hid _ := Xs.out.below hb9
        replace Xc : Hid _ := Xc.out.below hb9
        replace Xt : Hid _ := Xt.out.below hb9
        replace Xy : Hid _ := Xy.out.below hb9
        replace Xr : Hid _ := Xr.out.below hb9
        replace Xu : Hid _ := Xu.out.below hb9
        replace Xa : Hid _ := Xa.out.below hb9
        replace Xo : Hid _ := Xo.out.below hb9
        replace SB : Hid (SzB (B + 4) v9) := SB.out.below hb9
        replace ZC : Hid (ZF gs gc gt v9 xc pc mc (C)) := ZC.out.below hb9
        replace ZTT : Hid (ZF gs gc gt v9 xt pt mt ((t : Int))) := ZTT.out.below hb9
        replace ZA : Hid (ZF gs gc gt v9 s1 (some ⟨g1, 0, none⟩) m1 (y * 2 ^ 94)) := ZA.out.below hb9
        replace ZO : Hid (ZF gs gc gt v9 s3 (some ⟨g3, 0, none⟩) m3 (((2 ^ N : Nat) : Int))) := ZO.out.below hb9
        replace ZN6 : Hid (ZF gs gc gt v9 s6 (some ⟨g6, 0, none⟩) m6 (S - (t : Int))) := ZN6.out.below hb9
        replace ZN8 : Hid (ZF gs gc gt v9 s8 (some ⟨g8, 0, none⟩) m8 (((y * 2 ^ 94).natAbs : Int))) := ZN8.out.below hb9
        replace hbw := Below.on hbw hb9
        clear hb9
        have Z9 : Hid (ZR v9 s9 (some ⟨g9, 0, none⟩) m9 (((t * A / 2 ^ N : Nat) : Int))) := hz9
        have HL9 : Hid (m9 ≤ 5000) := hl9
        clear hz9 hl9 hg9
        have ZN9 : Hid (ZF gs gc gt v9 s9 (some ⟨g9, 0, none⟩) m9 (((t * A / 2 ^ N : Nat) : Int))) := ZF.new Z9.out (B := B + 4) (by have := HN9.out; have := HSo9.out; omega) (by have := HD.out; omega)
        clear HSo9
        clear Z9
        clear ZN8
        have HM9 : Hid (m9 ≤ 20) := zr_len32 ZN9.out.zr (E := E6) HE6.out (by rw [Int.natAbs_natCast]; have h := HT.out; have h2 := HC.out; have h6 := HE6.out; exact Nat.lt_of_lt_of_le (sc_next h.2.1 (sc_half h2.2.2.1 h2.2.2.2.1 h2.2.2.2.2)) (Nat.pow_le_pow_right (by decide) (by omega)))
        refine hK _ _ ⟨Xt.out.c0, Xt.out.c1, Xa.out.c0, Xa.out.c1⟩ ?_
        clear hK
        go_simp
        obtain ⟨ct0, ct1, ft0, ft1⟩ := Xt.out
        have hnet := Xt.out.lt
        refine wpL_last (by kernel_rfl) rfl (by kernel_rfl) (fun KJ hK => ?_)
        go_simp
        refine hK _ _ ?_
        clear hK HJ
        refine wpL_done (by kernel_rfl) ?_ _
        clear ZTT
        obtain ⟨V10, hV10⟩ : ∃ W9, W9 = ((v9.setCell ⟨gt, 0, none⟩ (.bool s9)).setCell ⟨gt, 1, none⟩ (.slice (some ⟨g9, 0, none⟩) m9 m9)) := ⟨_, rfl⟩
        have Yt : Hid (Box V10 gt (.bool s9) (.slice (some ⟨g9, 0, none⟩) m9 m9)) := by rw [hV10]; exact Xt.out.put2 _ _
        have Ys : Hid (Box V10 gs (.bool s6) (.slice (some ⟨g6, 0, none⟩) m6 m6)) := by rw [hV10]; exact Xs.out.off2 (by have h := HD.out; omega) _ _
        have Yc : Hid (Box V10 gc (.bool xc) (.slice pc mc mc)) := by rw [hV10]; exact Xc.out.off2 (by have h := HD.out; omega) _ _
        have Yy : Hid (Box V10 gy (.bool s) (.slice p m m)) := by rw [hV10]; exact Xy.out.off2 (by have h := HD.out; omega) _ _
        have Yr : Hid (Box V10 gr (.bool false) (.slice none 0 0)) := by rw [hV10]; exact Xr.out.off2 (by have h := HD.out; omega) _ _
        have Yu : Hid (Box V10 gu (.bool false) (.slice none 0 0)) := by rw [hV10]; exact Xu.out.off2 (by have h := HD.out; omega) _ _
        have Ya : Hid (Box V10 ga (.bool s1) (.slice (some ⟨g1, 0, none⟩) m1 m1)) := by rw [hV10]; exact Xa.out.off2 (by have h := HD.out; omega) _ _
        have Yo : Hid (Box V10 go (.bool s3) (.slice (some ⟨g3, 0, none⟩) m3 m3)) := by rw [hV10]; exact Xo.out.off2 (by have h := HD.out; omega) _ _
        have SB' : Hid (SzB (B + 4) V10) := by rw [hV10]; exact (SB.out.put _ _ _).put _ _ _
        have ZC' : Hid (ZF gs gc gt V10 xc pc mc (C)) := by rw [hV10]; exact (ZC.out.set _ _ _ (.inr (.inr rfl))).set _ _ _ (.inr (.inr rfl))
        have ZA' : Hid (ZF gs gc gt V10 s1 (some ⟨g1, 0, none⟩) m1 (y * 2 ^ 94)) := by rw [hV10]; exact (ZA.out.set _ _ _ (.inr (.inr rfl))).set _ _ _ (.inr (.inr rfl))
        have ZO' : Hid (ZF gs gc gt V10 s3 (some ⟨g3, 0, none⟩) m3 (((2 ^ N : Nat) : Int))) := by rw [hV10]; exact (ZO.out.set _ _ _ (.inr (.inr rfl))).set _ _ _ (.inr (.inr rfl))
        have ZN6' : Hid (ZF gs gc gt V10 s6 (some ⟨g6, 0, none⟩) m6 (S - (t : Int))) := by rw [hV10]; exact (ZN6.out.set _ _ _ (.inr (.inr rfl))).set _ _ _ (.inr (.inr rfl))
        have ZN9' : Hid (ZF gs gc gt V10 s9 (some ⟨g9, 0, none⟩) m9 (((t * A / 2 ^ N : Nat) : Int))) := by rw [hV10]; exact (ZN9.out.set _ _ _ (.inr (.inr rfl))).set _ _ _ (.inr (.inr rfl))
        have hbw2 : Below w.heap.size w V10 := by rw [hV10]; exact bSet (bSet hbw _ _ _ HGt.out) _ _ _ HGt.out
        clear ct0 ct1 ft0 ft1 hnet
        rw [← hV10]
        clear hV10 hbw Xs Xc Xt Xy Xr Xu Xa Xo
        have hbw := hbw2
        clear hbw2
        have Xs := Ys
        clear Ys
        have Xc := Yc
        clear Yc
        have Xt := Yt
        clear Yt
        have Xy := Yy
        clear Yy
        have Xr := Yr
        clear Yr
        have Xu := Yu
        clear Yu
        have Xa := Ya
        clear Ya
        have Xo := Yo
        clear Yo
        clear SB
        have SB := SB'
        clear SB'
        clear ZC
        have ZC := ZC'
        clear ZC'
        clear ZA
        have ZA := ZA'
        clear ZA'
        clear ZO
        have ZO := ZO'
        clear ZO'
        clear ZN6
        have ZN6 := ZN6'
        clear ZN6'
        clear ZN9
        have ZN9 := ZN9'
        clear ZN9'
        obtain ⟨w11, w12, u32⟩ := HW.out
        obtain ⟨ct0, ct1, ft0, ft1⟩ := Xt.out
        have hnet := Xt.out.lt
        go_wp2_with fail
        clear ct0 ct1 ft0 ft1 hnet
        clear w11 w12 u32
        have RN9 : RN V10 (some ⟨g9, 0, none⟩) m9 (t * A / 2 ^ N) := by have h := ZN9.out.zr.rn (by have := HM9.out; omega); rw [Int.natAbs_natCast] at h; exact h
        refine (rn_divs RN9 i1 (by have := HI1.out; omega) (by have := HI1.out; show _ < 4294967296; omega)).mono ?_
        rintro en v11 ⟨p11, m11, r11, rfl, hn11, hb11⟩
        clear RN9
        replace Xs : Hid _ := Xs.out.below hb11
        replace Xc : Hid _ := Xc.out.below hb11
        replace Xt : Hid _ := Xt.out.below hb11
        replace Xy : Hid _ := Xy.out.below hb11
        replace Xr : Hid _ := Xr.out.below hb11
        replace Xu : Hid _ := Xu.out.below hb11
        replace Xa : Hid _ := Xa.out.below hb11
        replace Xo : Hid _ := Xo.out.below hb11
        replace SB : Hid (SzB (B + 4) v11) := SB.out.below hb11
        replace ZC : Hid (ZF gs gc gt v11 xc pc mc (C)) := ZC.out.below hb11
        replace ZA : Hid (ZF gs gc gt v11 s1 (some ⟨g1, 0, none⟩) m1 (y * 2 ^ 94)) := ZA.out.below hb11
        replace ZO : Hid (ZF gs gc gt v11 s3 (some ⟨g3, 0, none⟩) m3 (((2 ^ N : Nat) : Int))) := ZO.out.below hb11
        replace ZN6 : Hid (ZF gs gc gt v11 s6 (some ⟨g6, 0, none⟩) m6 (S - (t : Int))) := ZN6.out.below hb11
        replace ZN9 : Hid (ZF gs gc gt v11 s9 (some ⟨g9, 0, none⟩) m9 (((t * A / 2 ^ N : Nat) : Int))) := ZN9.out.below hb11
        replace hbw := Below.on hbw hb11
        clear hb11
        clear ZN9
        have HN11 : Hid (RN v11 p11 m11 (t * A / 2 ^ N / i1)) := by first | exact hn11 | exact hn11.1
        clear hn11
        go_wp2_with fail
        obtain ⟨zs, hA, hN⟩ := HN11.out.mem
        have HSo12 : Hid (B + 4 ≤ v11.heap.size) := SB.out.le
        refine (rmk_any false hA hN (by have := HN11.out.len; omega)).mono ?_
        rintro e v12 ⟨v, rfl, hv, hb12⟩
        rw [show iv false (t * A / 2 ^ N / i1) = ((t * A / 2 ^ N / i1 : Nat) : Int) from rfl] at hv
        obtain ⟨s12, g12, m12, rfl, hg12, hz12, hl12⟩ := hv
        try clear hv
        have HN12 : Hid (v11.heap.size ≤ g12) := hg12
        have HB12 : Hid (v11.heap.size ≤ v12.heap.size) := hb12.size
        replace Xs : Hid _ := Xs.out.below hb12
        replace Xc : Hid _ := Xc.out.below hb12
        replace Xt : Hid _ := Xt.out.below hb12
        replace Xy : Hid _ := Xy.out.below hb12
        replace Xr : Hid _ := Xr.out.below hb12
        replace Xu : Hid _ := Xu.out.below hb12
        replace Xa : Hid _ := Xa.out.below hb12
        replace Xo : Hid _ := Xo.out.below hb12
        replace SB : Hid (SzB (B + 4) v12) := SB.out.below hb12
        replace ZC : Hid (ZF gs gc gt v12 xc pc mc (C)) := ZC.out.below hb12
        replace ZA : Hid (ZF gs gc gt v12 s1 (some ⟨g1, 0, none⟩) m1 (y * 2 ^ 94)) := ZA.out.below hb12
        replace ZO : Hid (ZF gs gc gt v12 s3 (some ⟨g3, 0, none⟩) m3 (((2 ^ N : Nat) : Int))) := ZO.out.below hb12
        replace ZN6 : Hid (ZF gs gc gt v12 s6 (some ⟨g6, 0, none⟩) m6 (S - (t : Int))) := ZN6.out.below hb12
        replace HN11 : Hid (RN v12 p11 m11 (t * A / 2 ^ N / i1)) := HN11.out.below hb12
        replace hbw := Below.on hbw hb12
        clear hb12
        have Z12 : Hid (ZR v12 s12 (some ⟨g12, 0, none⟩) m12 (((t * A / 2 ^ N / i1 : Nat) : Int))) := hz12
        have HL12 : Hid (m12 ≤ m11) := hl12
        clear hz12 hl12 hg12
        have ZN12 : Hid (ZF gs gc gt v12 s12 (some ⟨g12, 0, none⟩) m12 (((t * A / 2 ^ N / i1 : Nat) : Int))) := ZF.new Z12.out (B := B + 4) (by have := HN12.out; have := HSo12.out; omega) (by have := HD.out; omega)
        clear HSo12
        clear Z12
        clear hA hN
        clear HN11
        obtain ⟨w11, w12, u32⟩ := HW.out
        obtain ⟨ct0, ct1, ft0, ft1⟩ := Xt.out
        have hnet := Xt.out.lt
        go_wp2_with fail
        obtain ⟨V13, hV13⟩ : ∃ W9, W9 = ((v12.setCell ⟨gt, 0, none⟩ (.bool s12)).setCell ⟨gt, 1, none⟩ (.slice (some ⟨g12, 0, none⟩) m12 m12)) := ⟨_, rfl⟩
        have Yt : Hid (Box V13 gt (.bool s12) (.slice (some ⟨g12, 0, none⟩) m12 m12)) := by rw [hV13]; exact Xt.out.put2 _ _
        have Ys : Hid (Box V13 gs (.bool s6) (.slice (some ⟨g6, 0, none⟩) m6 m6)) := by rw [hV13]; exact Xs.out.off2 (by have h := HD.out; omega) _ _
        have Yc : Hid (Box V13 gc (.bool xc) (.slice pc mc mc)) := by rw [hV13]; exact Xc.out.off2 (by have h := HD.out; omega) _ _
        have Yy : Hid (Box V13 gy (.bool s) (.slice p m m)) := by rw [hV13]; exact Xy.out.off2 (by have h := HD.out; omega) _ _
        have Yr : Hid (Box V13 gr (.bool false) (.slice none 0 0)) := by rw [hV13]; exact Xr.out.off2 (by have h := HD.out; omega) _ _
        have Yu : Hid (Box V13 gu (.bool false) (.slice none 0 0)) := by rw [hV13]; exact Xu.out.off2 (by have h := HD.out; omega) _ _
        have Ya : Hid (Box V13 ga (.bool s1) (.slice (some ⟨g1, 0, none⟩) m1 m1)) := by rw [hV13]; exact Xa.out.off2 (by have h := HD.out; omega) _ _
        have Yo : Hid (Box V13 go (.bool s3) (.slice (some ⟨g3, 0, none⟩) m3 m3)) := by rw [hV13]; exact Xo.out.off2 (by have h := HD.out; omega) _ _
        have SB' : Hid (SzB (B + 4) V13) := by rw [hV13]; exact (SB.out.put _ _ _).put _ _ _
        have ZC' : Hid (ZF gs gc gt V13 xc pc mc (C)) := by rw [hV13]; exact (ZC.out.set _ _ _ (.inr (.inr rfl))).set _ _ _ (.inr (.inr rfl))
        have ZA' : Hid (ZF gs gc gt V13 s1 (some ⟨g1, 0, none⟩) m1 (y * 2 ^ 94)) := by rw [hV13]; exact (ZA.out.set _ _ _ (.inr (.inr rfl))).set _ _ _ (.inr (.inr rfl))
        have ZO' : Hid (ZF gs gc gt V13 s3 (some ⟨g3, 0, none⟩) m3 (((2 ^ N : Nat) : Int))) := by rw [hV13]; exact (ZO.out.set _ _ _ (.inr (.inr rfl))).set _ _ _ (.inr (.inr rfl))
        have ZN6' : Hid (ZF gs gc gt V13 s6 (some ⟨g6, 0, none⟩) m6 (S - (t : Int))) := by rw [hV13]; exact (ZN6.out.set _ _ _ (.inr (.inr rfl))).set _ _ _ (.inr (.inr rfl))
        have ZN12' : Hid (ZF gs gc gt V13 s12 (some ⟨g12, 0, none⟩) m12 (((t * A / 2 ^ N / i1 : Nat) : Int))) := by rw [hV13]; exact (ZN12.out.set _ _ _ (.inr (.inr rfl))).set _ _ _ (.inr (.inr rfl))
        have hbw2 : Below w.heap.size w V13 := by rw [hV13]; exact bSet (bSet hbw _ _ _ HGt.out) _ _ _ HGt.out
        clear ct0 ct1 ft0 ft1 hnet
        rw [← hV13]
        clear hV13 hbw Xs Xc Xt Xy Xr Xu Xa Xo
        have hbw := hbw2
        clear hbw2
        have Xs := Ys
        clear Ys
        have Xc := Yc
        clear Yc
        have Xt := Yt
        clear Yt
        have Xy := Yy
        clear Yy
        have Xr := Yr
        clear Yr
        have Xu := Yu
        clear Yu
        have Xa := Ya
        clear Ya
        have Xo := Yo
        clear Yo
        clear SB
        have SB := SB'
        clear SB'
        clear ZC
        have ZC := ZC'
        clear ZC'
        clear ZA
        have ZA := ZA'
        clear ZA'
        clear ZO
        have ZO := ZO'
        clear ZO'
        clear ZN6
        have ZN6 := ZN6'
        clear ZN6'
        clear ZN12
        have ZN12 := ZN12'
        clear ZN12'
        clear w11 w12 u32
        have hT := HT.out
        rw [show scL A N (gj + 1) i t S C = scL A N gj (i + 1) (t * A / 2 ^ N / (i + 1)) (if i % 2 = 0 then S else if i % 4 = 3 then S - (t : Int) else S + (t : Int)) (if i % 2 = 0 then (if i % 4 = 2 then C - (t : Int) else C + (t : Int)) else C) from if_neg hT.1] at hT
        have hi := HI1.out.1
        subst hi
        have hsc2 : scL A N gj (i + 1) (t * A / 2 ^ N / (i + 1)) (S - (t : Int)) C = (S1, C1) := by
          have h := hT.2.2.2
          rw [if_neg (show ¬ i % 2 = 0 by have := H4.out; omega), if_pos (show i % 4 = 3 by have := H4.out; omega), if_neg (show ¬ i % 2 = 0 by have := H4.out; omega)] at h
          exact h
        go_roundg gj
        case measure => omega
        case rel =>
          exact ⟨i + 1, t * A / 2 ^ N / (i + 1), S - (t : Int), C, s6, xc, s12, (some ⟨g6, 0, none⟩), pc, (some ⟨g12, 0, none⟩), m6, mc, m12, by go_num, by omega, Nat.lt_of_le_of_lt (Nat.div_le_self _ _) (sc_next hT.2.1 (sc_half HC.out.2.2.1 HC.out.2.2.2.1 HC.out.2.2.2.2)), hsc2, by have := HI.out; have := HL6.out; have := HMT.out; omega, by have := HI.out; have := HL6.out; have := HMT.out; omega, Xs.out, Xc.out, Xt.out, ZN6.out, ZC.out, ZN12.out, Xy.out, Xr.out, Xu.out, Xa.out, Xo.out, ZA.out, ZO.out, SB.out.le, hbw⟩
end Go.Proofs.YtionkfnapodhbaaDoor
