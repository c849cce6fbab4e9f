import Derived.Test.YtionkfnapodhbaaDoorJ12
import Derived.Test.YtionkfnapodhbaaDoorJ10
namespace Go.Proofs.YtionkfnapodhbaaDoor
open Go.RowKit Go.Shelf
set_option maxRecDepth 20000
set_option maxHeartbeats 0
theorem results_cell2 {fn : Func} {p u : Tmp} {ty ty2 : TypeId} (h : fn.results = #[.cell p ty, .cell u ty2]) (tmps : Array Value) (P : Program) (w : World) :
    (results fn tmps).run P w = ((asAddr (tmps.getD p undef)).run P w).andThen fun a w₁ => ((loadVar ty a).run P w₁).andThen fun v w₂ => ((asAddr (tmps.getD u undef)).run P w₂).andThen fun b w₃ => ((loadVar ty2 b).run P w₃).andThen fun v2 w₄ => .ok (.tuple #[v, v2]) w₄ := by
  simp only [results, h]
  simp [Sem.run_bind, Result.andThen]
theorem rfloor04_p {p q : Option Addr} {m n : Nat} {w : World} {x y : Int} (h : ZR w false p m x) (k : ZR w false q n y) (hm : m ≤ 16384) (hn : n ≤ 1) (hy : 0 < y) :
    Calls Tryd.prog 72 #[.agg #[.bool false, .slice p m m], .agg #[.bool false, .slice q n n]] w fun e w' => ∃ s1 g1 m1 s2 g2 m2, e = .returned (.tuple #[.agg #[.bool s1, .slice (some ⟨g1, 0, none⟩) m1 m1], .agg #[.bool s2, .slice (some ⟨g2, 0, none⟩) m2 m2]]) ∧ w.heap.size ≤ g1 ∧ w.heap.size ≤ g2 ∧ ZR w' s1 (some ⟨g1, 0, none⟩) m1 (rFd x y) ∧ ZR w' s2 (some ⟨g2, 0, none⟩) m2 (rMo x y) ∧ m1 ≤ 20000 ∧ m2 ≤ 40000 ∧ Below w.heap.size w w' := by
  have hyd : decide (y < 0) = false := decide_eq_false (by omega)
  have HQ : Hid (rFd x y = iv false (x.natAbs / y.natAbs)) := by show _ = _; unfold rFd fl; rw [← h.sg, hyd]; simp
  have HR : Hid (rMo x y = iv false (x.natAbs % y.natAbs)) := by show _ = _; unfold rMo mo; rw [← h.sg, hyd]; simp
  rw [HQ.out, HR.out]
  clear HQ HR hyd
  obtain ⟨xs, hAx, hNx⟩ := h.ex
  obtain ⟨ys, hAy, hNy⟩ := k.ex
  have HZ : Hid (ZR w false q n y) := k
  have AX : Hid (At32 w p m m xs ∧ At32 w q n n ys) := ⟨hAx, hAy⟩
  have NX : Hid (Nf B32 xs x.natAbs ∧ Nf B32 ys y.natAbs) := ⟨hNx, hNy⟩
  have HM : Hid (m ≤ 16384 ∧ n ≤ 1 ∧ 0 < y) := ⟨hm, hn, hy⟩
  clear h k hm hn hy hAx hAy hNx hNy
  go_enter Tryd.func72, Tryd.ntmps72
  go_wp2_with fail
  obtain ⟨W0, hW0⟩ : ∃ W0, W0 = ((((w.alloc (.cells #[.bool false, .slice p m m] 50)).alloc (.cells #[.bool false, .slice q n n] 50)).alloc (.cells #[.bool false, .slice none 0 0] 50)).alloc (.cells #[.bool false, .slice none 0 0] 50)) := ⟨_, rfl⟩
  have Xa : Hid (Box W0 (w.heap.size) (.bool false) (.slice p m m)) := by rw [hW0]; exact ⟨by go_simp, by go_simp, by go_simp, by go_simp⟩
  have Xb : Hid (Box W0 (w.heap.size + 1) (.bool false) (.slice q n n)) := by rw [hW0]; exact ⟨by go_simp, by go_simp, by go_simp, by go_simp⟩
  have Xr : Hid (Box W0 (w.heap.size + 1 + 1) (.bool false) (.slice none 0 0)) := by rw [hW0]; exact ⟨by go_simp, by go_simp, by go_simp, by go_simp⟩
  have Xu : Hid (Box W0 (w.heap.size + 1 + 1 + 1) (.bool false) (.slice none 0 0)) := by rw [hW0]; exact ⟨by go_simp, by go_simp, by go_simp, by go_simp⟩
  have hb0 : Below w.heap.size w W0 := by rw [hW0]; exact below4 w _ _ _ _
  rw [← hW0]
  clear hW0
  have hbw : Below w.heap.size w w := Below.refl _ _
  obtain ⟨gu, hgu⟩ : ∃ g, g = w.heap.size + 1 + 1 + 1 := ⟨_, rfl⟩
  have HGu : Hid (w.heap.size ≤ gu) := by rw [hgu]; show _ ≤ _; omega
  rw [← hgu] at Xu
  try rw [← hgu]
  obtain ⟨gr, hgr⟩ : ∃ g, g = w.heap.size + 1 + 1 := ⟨_, rfl⟩
  have HGr : Hid (w.heap.size ≤ gr) := by rw [hgr]; show _ ≤ _; omega
  rw [← hgr] at Xr
  try rw [← hgr]
  obtain ⟨gb, hgb⟩ : ∃ g, g = w.heap.size + 1 := ⟨_, rfl⟩
  have HGb : Hid (w.heap.size ≤ gb) := by rw [hgb]; show _ ≤ _; omega
  rw [← hgb] at Xb
  try rw [← hgb]
  obtain ⟨ga, hga⟩ : ∃ g, g = w.heap.size := ⟨_, rfl⟩
  have HGa : Hid (w.heap.size ≤ ga) := by rw [hga]; show _ ≤ _; omega
  rw [← hga] at Xa
  try rw [← hga]
  have HGD : Hid (ga ≠ gb ∧ ga ≠ gr ∧ ga ≠ gu ∧ gb ≠ ga ∧ gb ≠ gr ∧ gb ≠ gu ∧ gr ≠ ga ∧ gr ≠ gb ∧ gr ≠ gu ∧ gu ≠ ga ∧ gu ≠ gb ∧ gu ≠ gr) := by rw [hga, hgb, hgr, hgu]; exact ⟨by omega, by omega, by omega, by omega, by omega, by omega, by omega, by omega, by omega, by omega, by omega, by omega⟩
  clear hga hgb hgr hgu
  replace hbw := Below.on hbw hb0
  clear hb0
  refine (rsign04 false (HZ.out.below hbw)).mono ?_
  rintro e v1 ⟨rfl, hb1⟩
  rw [show sgnI y = 1 from by have := HM.out.2.2; unfold sgnI; rw [if_neg (by omega), if_neg (by omega)]]
  replace Xa : Hid _ := Xa.out.below hb1
  replace Xb : Hid _ := Xb.out.below hb1
  replace Xr : Hid _ := Xr.out.below hb1
  replace Xu : Hid _ := Xu.out.below hb1
  replace hbw := Below.on hbw hb1
  clear hb1
  obtain ⟨ca0, ca1, fa0, fa1⟩ := Xa.out
  have hnea := Xa.out.lt
  obtain ⟨cb0, cb1, fb0, fb1⟩ := Xb.out
  have hneb := Xb.out.lt
  go_wp2_with fail
  clear ca0 ca1 fa0 fa1 hnea
  clear cb0 cb1 fb0 fb1 hneb
  refine (rdivmod04 (AX.out.1.below hbw) (AX.out.2.below hbw) NX.out.1 NX.out.2 HM.out.1 HM.out.2.1 (by have := HM.out.2.2; omega)).mono ?_
  rintro e v2 ⟨p2, m2, z2, p3, m3, z3, rfl, hA2, hN2, hA3, hN3, hl2, hl3, hb2⟩
  replace Xa : Hid _ := Xa.out.below hb2
  replace Xb : Hid _ := Xb.out.below hb2
  replace Xr : Hid _ := Xr.out.below hb2
  replace Xu : Hid _ := Xu.out.below hb2
  replace hbw := Below.on hbw hb2
  clear hb2
  have A2 : Hid (At32 v2 p2 m2 m2 z2) := hA2
  have A3 : Hid (At32 v2 p3 m3 m3 z3) := hA3
  have N2 : Hid (Nf B32 z2 (x.natAbs / y.natAbs) ∧ Nf B32 z3 (x.natAbs % y.natAbs) ∧ m2 ≤ m ∧ m3 ≤ m) := ⟨hN2, hN3, hl2, hl3⟩
  clear hA2 hN2 hA3 hN3 hl2 hl3
  obtain ⟨ca0, ca1, fa0, fa1⟩ := Xa.out
  have hnea := Xa.out.lt
  go_wp2_with fail
  clear ca0 ca1 fa0 fa1 hnea
  have HRB : Hid (gr < v2.heap.size ∧ gu < v2.heap.size ∧ w.heap.size ≤ v2.heap.size) := ⟨Xr.out.lt, Xu.out.lt, hbw.size⟩
  refine (rmk_any false A2.out N2.out.1 (by have := N2.out; have := HM.out; omega)).mono ?_
  rintro e v5 ⟨v, rfl, hv, hb5⟩
  obtain ⟨s5, g5, m5, rfl, hg5, hz5, hl5⟩ := hv
  have HN5 : Hid (v2.heap.size ≤ g5) := hg5
  have HB5 : Hid (v2.heap.size ≤ v5.heap.size) := hb5.size
  replace Xa : Hid _ := Xa.out.below hb5
  replace Xb : Hid _ := Xb.out.below hb5
  replace Xr : Hid _ := Xr.out.below hb5
  replace Xu : Hid _ := Xu.out.below hb5
  replace A2 : Hid _ := A2.out.below hb5
  replace A3 : Hid _ := A3.out.below hb5
  replace hbw := Below.on hbw hb5
  clear hb5
  have Z5 : Hid (ZR v5 s5 (some ⟨g5, 0, none⟩) m5 (iv false (x.natAbs / y.natAbs))) := hz5
  have HL5 : Hid (m5 ≤ m2) := hl5
  clear hz5 hl5 hg5
  have HBV : Hid (v2.heap.size ≤ v5.heap.size) := HB5.out
  go_wp2_with fail
  refine (rmk_any false A3.out N2.out.2.1 (by have := N2.out; have := HM.out; omega)).mono ?_
  rintro e v6 ⟨v, rfl, hv, hb6⟩
  obtain ⟨s6, g6, m6, rfl, hg6, hz6, hl6⟩ := hv
  have HN6 : Hid (v5.heap.size ≤ g6) := hg6
  have HB6 : Hid (v5.heap.size ≤ v6.heap.size) := hb6.size
  replace Xa : Hid _ := Xa.out.below hb6
  replace Xb : Hid _ := Xb.out.below hb6
  replace Xr : Hid _ := Xr.out.below hb6
  replace Xu : Hid _ := Xu.out.below hb6
  replace A2 : Hid _ := A2.out.below hb6
  replace A3 : Hid _ := A3.out.below hb6
  replace Z5 : Hid _ := Z5.out.below hb6
  replace hbw := Below.on hbw hb6
  clear hb6
  have Z6 : Hid (ZR v6 s6 (some ⟨g6, 0, none⟩) m6 (iv false (x.natAbs % y.natAbs))) := hz6
  have HL6 : Hid (m6 ≤ m3) := hl6
  clear hz6 hl6 hg6
  obtain ⟨hgd0, hgd1, hgd2, hgd3, hgd4, hgd5, hgd6, hgd7, hgd8, hgd9, hgd10, hgd11⟩ := HGD.out
  obtain ⟨cr0, cr1, fr0, fr1⟩ := Xr.out
  have hner := Xr.out.lt
  obtain ⟨cu0, cu1, fu0, fu1⟩ := Xu.out
  have hneu := Xu.out.lt
  go_wp2_with fail
  refine bodyPost_ret (v := .tuple #[.agg #[.bool s5, .slice (some ⟨g5, 0, none⟩) m5 m5], .agg #[.bool s6, .slice (some ⟨g6, 0, none⟩) m6 m6]]) (by rw [results_cell2 rfl]; go_simp) rfl ⟨s5, g5, m5, s6, g6, m6, rfl, Nat.le_trans HRB.out.2.2 HN5.out, Nat.le_trans HRB.out.2.2 (Nat.le_trans HBV.out HN6.out), ?_, ?_, ?_, ?_, ?_⟩
  · clear hgd0 hgd1 hgd2 hgd3 hgd4 hgd5 hgd6 hgd7 hgd8 hgd9 hgd10 hgd11
    have := HN5.out; have := HRB.out
    exact (((Z5.out.set _ _ _ (by omega)).set _ _ _ (by omega)).set _ _ _ (by omega)).set _ _ _ (by omega)
  · clear hgd0 hgd1 hgd2 hgd3 hgd4 hgd5 hgd6 hgd7 hgd8 hgd9 hgd10 hgd11
    have := HN6.out; have := HBV.out; have := HRB.out
    exact (((Z6.out.set _ _ _ (by omega)).set _ _ _ (by omega)).set _ _ _ (by omega)).set _ _ _ (by omega)
  · clear hgd0 hgd1 hgd2 hgd3 hgd4 hgd5 hgd6 hgd7 hgd8 hgd9 hgd10 hgd11
    have := HL5.out; have := N2.out; have := HM.out; omega
  · clear hgd0 hgd1 hgd2 hgd3 hgd4 hgd5 hgd6 hgd7 hgd8 hgd9 hgd10 hgd11
    have := HL6.out; have := N2.out; have := HM.out; omega
  · exact bSet (bSet (bSet (bSet hbw _ _ _ HGr.out) _ _ _ HGr.out) _ _ _ HGu.out) _ _ _ HGu.out
theorem rfloor04_n0 {p q : Option Addr} {m n : Nat} {w : World} {x y : Int} (h : ZR w true p m x) (k : ZR w false q n y) (hm : m ≤ 16384) (hn : n ≤ 1) (hy : 0 < y) (hr : x.natAbs % y.natAbs = 0) :
    Calls Tryd.prog 72 #[.agg #[.bool true, .slice p m m], .agg #[.bool false, .slice q n n]] w fun e w' => ∃ s1 g1 m1 s2 g2 m2, e = .returned (.tuple #[.agg #[.bool s1, .slice (some ⟨g1, 0, none⟩) m1 m1], .agg #[.bool s2, .slice (some ⟨g2, 0, none⟩) m2 m2]]) ∧ w.heap.size ≤ g1 ∧ w.heap.size ≤ g2 ∧ ZR w' s1 (some ⟨g1, 0, none⟩) m1 (rFd x y) ∧ ZR w' s2 (some ⟨g2, 0, none⟩) m2 (rMo x y) ∧ m1 ≤ 20000 ∧ m2 ≤ 40000 ∧ Below w.heap.size w w' := by
  have hyd : decide (y < 0) = false := decide_eq_false (by omega)
  have HQ : Hid (rFd x y = iv true (x.natAbs / y.natAbs)) := by show _ = _; unfold rFd fl; rw [← h.sg, hyd, hr]; simp
  have HR : Hid (rMo x y = iv false (x.natAbs % y.natAbs)) := by show _ = _; unfold rMo mo; rw [← h.sg, hyd, hr]; simp
  rw [HQ.out, HR.out]
  clear HQ HR hyd
  obtain ⟨xs, hAx, hNx⟩ := h.ex
  obtain ⟨ys, hAy, hNy⟩ := k.ex
  have HZ : Hid (ZR w false q n y) := k
  have AX : Hid (At32 w p m m xs ∧ At32 w q n n ys) := ⟨hAx, hAy⟩
  have NX : Hid (Nf B32 xs x.natAbs ∧ Nf B32 ys y.natAbs) := ⟨hNx, hNy⟩
  have HM : Hid (m ≤ 16384 ∧ n ≤ 1 ∧ 0 < y) := ⟨hm, hn, hy⟩
  have HLO : Hid (x.natAbs % y.natAbs = 0) := hr
  clear h k hm hn hy hAx hAy hNx hNy hr
  go_enter Tryd.func72, Tryd.ntmps72
  go_wp2_with fail
  obtain ⟨W0, hW0⟩ : ∃ W0, W0 = ((((w.alloc (.cells #[.bool true, .slice p m m] 50)).alloc (.cells #[.bool false, .slice q n n] 50)).alloc (.cells #[.bool false, .slice none 0 0] 50)).alloc (.cells #[.bool false, .slice none 0 0] 50)) := ⟨_, rfl⟩
  have Xa : Hid (Box W0 (w.heap.size) (.bool true) (.slice p m m)) := by rw [hW0]; exact ⟨by go_simp, by go_simp, by go_simp, by go_simp⟩
  have Xb : Hid (Box W0 (w.heap.size + 1) (.bool false) (.slice q n n)) := by rw [hW0]; exact ⟨by go_simp, by go_simp, by go_simp, by go_simp⟩
  have Xr : Hid (Box W0 (w.heap.size + 1 + 1) (.bool false) (.slice none 0 0)) := by rw [hW0]; exact ⟨by go_simp, by go_simp, by go_simp, by go_simp⟩
  have Xu : Hid (Box W0 (w.heap.size + 1 + 1 + 1) (.bool false) (.slice none 0 0)) := by rw [hW0]; exact ⟨by go_simp, by go_simp, by go_simp, by go_simp⟩
  have hb0 : Below w.heap.size w W0 := by rw [hW0]; exact below4 w _ _ _ _
  rw [← hW0]
  clear hW0
  have hbw : Below w.heap.size w w := Below.refl _ _
  obtain ⟨gu, hgu⟩ : ∃ g, g = w.heap.size + 1 + 1 + 1 := ⟨_, rfl⟩
  have HGu : Hid (w.heap.size ≤ gu) := by rw [hgu]; show _ ≤ _; omega
  rw [← hgu] at Xu
  try rw [← hgu]
  obtain ⟨gr, hgr⟩ : ∃ g, g = w.heap.size + 1 + 1 := ⟨_, rfl⟩
  have HGr : Hid (w.heap.size ≤ gr) := by rw [hgr]; show _ ≤ _; omega
  rw [← hgr] at Xr
  try rw [← hgr]
  obtain ⟨gb, hgb⟩ : ∃ g, g = w.heap.size + 1 := ⟨_, rfl⟩
  have HGb : Hid (w.heap.size ≤ gb) := by rw [hgb]; show _ ≤ _; omega
  rw [← hgb] at Xb
  try rw [← hgb]
  obtain ⟨ga, hga⟩ : ∃ g, g = w.heap.size := ⟨_, rfl⟩
  have HGa : Hid (w.heap.size ≤ ga) := by rw [hga]; show _ ≤ _; omega
  rw [← hga] at Xa
  try rw [← hga]
  have HGD : Hid (ga ≠ gb ∧ ga ≠ gr ∧ ga ≠ gu ∧ gb ≠ ga ∧ gb ≠ gr ∧ gb ≠ gu ∧ gr ≠ ga ∧ gr ≠ gb ∧ gr ≠ gu ∧ gu ≠ ga ∧ gu ≠ gb ∧ gu ≠ gr) := by rw [hga, hgb, hgr, hgu]; exact ⟨by omega, by omega, by omega, by omega, by omega, by omega, by omega, by omega, by omega, by omega, by omega, by omega⟩
  clear hga hgb hgr hgu
  replace hbw := Below.on hbw hb0
  clear hb0
  refine (rsign04 false (HZ.out.below hbw)).mono ?_
  rintro e v1 ⟨rfl, hb1⟩
  rw [show sgnI y = 1 from by have := HM.out.2.2; unfold sgnI; rw [if_neg (by omega), if_neg (by omega)]]
  replace Xa : Hid _ := Xa.out.below hb1
  replace Xb : Hid _ := Xb.out.below hb1
  replace Xr : Hid _ := Xr.out.below hb1
  replace Xu : Hid _ := Xu.out.below hb1
  replace hbw := Below.on hbw hb1
  clear hb1
  obtain ⟨ca0, ca1, fa0, fa1⟩ := Xa.out
  have hnea := Xa.out.lt
  obtain ⟨cb0, cb1, fb0, fb1⟩ := Xb.out
  have hneb := Xb.out.lt
  go_wp2_with fail
  clear ca0 ca1 fa0 fa1 hnea
  clear cb0 cb1 fb0 fb1 hneb
  refine (rdivmod04 (AX.out.1.below hbw) (AX.out.2.below hbw) NX.out.1 NX.out.2 HM.out.1 HM.out.2.1 (by have := HM.out.2.2; omega)).mono ?_
  rintro e v2 ⟨p2, m2, z2, p3, m3, z3, rfl, hA2, hN2, hA3, hN3, hl2, hl3, hb2⟩
  replace Xa : Hid _ := Xa.out.below hb2
  replace Xb : Hid _ := Xb.out.below hb2
  replace Xr : Hid _ := Xr.out.below hb2
  replace Xu : Hid _ := Xu.out.below hb2
  replace hbw := Below.on hbw hb2
  clear hb2
  have A2 : Hid (At32 v2 p2 m2 m2 z2) := hA2
  have A3 : Hid (At32 v2 p3 m3 m3 z3) := hA3
  have N2 : Hid (Nf B32 z2 (x.natAbs / y.natAbs) ∧ Nf B32 z3 (x.natAbs % y.natAbs) ∧ m2 ≤ m ∧ m3 ≤ m) := ⟨hN2, hN3, hl2, hl3⟩
  obtain rfl : m3 = 0 := by rw [← hA3.len, (hN3.zero_iff B32_one).2 HLO.out]; rfl
  clear hA2 hN2 hA3 hN3 hl2 hl3
  obtain ⟨ca0, ca1, fa0, fa1⟩ := Xa.out
  have hnea := Xa.out.lt
  go_wp2_with fail
  clear ca0 ca1 fa0 fa1 hnea
  have HRB : Hid (gr < v2.heap.size ∧ gu < v2.heap.size ∧ w.heap.size ≤ v2.heap.size) := ⟨Xr.out.lt, Xu.out.lt, hbw.size⟩
  refine (rmk_any true A2.out N2.out.1 (by have := N2.out; have := HM.out; omega)).mono ?_
  rintro e v5 ⟨v, rfl, hv, hb5⟩
  obtain ⟨s5, g5, m5, rfl, hg5, hz5, hl5⟩ := hv
  have HN5 : Hid (v2.heap.size ≤ g5) := hg5
  have HB5 : Hid (v2.heap.size ≤ v5.heap.size) := hb5.size
  replace Xa : Hid _ := Xa.out.below hb5
  replace Xb : Hid _ := Xb.out.below hb5
  replace Xr : Hid _ := Xr.out.below hb5
  replace Xu : Hid _ := Xu.out.below hb5
  replace A2 : Hid _ := A2.out.below hb5
  replace A3 : Hid _ := A3.out.below hb5
  replace hbw := Below.on hbw hb5
  clear hb5
  have Z5 : Hid (ZR v5 s5 (some ⟨g5, 0, none⟩) m5 (iv true (x.natAbs / y.natAbs))) := hz5
  have HL5 : Hid (m5 ≤ m2) := hl5
  clear hz5 hl5 hg5
  have HBV : Hid (v2.heap.size ≤ v5.heap.size) := HB5.out
  go_wp2_with fail
  refine (rmk_any false A3.out N2.out.2.1 (by have := N2.out; have := HM.out; omega)).mono ?_
  rintro e v6 ⟨v, rfl, hv, hb6⟩
  obtain ⟨s6, g6, m6, rfl, hg6, hz6, hl6⟩ := hv
  have HN6 : Hid (v5.heap.size ≤ g6) := hg6
  have HB6 : Hid (v5.heap.size ≤ v6.heap.size) := hb6.size
  replace Xa : Hid _ := Xa.out.below hb6
  replace Xb : Hid _ := Xb.out.below hb6
  replace Xr : Hid _ := Xr.out.below hb6
  replace Xu : Hid _ := Xu.out.below hb6
  replace A2 : Hid _ := A2.out.below hb6
  replace A3 : Hid _ := A3.out.below hb6
  replace Z5 : Hid _ := Z5.out.below hb6
  replace hbw := Below.on hbw hb6
  clear hb6
  have Z6 : Hid (ZR v6 s6 (some ⟨g6, 0, none⟩) m6 (iv false (x.natAbs % y.natAbs))) := hz6
  have HL6 : Hid (m6 ≤ 0) := hl6
  clear hz6 hl6 hg6
  obtain ⟨hgd0, hgd1, hgd2, hgd3, hgd4, hgd5, hgd6, hgd7, hgd8, hgd9, hgd10, hgd11⟩ := HGD.out
  obtain ⟨cr0, cr1, fr0, fr1⟩ := Xr.out
  have hner := Xr.out.lt
  obtain ⟨cu0, cu1, fu0, fu1⟩ := Xu.out
  have hneu := Xu.out.lt
  go_wp2_with fail
  refine bodyPost_ret (v := .tuple #[.agg #[.bool s5, .slice (some ⟨g5, 0, none⟩) m5 m5], .agg #[.bool s6, .slice (some ⟨g6, 0, none⟩) m6 m6]]) (by rw [results_cell2 rfl]; go_simp) rfl ⟨s5, g5, m5, s6, g6, m6, rfl, Nat.le_trans HRB.out.2.2 HN5.out, Nat.le_trans HRB.out.2.2 (Nat.le_trans HBV.out HN6.out), ?_, ?_, ?_, ?_, ?_⟩
  · clear hgd0 hgd1 hgd2 hgd3 hgd4 hgd5 hgd6 hgd7 hgd8 hgd9 hgd10 hgd11
    have := HN5.out; have := HRB.out
    exact (((Z5.out.set _ _ _ (by omega)).set _ _ _ (by omega)).set _ _ _ (by omega)).set _ _ _ (by omega)
  · clear hgd0 hgd1 hgd2 hgd3 hgd4 hgd5 hgd6 hgd7 hgd8 hgd9 hgd10 hgd11
    have := HN6.out; have := HBV.out; have := HRB.out
    exact (((Z6.out.set _ _ _ (by omega)).set _ _ _ (by omega)).set _ _ _ (by omega)).set _ _ _ (by omega)
  · clear hgd0 hgd1 hgd2 hgd3 hgd4 hgd5 hgd6 hgd7 hgd8 hgd9 hgd10 hgd11
    have := HL5.out; have := N2.out; have := HM.out; omega
  · clear hgd0 hgd1 hgd2 hgd3 hgd4 hgd5 hgd6 hgd7 hgd8 hgd9 hgd10 hgd11
    have := HL6.out; have := N2.out; have := HM.out; omega
  · exact bSet (bSet (bSet (bSet hbw _ _ _ HGr.out) _ _ _ HGr.out) _ _ _ HGu.out) _ _ _ HGu.out
theorem rfloor04_n1 {p q : Option Addr} {m n : Nat} {w : World} {x y : Int} (h : ZR w true p m x) (k : ZR w false q n y) (hm : m ≤ 16384) (hn : n ≤ 1) (hy : 0 < y) (hr : x.natAbs % y.natAbs ≠ 0) :
    Calls Tryd.prog 72 #[.agg #[.bool true, .slice p m m], .agg #[.bool false, .slice q n n]] w fun e w' => ∃ s1 g1 m1 s2 g2 m2, e = .returned (.tuple #[.agg #[.bool s1, .slice (some ⟨g1, 0, none⟩) m1 m1], .agg #[.bool s2, .slice (some ⟨g2, 0, none⟩) m2 m2]]) ∧ w.heap.size ≤ g1 ∧ w.heap.size ≤ g2 ∧ ZR w' s1 (some ⟨g1, 0, none⟩) m1 (rFd x y) ∧ ZR w' s2 (some ⟨g2, 0, none⟩) m2 (rMo x y) ∧ m1 ≤ 20000 ∧ m2 ≤ 40000 ∧ Below w.heap.size w w' := by
  have hyd : decide (y < 0) = false := decide_eq_false (by omega)
  have HQ : Hid (rFd x y = iv true (x.natAbs / y.natAbs + 1)) := by show _ = _; unfold rFd fl; rw [← h.sg, hyd, decide_eq_true hr]; simp
  have HR : Hid (rMo x y = iv false (y.natAbs - x.natAbs % y.natAbs)) := by show _ = _; unfold rMo mo; rw [← h.sg, hyd, decide_eq_true hr]; simp
  rw [HQ.out, HR.out]
  clear HQ HR hyd
  obtain ⟨xs, hAx, hNx⟩ := h.ex
  obtain ⟨ys, hAy, hNy⟩ := k.ex
  have HZ : Hid (ZR w false q n y) := k
  have AX : Hid (At32 w p m m xs ∧ At32 w q n n ys) := ⟨hAx, hAy⟩
  have NX : Hid (Nf B32 xs x.natAbs ∧ Nf B32 ys y.natAbs) := ⟨hNx, hNy⟩
  have HM : Hid (m ≤ 16384 ∧ n ≤ 1 ∧ 0 < y) := ⟨hm, hn, hy⟩
  have HLO : Hid (x.natAbs % y.natAbs ≠ 0) := hr
  clear h k hm hn hy hAx hAy hNx hNy hr
  go_enter Tryd.func72, Tryd.ntmps72
  go_wp2_with fail
  obtain ⟨W0, hW0⟩ : ∃ W0, W0 = ((((w.alloc (.cells #[.bool true, .slice p m m] 50)).alloc (.cells #[.bool false, .slice q n n] 50)).alloc (.cells #[.bool false, .slice none 0 0] 50)).alloc (.cells #[.bool false, .slice none 0 0] 50)) := ⟨_, rfl⟩
  have Xa : Hid (Box W0 (w.heap.size) (.bool true) (.slice p m m)) := by rw [hW0]; exact ⟨by go_simp, by go_simp, by go_simp, by go_simp⟩
  have Xb : Hid (Box W0 (w.heap.size + 1) (.bool false) (.slice q n n)) := by rw [hW0]; exact ⟨by go_simp, by go_simp, by go_simp, by go_simp⟩
  have Xr : Hid (Box W0 (w.heap.size + 1 + 1) (.bool false) (.slice none 0 0)) := by rw [hW0]; exact ⟨by go_simp, by go_simp, by go_simp, by go_simp⟩
  have Xu : Hid (Box W0 (w.heap.size + 1 + 1 + 1) (.bool false) (.slice none 0 0)) := by rw [hW0]; exact ⟨by go_simp, by go_simp, by go_simp, by go_simp⟩
  have hb0 : Below w.heap.size w W0 := by rw [hW0]; exact below4 w _ _ _ _
  rw [← hW0]
  clear hW0
  have hbw : Below w.heap.size w w := Below.refl _ _
  obtain ⟨gu, hgu⟩ : ∃ g, g = w.heap.size + 1 + 1 + 1 := ⟨_, rfl⟩
  have HGu : Hid (w.heap.size ≤ gu) := by rw [hgu]; show _ ≤ _; omega
  rw [← hgu] at Xu
  try rw [← hgu]
  obtain ⟨gr, hgr⟩ : ∃ g, g = w.heap.size + 1 + 1 := ⟨_, rfl⟩
  have HGr : Hid (w.heap.size ≤ gr) := by rw [hgr]; show _ ≤ _; omega
  rw [← hgr] at Xr
  try rw [← hgr]
  obtain ⟨gb, hgb⟩ : ∃ g, g = w.heap.size + 1 := ⟨_, rfl⟩
  have HGb : Hid (w.heap.size ≤ gb) := by rw [hgb]; show _ ≤ _; omega
  rw [← hgb] at Xb
  try rw [← hgb]
  obtain ⟨ga, hga⟩ : ∃ g, g = w.heap.size := ⟨_, rfl⟩
  have HGa : Hid (w.heap.size ≤ ga) := by rw [hga]; show _ ≤ _; omega
  rw [← hga] at Xa
  try rw [← hga]
  have HGD : Hid (ga ≠ gb ∧ ga ≠ gr ∧ ga ≠ gu ∧ gb ≠ ga ∧ gb ≠ gr ∧ gb ≠ gu ∧ gr ≠ ga ∧ gr ≠ gb ∧ gr ≠ gu ∧ gu ≠ ga ∧ gu ≠ gb ∧ gu ≠ gr) := by rw [hga, hgb, hgr, hgu]; exact ⟨by omega, by omega, by omega, by omega, by omega, by omega, by omega, by omega, by omega, by omega, by omega, by omega⟩
  clear hga hgb hgr hgu
  replace hbw := Below.on hbw hb0
  clear hb0
  refine (rsign04 false (HZ.out.below hbw)).mono ?_
  rintro e v1 ⟨rfl, hb1⟩
  rw [show sgnI y = 1 from by have := HM.out.2.2; unfold sgnI; rw [if_neg (by omega), if_neg (by omega)]]
  replace Xa : Hid _ := Xa.out.below hb1
  replace Xb : Hid _ := Xb.out.below hb1
  replace Xr : Hid _ := Xr.out.below hb1
  replace Xu : Hid _ := Xu.out.below hb1
  replace hbw := Below.on hbw hb1
  clear hb1
  obtain ⟨ca0, ca1, fa0, fa1⟩ := Xa.out
  have hnea := Xa.out.lt
  obtain ⟨cb0, cb1, fb0, fb1⟩ := Xb.out
  have hneb := Xb.out.lt
  go_wp2_with fail
  clear ca0 ca1 fa0 fa1 hnea
  clear cb0 cb1 fb0 fb1 hneb
  refine (rdivmod04 (AX.out.1.below hbw) (AX.out.2.below hbw) NX.out.1 NX.out.2 HM.out.1 HM.out.2.1 (by have := HM.out.2.2; omega)).mono ?_
  rintro e v2 ⟨p2, m2, z2, p3, m3, z3, rfl, hA2, hN2, hA3, hN3, hl2, hl3, hb2⟩
  replace Xa : Hid _ := Xa.out.below hb2
  replace Xb : Hid _ := Xb.out.below hb2
  replace Xr : Hid _ := Xr.out.below hb2
  replace Xu : Hid _ := Xu.out.below hb2
  replace hbw := Below.on hbw hb2
  clear hb2
  have A2 : Hid (At32 v2 p2 m2 m2 z2) := hA2
  have A3 : Hid (At32 v2 p3 m3 m3 z3) := hA3
  have N2 : Hid (Nf B32 z2 (x.natAbs / y.natAbs) ∧ Nf B32 z3 (x.natAbs % y.natAbs) ∧ m2 ≤ m ∧ m3 ≤ m) := ⟨hN2, hN3, hl2, hl3⟩
  have hm3 : ¬ m3 = 0 := fun e => HLO.out ((hN3.zero_iff B32_one).1 (List.eq_nil_of_length_eq_zero (by rw [hA3.len]; exact e)))
  have hm3b : ((m3 : Int) == 0) = false := by simp; omega
  clear hA2 hN2 hA3 hN3 hl2 hl3
  obtain ⟨ca0, ca1, fa0, fa1⟩ := Xa.out
  have hnea := Xa.out.lt
  go_wp2_with fail
  clear ca0 ca1 fa0 fa1 hnea
  clear hm3 hm3b
  obtain ⟨W4, hW4⟩ : ∃ W1, W1 = v2.drew := ⟨_, rfl⟩
  have hbd : Below v2.heap.size v2 W4 := by rw [hW4]; exact bDrew1 (Below.refl _ _)
  replace Xa : Hid _ := Xa.out.below hbd
  replace Xb : Hid _ := Xb.out.below hbd
  replace Xr : Hid _ := Xr.out.below hbd
  replace Xu : Hid _ := Xu.out.below hbd
  replace A2 : Hid _ := A2.out.below hbd
  replace A3 : Hid _ := A3.out.below hbd
  replace hbw := Below.on hbw hbd
  clear hbd
  have HJ : Hid ((fun W' : World => W'.cell? ⟨gb, 1, none⟩ = some (.slice q n n)) W4) := Xb.out.c1
  refine wp_region_J (fun W' => W'.cell? ⟨gb, 1, none⟩ = some (.slice q n n)) (by kernel_rfl) ?_
  rw [← hW4]
  clear hW4
  refine wpJ_tk 0 (v := ?v1x0) rfl ?hy1x0 HJ.out ?_
  case hy1x0 => (intro W' hJ; have j0 := hJ; go_simp; first | done | with_reducible rfl)
  refine wpJ_tk 4 (v := ?v2x4) rfl ?hy2x4 HJ.out ?_
  case hy2x4 => (intro W' hJ; have j0 := hJ; go_simp; first | done | with_reducible rfl)
  refine wpJ_tk 5 (v := ?v3x5) rfl ?hy3x5 HJ.out ?_
  case hy3x5 => (intro W' hJ; have j0 := hJ; go_simp; first | done | with_reducible rfl)
  refine wpJ_tk 6 (v := ?v4x6) rfl ?hy4x6 HJ.out ?_
  case hy4x6 => (intro W' hJ; have j0 := hJ; go_simp; first | done | with_reducible rfl)
  refine wpJ_on 1 rfl fun KJ hK => ?_
  go_simp
  refine (rword 1 (by rw [B64_eq]; decide) _).mono ?_
  rintro e v4 ⟨g4, z4, rfl, hl4, hA4, hN4, hb4⟩
  replace Xa : Hid _ := Xa.out.below hb4
  replace Xb : Hid _ := Xb.out.below hb4
  replace Xr : Hid _ := Xr.out.below hb4
  replace Xu : Hid _ := Xu.out.below hb4
  replace A2 : Hid _ := A2.out.below hb4
  replace A3 : Hid _ := A3.out.below hb4
  replace hbw := Below.on hbw hb4
  clear hb4
  have A4 : Hid (At32 v4 (some ⟨g4, 0, none⟩) z4.length z4.length z4) := hA4
  have N4 : Hid (Nf B32 z4 1 ∧ z4.length ≤ 2) := ⟨hN4, hl4⟩
  clear hA4 hN4 hl4
  refine hK _ _ Xb.out.c1 ?_
  clear hK
  refine wpJ_on 2 rfl fun KJ hK => ?_
  go_simp
  refine (radd_any A2.out A4.out N2.out.1 N4.out.1 (by have := N2.out; have := HM.out; omega) (by have := N4.out; omega)).mono ?_
  rintro e v5 ⟨p5, m5, z5, rfl, hA5, hN5, hb5⟩
  have hl5 : m5 ≤ m2 + 1 := by
    have h1 := (N2.out.1.len_le B32_one (k := m2)).1 (by rw [A2.out.len]; exact Nat.le_refl _)
    have h2 := (hN5.len_le B32_one (k := m2 + 1)).2 (by rw [Nat.pow_succ]; have h3 : 1 < B32 := B32_one; have h4 : 0 < B32 ^ m2 := Nat.pow_pos (by omega); have h5 : B32 ^ m2 * 2 ≤ B32 ^ m2 * B32 := Nat.mul_le_mul_left _ h3; omega)
    rw [hA5.len] at h2
    exact h2
  replace Xa : Hid _ := Xa.out.below hb5
  replace Xb : Hid _ := Xb.out.below hb5
  replace Xr : Hid _ := Xr.out.below hb5
  replace Xu : Hid _ := Xu.out.below hb5
  replace A2 : Hid _ := A2.out.below hb5
  replace A3 : Hid _ := A3.out.below hb5
  replace A4 : Hid _ := A4.out.below hb5
  replace hbw := Below.on hbw hb5
  clear hb5
  have A5 : Hid (At32 v5 p5 m5 m5 z5) := hA5
  have N5 : Hid (Nf B32 z5 (x.natAbs / y.natAbs + 1) ∧ m5 ≤ m2 + 1) := ⟨hN5, hl5⟩
  clear hA5 hN5 hl5
  refine hK _ _ Xb.out.c1 ?_
  clear hK
  have HRB : Hid (gr < v5.heap.size ∧ gu < v5.heap.size ∧ w.heap.size ≤ v5.heap.size) := ⟨Xr.out.lt, Xu.out.lt, hbw.size⟩
  refine wpJ_on 3 rfl fun KJ hK => ?_
  go_simp
  refine (rmk_any true A5.out N5.out.1 (by have := N5.out; have := N2.out; have := HM.out; omega)).mono ?_
  rintro e v6 ⟨v, rfl, hv, hb6⟩
  obtain ⟨s6, g6, m6, rfl, hg6, hz6, hl6⟩ := hv
  have HN6 : Hid (v5.heap.size ≤ g6) := hg6
  have HB6 : Hid (v5.heap.size ≤ v6.heap.size) := hb6.size
  replace Xa : Hid _ := Xa.out.below hb6
  replace Xb : Hid _ := Xb.out.below hb6
  replace Xr : Hid _ := Xr.out.below hb6
  replace Xu : Hid _ := Xu.out.below hb6
  replace A2 : Hid _ := A2.out.below hb6
  replace A3 : Hid _ := A3.out.below hb6
  replace A4 : Hid _ := A4.out.below hb6
  replace A5 : Hid _ := A5.out.below hb6
  replace hbw := Below.on hbw hb6
  clear hb6
  have Z6 : Hid (ZR v6 s6 (some ⟨g6, 0, none⟩) m6 (iv true (x.natAbs / y.natAbs + 1))) := hz6
  have HL6 : Hid (m6 ≤ m5) := hl6
  clear hz6 hl6 hg6
  refine hK _ _ Xb.out.c1 ?_
  clear hK
  refine wpJ_on 7 rfl fun KJ hK => ?_
  go_simp
  refine (rsub_any (AX.out.2.below hbw) A3.out NX.out.2 N2.out.2.1 (by have := HM.out; omega) (Nat.le_of_lt (Nat.mod_lt _ (by have := HM.out.2.2; omega)))).mono ?_
  rintro e v7 ⟨p7, m7, z7, rfl, hA7, hN7, hl7, hb7⟩
  have HB7 : Hid (v6.heap.size ≤ v7.heap.size) := hb7.size
  replace Xa : Hid _ := Xa.out.below hb7
  replace Xb : Hid _ := Xb.out.below hb7
  replace Xr : Hid _ := Xr.out.below hb7
  replace Xu : Hid _ := Xu.out.below hb7
  replace A2 : Hid _ := A2.out.below hb7
  replace A3 : Hid _ := A3.out.below hb7
  replace A4 : Hid _ := A4.out.below hb7
  replace A5 : Hid _ := A5.out.below hb7
  replace Z6 : Hid _ := Z6.out.below hb7
  replace hbw := Below.on hbw hb7
  clear hb7
  have A7 : Hid (At32 v7 p7 m7 m7 z7) := hA7
  have N7 : Hid (Nf B32 z7 (y.natAbs - x.natAbs % y.natAbs) ∧ m7 ≤ n) := ⟨hN7, hl7⟩
  clear hA7 hN7 hl7
  refine hK _ _ Xb.out.c1 ?_
  clear hK
  have HBV : Hid (v5.heap.size ≤ v7.heap.size) := Nat.le_trans HB6.out HB7.out
  refine wpJ_on 8 rfl fun KJ hK => ?_
  go_simp
  refine (rmk_any false A7.out N7.out.1 (by have := N7.out; have := HM.out; omega)).mono ?_
  rintro e v8 ⟨v, rfl, hv, hb8⟩
  obtain ⟨s8, g8, m8, rfl, hg8, hz8, hl8⟩ := hv
  have HN8 : Hid (v7.heap.size ≤ g8) := hg8
  have HB8 : Hid (v7.heap.size ≤ v8.heap.size) := hb8.size
  replace Xa : Hid _ := Xa.out.below hb8
  replace Xb : Hid _ := Xb.out.below hb8
  replace Xr : Hid _ := Xr.out.below hb8
  replace Xu : Hid _ := Xu.out.below hb8
  replace A2 : Hid _ := A2.out.below hb8
  replace A3 : Hid _ := A3.out.below hb8
  replace A4 : Hid _ := A4.out.below hb8
  replace A5 : Hid _ := A5.out.below hb8
  replace Z6 : Hid _ := Z6.out.below hb8
  replace A7 : Hid _ := A7.out.below hb8
  replace hbw := Below.on hbw hb8
  clear hb8
  have Z8 : Hid (ZR v8 s8 (some ⟨g8, 0, none⟩) m8 (iv false (y.natAbs - x.natAbs % y.natAbs))) := hz8
  have HL8 : Hid (m8 ≤ m7) := hl8
  clear hz8 hl8 hg8
  refine hK _ _ Xb.out.c1 ?_
  clear hK
  obtain ⟨cr0, cr1, fr0, fr1⟩ := Xr.out
  have hner := Xr.out.lt
  obtain ⟨cu0, cu1, fu0, fu1⟩ := Xu.out
  have hneu := Xu.out.lt
  obtain ⟨cb0, cb1, fb0, fb1⟩ := Xb.out
  have hneb := Xb.out.lt
  obtain ⟨hgd0, hgd1, hgd2, hgd3, hgd4, hgd5, hgd6, hgd7, hgd8, hgd9, hgd10, hgd11⟩ := HGD.out
  refine wpJ_on 9 rfl fun KJ hK => ?_
  go_simp
  have HJ2 : Hid ((fun W' : World => W'.cell? ⟨gb, 1, none⟩ = some (.slice q n n)) ((v8.setCell ⟨gr, 0, none⟩ (.bool s6)).setCell ⟨gr, 1, none⟩ (.slice (some ⟨g6, 0, none⟩) m6 m6))) := by show World.cell? _ _ = _; go_simp
  refine hK _ _ HJ2.out ?_
  clear hK HJ
  have HJ := HJ2
  clear HJ2
  refine wpJ_on 10 rfl fun KJ hK => ?_
  go_simp
  have HJ2 : Hid ((fun W' : World => W'.cell? ⟨gb, 1, none⟩ = some (.slice q n n)) ((((v8.setCell ⟨gr, 0, none⟩ (.bool s6)).setCell ⟨gr, 1, none⟩ (.slice (some ⟨g6, 0, none⟩) m6 m6)).setCell ⟨gu, 0, none⟩ (.bool s8)).setCell ⟨gu, 1, none⟩ (.slice (some ⟨g8, 0, none⟩) m8 m8))) := by show World.cell? _ _ = _; go_simp
  refine hK _ _ HJ2.out ?_
  clear hK HJ
  have HJ := HJ2
  clear HJ2
  refine wpJ_done (by kernel_rfl) ?_ _
  clear HJ
  go_wp2_with fail
  refine bodyPost_ret (v := .tuple #[.agg #[.bool s6, .slice (some ⟨g6, 0, none⟩) m6 m6], .agg #[.bool s8, .slice (some ⟨g8, 0, none⟩) m8 m8]]) (by rw [results_cell2 rfl]; go_simp) rfl ⟨s6, g6, m6, s8, g8, m8, rfl, Nat.le_trans HRB.out.2.2 HN6.out, Nat.le_trans HRB.out.2.2 (Nat.le_trans HBV.out HN8.out), ?_, ?_, ?_, ?_, ?_⟩
  · clear hgd0 hgd1 hgd2 hgd3 hgd4 hgd5 hgd6 hgd7 hgd8 hgd9 hgd10 hgd11
    have := HN6.out; have := HRB.out
    exact (((Z6.out.set _ _ _ (by omega)).set _ _ _ (by omega)).set _ _ _ (by omega)).set _ _ _ (by omega)
  · clear hgd0 hgd1 hgd2 hgd3 hgd4 hgd5 hgd6 hgd7 hgd8 hgd9 hgd10 hgd11
    have := HN8.out; have := HBV.out; have := HRB.out
    exact (((Z8.out.set _ _ _ (by omega)).set _ _ _ (by omega)).set _ _ _ (by omega)).set _ _ _ (by omega)
  · clear hgd0 hgd1 hgd2 hgd3 hgd4 hgd5 hgd6 hgd7 hgd8 hgd9 hgd10 hgd11
    have := HL6.out; have := N5.out; have := N2.out; have := HM.out; omega
  · clear hgd0 hgd1 hgd2 hgd3 hgd4 hgd5 hgd6 hgd7 hgd8 hgd9 hgd10 hgd11
    have := HL8.out; have := N7.out; have := HM.out; omega
  · exact bSet (bSet (bSet (bSet hbw _ _ _ HGr.out) _ _ _ HGr.out) _ _ _ HGu.out) _ _ _ HGu.out
theorem rfloor04 {p q : Option Addr} {m n : Nat} {w : World} {x y : Int} (s : Bool) (h : ZR w s p m x) (k : ZR w false q n y) (hm : m ≤ 16384) (hn : n ≤ 1) (hy : 0 < y) :
    Calls Tryd.prog 72 #[.agg #[.bool s, .slice p m m], .agg #[.bool false, .slice q n n]] w fun e w' => ∃ s1 g1 m1 s2 g2 m2, e = .returned (.tuple #[.agg #[.bool s1, .slice (some ⟨g1, 0, none⟩) m1 m1], .agg #[.bool s2, .slice (some ⟨g2, 0, none⟩) m2 m2]]) ∧ w.heap.size ≤ g1 ∧ w.heap.size ≤ g2 ∧ ZR w' s1 (some ⟨g1, 0, none⟩) m1 (rFd x y) ∧ ZR w' s2 (some ⟨g2, 0, none⟩) m2 (rMo x y) ∧ m1 ≤ 20000 ∧ m2 ≤ 40000 ∧ Below w.heap.size w w' := by
  cases s
  · exact rfloor04_p h k hm hn hy
  · by_cases hr : x.natAbs % y.natAbs = 0
    · exact rfloor04_n0 h k hm hn hy hr
    · exact rfloor04_n1 h k hm hn hy hr
theorem rMo_eq {x y : Int} (hy : y ≠ 0) : x - y * rFd x y = rMo x y := by
  have h := fl_mo (decide (x < 0)) (decide (y < 0)) x.natAbs y.natAbs (by omega)
  rw [iv_abs, iv_abs] at h
  unfold rFd rMo
  rw [Int.mul_comm]
  omega
theorem rMo_lt {x y : Int} {n : Nat} (hy : 0 < y) (h : y.natAbs < B32 ^ n) : (rMo x y).natAbs < B32 ^ n := by
  refine Nat.lt_of_le_of_lt ?_ h
  have h1 := Nat.mod_lt x.natAbs (by omega : 0 < y.natAbs)
  unfold rMo mo
  rw [iv_natAbs]
  split <;> omega
theorem ZR.lt_pow {w : World} {s : Bool} {p : Option Addr} {m : Nat} {z : Int} (h : ZR w s p m z) : z.natAbs < B32 ^ m := by
  obtain ⟨zs, hA, hN⟩ := h.ex
  exact (hN.len_le B32_one (k := m)).1 (by rw [hA.len]; exact Nat.le_refl _)
theorem rfloordiv04_p {p q : Option Addr} {m n : Nat} {w : World} {x y : Int} (s : Bool) (h : ZR w s p m x) (k : ZR w false q n y) (hm : m ≤ 16384) (hn : n ≤ 1) (hy : 0 < y) :
    Calls Tryd.prog 63 #[.agg #[.bool s, .slice p m m], .agg #[.bool false, .slice q n n]] w fun e w' => ∃ v, e = .returned v ∧ GotR w.heap.size w' v (rFd x y) (20001) ∧ Below w.heap.size w w' := by
  have HA : Hid (ZR w s p m x ∧ ZR w false q n y) := ⟨h, k⟩
  have HM : Hid (m ≤ 16384 ∧ n ≤ 1 ∧ 0 < y) := ⟨hm, hn, hy⟩
  clear h k hm hn hy
  go_enter Tryd.func63, Tryd.ntmps63
  go_wp2_with fail
  obtain ⟨W0, hW0⟩ : ∃ W0, W0 = (((w.alloc (.cells #[.bool s, .slice p m m] 50)).alloc (.cells #[.bool false, .slice q n n] 50)).alloc (.cells #[.bool false, .slice none 0 0] 50)) := ⟨_, rfl⟩
  have Xa : Hid (Box W0 (w.heap.size) (.bool s) (.slice p m m)) := by rw [hW0]; exact ⟨by go_simp, by go_simp, by go_simp, by go_simp⟩
  have Xb : Hid (Box W0 (w.heap.size + 1) (.bool false) (.slice q n n)) := by rw [hW0]; exact ⟨by go_simp, by go_simp, by go_simp, by go_simp⟩
  have Xr : Hid (Box W0 (w.heap.size + 1 + 1) (.bool false) (.slice none 0 0)) := by rw [hW0]; exact ⟨by go_simp, by go_simp, by go_simp, by go_simp⟩
  have hb0 : Below w.heap.size w W0 := by rw [hW0]; exact below3 w _ _ _
  rw [← hW0]
  clear hW0
  have hbw : Below w.heap.size w w := Below.refl _ _
  obtain ⟨gr, hgr⟩ : ∃ g, g = w.heap.size + 1 + 1 := ⟨_, rfl⟩
  have HGr : Hid (w.heap.size ≤ gr) := by rw [hgr]; show _ ≤ _; omega
  rw [← hgr] at Xr
  try rw [← hgr]
  obtain ⟨gb, hgb⟩ : ∃ g, g = w.heap.size + 1 := ⟨_, rfl⟩
  have HGb : Hid (w.heap.size ≤ gb) := by rw [hgb]; show _ ≤ _; omega
  rw [← hgb] at Xb
  try rw [← hgb]
  obtain ⟨ga, hga⟩ : ∃ g, g = w.heap.size := ⟨_, rfl⟩
  have HGa : Hid (w.heap.size ≤ ga) := by rw [hga]; show _ ≤ _; omega
  rw [← hga] at Xa
  try rw [← hga]
  have HGD : Hid (ga ≠ gb ∧ ga ≠ gr ∧ gb ≠ ga ∧ gb ≠ gr ∧ gr ≠ ga ∧ gr ≠ gb) := by rw [hga, hgb, hgr]; exact ⟨by omega, by omega, by omega, by omega, by omega, by omega⟩
  clear hga hgb hgr
  replace hbw := Below.on hbw hb0
  clear hb0
  obtain ⟨ca0, ca1, fa0, fa1⟩ := Xa.out
  have hnea := Xa.out.lt
  obtain ⟨cb0, cb1, fb0, fb1⟩ := Xb.out
  have hneb := Xb.out.lt
  go_wp2_with fail
  clear ca0 ca1 fa0 fa1 hnea
  clear cb0 cb1 fb0 fb1 hneb
  refine (rfloor04 s (HA.out.1.below hbw) (HA.out.2.below hbw) HM.out.1 (Nat.le_trans HM.out.2.1 (by decide)) (by have := HM.out.2.2; omega)).mono ?_
  rintro e v1 ⟨s1, g1, m1, s2, g2, m2, rfl, hg1, hg2, hz1, hz2, hl1, hl2, hb1⟩
  have HR1 : Hid (gr < g1 ∧ w.heap.size ≤ g1) := ⟨Nat.lt_of_lt_of_le Xr.out.lt hg1, Nat.le_trans hbw.size hg1⟩
  replace Xa : Hid _ := Xa.out.below hb1
  replace Xb : Hid _ := Xb.out.below hb1
  replace Xr : Hid _ := Xr.out.below hb1
  replace hbw := Below.on hbw hb1
  clear hb1
  have Z1 : Hid (ZR v1 s1 (some ⟨g1, 0, none⟩) m1 (rFd (x) (y))) := hz1
  have HL1 : Hid (m1 ≤ 20001) := Nat.le_succ_of_le hl1
  clear hz1 hz2 hl1 hl2 hg1 hg2
  have HDR0 : Hid (gr ≠ v1.heap.size) := Nat.ne_of_lt Xr.out.lt
  have hq1 := HDR0.out
  have hq2 : v1.heap.size ≠ gr := fun h => hq1 h.symm
  obtain ⟨cr0, cr1, fr0, fr1⟩ := Xr.out
  have hner := Xr.out.lt
  go_wp2_with fail
  refine bodyPost_ret (v := .agg #[.bool s1, .slice (some ⟨g1, 0, none⟩) m1 m1]) (by rw [results_cell1 rfl]; go_simp) rfl ⟨_, rfl, ⟨s1, g1, m1, rfl, HR1.out.2, ?_, HL1.out⟩, ?_⟩
  · clear hq1 hq2
    have := HR1.out.1
    exact ((Z1.out.set _ _ _ (by omega)).set _ _ _ (by omega)).below (below2 _ _ _)
  · exact Below.on (bSet (bSet hbw _ _ _ HGr.out) _ _ _ HGr.out) (below2 _ _ _)
theorem rfloordiv04 {p q : Option Addr} {m n : Nat} {w : World} {x y : Int} (s t : Bool) (h : ZR w s p m x) (k : ZR w t q n y) (hm : m ≤ 16384) (hn : n ≤ 1) (hy : 0 < y) :
    Calls Tryd.prog 63 #[.agg #[.bool s, .slice p m m], .agg #[.bool t, .slice q n n]] w fun e w' => ∃ v, e = .returned v ∧ GotR w.heap.size w' v (rFd x y) (20001) ∧ Below w.heap.size w w' := by
  obtain rfl : t = false := by rw [k.sg]; exact decide_eq_false (by omega)
  exact rfloordiv04_p s h k hm hn hy
theorem rmod04 {p q : Option Addr} {m n : Nat} {w : World} {x y : Int} (s t : Bool) (h : ZR w s p m x) (k : ZR w t q n y) (hm : m ≤ 16384) (hn : n ≤ 1) (hy : 0 < y) :
    Calls Tryd.prog 38 #[.agg #[.bool s, .slice p m m], .agg #[.bool t, .slice q n n]] w fun e w' => ∃ v, e = .returned v ∧ GotR w.heap.size w' v (rMo x y) (50000) ∧ Below w.heap.size w w' := by
  rw [← rMo_eq (show y ≠ 0 by omega)]
  have HA : Hid (ZR w s p m x ∧ ZR w t q n y) := ⟨h, k⟩
  have HM : Hid (m ≤ 16384 ∧ n ≤ 1 ∧ 0 < y) := ⟨hm, hn, hy⟩
  clear h k hm hn hy
  go_enter Tryd.func38, Tryd.ntmps38
  go_wp2_with fail
  obtain ⟨W0, hW0⟩ : ∃ W0, W0 = (((w.alloc (.cells #[.bool s, .slice p m m] 50)).alloc (.cells #[.bool t, .slice q n n] 50)).alloc (.cells #[.bool false, .slice none 0 0] 50)) := ⟨_, rfl⟩
  have Xa : Hid (Box W0 (w.heap.size) (.bool s) (.slice p m m)) := by rw [hW0]; exact ⟨by go_simp, by go_simp, by go_simp, by go_simp⟩
  have Xb : Hid (Box W0 (w.heap.size + 1) (.bool t) (.slice q n n)) := by rw [hW0]; exact ⟨by go_simp, by go_simp, by go_simp, by go_simp⟩
  have Xr : Hid (Box W0 (w.heap.size + 1 + 1) (.bool false) (.slice none 0 0)) := by rw [hW0]; exact ⟨by go_simp, by go_simp, by go_simp, by go_simp⟩
  have hb0 : Below w.heap.size w W0 := by rw [hW0]; exact below3 w _ _ _
  rw [← hW0]
  clear hW0
  have hbw : Below w.heap.size w w := Below.refl _ _
  obtain ⟨gr, hgr⟩ : ∃ g, g = w.heap.size + 1 + 1 := ⟨_, rfl⟩
  have HGr : Hid (w.heap.size ≤ gr) := by rw [hgr]; show _ ≤ _; omega
  rw [← hgr] at Xr
  try rw [← hgr]
  obtain ⟨gb, hgb⟩ : ∃ g, g = w.heap.size + 1 := ⟨_, rfl⟩
  have HGb : Hid (w.heap.size ≤ gb) := by rw [hgb]; show _ ≤ _; omega
  rw [← hgb] at Xb
  try rw [← hgb]
  obtain ⟨ga, hga⟩ : ∃ g, g = w.heap.size := ⟨_, rfl⟩
  have HGa : Hid (w.heap.size ≤ ga) := by rw [hga]; show _ ≤ _; omega
  rw [← hga] at Xa
  try rw [← hga]
  have HGD : Hid (ga ≠ gb ∧ ga ≠ gr ∧ gb ≠ ga ∧ gb ≠ gr ∧ gr ≠ ga ∧ gr ≠ gb) := by rw [hga, hgb, hgr]; exact ⟨by omega, by omega, by omega, by omega, by omega, by omega⟩
  clear hga hgb hgr
  replace hbw := Below.on hbw hb0
  clear hb0
  obtain ⟨W1, hW1⟩ : ∃ W1, W1 = W0.drew := ⟨_, rfl⟩
  have hbd : Below W0.heap.size W0 W1 := by rw [hW1]; exact bDrew1 (Below.refl _ _)
  replace Xa : Hid _ := Xa.out.below hbd
  replace Xb : Hid _ := Xb.out.below hbd
  replace Xr : Hid _ := Xr.out.below hbd
  replace hbw := Below.on hbw hbd
  clear hbd
  have HJ : Hid ((fun W' : World => W'.cell? ⟨ga, 0, none⟩ = some (.bool s) ∧ W'.cell? ⟨ga, 1, none⟩ = some (.slice p m m) ∧ W'.cell? ⟨gb, 0, none⟩ = some (.bool t) ∧ W'.cell? ⟨gb, 1, none⟩ = some (.slice q n n)) W1) := ⟨Xa.out.c0, Xa.out.c1, Xb.out.c0, Xb.out.c1⟩
  refine wp_region_J (fun W' => W'.cell? ⟨ga, 0, none⟩ = some (.bool s) ∧ W'.cell? ⟨ga, 1, none⟩ = some (.slice p m m) ∧ W'.cell? ⟨gb, 0, none⟩ = some (.bool t) ∧ W'.cell? ⟨gb, 1, none⟩ = some (.slice q n n)) (by kernel_rfl) ?_
  rw [← hW1]
  clear hW1
  refine wpJ_tq 0 rfl HJ.out ?_
  refine wpJ_tq 1 rfl HJ.out ?_
  refine wpJ_tq 2 rfl HJ.out ?_
  refine wpJ_tq 3 rfl HJ.out ?_
  refine wpJ_on 4 rfl fun KJ hK => ?_
  go_simp
  refine (rfloordiv04 s t (HA.out.1.below hbw) (HA.out.2.below hbw) HM.out.1 HM.out.2.1 HM.out.2.2).mono ?_
  rintro e v4 ⟨v, rfl, hv, hb4⟩
  obtain ⟨s4, g4, m4, rfl, hg4, hz4, hl4⟩ := hv
  have HN4 : Hid (W1.heap.size ≤ g4) := hg4
  have HB4 : Hid (W1.heap.size ≤ v4.heap.size) := hb4.size
  replace Xa : Hid _ := Xa.out.below hb4
  replace Xb : Hid _ := Xb.out.below hb4
  replace Xr : Hid _ := Xr.out.below hb4
  replace hbw := Below.on hbw hb4
  clear hb4
  have Z4 : Hid (ZR v4 s4 (some ⟨g4, 0, none⟩) m4 (rFd x y)) := hz4
  have HL4 : Hid (m4 ≤ 20001) := hl4
  clear hz4 hl4 hg4
  refine hK _ _ ⟨Xa.out.c0, Xa.out.c1, Xb.out.c0, Xb.out.c1⟩ ?_
  clear hK
  refine wpJ_on 5 rfl fun KJ hK => ?_
  go_simp
  refine (rmul04 t s4 (HA.out.2.below hbw) Z4.out (by have := HM.out; omega) (by have := HL4.out; omega)).mono ?_
  rintro e v5 ⟨v, rfl, hv, hb5⟩
  obtain ⟨s5, g5, m5, rfl, hg5, hz5, hl5⟩ := hv
  have HN5 : Hid (v4.heap.size ≤ g5) := hg5
  have HB5 : Hid (v4.heap.size ≤ v5.heap.size) := hb5.size
  replace Xa : Hid _ := Xa.out.below hb5
  replace Xb : Hid _ := Xb.out.below hb5
  replace Xr : Hid _ := Xr.out.below hb5
  replace Z4 : Hid _ := Z4.out.below hb5
  replace hbw := Below.on hbw hb5
  clear hb5
  have Z5 : Hid (ZR v5 s5 (some ⟨g5, 0, none⟩) m5 (y * rFd x y)) := hz5
  have HL5 : Hid (m5 ≤ n + m4) := hl5
  clear hz5 hl5 hg5
  refine hK _ _ ⟨Xa.out.c0, Xa.out.c1, Xb.out.c0, Xb.out.c1⟩ ?_
  clear hK
  have HRB : Hid (gr < v5.heap.size ∧ w.heap.size ≤ v5.heap.size) := ⟨Xr.out.lt, hbw.size⟩
  refine wpJ_on 6 rfl fun KJ hK => ?_
  go_simp
  refine (rsub04 s s5 (HA.out.1.below hbw) Z5.out (by have := HM.out; omega) (by have := HL5.out; have := HL4.out; have := HM.out; omega)).mono ?_
  rintro e v6 ⟨v, rfl, hv, hb6⟩
  obtain ⟨s6, g6, m6, rfl, hg6, hz6, hl6⟩ := hv
  have HN6 : Hid (v5.heap.size ≤ g6) := hg6
  have HB6 : Hid (v5.heap.size ≤ v6.heap.size) := hb6.size
  replace Xa : Hid _ := Xa.out.below hb6
  replace Xb : Hid _ := Xb.out.below hb6
  replace Xr : Hid _ := Xr.out.below hb6
  replace Z4 : Hid _ := Z4.out.below hb6
  replace Z5 : Hid _ := Z5.out.below hb6
  replace hbw := Below.on hbw hb6
  clear hb6
  have Z6 : Hid (ZR v6 s6 (some ⟨g6, 0, none⟩) m6 (x - y * rFd x y)) := hz6
  have HL6 : Hid (m6 ≤ max m m5 + 1) := hl6
  clear hz6 hl6 hg6
  refine hK _ _ ⟨Xa.out.c0, Xa.out.c1, Xb.out.c0, Xb.out.c1⟩ ?_
  clear hK
  obtain ⟨cr0, cr1, fr0, fr1⟩ := Xr.out
  have hner := Xr.out.lt
  obtain ⟨ca0, ca1, fa0, fa1⟩ := Xa.out
  have hnea := Xa.out.lt
  obtain ⟨cb0, cb1, fb0, fb1⟩ := Xb.out
  have hneb := Xb.out.lt
  obtain ⟨hgd0, hgd1, hgd2, hgd3, hgd4, hgd5⟩ := HGD.out
  refine wpJ_on 7 rfl fun KJ hK => ?_
  go_simp
  have HJ2 : Hid ((fun W' : World => W'.cell? ⟨ga, 0, none⟩ = some (.bool s) ∧ W'.cell? ⟨ga, 1, none⟩ = some (.slice p m m) ∧ W'.cell? ⟨gb, 0, none⟩ = some (.bool t) ∧ W'.cell? ⟨gb, 1, none⟩ = some (.slice q n n)) ((v6.setCell ⟨gr, 0, none⟩ (.bool s6)).setCell ⟨gr, 1, none⟩ (.slice (some ⟨g6, 0, none⟩) m6 m6))) := ⟨by go_simp, by go_simp, by go_simp, by go_simp⟩
  refine hK _ _ HJ2.out ?_
  clear hK HJ
  have HJ := HJ2
  clear HJ2
  refine wpJ_done (by kernel_rfl) ?_ _
  clear HJ
  go_wp2_with fail
  refine bodyPost_ret (v := .agg #[.bool s6, .slice (some ⟨g6, 0, none⟩) m6 m6]) (by rw [results_cell1 rfl]; go_simp) rfl ⟨_, rfl, ⟨s6, g6, m6, rfl, Nat.le_trans HRB.out.2 HN6.out, ?_, ?_⟩, ?_⟩
  · clear hgd0 hgd1 hgd2 hgd3 hgd4 hgd5
    have := HN6.out; have := HRB.out.1
    exact (Z6.out.set _ _ _ (by omega)).set _ _ _ (by omega)
  · clear hgd0 hgd1 hgd2 hgd3 hgd4 hgd5
    have := HL6.out; have := HL5.out; have := HL4.out; have := HM.out; omega
  · exact bSet (bSet hbw _ _ _ HGr.out) _ _ _ HGr.out
theorem zr_len32 {w : World} {s : Bool} {p : Option Addr} {m : Nat} {z : Int} (h : ZR w s p m z) {k E : Nat} (hk : E = 32 * k) (hL : z.natAbs < 2 ^ E) : m ≤ k := by
  obtain ⟨zs, hA, hN⟩ := h.ex
  have hB : B32 ^ k = 2 ^ E := by rw [hk, Nat.pow_mul]; rfl
  have h1 := (hN.len_le B32_one (k := k)).2 (by rw [hB]; exact hL)
  rw [hA.len] at h1
  exact h1
theorem long_ok {w : World} {p q : Option Addr} {m n a b : Nat} (h : RN w p m a) (k : RN w q n b) (hm : m < 64) {K : Nat} (hK : K ≤ 100000) (hb : a * b < 2 ^ K) :
    Calls Tryd.prog 71 #[.slice p m m, .slice q n n] w fun en w' => RNs w w' en (a * b) := by
  have NA : Hid (RN w p m a) := h
  have NB : Hid (RN w q n b) := k
  have HK : Hid (K ≤ 100000 ∧ a * b < 2 ^ K) := ⟨hK, hb⟩
  have hbw : Below w.heap.size w w := Below.refl _ _
  have hm2 : decide (min (m : Int) (n : Int) < 64) = true := decide_eq_true (by omega)
  have hm3 : min (m : Int) (n : Int) < 64 := by omega
  clear h k hK hb hm
  go_enter Tryd.func71, Tryd.ntmps71
  go_wp2_with fail
  refine (rn_mul NA.out NB.out HK.out.1 HK.out.2).mono ?_
  rintro en v1 ⟨p1, m1, rfl, hn1, hb1⟩
  replace NA : Hid (RN v1 p m a) := NA.out.below hb1
  replace NB : Hid (RN v1 q n b) := NB.out.below hb1
  replace hbw := Below.on hbw hb1
  clear hb1
  have N1 : Hid (RN v1 p1 m1 (a * b)) := hn1
  clear hn1
  go_wp2_with fail
  go_ret
  exact ⟨p1, m1, rfl, N1.out, hbw⟩
theorem tmul7 {w : World} {p q : Option Addr} {m n : Nat} {x y : Int} (s t : Bool) (h : ZR w s p m x) (k : ZR w t q n y) (hm : m < 64) (hn : n < 64) (N : Nat) (hN : N ≤ 1000) :
    Calls Tryd.prog 61 #[.agg #[.bool s, .slice p m m], .agg #[.bool t, .slice q n n], .int .i64 N] w fun en w' => ∃ v, en = .returned v ∧ GotR w.heap.size w' v (rFs (x * y) N) 5000 ∧ Below w.heap.size w w' := by
  have NA : Hid (RN w p m x.natAbs) := h.rn (by omega)
  have NB : Hid (RN w q n y.natAbs) := k.rn (by omega)
  obtain ⟨L, hL⟩ : ∃ L, L = 64 := ⟨_, rfl⟩
  obtain ⟨K, hK⟩ : ∃ K, K = 32 * L := ⟨_, rfl⟩
  have hk : x.natAbs * y.natAbs < 2 ^ (K + K) := by
    have a1 := h.lt_pow
    have a2 := k.lt_pow
    have a3 : x.natAbs < 2 ^ K := Nat.lt_of_lt_of_le a1 (by rw [hK, Nat.pow_mul]; exact Nat.pow_le_pow_right (by decide) (by omega))
    have a4 : y.natAbs < 2 ^ K := Nat.lt_of_lt_of_le a2 (by rw [hK, Nat.pow_mul]; exact Nat.pow_le_pow_right (by decide) (by omega))
    rw [Nat.pow_add]
    exact Nat.mul_lt_mul'' a3 a4
  have HC : Hid (m < 64 ∧ n < 64 ∧ (N ≤ 1000 ∧ K = 2048) ∧ x.natAbs * y.natAbs < 2 ^ (K + K) ∧ iv (s != t) (x.natAbs * y.natAbs) = x * y) := ⟨hm, hn, ⟨hN, by omega⟩, hk, by
    have e := iv_mul2 s t x.natAbs y.natAbs
    rw [h.iv, k.iv] at e
    exact e⟩
  clear h k hm hn hN hk hK hL
  go_enter Tryd.func61, Tryd.ntmps61
  go_wp2_with fail
  obtain ⟨W0, hW0⟩ : ∃ W0, W0 = (((w.alloc (.cells #[.bool s, .slice p m m] 50)).alloc (.cells #[.bool t, .slice q n n] 50)).alloc (.cells #[.bool false, .slice none 0 0] 50)) := ⟨_, rfl⟩
  have Xa : Hid (Box W0 (w.heap.size) (.bool s) (.slice p m m)) := by rw [hW0]; exact ⟨by go_simp, by go_simp, by go_simp, by go_simp⟩
  have Xb : Hid (Box W0 (w.heap.size + 1) (.bool t) (.slice q n n)) := by rw [hW0]; exact ⟨by go_simp, by go_simp, by go_simp, by go_simp⟩
  have Xr : Hid (Box W0 (w.heap.size + 1 + 1) (.bool false) (.slice none 0 0)) := by rw [hW0]; exact ⟨by go_simp, by go_simp, by go_simp, by go_simp⟩
  have hb0 : Below w.heap.size w W0 := by rw [hW0]; exact below3 w _ _ _
  rw [← hW0]
  clear hW0
  have hbw : Below w.heap.size w w := Below.refl _ _
  obtain ⟨gr, hgr⟩ : ∃ g, g = w.heap.size + 1 + 1 := ⟨_, rfl⟩
  have HGr : Hid (w.heap.size ≤ gr) := by rw [hgr]; show _ ≤ _; omega
  rw [← hgr] at Xr
  try rw [← hgr]
  obtain ⟨gb, hgb⟩ : ∃ g, g = w.heap.size + 1 := ⟨_, rfl⟩
  have HGb : Hid (w.heap.size ≤ gb) := by rw [hgb]; show _ ≤ _; omega
  rw [← hgb] at Xb
  try rw [← hgb]
  obtain ⟨ga, hga⟩ : ∃ g, g = w.heap.size := ⟨_, rfl⟩
  have HGa : Hid (w.heap.size ≤ ga) := by rw [hga]; show _ ≤ _; omega
  rw [← hga] at Xa
  try rw [← hga]
  have HGD : Hid (ga ≠ gb ∧ ga ≠ gr ∧ gb ≠ ga ∧ gb ≠ gr ∧ gr ≠ ga ∧ gr ≠ gb) := by rw [hga, hgb, hgr]; exact ⟨by omega, by omega, by omega, by omega, by omega, by omega⟩
  clear hga hgb hgr
  replace NA : Hid (RN W0 p m x.natAbs) := NA.out.below hb0
  replace NB : Hid (RN W0 q n y.natAbs) := NB.out.below hb0
  replace hbw := Below.on hbw hb0
  clear hb0
  obtain ⟨V1, hV1⟩ : ∃ W1, W1 = W0.drew := ⟨_, rfl⟩
  have hbd : Below W0.heap.size W0 V1 := by rw [hV1]; exact bDrew1 (Below.refl _ _)
  replace Xa : Hid _ := Xa.out.below hbd
  replace Xb : Hid _ := Xb.out.below hbd
  replace Xr : Hid _ := Xr.out.below hbd
  replace NA : Hid (RN V1 p m x.natAbs) := NA.out.below hbd
  replace NB : Hid (RN V1 q n y.natAbs) := NB.out.below hbd
  replace hbw := Below.on hbw hbd
  clear hbd
  have HJ : Hid ((fun W' : World => W'.cell? ⟨ga, 0, none⟩ = some (.bool s) ∧ W'.cell? ⟨ga, 1, none⟩ = some (.slice p m m) ∧ W'.cell? ⟨gb, 0, none⟩ = some (.bool t) ∧ W'.cell? ⟨gb, 1, none⟩ = some (.slice q n n)) V1) := ⟨Xa.out.c0, Xa.out.c1, Xb.out.c0, Xb.out.c1⟩
  refine wp_region_J (fun W' => W'.cell? ⟨ga, 0, none⟩ = some (.bool s) ∧ W'.cell? ⟨ga, 1, none⟩ = some (.slice p m m) ∧ W'.cell? ⟨gb, 0, none⟩ = some (.bool t) ∧ W'.cell? ⟨gb, 1, none⟩ = some (.slice q n n)) (by kernel_rfl) ?_
  rw [← hV1]
  clear hV1
  refine wpJ_tq 0 rfl HJ.out ?_
  refine wpJ_tq 1 rfl HJ.out ?_
  refine wpJ_tq 2 rfl HJ.out ?_
  refine wpJ_tq 3 rfl HJ.out ?_
  refine wpJ_tq 4 rfl HJ.out ?_
  go_simp
  refine wpJ_tq 5 rfl HJ.out ?_
  refine wpJ_tq 6 rfl HJ.out ?_
  refine wpJ_tq 7 rfl HJ.out ?_
  refine wpJ_tq 8 rfl HJ.out ?_
  refine wpJ_tq 11 rfl HJ.out ?_
  refine wpJ_on 9 rfl fun KJ hK => ?_
  go_simp
  refine (long_ok NA.out NB.out HC.out.1 (K := K + K) (by have := HC.out.2.2.1; omega) HC.out.2.2.2.1).mono ?_
  rintro en v1 ⟨p1, m1, rfl, hn1, hb1⟩
  replace Xa : Hid _ := Xa.out.below hb1
  replace Xb : Hid _ := Xb.out.below hb1
  replace Xr : Hid _ := Xr.out.below hb1
  replace NA : Hid (RN v1 p m x.natAbs) := NA.out.below hb1
  replace NB : Hid (RN v1 q n y.natAbs) := NB.out.below hb1
  replace hbw := Below.on hbw hb1
  clear hb1
  have N1 : Hid (RN v1 p1 m1 (x.natAbs * y.natAbs)) := hn1
  clear hn1
  refine hK _ _ ⟨Xa.out.c0, Xa.out.c1, Xb.out.c0, Xb.out.c1⟩ ?_
  clear hK
  refine wpJ_on 10 rfl fun KJ hK => ?_
  go_simp
  obtain ⟨zs, hA, hN⟩ := N1.out.mem
  refine (rmk_any (s != t) hA hN (by have := N1.out.len; omega)).mono ?_
  rintro e v2 ⟨v, rfl, hv, hb2⟩
  rw [HC.out.2.2.2.2] at hv
  obtain ⟨s2, g2, m2, rfl, hg2, hz2, hl2⟩ := hv
  try clear hv
  have HN2 : Hid (v1.heap.size ≤ g2) := hg2
  have HB2 : Hid (v1.heap.size ≤ v2.heap.size) := hb2.size
  replace Xa : Hid _ := Xa.out.below hb2
  replace Xb : Hid _ := Xb.out.below hb2
  replace Xr : Hid _ := Xr.out.below hb2
  replace NA : Hid (RN v2 p m x.natAbs) := NA.out.below hb2
  replace NB : Hid (RN v2 q n y.natAbs) := NB.out.below hb2
  replace N1 : Hid (RN v2 p1 m1 (x.natAbs * y.natAbs)) := N1.out.below hb2
  replace hbw := Below.on hbw hb2
  clear hb2
  have Z2 : Hid (ZR v2 s2 (some ⟨g2, 0, none⟩) m2 (x * y)) := hz2
  have HL2 : Hid (m2 ≤ m1) := hl2
  clear hz2 hl2 hg2
  clear hA hN
  refine hK _ _ ⟨Xa.out.c0, Xa.out.c1, Xb.out.c0, Xb.out.c1⟩ ?_
  clear hK
  refine wpJ_on 12 rfl fun KJ hK => ?_
  go_simp
  have HRB : Hid (gr < v2.heap.size ∧ w.heap.size ≤ v2.heap.size) := ⟨Xr.out.lt, hbw.size⟩
  refine (rfloorshr04 s2 Z2.out (by have := HL2.out; have := N1.out.len; omega) N (by have := HC.out.2.2.1; omega)).mono ?_
  rintro e v3 ⟨v, rfl, hv, hb3⟩
  obtain ⟨s3, g3, m3, rfl, hg3, hz3, hl3⟩ := hv
  try clear hv
  have HN3 : Hid (v2.heap.size ≤ g3) := hg3
  have HB3 : Hid (v2.heap.size ≤ v3.heap.size) := hb3.size
  replace Xa : Hid _ := Xa.out.below hb3
  replace Xb : Hid _ := Xb.out.below hb3
  replace Xr : Hid _ := Xr.out.below hb3
  replace NA : Hid (RN v3 p m x.natAbs) := NA.out.below hb3
  replace NB : Hid (RN v3 q n y.natAbs) := NB.out.below hb3
  replace N1 : Hid (RN v3 p1 m1 (x.natAbs * y.natAbs)) := N1.out.below hb3
  replace Z2 : Hid _ := Z2.out.below hb3
  replace hbw := Below.on hbw hb3
  clear hb3
  have Z3 : Hid (ZR v3 s3 (some ⟨g3, 0, none⟩) m3 (rFs (x * y) N)) := hz3
  have HL3 : Hid (m3 ≤ m2 + 4) := hl3
  clear hz3 hl3 hg3
  refine hK _ _ ⟨Xa.out.c0, Xa.out.c1, Xb.out.c0, Xb.out.c1⟩ ?_
  clear hK
  obtain ⟨cr0, cr1, fr0, fr1⟩ := Xr.out
  have hner := Xr.out.lt
  obtain ⟨ca0, ca1, fa0, fa1⟩ := Xa.out
  have hnea := Xa.out.lt
  obtain ⟨cb0, cb1, fb0, fb1⟩ := Xb.out
  have hneb := Xb.out.lt
  obtain ⟨hgd0, hgd1, hgd2, hgd3, hgd4, hgd5⟩ := HGD.out
  refine wpJ_on 13 rfl fun KJ hK => ?_
  go_simp
  have HJ2 : Hid ((fun W' : World => W'.cell? ⟨ga, 0, none⟩ = some (.bool s) ∧ W'.cell? ⟨ga, 1, none⟩ = some (.slice p m m) ∧ W'.cell? ⟨gb, 0, none⟩ = some (.bool t) ∧ W'.cell? ⟨gb, 1, none⟩ = some (.slice q n n)) ((v3.setCell ⟨gr, 0, none⟩ (.bool s3)).setCell ⟨gr, 1, none⟩ (.slice (some ⟨g3, 0, none⟩) m3 m3))) := ⟨by go_simp, by go_simp, by go_simp, by go_simp⟩
  refine hK _ _ HJ2.out ?_
  clear hK HJ
  have HJ := HJ2
  clear HJ2
  refine wpJ_done (by kernel_rfl) ?_ _
  clear HJ
  go_wp2_with fail
  refine bodyPost_ret (v := .agg #[.bool s3, .slice (some ⟨g3, 0, none⟩) m3 m3]) (by rw [results_cell1 rfl]; go_simp) rfl ⟨_, rfl, ⟨s3, g3, m3, rfl, Nat.le_trans HRB.out.2 HN3.out, ?_, by have := HL3.out; have := HL2.out; have := N1.out.len; omega⟩, ?_⟩
  · have := HN3.out; have := HRB.out.1
    exact (Z3.out.set _ _ _ (by omega)).set _ _ _ (by omega)
  · exact bSet (bSet hbw _ _ _ HGr.out) _ _ _ HGr.out
theorem tturn_s {w : World} {p q : Option Addr} {m n : Nat} {x y : Int} (s t : Bool) (h : ZR w s p m x) (k : ZR w t q n y) (hm : m ≤ 10000) (hn : n ≤ 10000) :
    Calls Tryd.prog 60 #[.agg #[.bool s, .slice p m m], .agg #[.bool t, .slice q n n], .bool true] w fun en w' => ∃ v, en = .returned v ∧ GotR w.heap.size w' v (x - y) (max m n + 1) ∧ Below w.heap.size w w' := by
  have HA : Hid (ZR w s p m x) := h
  have HB : Hid (ZR w t q n y) := k
  have HM : Hid (m ≤ 10000 ∧ n ≤ 10000) := ⟨hm, hn⟩
  clear h k hm hn
  go_enter Tryd.func60, Tryd.ntmps60
  go_wp2_with fail
  obtain ⟨W0, hW0⟩ : ∃ W0, W0 = (((w.alloc (.cells #[.bool s, .slice p m m] 50)).alloc (.cells #[.bool t, .slice q n n] 50)).alloc (.cells #[.bool false, .slice none 0 0] 50)) := ⟨_, rfl⟩
  have Xa : Hid (Box W0 (w.heap.size) (.bool s) (.slice p m m)) := by rw [hW0]; exact ⟨by go_simp, by go_simp, by go_simp, by go_simp⟩
  have Xb : Hid (Box W0 (w.heap.size + 1) (.bool t) (.slice q n n)) := by rw [hW0]; exact ⟨by go_simp, by go_simp, by go_simp, by go_simp⟩
  have Xr : Hid (Box W0 (w.heap.size + 1 + 1) (.bool false) (.slice none 0 0)) := by rw [hW0]; exact ⟨by go_simp, by go_simp, by go_simp, by go_simp⟩
  have hb0 : Below w.heap.size w W0 := by rw [hW0]; exact below3 w _ _ _
  rw [← hW0]
  clear hW0
  have hbw : Below w.heap.size w w := Below.refl _ _
  obtain ⟨gr, hgr⟩ : ∃ g, g = w.heap.size + 1 + 1 := ⟨_, rfl⟩
  have HGr : Hid (w.heap.size ≤ gr) := by rw [hgr]; show _ ≤ _; omega
  rw [← hgr] at Xr
  try rw [← hgr]
  obtain ⟨gb, hgb⟩ : ∃ g, g = w.heap.size + 1 := ⟨_, rfl⟩
  have HGb : Hid (w.heap.size ≤ gb) := by rw [hgb]; show _ ≤ _; omega
  rw [← hgb] at Xb
  try rw [← hgb]
  obtain ⟨ga, hga⟩ : ∃ g, g = w.heap.size := ⟨_, rfl⟩
  have HGa : Hid (w.heap.size ≤ ga) := by rw [hga]; show _ ≤ _; omega
  rw [← hga] at Xa
  try rw [← hga]
  have HGD : Hid (ga ≠ gb ∧ ga ≠ gr ∧ gb ≠ ga ∧ gb ≠ gr ∧ gr ≠ ga ∧ gr ≠ gb) := by rw [hga, hgb, hgr]; exact ⟨by omega, by omega, by omega, by omega, by omega, by omega⟩
  clear hga hgb hgr
  replace HA : Hid _ := HA.out.below hb0
  replace HB : Hid _ := HB.out.below hb0
  replace hbw := Below.on hbw hb0
  clear hb0
  obtain ⟨ca0, ca1, fa0, fa1⟩ := Xa.out
  have hnea := Xa.out.lt
  obtain ⟨cb0, cb1, fb0, fb1⟩ := Xb.out
  have hneb := Xb.out.lt
  go_wp2_with fail
  clear ca0 ca1 fa0 fa1 hnea
  clear cb0 cb1 fb0 fb1 hneb
  have HRB : Hid (gr < W0.heap.size ∧ w.heap.size ≤ W0.heap.size) := ⟨Xr.out.lt, hbw.size⟩
  refine (rsub04 s t HA.out HB.out (by have := HM.out; omega) (by have := HM.out; omega)).mono ?_
  rintro e v1 ⟨v, rfl, hv, hb1⟩
  obtain ⟨s1, g1, m1, rfl, hg1, hz1, hl1⟩ := hv
  try clear hv
  have HN1 : Hid (W0.heap.size ≤ g1) := hg1
  have HB1 : Hid (W0.heap.size ≤ v1.heap.size) := hb1.size
  replace Xa : Hid _ := Xa.out.below hb1
  replace Xb : Hid _ := Xb.out.below hb1
  replace Xr : Hid _ := Xr.out.below hb1
  replace HA : Hid _ := HA.out.below hb1
  replace HB : Hid _ := HB.out.below hb1
  replace hbw := Below.on hbw hb1
  clear hb1
  have Z1 : Hid (ZR v1 s1 (some ⟨g1, 0, none⟩) m1 (x - y)) := hz1
  have HL1 : Hid (m1 ≤ max m n + 1) := hl1
  clear hz1 hl1 hg1
  clear HA
  clear HB
  obtain ⟨hgd0, hgd1, hgd2, hgd3, hgd4, hgd5⟩ := HGD.out
  obtain ⟨cr0, cr1, fr0, fr1⟩ := Xr.out
  have hner := Xr.out.lt
  go_wp2_with fail
  refine bodyPost_ret (v := .agg #[.bool s1, .slice (some ⟨g1, 0, none⟩) m1 m1]) (by rw [results_cell1 rfl]; go_simp) rfl ⟨_, rfl, ⟨s1, g1, m1, rfl, Nat.le_trans HRB.out.2 HN1.out, ?_, HL1.out⟩, ?_⟩
  · have := HN1.out; have := HRB.out.1
    exact (Z1.out.set _ _ _ (by omega)).set _ _ _ (by omega)
  · exact bSet (bSet hbw _ _ _ HGr.out) _ _ _ HGr.out
theorem tturn_a {w : World} {p q : Option Addr} {m n : Nat} {x y : Int} (s t : Bool) (h : ZR w s p m x) (k : ZR w t q n y) (hm : m ≤ 10000) (hn : n ≤ 10000) :
    Calls Tryd.prog 60 #[.agg #[.bool s, .slice p m m], .agg #[.bool t, .slice q n n], .bool false] w fun en w' => ∃ v, en = .returned v ∧ GotR w.heap.size w' v (x + y) (max m n + 1) ∧ Below w.heap.size w w' := by
  have HA : Hid (ZR w s p m x) := h
  have HB : Hid (ZR w t q n y) := k
  have HM : Hid (m ≤ 10000 ∧ n ≤ 10000) := ⟨hm, hn⟩
  clear h k hm hn
  go_enter Tryd.func60, Tryd.ntmps60
  go_wp2_with fail
  obtain ⟨W0, hW0⟩ : ∃ W0, W0 = (((w.alloc (.cells #[.bool s, .slice p m m] 50)).alloc (.cells #[.bool t, .slice q n n] 50)).alloc (.cells #[.bool false, .slice none 0 0] 50)) := ⟨_, rfl⟩
  have Xa : Hid (Box W0 (w.heap.size) (.bool s) (.slice p m m)) := by rw [hW0]; exact ⟨by go_simp, by go_simp, by go_simp, by go_simp⟩
  have Xb : Hid (Box W0 (w.heap.size + 1) (.bool t) (.slice q n n)) := by rw [hW0]; exact ⟨by go_simp, by go_simp, by go_simp, by go_simp⟩
  have Xr : Hid (Box W0 (w.heap.size + 1 + 1) (.bool false) (.slice none 0 0)) := by rw [hW0]; exact ⟨by go_simp, by go_simp, by go_simp, by go_simp⟩
  have hb0 : Below w.heap.size w W0 := by rw [hW0]; exact below3 w _ _ _
  rw [← hW0]
  clear hW0
  have hbw : Below w.heap.size w w := Below.refl _ _
  obtain ⟨gr, hgr⟩ : ∃ g, g = w.heap.size + 1 + 1 := ⟨_, rfl⟩
  have HGr : Hid (w.heap.size ≤ gr) := by rw [hgr]; show _ ≤ _; omega
  rw [← hgr] at Xr
  try rw [← hgr]
  obtain ⟨gb, hgb⟩ : ∃ g, g = w.heap.size + 1 := ⟨_, rfl⟩
  have HGb : Hid (w.heap.size ≤ gb) := by rw [hgb]; show _ ≤ _; omega
  rw [← hgb] at Xb
  try rw [← hgb]
  obtain ⟨ga, hga⟩ : ∃ g, g = w.heap.size := ⟨_, rfl⟩
  have HGa : Hid (w.heap.size ≤ ga) := by rw [hga]; show _ ≤ _; omega
  rw [← hga] at Xa
  try rw [← hga]
  have HGD : Hid (ga ≠ gb ∧ ga ≠ gr ∧ gb ≠ ga ∧ gb ≠ gr ∧ gr ≠ ga ∧ gr ≠ gb) := by rw [hga, hgb, hgr]; exact ⟨by omega, by omega, by omega, by omega, by omega, by omega⟩
  clear hga hgb hgr
  replace HA : Hid _ := HA.out.below hb0
  replace HB : Hid _ := HB.out.below hb0
  replace hbw := Below.on hbw hb0
  clear hb0
  obtain ⟨ca0, ca1, fa0, fa1⟩ := Xa.out
  have hnea := Xa.out.lt
  obtain ⟨cb0, cb1, fb0, fb1⟩ := Xb.out
  have hneb := Xb.out.lt
  go_wp2_with fail
  clear ca0 ca1 fa0 fa1 hnea
  clear cb0 cb1 fb0 fb1 hneb
  have HRB : Hid (gr < W0.heap.size ∧ w.heap.size ≤ W0.heap.size) := ⟨Xr.out.lt, hbw.size⟩
  refine (radd04 s t HA.out HB.out (by have := HM.out; omega) (by have := HM.out; omega)).mono ?_
  rintro e v1 ⟨v, rfl, hv, hb1⟩
  obtain ⟨s1, g1, m1, rfl, hg1, hz1, hl1⟩ := hv
  try clear hv
  have HN1 : Hid (W0.heap.size ≤ g1) := hg1
  have HB1 : Hid (W0.heap.size ≤ v1.heap.size) := hb1.size
  replace Xa : Hid _ := Xa.out.below hb1
  replace Xb : Hid _ := Xb.out.below hb1
  replace Xr : Hid _ := Xr.out.below hb1
  replace HA : Hid _ := HA.out.below hb1
  replace HB : Hid _ := HB.out.below hb1
  replace hbw := Below.on hbw hb1
  clear hb1
  have Z1 : Hid (ZR v1 s1 (some ⟨g1, 0, none⟩) m1 (x + y)) := hz1
  have HL1 : Hid (m1 ≤ max m n + 1) := hl1
  clear hz1 hl1 hg1
  clear HA
  clear HB
  obtain ⟨hgd0, hgd1, hgd2, hgd3, hgd4, hgd5⟩ := HGD.out
  obtain ⟨cr0, cr1, fr0, fr1⟩ := Xr.out
  have hner := Xr.out.lt
  go_wp2_with fail
  refine bodyPost_ret (v := .agg #[.bool s1, .slice (some ⟨g1, 0, none⟩) m1 m1]) (by rw [results_cell1 rfl]; go_simp) rfl ⟨_, rfl, ⟨s1, g1, m1, rfl, Nat.le_trans HRB.out.2 HN1.out, ?_, HL1.out⟩, ?_⟩
  · have := HN1.out; have := HRB.out.1
    exact (Z1.out.set _ _ _ (by omega)).set _ _ _ (by omega)
  · exact bSet (bSet hbw _ _ _ HGr.out) _ _ _ HGr.out
theorem halv_ok (q : Nat) (h1 : 324 < q) (h2 : q ≤ 400) (w : World) :
    Calls Tryd.prog 58 #[.int .i64 q] w fun en w' => en = .returned (.int .i64 10) ∧ w' = w := by
  have c1 : decide ((256 : Int) < (q : Int)) = true := decide_eq_true (by omega)
  have c2 : decide ((324 : Int) < (q : Int)) = true := decide_eq_true (by omega)
  have c3 : decide ((400 : Int) < (q : Int)) = false := decide_eq_false (by omega)
  have d1 : (256 : Int) < (q : Int) := by omega
  have d2 : (324 : Int) < (q : Int) := by omega
  have d3 : ¬ (400 : Int) < (q : Int) := by omega
  clear h1 h2
  go_enter Tryd.func58, Tryd.ntmps58
  go_wp2_with fail
  refine wp_loop_rounds 3 ?_
  rw [rounds_succ]
  go_wp2_with fail
  rw [rounds_succ]
  go_wp2_with fail
  rw [rounds_succ]
  go_wp2_with fail
  go_ret
  exact ⟨rfl, rfl⟩
def scL (a w : Nat) : Nat → Nat → Nat → Int → Int → Int × Int
  | 0, _, _, s, c => (s, c)
  | g + 1, i, t, s, c => if t = 0 then (s, c) else scL a w g (i + 1) (t * a / 2 ^ w / (i + 1)) (if i % 2 = 0 then s else if i % 4 = 3 then s - (t : Int) else s + (t : Int)) (if i % 2 = 0 then (if i % 4 = 2 then c - (t : Int) else c + (t : Int)) else c)
theorem scL_zero (a w g i : Nat) (s c : Int) : scL a w g i 0 s c = (s, c) := by cases g <;> rfl
def scD (w : Nat) : Nat → Int → Int → Int × Int
  | 0, s, c => (s, c)
  | k + 1, s, c => scD w k (rFs (s * c) w * 2 ^ 1) (((2 ^ w : Nat) : Int) - rFs (s * s) w * 2 ^ 1)
def scB (w : Nat) : Nat → Int → Int → Bool
  | 0, s, c => decide (s.natAbs < 2 ^ (w + 4)) && decide (c.natAbs < 2 ^ (w + 4))
  | k + 1, s, c => decide (s.natAbs < 2 ^ (w + 4)) && decide (c.natAbs < 2 ^ (w + 4)) && scB w k (rFs (s * c) w * 2 ^ 1) (((2 ^ w : Nat) : Int) - rFs (s * s) w * 2 ^ 1)
theorem ZR.blk9 {w : World} {s : Bool} {g m : Nat} {z : Int} (h : ZR w s (some ⟨g, 0, none⟩) m z) (hm : m ≠ 0) : g < w.heap.size := by
  obtain ⟨zs, hA, _⟩ := h.ex
  obtain ⟨g', off, he, hc⟩ := hA.cells.resolve_left hm
  cases he
  exact World.block_lt_of_cell? w _ (hc 0 (by omega))
theorem sz_a {y q E : Nat} (h : y ≤ 2 ^ q) (hq : q + 95 ≤ E) : y * 2 ^ 94 < 2 ^ E := by
  have h1 : y * 2 ^ 94 ≤ 2 ^ q * 2 ^ 94 := Nat.mul_le_mul_right _ h
  rw [← Nat.pow_add] at h1
  exact Nat.lt_of_le_of_lt h1 ((Nat.pow_lt_pow_iff_right (by decide)).2 (by omega))
theorem rFs_nat (t a N : Nat) : rFs ((t : Int) * (a : Int)) N = ((t * a / 2 ^ N : Nat) : Int) := by
  rw [← Int.natCast_mul]
  unfold rFs
  rw [decide_eq_false (Int.not_lt.2 (Int.natCast_nonneg _)), Int.natAbs_natCast]
  rfl
theorem sc_half {y q N A : Nat} (hy : y ≤ 2 ^ q) (hN : N = q + 104) (hA : A = y * 2 ^ 94) : 2 * A ≤ 2 ^ N := by
  have h1 : y * 2 ^ 94 ≤ 2 ^ q * 2 ^ 94 := Nat.mul_le_mul_right _ hy
  have h2 : 2 ^ N = 1024 * (2 ^ q * 2 ^ 94) := by rw [hN, show q + 104 = 10 + (q + 94) by omega, Nat.pow_add, Nat.pow_add 2 q 94]
  rw [hA, h2]
  omega
theorem sc_next {t A N g : Nat} (ht : t < 2 ^ (g + 1)) (hA : 2 * A ≤ 2 ^ N) : t * A / 2 ^ N < 2 ^ g := by
  rcases Nat.eq_zero_or_pos A with h0 | h0
  · rw [h0, Nat.mul_zero, Nat.zero_div]; exact Nat.two_pow_pos g
  · refine (Nat.div_lt_iff_lt_mul (Nat.two_pow_pos N)).2 ?_
    have h1 : t * A < 2 ^ (g + 1) * A := Nat.mul_lt_mul_of_pos_right ht h0
    rw [Nat.pow_succ, Nat.mul_assoc] at h1
    exact Nat.lt_of_lt_of_le h1 (Nat.mul_le_mul_left _ hA)
theorem sc_w {i i1 : Nat} (h : i1 = i + 1) (hi : i ≤ 100000) : wrap64 ((i : Int) + 1) = (i1 : Int) ∧ IntKind.i64.wrap ((i : Int) + 1) = (i1 : Int) ∧ IntKind.u32.wrap (i1 : Int) = (i1 : Int) := by
  refine ⟨by simp only [wrap64]; omega, by simp [IntKind.wrap, IntKind.signed, IntKind.bits]; omega, by rw [IntKind.wrap_u32]; omega⟩
theorem scB_sz {w k : Nat} {s c : Int} (h : scB w k s c = true) : s.natAbs < 2 ^ (w + 4) ∧ c.natAbs < 2 ^ (w + 4) := by
  cases k with
  | zero =>
    unfold scB at h
    rw [Bool.and_eq_true] at h
    exact ⟨of_decide_eq_true h.1, of_decide_eq_true h.2⟩
  | succ k =>
    unfold scB at h
    rw [Bool.and_eq_true, Bool.and_eq_true] at h
    exact ⟨of_decide_eq_true h.1.1, of_decide_eq_true h.1.2⟩
theorem scB_next {w k : Nat} {s c : Int} (h : scB w (k + 1) s c = true) : scB w k (rFs (s * c) w * 2 ^ 1) (((2 ^ w : Nat) : Int) - rFs (s * s) w * 2 ^ 1) = true := by
  unfold scB at h
  rw [Bool.and_eq_true] at h
  exact h.2
theorem Box.off2 {W : World} {g : Nat} {v0 v1 : Value} (h : Box W g v0 v1) {g2 : Nat} (hne : g ≠ g2) (a b : Value) : Box ((W.setCell ⟨g2, 0, none⟩ a).setCell ⟨g2, 1, none⟩ b) g v0 v1 := by
  obtain ⟨c0, c1, f0, f1⟩ := h
  have hne2 := hne.symm
  exact ⟨by go_simp, by go_simp, by go_simp, by go_simp⟩
theorem Box.put2 {W : World} {g : Nat} {v0 v1 : Value} (h : Box W g v0 v1) (a b : Value) : Box ((W.setCell ⟨g, 0, none⟩ a).setCell ⟨g, 1, none⟩ b) g a b := by
  have hl := h.lt
  obtain ⟨c0, c1, f0, f1⟩ := h
  exact ⟨by go_simp, by go_simp, by go_simp, by go_simp⟩
theorem sc_w2 {k : Nat} (hk : k ≤ 1000) : wrap64 ((k : Int) + 1) = (k : Int) + 1 ∧ IntKind.i64.wrap ((k : Int) + 1) = (k : Int) + 1 := by
  refine ⟨by simp only [wrap64]; omega, by simp [IntKind.wrap, IntKind.signed, IntKind.bits]; omega⟩
structure SzB (B : Nat) (w : World) : Prop where
  le : B ≤ w.heap.size
theorem SzB.below {B : Nat} {w w' : World} (h : SzB B w) (hb : Below w.heap.size w w') : SzB B w' := ⟨Nat.le_trans h.le hb.size⟩
theorem SzB.put {B : Nat} {w : World} (h : SzB B w) (g o : Nat) (v : Value) : SzB B (w.setCell ⟨g, o, none⟩ v) := ⟨by simpa using h.le⟩
structure ZF (x1 x2 x3 : Nat) (w : World) (s : Bool) (p : Option Addr) (m : Nat) (z : Int) : Prop where
  zr : ZR w s p m z
  off : m = 0 ∨ ∃ g, p = some ⟨g, 0, none⟩ ∧ g ≠ x1 ∧ g ≠ x2 ∧ g ≠ x3
theorem ZF.below {x1 x2 x3 : Nat} {w w' : World} {s : Bool} {p : Option Addr} {m : Nat} {z : Int} (h : ZF x1 x2 x3 w s p m z) (hb : Below w.heap.size w w') : ZF x1 x2 x3 w' s p m z := ⟨h.zr.below hb, h.off⟩
theorem ZF.set {x1 x2 x3 : Nat} {w : World} {s : Bool} {p : Option Addr} {m : Nat} {z : Int} (h : ZF x1 x2 x3 w s p m z) (g2 o2 : Nat) (v : Value) (hg : g2 = x1 ∨ g2 = x2 ∨ g2 = x3) : ZF x1 x2 x3 (w.setCell ⟨g2, o2, none⟩ v) s p m z := by
  refine ⟨?_, h.off⟩
  rcases h.off with h0 | ⟨g, rfl, h1, h2, h3⟩
  · obtain ⟨zs, hA, hN⟩ := h.zr.ex
    subst h0
    obtain rfl : zs = [] := List.eq_nil_of_length_eq_zero hA.len
    exact ⟨⟨[], At32.empty _ _ _ (by decide), hN⟩, h.zr.sg⟩
  · exact h.zr.set _ _ _ (by rcases hg with rfl | rfl | rfl <;> assumption)
theorem ZF.new {x1 x2 x3 : Nat} {w : World} {s : Bool} {g m : Nat} {z : Int} (h : ZR w s (some ⟨g, 0, none⟩) m z) {B : Nat} (hg : B ≤ g) (h1 : x1 < B ∧ x2 < B ∧ x3 < B) : ZF x1 x2 x3 w s (some ⟨g, 0, none⟩) m z := ⟨h, .inr ⟨g, rfl, by omega, by omega, by omega⟩⟩
theorem tabs {p : Option Addr} {m : Nat} {w : World} {z : Int} (s : Bool) (h : ZR w s p m z) (hm : m ≤ 100000) :
    Calls Tryd.prog 52 #[.agg #[.bool s, .slice p m m]] w fun en w' => ∃ v, en = .returned v ∧ GotR w.heap.size w' v (z.natAbs : Int) m ∧ Below w.heap.size w w' := by
  have HA : Hid (ZR w s p m z) := h
  have HM : Hid (m ≤ 100000) := hm
  clear h hm
  go_enter Tryd.func52, Tryd.ntmps52
  go_wp2_with fail
  obtain ⟨W0, hW0⟩ : ∃ W0, W0 = ((w.alloc (.cells #[.bool s, .slice p m m] 50)).alloc (.cells #[.bool false, .slice none 0 0] 50)) := ⟨_, rfl⟩
  have Xa : Hid (Box W0 (w.heap.size) (.bool s) (.slice p m m)) := by rw [hW0]; exact ⟨by go_simp, by go_simp, by go_simp, by go_simp⟩
  have Xr : Hid (Box W0 (w.heap.size + 1) (.bool false) (.slice none 0 0)) := by rw [hW0]; exact ⟨by go_simp, by go_simp, by go_simp, by go_simp⟩
  have hb0 : Below w.heap.size w W0 := by rw [hW0]; exact below2 w _ _
  rw [← hW0]
  clear hW0
  have hbw : Below w.heap.size w w := Below.refl _ _
  obtain ⟨gr, hgr⟩ : ∃ g, g = w.heap.size + 1 := ⟨_, rfl⟩
  have HGr : Hid (w.heap.size ≤ gr) := by rw [hgr]; show _ ≤ _; omega
  rw [← hgr] at Xr
  try rw [← hgr]
  obtain ⟨ga, hga⟩ : ∃ g, g = w.heap.size := ⟨_, rfl⟩
  have HGa : Hid (w.heap.size ≤ ga) := by rw [hga]; show _ ≤ _; omega
  rw [← hga] at Xa
  try rw [← hga]
  have HGD : Hid (ga ≠ gr ∧ gr ≠ ga) := by rw [hga, hgr]; exact ⟨by omega, by omega⟩
  clear hga hgr
  replace HA : Hid _ := HA.out.below hb0
  replace hbw := Below.on hbw hb0
  clear hb0
  obtain ⟨zs, hA, hN⟩ := HA.out.ex
  have HRL : Hid (gr < W0.heap.size) := Xr.out.lt
  have hiv : iv false z.natAbs = (z.natAbs : Int) := rfl
  refine (rmk_any false hA hN (by have := HM.out; omega)).mono ?_
  rintro e w1 ⟨v, rfl, hv, hb1⟩
  rw [hiv] at hv
  obtain ⟨s1, g1, m1, rfl, hg1, hz1, hl1⟩ := hv
  clear hA hN hiv
  have HGE : Hid (W0.heap.size ≤ g1 ∧ w.heap.size ≤ W0.heap.size) := ⟨hg1, hbw.size⟩
  replace Xa : Hid _ := Xa.out.below hb1
  replace Xr : Hid _ := Xr.out.below hb1
  replace HA : Hid _ := HA.out.below hb1
  replace hbw := Below.on hbw hb1
  clear hb1
  have ZA : Hid (ZR w1 s1 (some ⟨g1, 0, none⟩) m1 (z.natAbs : Int)) := hz1
  have HL : Hid (m1 ≤ m) := hl1
  clear hg1 hz1 hl1
  obtain ⟨cr0, cr1, fr0, fr1⟩ := Xr.out
  have hner := Xr.out.lt
  go_wp2_with fail
  refine bodyPost_ret (v := .agg #[.bool s1, .slice (some ⟨g1, 0, none⟩) m1 m1]) (by rw [results_cell1 rfl]; go_simp) rfl ⟨_, rfl, ⟨s1, g1, m1, rfl, ?_, ?_, HL.out⟩, ?_⟩
  · exact Nat.le_trans HGE.out.2 HGE.out.1
  · have := HGE.out.1; have := HRL.out
    exact (ZA.out.set _ _ _ (by omega)).set _ _ _ (by omega)
  · exact bSet (bSet hbw _ _ _ HGr.out) _ _ _ HGr.out
end Go.Proofs.YtionkfnapodhbaaDoor
namespace Go.Proofs.YtionkfnapodhbaaDoor
open Go.RowKit
set_option maxRecDepth 20000
set_option maxHeartbeats 0
variable {P : Program} {md : Region.Mode} {ops : Array Oper} {Q : Exit → Act → World → Prop} {J : World → Prop} {L : Nat}

def wpL (P : Program) (md : Region.Mode) (ops : Array Oper) (Q : Exit → Act → World → Prop) (J : World → Prop) (L : Nat) : Nat → Array Bool → Act → World → Prop
  | 0, listed, a, w => Region.ready md ops listed = [] ∧ Q .normal a w
  | fuel + 1, listed, a, w =>
    (Region.ready md ops listed = [] → Q .normal a w) ∧
    ∀ i ∈ Region.ready md ops listed, wpOp P ops Q i (fun a' w' => (i ≠ L → J w') ∧ wpL P md ops Q J L fuel (listed.setIfInBounds i true) a' w') a w
theorem wpL_any : ∀ (fuel : Nat) (listed : Array Bool) (a : Act) (w : World), wpL P md ops Q J L fuel listed a w → wpAny P md ops Q fuel listed a w
  | 0, _, _, _, h => h
  | fuel + 1, _, _, _, h => ⟨h.1, fun i hi => wpOp_mono (fun a' w' h' => wpL_any fuel _ a' w' h'.2) (h.2 i hi)⟩
def ClosedL (md : Region.Mode) (ops : Array Oper) (listed : Array Bool) : Prop :=
  ∀ (k : Nat) (o : Oper), ops[k]? = some o → listed.getD k false = true → ∀ e ∈ o.after, Region.binds md e = true → listed.getD e.on false = true
def clB (md : Region.Mode) (ops : Array Oper) (listed : Array Bool) : Bool :=
  (List.range ops.size).all fun k => !listed.getD k false || ((ops[k]?).map fun o => o.after.all fun e => !Region.binds md e || listed.getD e.on false).getD true
theorem clB_spec {listed : Array Bool} (h : clB md ops listed = true) : ClosedL md ops listed := by
  intro k o ho hk e he hb
  have hlt : k < ops.size := (Array.getElem?_eq_some_iff.1 ho).1
  have h1 := List.all_eq_true.1 h k (List.mem_range.2 hlt)
  rw [hk, ho] at h1
  simp only [Bool.not_true, Bool.false_or, Option.map_some, Option.getD_some, Array.all_eq_true_iff_forall_mem] at h1
  have h2 := h1 e he
  rw [hb] at h2
  simpa using h2
theorem ClosedL.step {listed : Array Bool} (h : ClosedL md ops listed) {j : Nat} (hj : j ∈ Region.ready md ops listed) : ClosedL md ops (listed.setIfInBounds j true) := by
  intro k o ho hk e he hb
  obtain ⟨h0, oj, hoj, hall⟩ := mem_ready.1 hj
  by_cases hjk : j = k
  · subst hjk
    rw [hoj] at ho
    obtain rfl := Option.some.inj ho
    exact getD_set_true (hall e he hb)
  · rw [getD_set_ne false hjk] at hk
    exact getD_set_true (h k o ho hk e he hb)
def depL (md : Region.Mode) (ops : Array Oper) : Nat → Nat → Nat → Bool
  | 0, _, _ => false
  | f + 1, k, i => ((ops[k]?).map fun o => o.after.any fun e => Region.binds md e && (e.on == i || depL md ops f e.on i)).getD false
theorem depL_listed {listed : Array Bool} (h : ClosedL md ops listed) {i : Nat} : ∀ (f k : Nat) (o : Oper), ops[k]? = some o → (∀ e ∈ o.after, Region.binds md e = true → listed.getD e.on false = true) → depL md ops f k i = true → listed.getD i false = true := by
  intro f
  induction f with
  | zero => intro k o _ _ hd; cases hd
  | succ f ih =>
    intro k o ho ha hd
    simp only [depL, ho, Option.map_some, Option.getD_some, Array.any_eq_true', Bool.and_eq_true, Bool.or_eq_true, beq_iff_eq] at hd
    obtain ⟨e, he, hb, hc⟩ := hd
    rcases hc with rfl | hc
    · exact ha e he hb
    · cases ho2 : ops[e.on]? with
      | none => cases f <;> simp [depL, ho2] at hc
      | some o2 => exact ih e.on o2 ho2 (h e.on o2 ho2 (ha e he hb)) hc
theorem unlisted {listed : Array Bool} {i : Nat} (h : listed.getD i true = false) : listed.getD i false = false := by
  rcases Nat.lt_or_ge i listed.size with h' | h'
  · simp [h'] at h ⊢; exact h
  · simp [Array.getElem?_eq_none h'] at h
theorem wpL_first {i : Nat} {oi : Oper} {v : Value} (hi : ops[i]? = some oi) (hsel : ∀ (j : Nat) (o : Oper) cs b, ops[j]? = some o → o.op ≠ .select cs b)
    (hQ : ∀ c a w, Q (.panic c) (a.put oi.dst v) w → Q (.panic c) a w) {F : Nat} (hdep : depL md ops F L i = true) :
    ∀ (fuel : Nat) (listed : Array Bool) (a : Act) (w : World),
      (∀ j oj, ops[j]? = some oj → j ≠ i → listed.getD j true = false → (∀ e ∈ oj.after, Region.binds md e = true → e.on ≠ i) → oi.apart ops oj = true) →
      ClosedL md ops listed → i ∈ Region.ready md ops listed → YieldsJ P ops J oi v a → J w →
      wpL P md ops Q J L fuel (listed.setIfInBounds i true) (a.put oi.dst v) w → wpL P md ops Q J L (fuel + 1) listed a w := by
  intro fuel
  induction fuel with
  | zero =>
    intro listed a w _ hcl hr hy hJ H
    refine ⟨fun h => (by rw [h] at hr; cases hr), fun j hj => ?_⟩
    by_cases hji : j = i
    · subst hji; exact hy.wpOp hi hJ ⟨fun _ => hJ, H⟩
    · have := ready_mono hj hji
      rw [H.1] at this
      cases this
  | succ fuel ih =>
    intro listed a w hfree hcl hr hy hJ H
    refine ⟨fun h => (by rw [h] at hr; cases hr), fun j hj => ?_⟩
    by_cases hji : j = i
    · subst hji; exact hy.wpOp hi hJ ⟨fun _ => hJ, H⟩
    · have h1 := H.2 j (ready_mono hj hji)
      obtain ⟨hjun, oj, hoj, hall⟩ := mem_ready.1 hj
      have hnot : ∀ e ∈ oj.after, Region.binds md e = true → e.on ≠ i := fun e he hb heq => by
        have h1 := hall e he hb
        have h0 := (mem_ready.1 hr).1
        rw [heq] at h1
        rcases Nat.lt_or_ge i listed.size with h' | h'
        · simp [h'] at h0 h1; rw [h0] at h1; cases h1
        · simp [Array.getElem?_eq_none h'] at h1
      have h2 := wpOpJ_put hoj (hfree j oj hoj hji hjun hnot) (fun cs b => hsel i oi cs b hi) (fun cs b => hsel j oj cs b hoj) hQ hy h1
      have hfree' : ∀ k ok, ops[k]? = some ok → k ≠ i → (listed.setIfInBounds j true).getD k true = false →
          (∀ e ∈ ok.after, Region.binds md e = true → e.on ≠ i) → oi.apart ops ok = true := fun k ok hk hki hun hno => by
        refine hfree k ok hk hki ?_ hno
        by_cases hjk : j = k
        · subst hjk; exact hjun
        · rw [getD_set_ne true hjk] at hun; exact hun
      have hjL : j ≠ L := fun hh => by
        subst hh
        have h5 := depL_listed hcl F j oj hoj hall hdep
        rw [unlisted (mem_ready.1 hr).1] at h5
        cases h5
      refine wpOp_mono (fun a' w' h3 => ⟨h3.2.1, ih (listed.setIfInBounds j true) a' w' hfree' (hcl.step hj) (ready_mono hr (Ne.symm hji)) h3.1 (h3.2.1 hjL) ?_⟩) h2
      rw [Array.setIfInBounds_comm _ _ hji]
      exact h3.2.2

theorem wpL_take {i : Nat} {oi : Oper} {v : Value} {fuel : Nat} {listed : Array Bool} {a : Act} {w : World} (hi : ops[i]? = some oi)
    (hs : Region.noSelect ops = true) (hf : Region.free md ops listed i = true) (hr : (Region.ready md ops listed).contains i = true)
    (hQ : ∀ c a w, Q (.panic c) (a.put oi.dst v) w → Q (.panic c) a w) (hw : Region.wanted oi (yielded ops a.tmps) = true)
    (hy : ∀ w, J w → (execOp a.eval oi).run P w = .ok (.value v) w) (hJ : J w)
    (h : wpL P md ops Q J L fuel (listed.setIfInBounds i true) (a.put oi.dst v) w)
    (hc : clB md ops listed = true := by kernel_rfl) (hd : depL md ops ops.size L i = true := by kernel_rfl) : wpL P md ops Q J L (fuel + 1) listed a w :=
  wpL_first hi (Region.noSelect_spec hs) hQ hd fuel listed a w (Region.free_spec hi hf) (clB_spec hc) (by simpa using hr) (.inl ⟨hw, hy⟩) hJ h
theorem wpL_one {i : Nat} {o : Oper} {fuel : Nat} {listed : Array Bool} {a : Act} {w : World} (hr : Region.ready md ops listed = [i]) (ho : ops[i]? = some o)
    (hw : Region.wanted o (yielded ops a.tmps) = true)
    (h : ∀ K : Act → World → Prop, (∀ a' w', J w' → wpL P md ops Q J L fuel (listed.setIfInBounds i true) a' w' → K a' w') → Oper.wp P o a w K Q) : wpL P md ops Q J L (fuel + 1) listed a w := by
  refine ⟨fun h => (by rw [hr] at h; cases h), fun j hj => ?_⟩
  rw [hr] at hj
  obtain rfl : j = i := by simpa using hj
  unfold wpOp
  simp only [ho, hw, if_true]
  exact .inl (h _ fun a' w' hJ hh => ⟨fun _ => hJ, hh⟩)
theorem wpL_last {o : Oper} {fuel : Nat} {listed : Array Bool} {a : Act} {w : World} (hr : Region.ready md ops listed = [L]) (ho : ops[L]? = some o)
    (hw : Region.wanted o (yielded ops a.tmps) = true)
    (h : ∀ K : Act → World → Prop, (∀ a' w', wpL P md ops Q J L fuel (listed.setIfInBounds L true) a' w' → K a' w') → Oper.wp P o a w K Q) : wpL P md ops Q J L (fuel + 1) listed a w := by
  refine ⟨fun h => (by rw [hr] at h; cases h), fun j hj => ?_⟩
  rw [hr] at hj
  obtain rfl : j = L := by simpa using hj
  unfold wpOp
  simp only [ho, hw, if_true]
  exact .inl (h _ fun a' w' hh => ⟨fun hn => absurd rfl hn, hh⟩)
theorem wpL_done {listed : Array Bool} {a : Act} {w : World} (hr : Region.ready md ops listed = []) (h : Q .normal a w) : ∀ fuel, wpL P md ops Q J L fuel listed a w
  | 0 => ⟨hr, h⟩
  | _ + 1 => ⟨fun _ => h, by rw [hr]; simp⟩
theorem wp_region_L (J : World → Prop) (L : Nat) {id : Nat} {a : Act} {w : World} (hm : P.follows .mixedOrders = true)
    (h : wpL P .any ops Q J L ops.size (Array.replicate ops.size false) a w.drew) : (Code.region id ops true).wp P Q a w :=
  wp_region_any hm (wpL_any _ _ _ _ h)
variable {P : Program} {md : Region.Mode} {ops : Array Oper} {Q : Exit → Act → World → Prop} {J : World → Prop} {L : Nat}

def wpM (P : Program) (md : Region.Mode) (ops : Array Oper) (Q : Exit → Act → World → Prop) (J : World → Prop) (L : Nat) : Nat → Array Bool → Act → World → Prop
  | 0, listed, a, w => Region.ready md ops listed = [] ∧ Q .normal a w
  | fuel + 1, listed, a, w =>
    (Region.ready md ops listed = [] → Q .normal a w) ∧
    ∀ i ∈ Region.ready md ops listed, wpOp P ops Q i (fun a' w' => (i < L → J w') ∧ wpM P md ops Q J L fuel (listed.setIfInBounds i true) a' w') a w
theorem wpM_any : ∀ (fuel : Nat) (listed : Array Bool) (a : Act) (w : World), wpM P md ops Q J L fuel listed a w → wpAny P md ops Q fuel listed a w
  | 0, _, _, _, h => h
  | fuel + 1, _, _, _, h => ⟨h.1, fun i hi => wpOp_mono (fun a' w' h' => wpM_any fuel _ a' w' h'.2) (h.2 i hi)⟩
theorem wpM_first {i : Nat} {oi : Oper} {v : Value} (hi : ops[i]? = some oi) (hsel : ∀ (j : Nat) (o : Oper) cs b, ops[j]? = some o → o.op ≠ .select cs b)
    (hQ : ∀ c a w, Q (.panic c) (a.put oi.dst v) w → Q (.panic c) a w) {F : Nat} (hdep : ∀ j, L ≤ j → j < ops.size → depL md ops F j i = true) :
    ∀ (fuel : Nat) (listed : Array Bool) (a : Act) (w : World),
      (∀ j oj, ops[j]? = some oj → j ≠ i → listed.getD j true = false → (∀ e ∈ oj.after, Region.binds md e = true → e.on ≠ i) → oi.apart ops oj = true) →
      ClosedL md ops listed → i ∈ Region.ready md ops listed → YieldsJ P ops J oi v a → J w →
      wpM P md ops Q J L fuel (listed.setIfInBounds i true) (a.put oi.dst v) w → wpM P md ops Q J L (fuel + 1) listed a w := by
  intro fuel
  induction fuel with
  | zero =>
    intro listed a w _ hcl hr hy hJ H
    refine ⟨fun h => (by rw [h] at hr; cases hr), fun j hj => ?_⟩
    by_cases hji : j = i
    · subst hji; exact hy.wpOp hi hJ ⟨fun _ => hJ, H⟩
    · have := ready_mono hj hji
      rw [H.1] at this
      cases this
  | succ fuel ih =>
    intro listed a w hfree hcl hr hy hJ H
    refine ⟨fun h => (by rw [h] at hr; cases hr), fun j hj => ?_⟩
    by_cases hji : j = i
    · subst hji; exact hy.wpOp hi hJ ⟨fun _ => hJ, H⟩
    · have h1 := H.2 j (ready_mono hj hji)
      obtain ⟨hjun, oj, hoj, hall⟩ := mem_ready.1 hj
      have hnot : ∀ e ∈ oj.after, Region.binds md e = true → e.on ≠ i := fun e he hb heq => by
        have h1 := hall e he hb
        have h0 := (mem_ready.1 hr).1
        rw [heq] at h1
        rcases Nat.lt_or_ge i listed.size with h' | h'
        · simp [h'] at h0 h1; rw [h0] at h1; cases h1
        · simp [Array.getElem?_eq_none h'] at h1
      have h2 := wpOpJ_put hoj (hfree j oj hoj hji hjun hnot) (fun cs b => hsel i oi cs b hi) (fun cs b => hsel j oj cs b hoj) hQ hy h1
      have hfree' : ∀ k ok, ops[k]? = some ok → k ≠ i → (listed.setIfInBounds j true).getD k true = false →
          (∀ e ∈ ok.after, Region.binds md e = true → e.on ≠ i) → oi.apart ops ok = true := fun k ok hk hki hun hno => by
        refine hfree k ok hk hki ?_ hno
        by_cases hjk : j = k
        · subst hjk; exact hjun
        · rw [getD_set_ne true hjk] at hun; exact hun
      have hjL : j < L := Nat.lt_of_not_le fun hh => by
        have hlt : j < ops.size := (Array.getElem?_eq_some_iff.1 hoj).1
        have h5 := depL_listed hcl F j oj hoj hall (hdep j hh hlt)
        rw [unlisted (mem_ready.1 hr).1] at h5
        cases h5
      refine wpOp_mono (fun a' w' h3 => ⟨h3.2.1, ih (listed.setIfInBounds j true) a' w' hfree' (hcl.step hj) (ready_mono hr (Ne.symm hji)) h3.1 (h3.2.1 hjL) ?_⟩) h2
      rw [Array.setIfInBounds_comm _ _ hji]
      exact h3.2.2

theorem wpM_take {i : Nat} {oi : Oper} {v : Value} {fuel : Nat} {listed : Array Bool} {a : Act} {w : World} (hi : ops[i]? = some oi)
    (hs : Region.noSelect ops = true) (hf : Region.free md ops listed i = true) (hr : (Region.ready md ops listed).contains i = true)
    (hQ : ∀ c a w, Q (.panic c) (a.put oi.dst v) w → Q (.panic c) a w) (hw : Region.wanted oi (yielded ops a.tmps) = true)
    (hy : ∀ w, J w → (execOp a.eval oi).run P w = .ok (.value v) w) (hJ : J w)
    (h : wpM P md ops Q J L fuel (listed.setIfInBounds i true) (a.put oi.dst v) w)
    (hc : clB md ops listed = true := by kernel_rfl) (hd : ((List.range ops.size).all fun j => decide (j < L) || depL md ops ops.size j i) = true := by kernel_rfl) : wpM P md ops Q J L (fuel + 1) listed a w :=
  wpM_first hi (Region.noSelect_spec hs) hQ (fun j h1 h2 => by have h3 := List.all_eq_true.1 hd j (List.mem_range.2 h2); rw [decide_eq_false (by omega), Bool.false_or] at h3; exact h3) fuel listed a w (Region.free_spec hi hf) (clB_spec hc) (by simpa using hr) (.inl ⟨hw, hy⟩) hJ h
theorem wpM_one {i : Nat} {o : Oper} {fuel : Nat} {listed : Array Bool} {a : Act} {w : World} (hr : Region.ready md ops listed = [i]) (ho : ops[i]? = some o)
    (hw : Region.wanted o (yielded ops a.tmps) = true)
    (h : ∀ K : Act → World → Prop, (∀ a' w', J w' → wpM P md ops Q J L fuel (listed.setIfInBounds i true) a' w' → K a' w') → Oper.wp P o a w K Q) : wpM P md ops Q J L (fuel + 1) listed a w := by
  refine ⟨fun h => (by rw [hr] at h; cases h), fun j hj => ?_⟩
  rw [hr] at hj
  obtain rfl : j = i := by simpa using hj
  unfold wpOp
  simp only [ho, hw, if_true]
  exact .inl (h _ fun a' w' hJ hh => ⟨fun _ => hJ, hh⟩)
theorem wpM_last {i : Nat} (hL : L ≤ i) {o : Oper} {fuel : Nat} {listed : Array Bool} {a : Act} {w : World} (hr : Region.ready md ops listed = [i]) (ho : ops[i]? = some o)
    (hw : Region.wanted o (yielded ops a.tmps) = true)
    (h : ∀ K : Act → World → Prop, (∀ a' w', wpM P md ops Q J L fuel (listed.setIfInBounds i true) a' w' → K a' w') → Oper.wp P o a w K Q) : wpM P md ops Q J L (fuel + 1) listed a w := by
  refine ⟨fun h => (by rw [hr] at h; cases h), fun j hj => ?_⟩
  rw [hr] at hj
  obtain rfl : j = i := by simpa using hj
  unfold wpOp
  simp only [ho, hw, if_true]
  exact .inl (h _ fun a' w' hh => ⟨fun hn => absurd hn (by omega), hh⟩)
theorem wpM_done {listed : Array Bool} {a : Act} {w : World} (hr : Region.ready md ops listed = []) (h : Q .normal a w) : ∀ fuel, wpM P md ops Q J L fuel listed a w
  | 0 => ⟨hr, h⟩
  | _ + 1 => ⟨fun _ => h, by rw [hr]; simp⟩
theorem wp_region_M (J : World → Prop) (L : Nat) {id : Nat} {a : Act} {w : World} (hm : P.follows .mixedOrders = true)
    (h : wpM P .any ops Q J L ops.size (Array.replicate ops.size false) a w.drew) : (Code.region id ops true).wp P Q a w :=
  wp_region_any hm (wpM_any _ _ _ _ h)
end Go.Proofs.YtionkfnapodhbaaDoor
