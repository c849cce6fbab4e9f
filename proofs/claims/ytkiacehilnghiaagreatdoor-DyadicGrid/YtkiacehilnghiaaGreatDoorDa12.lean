import Derived.Test.YtkiacehilnghiaaGreatDoorJ13
import Derived.Test.YtkiacehilnghiaaGreatDoorJ14
namespace Go.Proofs.YtkiacehilnghiaaGreatDoor
open Go.RowKit Go.Shelf

theorem at_d {q : Option Addr} {m c : Nat} {w : World} {z e E zo eo : Int} {s : Bool} (h : DN w s q m c e z) (hz : z ≠ 0) (hE : E ≤ 1048576) (g : GP false z e E zo eo) (hT : Tab w) :
    Calls Tryz.prog 6 #[DV s q m c e, .int .i64 E] w fun en w' => ∃ v, en = .returned (.tuple #[v, .int .i64 0]) ∧ AnsD w.heap.size w' v zo eo ∧ Below w.heap.size w w' := by
  rcases g.2 with ⟨h1, rfl, rfl⟩ | ⟨h1, h2, _⟩
  · exact at_cd h hz h1
  · refine (at_sd h hz ⟨h1, hE⟩ rfl hT).mono fun en w' ⟨h3, h4⟩ => ?_
    obtain ⟨v, h5, h6⟩ := h3.form g.1 h2
    exact ⟨v, h5, h6, h4⟩
theorem at_u {q : Option Addr} {m c : Nat} {w : World} {z e E zo eo : Int} {s : Bool} (h : DN w s q m c e z) (hz : z ≠ 0) (hE : E ≤ 1048576) (g : GP true z e E zo eo) (hT : Tab w) :
    Calls Tryz.prog 13 #[DV s q m c e, .int .i64 E] w fun en w' => ∃ v, en = .returned (.tuple #[v, .int .i64 0]) ∧ AnsD w.heap.size w' v zo eo ∧ Below w.heap.size w w' := by
  rcases g.2 with ⟨h1, rfl, rfl⟩ | ⟨h1, h2, _⟩
  · exact at_cu h hz h1
  · refine (at_su h hz ⟨h1, hE⟩ rfl hT).mono fun en w' ⟨h3, h4⟩ => ?_
    obtain ⟨v, h5, h6⟩ := h3.form g.1 h2
    exact ⟨v, h5, h6, h4⟩
theorem gp_first : GP false (-1) (-9) 3 (-1) 3 := ⟨.inr ⟨by decide, by decide, by decide⟩, .inr ⟨by decide, by rw [show rd false (-1) (2 ^ ((3 : Int) - (-9)).toNat) = -1 from rfl], .inr (by decide)⟩⟩
set_option maxRecDepth 20000 in
set_option maxHeartbeats 8000000 in
theorem apart5 {p1 p2 p3 : Option Addr} {m1 c1 m2 c2 m3 c3 : Nat} {w : World} {zl el zh eh z e E : Int} {s1 s2 s3 : Bool} (h1 : DN w s1 p1 m1 c1 el zl) (h2 : DN w s2 p2 m2 c2 eh zh) (h3 : DN w s3 p3 m3 c3 e z) (gl : GP false z e E zl el) (gh : GP true z e E zh eh) (he : -1048576 ≤ e) (hE : E ≤ 1048576) (hq : ¬ (zl = zh ∧ el = eh)) (hT : Tab w) :
    Calls Tryz.prog 17 #[DV s1 p1 m1 c1 el, DV s2 p2 m2 c2 eh, DV s3 p3 m3 c3 e, .int .i64 E] w fun en w' => en = .returned (.bool true) ∧ Below w.heap.size w w' := by
  have H1 : Hid (DN w s1 p1 m1 c1 el zl) := h1
  have H2 : Hid (DN w s2 p2 m2 c2 eh zh) := h2
  have TB : Hid (Tab w) := hT
  obtain ⟨g1, g2, g3, g4, g5⟩ := GP.gap gl gh he ((lim_bits _).1 h3.zn.lim) hq
  have HG : Hid (dv zl el = dv zh eh - dv 1 E ∧ (zh ≠ 0 → (1 : Int) ≠ 0 → (zh * 2 ^ (eh - min eh E).toNat).natAbs < LIM ∧ ((1 : Int) * 2 ^ (E - min eh E).toNat).natAbs < LIM ∧ (zh * 2 ^ (eh - min eh E).toNat - 1 * 2 ^ (E - min eh E).toNat).natAbs < LIM)) := ⟨g4, fun a _ => g5 a⟩
  have HEE : Hid (-1048576 ≤ E ∧ E ≤ 1048576) := ⟨by omega, hE⟩
  have k1 : m1 = 0 ∨ (m1 ≠ 0 ∧ ¬ el < E) := by
    rcases g2 with g2 | g2
    · obtain ⟨ys, hY⟩ := h1.zn.ex
      exact .inl (hY.zero.2 (by rw [g2]; rfl))
    · by_cases h9 : m1 = 0
      · exact .inl h9
      · exact .inr ⟨h9, by omega⟩
  have k2 : m2 = 0 ∨ (m2 ≠ 0 ∧ ¬ eh < E) := by
    rcases g3 with g3 | g3
    · obtain ⟨ys, hY⟩ := h2.zn.ex
      exact .inl (hY.zero.2 (by rw [g3]; rfl))
    · by_cases h9 : m2 = 0
      · exact .inl h9
      · exact .inr ⟨h9, by omega⟩
  have K1 : Hid (m1 = 0 ∨ (m1 ≠ 0 ∧ ¬ el < E)) := k1
  have K2 : Hid (m2 = 0 ∨ (m2 ≠ 0 ∧ ¬ eh < E)) := k2
  have k3 : ¬ E ≤ e := by omega
  clear h1 h2 h3 gl gh he hE hq hT g1 g2 g3 g4 g5 k1 k2
  go_enter Tryz.func17, Tryz.ntmps17
  go_wp2_with fail
  obtain ⟨W0, hW0⟩ : ∃ W0, W0 = (((w.alloc (.cells #[.bool s1, .slice p1 m1 c1, .int .i64 el] 26)).alloc (.cells #[.bool s2, .slice p2 m2 c2, .int .i64 eh] 26)).alloc (.cells #[.bool s3, .slice p3 m3 c3, .int .i64 e] 26)) := ⟨_, rfl⟩
  have Xa : Hid (B3q W0 (w.heap.size) (.bool s1) (.slice p1 m1 c1) (.int .i64 el)) := by rw [hW0]; exact ⟨by go_simp, by go_simp, by go_simp, by go_simp, by go_simp, by go_simp⟩
  have Xb : Hid (B3q W0 (w.heap.size + 1) (.bool s2) (.slice p2 m2 c2) (.int .i64 eh)) := by rw [hW0]; exact ⟨by go_simp, by go_simp, by go_simp, by go_simp, by go_simp, by go_simp⟩
  have Xc : Hid (B3q W0 (w.heap.size + 1 + 1) (.bool s3) (.slice p3 m3 c3) (.int .i64 e)) := by rw [hW0]; exact ⟨by go_simp, by go_simp, by go_simp, by go_simp, by go_simp, by go_simp⟩
  have hb0 : Below w.heap.size w W0 := by rw [hW0]; exact below3 w _ _ _
  rw [← hW0]
  clear hW0
  have hbw : Below w.heap.size w w := Below.refl _ _
  obtain ⟨gc, hgc⟩ : ∃ g, g = w.heap.size + 1 + 1 := ⟨_, rfl⟩
  have HGc : Hid (w.heap.size ≤ gc) := by rw [hgc]; show _ ≤ _; omega
  rw [← hgc] at Xc
  try rw [← hgc]
  obtain ⟨gb, hgb⟩ : ∃ g, g = w.heap.size + 1 := ⟨_, rfl⟩
  have HGb : Hid (w.heap.size ≤ gb) := by rw [hgb]; show _ ≤ _; omega
  rw [← hgb] at Xb
  try rw [← hgb]
  obtain ⟨ga, hga⟩ : ∃ g, g = w.heap.size := ⟨_, rfl⟩
  have HGa : Hid (w.heap.size ≤ ga) := by rw [hga]; show _ ≤ _; omega
  rw [← hga] at Xa
  try rw [← hga]
  have HGD : Hid (ga ≠ gb ∧ ga ≠ gc ∧ gb ≠ ga ∧ gb ≠ gc ∧ gc ≠ ga ∧ gc ≠ gb) := by rw [hga, hgb, hgc]; exact ⟨by omega, by omega, by omega, by omega, by omega, by omega⟩
  clear hga hgb hgc
  replace hbw := Below.on hbw hb0
  clear hb0
  refine (nought).mono ?_
  rintro e v1 ⟨rfl, hb1⟩
  replace Xa : Hid _ := Xa.out.below hb1
  replace Xb : Hid _ := Xb.out.below hb1
  replace Xc : Hid _ := Xc.out.below hb1
  replace hbw := Below.on hbw hb1
  clear hb1
  rcases K1.out with h9 | ⟨h9, h8⟩
  · rw [decide_eq_true h9]
    clear h9
    obtain ⟨cb0, cb1, cb2, fb0, fb1, fb2⟩ := Xb.out
    have hneb : gb < v1.heap.size := World.block_lt_of_cell? v1 _ cb0
    go_wp2_with fail
    clear cb0 cb1 cb2 fb0 fb1 fb2 hneb
    refine (nought).mono ?_
    rintro e v2 ⟨rfl, hb2⟩
    replace Xa : Hid _ := Xa.out.below hb2
    replace Xb : Hid _ := Xb.out.below hb2
    replace Xc : Hid _ := Xc.out.below hb2
    replace hbw := Below.on hbw hb2
    clear hb2
    rcases K2.out with h7 | ⟨h7, h6⟩
    · rw [decide_eq_true h7]
      clear h7
      obtain ⟨cc0, cc1, cc2, fc0, fc1, fc2⟩ := Xc.out
      have hnec : gc < v2.heap.size := World.block_lt_of_cell? v2 _ cc0
      go_wp2_with fail
      clear cc0 cc1 cc2 fc0 fc1 fc2 hnec
      clear k3
      refine (step5 HEE.out (TB.out.below hbw)).mono ?_
      rintro e2 v5 ⟨v, rfl, hv, hb5⟩
      obtain ⟨s5, p5, m5, rfl, hd5⟩ := hv.dn (.inr ⟨by decide, HEE.out⟩)
      clear hv
      replace Xa : Hid _ := Xa.out.below hb5
      replace Xb : Hid _ := Xb.out.below hb5
      replace Xc : Hid _ := Xc.out.below hb5
      replace hbw := Below.on hbw hb5
      clear hb5
      have D5 : Hid (DN v5 s5 p5 m5 m5 (E) (1)) := hd5
      clear hd5
      obtain ⟨cb0, cb1, cb2, fb0, fb1, fb2⟩ := Xb.out
      have hneb : gb < v5.heap.size := World.block_lt_of_cell? v5 _ cb0
      go_wp2_with fail
      clear cb0 cb1 cb2 fb0 fb1 fb2 hneb
      have HDao : Hid (ga ≠ v5.heap.size) := Nat.ne_of_lt Xa.out.lt
      have HDbo : Hid (gb ≠ v5.heap.size) := Nat.ne_of_lt Xb.out.lt
      have HDco : Hid (gc ≠ v5.heap.size) := Nat.ne_of_lt Xc.out.lt
      have Xo0 : Hid (B3q (v5.alloc (.cells #[.bool s5, .slice p5 m5 m5, .int .i64 (E)] 26)) v5.heap.size (.bool s5) (.slice p5 m5 m5) (.int .i64 (E))) := B3q.new v5 _ _ _ _
      have hbn : Below v5.heap.size v5 (v5.alloc (.cells #[.bool s5, .slice p5 m5 m5, .int .i64 (E)] 26)) := below1 v5 _
      generalize v5.alloc (.cells #[.bool s5, .slice p5 m5 m5, .int .i64 (E)] 26) = Wo at *
      have HGo : Hid (w.heap.size ≤ v5.heap.size) := hbw.size
      replace Xa : Hid _ := Xa.out.below hbn
      replace Xb : Hid _ := Xb.out.below hbn
      replace Xc : Hid _ := Xc.out.below hbn
      replace D5 : Hid _ := D5.out.below hbn
      replace hbw := Below.on hbw hbn
      clear hbn
      generalize v5.heap.size = go at *
      have Xo := Xo0
      clear Xo0
      refine (dsub_v (H2.out.below hbw) D5.out H1.out.fm HG.out.1 HG.out.2 (TB.out.below hbw)).mono ?_
      rintro e2 v6 ⟨v, rfl, hv, hb6⟩
      obtain ⟨s6, p6, m6, rfl, hd6⟩ := hv.dn (H1.out.fm)
      clear hv
      replace Xa : Hid _ := Xa.out.below hb6
      replace Xb : Hid _ := Xb.out.below hb6
      replace Xc : Hid _ := Xc.out.below hb6
      replace Xo : Hid _ := Xo.out.below hb6
      replace D5 : Hid _ := D5.out.below hb6
      replace hbw := Below.on hbw hb6
      clear hb6
      have D6 : Hid (DN v6 s6 p6 m6 m6 (el) (zl)) := hd6
      clear hd6
      obtain ⟨ca0, ca1, ca2, fa0, fa1, fa2⟩ := Xa.out
      have hnea : ga < v6.heap.size := World.block_lt_of_cell? v6 _ ca0
      go_wp2_with fail
      clear ca0 ca1 ca2 fa0 fa1 fa2 hnea
      have HDau : Hid (ga ≠ v6.heap.size) := Nat.ne_of_lt Xa.out.lt
      have HDbu : Hid (gb ≠ v6.heap.size) := Nat.ne_of_lt Xb.out.lt
      have HDcu : Hid (gc ≠ v6.heap.size) := Nat.ne_of_lt Xc.out.lt
      have HDou : Hid (go ≠ v6.heap.size) := Nat.ne_of_lt Xo.out.lt
      have Xu0 : Hid (B3q (v6.alloc (.cells #[.bool s6, .slice p6 m6 m6, .int .i64 (el)] 26)) v6.heap.size (.bool s6) (.slice p6 m6 m6) (.int .i64 (el))) := B3q.new v6 _ _ _ _
      have hbn : Below v6.heap.size v6 (v6.alloc (.cells #[.bool s6, .slice p6 m6 m6, .int .i64 (el)] 26)) := below1 v6 _
      generalize v6.alloc (.cells #[.bool s6, .slice p6 m6 m6, .int .i64 (el)] 26) = Wu at *
      have HGu : Hid (w.heap.size ≤ v6.heap.size) := hbw.size
      replace Xa : Hid _ := Xa.out.below hbn
      replace Xb : Hid _ := Xb.out.below hbn
      replace Xc : Hid _ := Xc.out.below hbn
      replace Xo : Hid _ := Xo.out.below hbn
      replace D5 : Hid _ := D5.out.below hbn
      replace D6 : Hid _ := D6.out.below hbn
      replace hbw := Below.on hbw hbn
      clear hbn
      generalize v6.heap.size = gu at *
      have Xu := Xu0
      clear Xu0
      refine (same5 D6.out (H1.out.below hbw)).mono ?_
      rintro e v7 ⟨rfl, hb7⟩
      replace Xa : Hid _ := Xa.out.below hb7
      replace Xb : Hid _ := Xb.out.below hb7
      replace Xc : Hid _ := Xc.out.below hb7
      replace Xo : Hid _ := Xo.out.below hb7
      replace Xu : Hid _ := Xu.out.below hb7
      replace D5 : Hid _ := D5.out.below hb7
      replace D6 : Hid _ := D6.out.below hb7
      replace hbw := Below.on hbw hb7
      clear hb7
      go_wp2_with fail
      go_ret
      exact ⟨rfl, hbw⟩
    · rw [decide_eq_false h7]
      clear h7
      obtain ⟨cb0, cb1, cb2, fb0, fb1, fb2⟩ := Xb.out
      have hneb : gb < v2.heap.size := World.block_lt_of_cell? v2 _ cb0
      obtain ⟨cc0, cc1, cc2, fc0, fc1, fc2⟩ := Xc.out
      have hnec : gc < v2.heap.size := World.block_lt_of_cell? v2 _ cc0
      go_wp2_with fail
      clear cb0 cb1 cb2 fb0 fb1 fb2 hneb
      clear cc0 cc1 cc2 fc0 fc1 fc2 hnec
      clear k3
      refine (step5 HEE.out (TB.out.below hbw)).mono ?_
      rintro e2 v5 ⟨v, rfl, hv, hb5⟩
      obtain ⟨s5, p5, m5, rfl, hd5⟩ := hv.dn (.inr ⟨by decide, HEE.out⟩)
      clear hv
      replace Xa : Hid _ := Xa.out.below hb5
      replace Xb : Hid _ := Xb.out.below hb5
      replace Xc : Hid _ := Xc.out.below hb5
      replace hbw := Below.on hbw hb5
      clear hb5
      have D5 : Hid (DN v5 s5 p5 m5 m5 (E) (1)) := hd5
      clear hd5
      obtain ⟨cb0, cb1, cb2, fb0, fb1, fb2⟩ := Xb.out
      have hneb : gb < v5.heap.size := World.block_lt_of_cell? v5 _ cb0
      go_wp2_with fail
      clear cb0 cb1 cb2 fb0 fb1 fb2 hneb
      have HDao : Hid (ga ≠ v5.heap.size) := Nat.ne_of_lt Xa.out.lt
      have HDbo : Hid (gb ≠ v5.heap.size) := Nat.ne_of_lt Xb.out.lt
      have HDco : Hid (gc ≠ v5.heap.size) := Nat.ne_of_lt Xc.out.lt
      have Xo0 : Hid (B3q (v5.alloc (.cells #[.bool s5, .slice p5 m5 m5, .int .i64 (E)] 26)) v5.heap.size (.bool s5) (.slice p5 m5 m5) (.int .i64 (E))) := B3q.new v5 _ _ _ _
      have hbn : Below v5.heap.size v5 (v5.alloc (.cells #[.bool s5, .slice p5 m5 m5, .int .i64 (E)] 26)) := below1 v5 _
      generalize v5.alloc (.cells #[.bool s5, .slice p5 m5 m5, .int .i64 (E)] 26) = Wo at *
      have HGo : Hid (w.heap.size ≤ v5.heap.size) := hbw.size
      replace Xa : Hid _ := Xa.out.below hbn
      replace Xb : Hid _ := Xb.out.below hbn
      replace Xc : Hid _ := Xc.out.below hbn
      replace D5 : Hid _ := D5.out.below hbn
      replace hbw := Below.on hbw hbn
      clear hbn
      generalize v5.heap.size = go at *
      have Xo := Xo0
      clear Xo0
      refine (dsub_v (H2.out.below hbw) D5.out H1.out.fm HG.out.1 HG.out.2 (TB.out.below hbw)).mono ?_
      rintro e2 v6 ⟨v, rfl, hv, hb6⟩
      obtain ⟨s6, p6, m6, rfl, hd6⟩ := hv.dn (H1.out.fm)
      clear hv
      replace Xa : Hid _ := Xa.out.below hb6
      replace Xb : Hid _ := Xb.out.below hb6
      replace Xc : Hid _ := Xc.out.below hb6
      replace Xo : Hid _ := Xo.out.below hb6
      replace D5 : Hid _ := D5.out.below hb6
      replace hbw := Below.on hbw hb6
      clear hb6
      have D6 : Hid (DN v6 s6 p6 m6 m6 (el) (zl)) := hd6
      clear hd6
      obtain ⟨ca0, ca1, ca2, fa0, fa1, fa2⟩ := Xa.out
      have hnea : ga < v6.heap.size := World.block_lt_of_cell? v6 _ ca0
      go_wp2_with fail
      clear ca0 ca1 ca2 fa0 fa1 fa2 hnea
      have HDau : Hid (ga ≠ v6.heap.size) := Nat.ne_of_lt Xa.out.lt
      have HDbu : Hid (gb ≠ v6.heap.size) := Nat.ne_of_lt Xb.out.lt
      have HDcu : Hid (gc ≠ v6.heap.size) := Nat.ne_of_lt Xc.out.lt
      have HDou : Hid (go ≠ v6.heap.size) := Nat.ne_of_lt Xo.out.lt
      have Xu0 : Hid (B3q (v6.alloc (.cells #[.bool s6, .slice p6 m6 m6, .int .i64 (el)] 26)) v6.heap.size (.bool s6) (.slice p6 m6 m6) (.int .i64 (el))) := B3q.new v6 _ _ _ _
      have hbn : Below v6.heap.size v6 (v6.alloc (.cells #[.bool s6, .slice p6 m6 m6, .int .i64 (el)] 26)) := below1 v6 _
      generalize v6.alloc (.cells #[.bool s6, .slice p6 m6 m6, .int .i64 (el)] 26) = Wu at *
      have HGu : Hid (w.heap.size ≤ v6.heap.size) := hbw.size
      replace Xa : Hid _ := Xa.out.below hbn
      replace Xb : Hid _ := Xb.out.below hbn
      replace Xc : Hid _ := Xc.out.below hbn
      replace Xo : Hid _ := Xo.out.below hbn
      replace D5 : Hid _ := D5.out.below hbn
      replace D6 : Hid _ := D6.out.below hbn
      replace hbw := Below.on hbw hbn
      clear hbn
      generalize v6.heap.size = gu at *
      have Xu := Xu0
      clear Xu0
      refine (same5 D6.out (H1.out.below hbw)).mono ?_
      rintro e v7 ⟨rfl, hb7⟩
      replace Xa : Hid _ := Xa.out.below hb7
      replace Xb : Hid _ := Xb.out.below hb7
      replace Xc : Hid _ := Xc.out.below hb7
      replace Xo : Hid _ := Xo.out.below hb7
      replace Xu : Hid _ := Xu.out.below hb7
      replace D5 : Hid _ := D5.out.below hb7
      replace D6 : Hid _ := D6.out.below hb7
      replace hbw := Below.on hbw hb7
      clear hb7
      go_wp2_with fail
      go_ret
      exact ⟨rfl, hbw⟩
  · rw [decide_eq_false h9]
    clear h9
    obtain ⟨ca0, ca1, ca2, fa0, fa1, fa2⟩ := Xa.out
    have hnea : ga < v1.heap.size := World.block_lt_of_cell? v1 _ ca0
    obtain ⟨cb0, cb1, cb2, fb0, fb1, fb2⟩ := Xb.out
    have hneb : gb < v1.heap.size := World.block_lt_of_cell? v1 _ cb0
    go_wp2_with fail
    clear ca0 ca1 ca2 fa0 fa1 fa2 hnea
    clear cb0 cb1 cb2 fb0 fb1 fb2 hneb
    refine (nought).mono ?_
    rintro e v2 ⟨rfl, hb2⟩
    replace Xa : Hid _ := Xa.out.below hb2
    replace Xb : Hid _ := Xb.out.below hb2
    replace Xc : Hid _ := Xc.out.below hb2
    replace hbw := Below.on hbw hb2
    clear hb2
    rcases K2.out with h7 | ⟨h7, h6⟩
    · rw [decide_eq_true h7]
      clear h7
      obtain ⟨cc0, cc1, cc2, fc0, fc1, fc2⟩ := Xc.out
      have hnec : gc < v2.heap.size := World.block_lt_of_cell? v2 _ cc0
      go_wp2_with fail
      clear cc0 cc1 cc2 fc0 fc1 fc2 hnec
      clear k3
      refine (step5 HEE.out (TB.out.below hbw)).mono ?_
      rintro e2 v5 ⟨v, rfl, hv, hb5⟩
      obtain ⟨s5, p5, m5, rfl, hd5⟩ := hv.dn (.inr ⟨by decide, HEE.out⟩)
      clear hv
      replace Xa : Hid _ := Xa.out.below hb5
      replace Xb : Hid _ := Xb.out.below hb5
      replace Xc : Hid _ := Xc.out.below hb5
      replace hbw := Below.on hbw hb5
      clear hb5
      have D5 : Hid (DN v5 s5 p5 m5 m5 (E) (1)) := hd5
      clear hd5
      obtain ⟨cb0, cb1, cb2, fb0, fb1, fb2⟩ := Xb.out
      have hneb : gb < v5.heap.size := World.block_lt_of_cell? v5 _ cb0
      go_wp2_with fail
      clear cb0 cb1 cb2 fb0 fb1 fb2 hneb
      have HDao : Hid (ga ≠ v5.heap.size) := Nat.ne_of_lt Xa.out.lt
      have HDbo : Hid (gb ≠ v5.heap.size) := Nat.ne_of_lt Xb.out.lt
      have HDco : Hid (gc ≠ v5.heap.size) := Nat.ne_of_lt Xc.out.lt
      have Xo0 : Hid (B3q (v5.alloc (.cells #[.bool s5, .slice p5 m5 m5, .int .i64 (E)] 26)) v5.heap.size (.bool s5) (.slice p5 m5 m5) (.int .i64 (E))) := B3q.new v5 _ _ _ _
      have hbn : Below v5.heap.size v5 (v5.alloc (.cells #[.bool s5, .slice p5 m5 m5, .int .i64 (E)] 26)) := below1 v5 _
      generalize v5.alloc (.cells #[.bool s5, .slice p5 m5 m5, .int .i64 (E)] 26) = Wo at *
      have HGo : Hid (w.heap.size ≤ v5.heap.size) := hbw.size
      replace Xa : Hid _ := Xa.out.below hbn
      replace Xb : Hid _ := Xb.out.below hbn
      replace Xc : Hid _ := Xc.out.below hbn
      replace D5 : Hid _ := D5.out.below hbn
      replace hbw := Below.on hbw hbn
      clear hbn
      generalize v5.heap.size = go at *
      have Xo := Xo0
      clear Xo0
      refine (dsub_v (H2.out.below hbw) D5.out H1.out.fm HG.out.1 HG.out.2 (TB.out.below hbw)).mono ?_
      rintro e2 v6 ⟨v, rfl, hv, hb6⟩
      obtain ⟨s6, p6, m6, rfl, hd6⟩ := hv.dn (H1.out.fm)
      clear hv
      replace Xa : Hid _ := Xa.out.below hb6
      replace Xb : Hid _ := Xb.out.below hb6
      replace Xc : Hid _ := Xc.out.below hb6
      replace Xo : Hid _ := Xo.out.below hb6
      replace D5 : Hid _ := D5.out.below hb6
      replace hbw := Below.on hbw hb6
      clear hb6
      have D6 : Hid (DN v6 s6 p6 m6 m6 (el) (zl)) := hd6
      clear hd6
      obtain ⟨ca0, ca1, ca2, fa0, fa1, fa2⟩ := Xa.out
      have hnea : ga < v6.heap.size := World.block_lt_of_cell? v6 _ ca0
      go_wp2_with fail
      clear ca0 ca1 ca2 fa0 fa1 fa2 hnea
      have HDau : Hid (ga ≠ v6.heap.size) := Nat.ne_of_lt Xa.out.lt
      have HDbu : Hid (gb ≠ v6.heap.size) := Nat.ne_of_lt Xb.out.lt
      have HDcu : Hid (gc ≠ v6.heap.size) := Nat.ne_of_lt Xc.out.lt
      have HDou : Hid (go ≠ v6.heap.size) := Nat.ne_of_lt Xo.out.lt
      have Xu0 : Hid (B3q (v6.alloc (.cells #[.bool s6, .slice p6 m6 m6, .int .i64 (el)] 26)) v6.heap.size (.bool s6) (.slice p6 m6 m6) (.int .i64 (el))) := B3q.new v6 _ _ _ _
      have hbn : Below v6.heap.size v6 (v6.alloc (.cells #[.bool s6, .slice p6 m6 m6, .int .i64 (el)] 26)) := below1 v6 _
      generalize v6.alloc (.cells #[.bool s6, .slice p6 m6 m6, .int .i64 (el)] 26) = Wu at *
      have HGu : Hid (w.heap.size ≤ v6.heap.size) := hbw.size
      replace Xa : Hid _ := Xa.out.below hbn
      replace Xb : Hid _ := Xb.out.below hbn
      replace Xc : Hid _ := Xc.out.below hbn
      replace Xo : Hid _ := Xo.out.below hbn
      replace D5 : Hid _ := D5.out.below hbn
      replace D6 : Hid _ := D6.out.below hbn
      replace hbw := Below.on hbw hbn
      clear hbn
      generalize v6.heap.size = gu at *
      have Xu := Xu0
      clear Xu0
      refine (same5 D6.out (H1.out.below hbw)).mono ?_
      rintro e v7 ⟨rfl, hb7⟩
      replace Xa : Hid _ := Xa.out.below hb7
      replace Xb : Hid _ := Xb.out.below hb7
      replace Xc : Hid _ := Xc.out.below hb7
      replace Xo : Hid _ := Xo.out.below hb7
      replace Xu : Hid _ := Xu.out.below hb7
      replace D5 : Hid _ := D5.out.below hb7
      replace D6 : Hid _ := D6.out.below hb7
      replace hbw := Below.on hbw hb7
      clear hb7
      go_wp2_with fail
      go_ret
      exact ⟨rfl, hbw⟩
    · rw [decide_eq_false h7]
      clear h7
      obtain ⟨cb0, cb1, cb2, fb0, fb1, fb2⟩ := Xb.out
      have hneb : gb < v2.heap.size := World.block_lt_of_cell? v2 _ cb0
      obtain ⟨cc0, cc1, cc2, fc0, fc1, fc2⟩ := Xc.out
      have hnec : gc < v2.heap.size := World.block_lt_of_cell? v2 _ cc0
      go_wp2_with fail
      clear cb0 cb1 cb2 fb0 fb1 fb2 hneb
      clear cc0 cc1 cc2 fc0 fc1 fc2 hnec
      clear k3
      refine (step5 HEE.out (TB.out.below hbw)).mono ?_
      rintro e2 v5 ⟨v, rfl, hv, hb5⟩
      obtain ⟨s5, p5, m5, rfl, hd5⟩ := hv.dn (.inr ⟨by decide, HEE.out⟩)
      clear hv
      replace Xa : Hid _ := Xa.out.below hb5
      replace Xb : Hid _ := Xb.out.below hb5
      replace Xc : Hid _ := Xc.out.below hb5
      replace hbw := Below.on hbw hb5
      clear hb5
      have D5 : Hid (DN v5 s5 p5 m5 m5 (E) (1)) := hd5
      clear hd5
      obtain ⟨cb0, cb1, cb2, fb0, fb1, fb2⟩ := Xb.out
      have hneb : gb < v5.heap.size := World.block_lt_of_cell? v5 _ cb0
      go_wp2_with fail
      clear cb0 cb1 cb2 fb0 fb1 fb2 hneb
      have HDao : Hid (ga ≠ v5.heap.size) := Nat.ne_of_lt Xa.out.lt
      have HDbo : Hid (gb ≠ v5.heap.size) := Nat.ne_of_lt Xb.out.lt
      have HDco : Hid (gc ≠ v5.heap.size) := Nat.ne_of_lt Xc.out.lt
      have Xo0 : Hid (B3q (v5.alloc (.cells #[.bool s5, .slice p5 m5 m5, .int .i64 (E)] 26)) v5.heap.size (.bool s5) (.slice p5 m5 m5) (.int .i64 (E))) := B3q.new v5 _ _ _ _
      have hbn : Below v5.heap.size v5 (v5.alloc (.cells #[.bool s5, .slice p5 m5 m5, .int .i64 (E)] 26)) := below1 v5 _
      generalize v5.alloc (.cells #[.bool s5, .slice p5 m5 m5, .int .i64 (E)] 26) = Wo at *
      have HGo : Hid (w.heap.size ≤ v5.heap.size) := hbw.size
      replace Xa : Hid _ := Xa.out.below hbn
      replace Xb : Hid _ := Xb.out.below hbn
      replace Xc : Hid _ := Xc.out.below hbn
      replace D5 : Hid _ := D5.out.below hbn
      replace hbw := Below.on hbw hbn
      clear hbn
      generalize v5.heap.size = go at *
      have Xo := Xo0
      clear Xo0
      refine (dsub_v (H2.out.below hbw) D5.out H1.out.fm HG.out.1 HG.out.2 (TB.out.below hbw)).mono ?_
      rintro e2 v6 ⟨v, rfl, hv, hb6⟩
      obtain ⟨s6, p6, m6, rfl, hd6⟩ := hv.dn (H1.out.fm)
      clear hv
      replace Xa : Hid _ := Xa.out.below hb6
      replace Xb : Hid _ := Xb.out.below hb6
      replace Xc : Hid _ := Xc.out.below hb6
      replace Xo : Hid _ := Xo.out.below hb6
      replace D5 : Hid _ := D5.out.below hb6
      replace hbw := Below.on hbw hb6
      clear hb6
      have D6 : Hid (DN v6 s6 p6 m6 m6 (el) (zl)) := hd6
      clear hd6
      obtain ⟨ca0, ca1, ca2, fa0, fa1, fa2⟩ := Xa.out
      have hnea : ga < v6.heap.size := World.block_lt_of_cell? v6 _ ca0
      go_wp2_with fail
      clear ca0 ca1 ca2 fa0 fa1 fa2 hnea
      have HDau : Hid (ga ≠ v6.heap.size) := Nat.ne_of_lt Xa.out.lt
      have HDbu : Hid (gb ≠ v6.heap.size) := Nat.ne_of_lt Xb.out.lt
      have HDcu : Hid (gc ≠ v6.heap.size) := Nat.ne_of_lt Xc.out.lt
      have HDou : Hid (go ≠ v6.heap.size) := Nat.ne_of_lt Xo.out.lt
      have Xu0 : Hid (B3q (v6.alloc (.cells #[.bool s6, .slice p6 m6 m6, .int .i64 (el)] 26)) v6.heap.size (.bool s6) (.slice p6 m6 m6) (.int .i64 (el))) := B3q.new v6 _ _ _ _
      have hbn : Below v6.heap.size v6 (v6.alloc (.cells #[.bool s6, .slice p6 m6 m6, .int .i64 (el)] 26)) := below1 v6 _
      generalize v6.alloc (.cells #[.bool s6, .slice p6 m6 m6, .int .i64 (el)] 26) = Wu at *
      have HGu : Hid (w.heap.size ≤ v6.heap.size) := hbw.size
      replace Xa : Hid _ := Xa.out.below hbn
      replace Xb : Hid _ := Xb.out.below hbn
      replace Xc : Hid _ := Xc.out.below hbn
      replace Xo : Hid _ := Xo.out.below hbn
      replace D5 : Hid _ := D5.out.below hbn
      replace D6 : Hid _ := D6.out.below hbn
      replace hbw := Below.on hbw hbn
      clear hbn
      generalize v6.heap.size = gu at *
      have Xu := Xu0
      clear Xu0
      refine (same5 D6.out (H1.out.below hbw)).mono ?_
      rintro e v7 ⟨rfl, hb7⟩
      replace Xa : Hid _ := Xa.out.below hb7
      replace Xb : Hid _ := Xb.out.below hb7
      replace Xc : Hid _ := Xc.out.below hb7
      replace Xo : Hid _ := Xo.out.below hb7
      replace Xu : Hid _ := Xu.out.below hb7
      replace D5 : Hid _ := D5.out.below hb7
      replace D6 : Hid _ := D6.out.below hb7
      replace hbw := Below.on hbw hb7
      clear hb7
      go_wp2_with fail
      go_ret
      exact ⟨rfl, hbw⟩
set_option maxRecDepth 20000 in
set_option maxHeartbeats 8000000 in
theorem dyadicGrid_w {p : Option Addr} {m c : Nat} {xs : List Nat} {w : World} {e E : Int} (s : Bool) (h : At w p m c xs) (hT : Tab w) :
    Calls Tryz.prog 3 #[DV s p m c e, .int .i64 E] w fun en w' => en = .returned (.bool true) ∧ Below w.heap.size w w' := by
  have H : Hid (At w p m c xs) := h
  have TB : Hid (Tab w) := hT
  clear h hT
  go_enter Tryz.func3, Tryz.ntmps3
  go_wp2_with fail
  obtain ⟨W0, hW0⟩ : ∃ W0, W0 = (w.alloc (.cells #[.bool s, .slice p m c, .int .i64 e] 26)) := ⟨_, rfl⟩
  have Xd : Hid (B3q W0 (w.heap.size) (.bool s) (.slice p m c) (.int .i64 e)) := by rw [hW0]; exact ⟨by go_simp, by go_simp, by go_simp, by go_simp, by go_simp, by go_simp⟩
  have hb0 : Below w.heap.size w W0 := by rw [hW0]; exact below1 w _
  rw [← hW0]
  clear hW0
  have hbw : Below w.heap.size w w := Below.refl _ _
  obtain ⟨gd, hgd⟩ : ∃ g, g = w.heap.size := ⟨_, rfl⟩
  have HGd : Hid (w.heap.size ≤ gd) := by rw [hgd]; show _ ≤ _; omega
  rw [← hgd] at Xd
  try rw [← hgd]
  clear hgd
  replace hbw := Below.on hbw hb0
  clear hb0
  refine (num5 (-1) (-9) (by decide) (by decide) (by decide)).mono ?_
  rintro e2 v1 ⟨s1, g1, m1, c1, rfl, _, hd1, hb1⟩
  replace Xd : Hid _ := Xd.out.below hb1
  replace hbw := Below.on hbw hb1
  clear hb1
  have D1 : Hid (DN v1 s1 (some ⟨g1, 0, none⟩) m1 c1 (-9) (-1)) := hd1
  clear hd1
  go_wp2_with fail
  refine (at_d D1.out (by decide) (by decide) gp_first (TB.out.below hbw)).mono ?_
  rintro e2 v2 ⟨v, rfl, hv, hb2⟩
  obtain ⟨s2, p2, m2, rfl, hd2⟩ := hv.dn (gp_first.1)
  clear hv
  replace Xd : Hid _ := Xd.out.below hb2
  replace D1 : Hid _ := D1.out.below hb2
  replace hbw := Below.on hbw hb2
  clear hb2
  have D2 : Hid (DN v2 s2 p2 m2 m2 (3) (-1)) := hd2
  clear hd2
  clear D1
  go_wp2_with fail
  have HDdl : Hid (gd ≠ v2.heap.size) := Nat.ne_of_lt Xd.out.lt
  have Xl0 : Hid (B3q (v2.alloc (.cells #[.bool s2, .slice p2 m2 m2, .int .i64 (3)] 26)) v2.heap.size (.bool s2) (.slice p2 m2 m2) (.int .i64 (3))) := B3q.new v2 _ _ _ _
  have hbn : Below v2.heap.size v2 (v2.alloc (.cells #[.bool s2, .slice p2 m2 m2, .int .i64 (3)] 26)) := below1 v2 _
  generalize v2.alloc (.cells #[.bool s2, .slice p2 m2 m2, .int .i64 (3)] 26) = Wl at *
  have HGl : Hid (w.heap.size ≤ v2.heap.size) := hbw.size
  replace Xd : Hid _ := Xd.out.below hbn
  replace D2 : Hid _ := D2.out.below hbn
  replace hbw := Below.on hbw hbn
  clear hbn
  generalize v2.heap.size = gl at *
  have Xl := Xl0
  clear Xl0
  obtain ⟨Wr, hWr⟩ : ∃ W1, W1 = Wl.drew := ⟨_, rfl⟩
  have hbd : Below Wl.heap.size Wl Wr := by rw [hWr]; exact bDrew1 (Below.refl _ _)
  replace Xd : Hid _ := Xd.out.below hbd
  replace Xl : Hid _ := Xl.out.below hbd
  replace D2 : Hid _ := D2.out.below hbd
  replace hbw := Below.on hbw hbd
  clear hbd
  have HJ : Hid ((fun W' : World => W'.cell? ⟨gl, 0, none⟩ = some (.bool s2) ∧ W'.cell? ⟨gl, 1, none⟩ = some (.slice p2 m2 m2) ∧ W'.cell? ⟨gl, 2, none⟩ = some (.int .i64 (3))) Wr) := ⟨Xl.out.c0, Xl.out.c1, Xl.out.c2⟩
  refine wp_region_J (fun W' => W'.cell? ⟨gl, 0, none⟩ = some (.bool s2) ∧ W'.cell? ⟨gl, 1, none⟩ = some (.slice p2 m2 m2) ∧ W'.cell? ⟨gl, 2, none⟩ = some (.int .i64 (3))) (by kernel_rfl) ?_
  rw [← hWr]
  clear hWr
  refine wpJ_take (i := 0) (v := ?v1x0) rfl (by kernel_rfl) (by kernel_rfl) (by kernel_rfl) (fun _ _ _ h => h) (by kernel_rfl) ?hy1x0 HJ.out ?rest1x0
  case hy1x0 => (intro W' hJ; obtain ⟨j0, j1, j2⟩ := hJ; go_simp; first | done | with_reducible rfl)
  refine wpJ_take (i := 1) (v := ?v2x1) rfl (by kernel_rfl) (by kernel_rfl) (by kernel_rfl) (fun _ _ _ h => h) (by kernel_rfl) ?hy2x1 HJ.out ?rest2x1
  case hy2x1 => (intro W' hJ; obtain ⟨j0, j1, j2⟩ := hJ; go_simp; first | done | with_reducible rfl)
  refine wpJ_one (i := 2) (by kernel_rfl) rfl (by kernel_rfl) (fun KJ hK => ?_)
  go_simp
  refine (num5 (-1) (3) (by decide) (by decide) (by decide)).mono ?_
  rintro e2 v4 ⟨s4, g4, m4, c4, rfl, _, hd4, hb4⟩
  replace Xd : Hid _ := Xd.out.below hb4
  replace Xl : Hid _ := Xl.out.below hb4
  replace D2 : Hid _ := D2.out.below hb4
  replace hbw := Below.on hbw hb4
  clear hb4
  have D4 : Hid (DN v4 s4 (some ⟨g4, 0, none⟩) m4 c4 (3) (-1)) := hd4
  clear hd4
  refine hK _ _ ⟨Xl.out.c0, Xl.out.c1, Xl.out.c2⟩ ?_
  clear hK
  refine wpJ_one (i := 3) (by kernel_rfl) rfl (by kernel_rfl) (fun KJ hK => ?_)
  go_simp
  refine (same5 D2.out D4.out).mono ?_
  rintro e v5 ⟨rfl, hb5⟩
  replace Xd : Hid _ := Xd.out.below hb5
  replace Xl : Hid _ := Xl.out.below hb5
  replace D2 : Hid _ := D2.out.below hb5
  replace D4 : Hid _ := D4.out.below hb5
  replace hbw := Below.on hbw hb5
  clear hb5
  clear HJ
  have HJ : Hid ((fun W' : World => W'.cell? ⟨gl, 0, none⟩ = some (.bool s2) ∧ W'.cell? ⟨gl, 1, none⟩ = some (.slice p2 m2 m2) ∧ W'.cell? ⟨gl, 2, none⟩ = some (.int .i64 (3))) v5) := ⟨Xl.out.c0, Xl.out.c1, Xl.out.c2⟩
  refine hK _ _ HJ.out ?_
  clear hK
  refine wpJ_take (i := 4) (v := ?v3x4) rfl (by kernel_rfl) (by kernel_rfl) (by kernel_rfl) (fun _ _ _ h => h) (by kernel_rfl) ?hy3x4 HJ.out ?rest3x4
  case hy3x4 => (intro W' hJ; obtain ⟨j0, j1, j2⟩ := hJ; go_simp; first | done | with_reducible rfl)
  refine wpJ_take (i := 5) (v := ?v4x5) rfl (by kernel_rfl) (by kernel_rfl) (by kernel_rfl) (fun _ _ _ h => h) (by kernel_rfl) ?hy4x5 HJ.out ?rest4x5
  case hy4x5 => (intro W' hJ; obtain ⟨j0, j1, j2⟩ := hJ; go_simp; first | done | with_reducible rfl)
  refine wpJ_one (i := 6) (by kernel_rfl) rfl (by kernel_rfl) (fun KJ hK => ?_)
  go_simp
  refine (awake5 _ (TB.out.below hbw)).mono ?_
  rintro e v6 ⟨rfl, hb6⟩
  replace Xd : Hid _ := Xd.out.below hb6
  replace Xl : Hid _ := Xl.out.below hb6
  replace D2 : Hid _ := D2.out.below hb6
  replace D4 : Hid _ := D4.out.below hb6
  replace hbw := Below.on hbw hb6
  clear hb6
  clear HJ
  have HJ : Hid ((fun W' : World => W'.cell? ⟨gl, 0, none⟩ = some (.bool s2) ∧ W'.cell? ⟨gl, 1, none⟩ = some (.slice p2 m2 m2) ∧ W'.cell? ⟨gl, 2, none⟩ = some (.int .i64 (3))) v6) := ⟨Xl.out.c0, Xl.out.c1, Xl.out.c2⟩
  refine hK _ _ HJ.out ?_
  clear hK
  refine wpJ_take (i := 7) (v := ?v5x7) rfl (by kernel_rfl) (by kernel_rfl) (by kernel_rfl) (fun _ _ _ h => h) (by kernel_rfl) ?hy5x7 HJ.out ?rest5x7
  case hy5x7 => (intro W' hJ; obtain ⟨j0, j1, j2⟩ := hJ; go_simp; first | done | with_reducible rfl)
  refine wpJ_take (i := 8) (v := ?v6x8) rfl (by kernel_rfl) (by kernel_rfl) (by kernel_rfl) (fun _ _ _ h => h) (by kernel_rfl) ?hy6x8 HJ.out ?rest6x8
  case hy6x8 => (intro W' hJ; obtain ⟨j0, j1, j2⟩ := hJ; go_simp; first | done | with_reducible rfl)
  refine wpJ_done (by kernel_rfl) ?_ _
  clear HJ
  clear D4
  clear D2
  obtain ⟨cd0, cd1, cd2, fd0, fd1, fd2⟩ := Xd.out
  have hned : gd < v6.heap.size := World.block_lt_of_cell? v6 _ cd0
  go_wp2_with fail
  clear cd0 cd1 cd2 fd0 fd1 fd2 hned
  refine (docformd s (H.out.below hbw)).mono ?_
  rintro e2 v7 ⟨rfl, hb7⟩
  replace Xd : Hid _ := Xd.out.below hb7
  replace Xl : Hid _ := Xl.out.below hb7
  replace hbw := Below.on hbw hb7
  clear hb7
  cases hf : formD s xs e
  · clear hf
    go_wp2_with fail
    go_ret
    exact ⟨rfl, hbw⟩
  · have HF : Hid (formD s xs e = true) := hf
    clear hf
    obtain ⟨cd0, cd1, cd2, fd0, fd1, fd2⟩ := Xd.out
    have hned : gd < v7.heap.size := World.block_lt_of_cell? v7 _ cd0
    go_wp2_with fail
    clear cd0 cd1 cd2 fd0 fd1 fd2 hned
    refine (nought).mono ?_
    rintro e v8 ⟨rfl, hb8⟩
    replace Xd : Hid _ := Xd.out.below hb8
    replace Xl : Hid _ := Xl.out.below hb8
    replace hbw := Below.on hbw hb8
    clear hb8
    by_cases hm0 : m = 0
    · subst hm0
      rw [decide_eq_true rfl]
      go_wp2_with fail
      go_ret
      exact ⟨rfl, hbw⟩
    · rw [decide_eq_false hm0]
      have HD0 := formD_dn H.out HF.out
      obtain ⟨z, hz⟩ : ∃ z, z = iv s (valB B64 xs) := ⟨_, rfl⟩
      rw [← hz] at HD0
      have H0 : Hid (DN w s p m c e z) := HD0
      have HZ : Hid (z ≠ 0) := by
        obtain ⟨ys, hY⟩ := HD0.zn.ex
        intro h9
        exact hm0 (hY.zero.2 (by rw [h9]; rfl))
      have hef : -1048576 ≤ e ∧ e ≤ 1048576 := by rcases HD0.fm with ⟨h0, _⟩ | ⟨_, h5⟩; (exact absurd h0 HZ.out); exact h5
      have HE : Hid (-1048576 ≤ e ∧ e ≤ 1048576) := hef
      clear hz HD0 HF hm0 hef
      by_cases hE : 1048576 < E
      · go_wp2_with fail
        go_ret
        exact ⟨rfl, hbw⟩
      · obtain ⟨cd0, cd1, cd2, fd0, fd1, fd2⟩ := Xd.out
        have hned : gd < v8.heap.size := World.block_lt_of_cell? v8 _ cd0
        go_wp2_with fail
        clear cd0 cd1 cd2 fd0 fd1 fd2 hned
        have HEM : Hid (E ≤ 1048576) := (by omega : E ≤ 1048576)
        clear hE
        refine (dTop (H0.out.below hbw) HZ.out).mono ?_
        rintro e v9 ⟨rfl, hb9⟩
        obtain ⟨t, ht⟩ : ∃ t, t = topI z e := ⟨_, rfl⟩
        rw [← ht]
        replace Xd : Hid _ := Xd.out.below hb9
        replace Xl : Hid _ := Xl.out.below hb9
        replace hbw := Below.on hbw hb9
        clear hb9
        by_cases h9 : 1048576 ≤ t
        · go_wp2_with fail
          go_ret
          exact ⟨rfl, hbw⟩
        · obtain ⟨cd0, cd1, cd2, fd0, fd1, fd2⟩ := Xd.out
          have hned : gd < v9.heap.size := World.block_lt_of_cell? v9 _ cd0
          go_wp2_with fail
          clear cd0 cd1 cd2 fd0 fd1 fd2 hned
          have HTP : Hid (topI z e < 1048576) := (by omega : topI z e < 1048576)
          clear h9 ht
          obtain ⟨zl, el, hgl⟩ := GP_ex false (E := E) H0.out.fm HZ.out HTP.out HEM.out
          obtain ⟨zh, eh, hgh⟩ := GP_ex true (E := E) H0.out.fm HZ.out HTP.out HEM.out
          have GL : Hid (GP false z e E zl el) := hgl
          have GH : Hid (GP true z e E zh eh) := hgh
          clear hgl hgh
          have HL10 : Hid (gl < v9.heap.size) := Xl.out.lt
          refine (at_d (H0.out.below hbw) HZ.out HEM.out GL.out (TB.out.below hbw)).mono ?_
          rintro e2 v10 ⟨v, rfl, hv, hb10⟩
          obtain ⟨p10, m10, z10s, rfl, ho10, hn10, hm10⟩ := hv
          replace Xd : Hid _ := Xd.out.below hb10
          replace Xl : Hid _ := Xl.out.below hb10
          replace hbw := Below.on hbw hb10
          clear hb10
          have O10 : Hid (Own v9.heap.size v10 p10 m10 z10s) := ho10
          have N10 : Hid (Nf B64 z10s (zl).natAbs ∧ m10 ≤ 8192) := ⟨hn10, hm10⟩
          obtain ⟨s10, hs10⟩ : ∃ b, b = decide ((zl) < 0) := ⟨_, rfl⟩
          rw [← hs10]
          have HS10 : Hid (s10 = decide ((zl) < 0)) := hs10
          clear ho10 hn10 hm10 hs10
          obtain ⟨cl0, cl1, cl2, fl0, fl1, fl2⟩ := Xl.out
          have hnel : gl < v10.heap.size := World.block_lt_of_cell? v10 _ cl0
          obtain ⟨cd0, cd1, cd2, fd0, fd1, fd2⟩ := Xd.out
          have hned : gd < v10.heap.size := World.block_lt_of_cell? v10 _ cd0
          have qad : gd ≠ gl := HDdl.out
          have qbd : gl ≠ gd := fun h => qad h.symm
          go_wp2_with fail
          have Xl2 : Hid (B3q (((v10.setCell ⟨gl, 0, none⟩ (.bool s10)).setCell ⟨gl, 1, none⟩ (.slice p10 m10 m10)).setCell ⟨gl, 2, none⟩ (.int .i64 (el))) gl (.bool s10) (.slice p10 m10 m10) (.int .i64 (el))) := ⟨by go_simp, by go_simp, by go_simp, by go_simp, by go_simp, by go_simp⟩
          have Xd2 : Hid (B3q (((v10.setCell ⟨gl, 0, none⟩ (.bool s10)).setCell ⟨gl, 1, none⟩ (.slice p10 m10 m10)).setCell ⟨gl, 2, none⟩ (.int .i64 (el))) gd (.bool s) (.slice p m c) (.int .i64 e)) := ⟨by go_simp, by go_simp, by go_simp, by go_simp, by go_simp, by go_simp⟩
          have O102 : Hid (Own v9.heap.size (((v10.setCell ⟨gl, 0, none⟩ (.bool s10)).setCell ⟨gl, 1, none⟩ (.slice p10 m10 m10)).setCell ⟨gl, 2, none⟩ (.int .i64 (el))) p10 m10 z10s) := own_set3 O10.out HL10.out (Nat.le_refl _) _ _ _
          have hbw2 : Below w.heap.size w (((v10.setCell ⟨gl, 0, none⟩ (.bool s10)).setCell ⟨gl, 1, none⟩ (.slice p10 m10 m10)).setCell ⟨gl, 2, none⟩ (.int .i64 (el))) := bSet (bSet (bSet hbw _ _ _ HGl.out) _ _ _ HGl.out) _ _ _ HGl.out
          clear cl0 cl1 cl2 fl0 fl1 fl2 hnel
          clear cd0 cd1 cd2 fd0 fd1 fd2 hned
          clear qad qbd hbw O10 Xl Xd
          generalize (((v10.setCell ⟨gl, 0, none⟩ (.bool s10)).setCell ⟨gl, 1, none⟩ (.slice p10 m10 m10)).setCell ⟨gl, 2, none⟩ (.int .i64 (el))) = Wl2 at *
          have Xl := Xl2
          have Xd := Xd2
          have hbw := hbw2
          clear hbw2 Xl2 Xd2
          have D10 : Hid (DN Wl2 s10 p10 m10 m10 (el) (zl)) := ⟨⟨⟨z10s, Num.of O102.out N10.out.1 N10.out.2⟩, HS10.out⟩, GL.out.1⟩
          clear O102 HL10 N10 HS10
          refine (at_u (H0.out.below hbw) HZ.out HEM.out GH.out (TB.out.below hbw)).mono ?_
          rintro e2 v11 ⟨v, rfl, hv, hb11⟩
          obtain ⟨s11, p11, m11, rfl, hd11⟩ := hv.dn (GH.out.1)
          clear hv
          replace Xd : Hid _ := Xd.out.below hb11
          replace Xl : Hid _ := Xl.out.below hb11
          replace D10 : Hid _ := D10.out.below hb11
          replace hbw := Below.on hbw hb11
          clear hb11
          have D11 : Hid (DN v11 s11 p11 m11 m11 (eh) (zh)) := hd11
          clear hd11
          obtain ⟨cl0, cl1, cl2, fl0, fl1, fl2⟩ := Xl.out
          have hnel : gl < v11.heap.size := World.block_lt_of_cell? v11 _ cl0
          obtain ⟨cd0, cd1, cd2, fd0, fd1, fd2⟩ := Xd.out
          have hned : gd < v11.heap.size := World.block_lt_of_cell? v11 _ cd0
          go_wp2_with fail
          clear cl0 cl1 cl2 fl0 fl1 fl2 hnel
          clear cd0 cd1 cd2 fd0 fd1 fd2 hned
          have HDdh : Hid (gd ≠ v11.heap.size) := Nat.ne_of_lt Xd.out.lt
          have HDlh : Hid (gl ≠ v11.heap.size) := Nat.ne_of_lt Xl.out.lt
          have Xh0 : Hid (B3q (v11.alloc (.cells #[.bool s11, .slice p11 m11 m11, .int .i64 (eh)] 26)) v11.heap.size (.bool s11) (.slice p11 m11 m11) (.int .i64 (eh))) := B3q.new v11 _ _ _ _
          have hbn : Below v11.heap.size v11 (v11.alloc (.cells #[.bool s11, .slice p11 m11 m11, .int .i64 (eh)] 26)) := below1 v11 _
          generalize v11.alloc (.cells #[.bool s11, .slice p11 m11 m11, .int .i64 (eh)] 26) = Wh at *
          have HGh : Hid (w.heap.size ≤ v11.heap.size) := hbw.size
          replace Xd : Hid _ := Xd.out.below hbn
          replace Xl : Hid _ := Xl.out.below hbn
          replace D10 : Hid _ := D10.out.below hbn
          replace D11 : Hid _ := D11.out.below hbn
          replace hbw := Below.on hbw hbn
          clear hbn
          generalize v11.heap.size = gh at *
          have Xh := Xh0
          clear Xh0
          refine (between5 D10.out (H0.out.below hbw) D11.out (GL.out.lo (by have := HE.out; omega)) (GH.out.hi (by have := HE.out; omega))).mono ?_
          rintro e v12 ⟨rfl, hb12⟩
          replace Xd : Hid _ := Xd.out.below hb12
          replace Xl : Hid _ := Xl.out.below hb12
          replace Xh : Hid _ := Xh.out.below hb12
          replace D10 : Hid _ := D10.out.below hb12
          replace D11 : Hid _ := D11.out.below hb12
          replace hbw := Below.on hbw hb12
          clear hb12
          obtain ⟨cl0, cl1, cl2, fl0, fl1, fl2⟩ := Xl.out
          have hnel : gl < v12.heap.size := World.block_lt_of_cell? v12 _ cl0
          obtain ⟨cd0, cd1, cd2, fd0, fd1, fd2⟩ := Xd.out
          have hned : gd < v12.heap.size := World.block_lt_of_cell? v12 _ cd0
          obtain ⟨ch0, ch1, ch2, fh0, fh1, fh2⟩ := Xh.out
          have hneh : gh < v12.heap.size := World.block_lt_of_cell? v12 _ ch0
          go_wp2_with fail
          clear cl0 cl1 cl2 fl0 fl1 fl2 hnel
          clear cd0 cd1 cd2 fd0 fd1 fd2 hned
          clear ch0 ch1 ch2 fh0 fh1 fh2 hneh
          refine (nought).mono ?_
          rintro e v13 ⟨rfl, hb13⟩
          replace Xd : Hid _ := Xd.out.below hb13
          replace Xl : Hid _ := Xl.out.below hb13
          replace Xh : Hid _ := Xh.out.below hb13
          replace D10 : Hid _ := D10.out.below hb13
          replace D11 : Hid _ := D11.out.below hb13
          replace hbw := Below.on hbw hb13
          clear hb13
          by_cases hEe : E ≤ e
          · have EQ : Hid (zl = z ∧ el = e ∧ zh = z ∧ eh = e) := by
              rcases GL.out.2 with ⟨_, h2, h3⟩ | ⟨h1, _⟩
              · rcases GH.out.2 with ⟨_, h4, h5⟩ | ⟨h1, _⟩
                · exact ⟨h2, h3, h4, h5⟩
                · omega
              · omega
            have hm10 : m10 ≠ 0 := by
              obtain ⟨ys, hY⟩ := D10.out.zn.ex
              intro h9
              exact HZ.out (by rw [← EQ.out.1]; exact Int.natAbs_eq_zero.1 (hY.zero.1 h9))
            rw [decide_eq_false hm10]
            have hle1 : ¬ el < E := by have := EQ.out.2.1; omega
            clear hm10
            obtain ⟨cl0, cl1, cl2, fl0, fl1, fl2⟩ := Xl.out
            have hnel : gl < v13.heap.size := World.block_lt_of_cell? v13 _ cl0
            obtain ⟨cd0, cd1, cd2, fd0, fd1, fd2⟩ := Xd.out
            have hned : gd < v13.heap.size := World.block_lt_of_cell? v13 _ cd0
            obtain ⟨ch0, ch1, ch2, fh0, fh1, fh2⟩ := Xh.out
            have hneh : gh < v13.heap.size := World.block_lt_of_cell? v13 _ ch0
            go_wp2_with fail
            clear cl0 cl1 cl2 fl0 fl1 fl2 hnel
            clear cd0 cd1 cd2 fd0 fd1 fd2 hned
            clear ch0 ch1 ch2 fh0 fh1 fh2 hneh
            clear hle1 hEe
            refine (sameD D10.out (H0.out.below hbw)).mono ?_
            rintro e v14 ⟨rfl, hb14⟩
            rw [decide_eq_true (show zl = z ∧ el = e from ⟨EQ.out.1, EQ.out.2.1⟩)]
            replace Xd : Hid _ := Xd.out.below hb14
            replace Xl : Hid _ := Xl.out.below hb14
            replace Xh : Hid _ := Xh.out.below hb14
            replace D10 : Hid _ := D10.out.below hb14
            replace D11 : Hid _ := D11.out.below hb14
            replace hbw := Below.on hbw hb14
            clear hb14
            obtain ⟨cd0, cd1, cd2, fd0, fd1, fd2⟩ := Xd.out
            have hned : gd < v14.heap.size := World.block_lt_of_cell? v14 _ cd0
            obtain ⟨ch0, ch1, ch2, fh0, fh1, fh2⟩ := Xh.out
            have hneh : gh < v14.heap.size := World.block_lt_of_cell? v14 _ ch0
            go_wp2_with fail
            clear cd0 cd1 cd2 fd0 fd1 fd2 hned
            clear ch0 ch1 ch2 fh0 fh1 fh2 hneh
            refine (sameD D11.out (H0.out.below hbw)).mono ?_
            rintro e v15 ⟨rfl, hb15⟩
            rw [decide_eq_true (show zh = z ∧ eh = e from ⟨EQ.out.2.2.1, EQ.out.2.2.2⟩)]
            replace Xd : Hid _ := Xd.out.below hb15
            replace Xl : Hid _ := Xl.out.below hb15
            replace Xh : Hid _ := Xh.out.below hb15
            replace D10 : Hid _ := D10.out.below hb15
            replace D11 : Hid _ := D11.out.below hb15
            replace hbw := Below.on hbw hb15
            clear hb15
            obtain ⟨cd0, cd1, cd2, fd0, fd1, fd2⟩ := Xd.out
            have hned : gd < v15.heap.size := World.block_lt_of_cell? v15 _ cd0
            go_wp2_with fail
            clear cd0 cd1 cd2 fd0 fd1 fd2 hned
            refine (dneg (H0.out.below hbw)).mono ?_
            rintro e2 v20 ⟨v, rfl, hv, hf20, hb20⟩
            obtain ⟨s20, p20, m20, rfl, hd20⟩ := hv.dn hf20
            clear hv hf20
            replace Xd : Hid _ := Xd.out.below hb20
            replace Xl : Hid _ := Xl.out.below hb20
            replace Xh : Hid _ := Xh.out.below hb20
            replace D10 : Hid _ := D10.out.below hb20
            replace D11 : Hid _ := D11.out.below hb20
            replace hbw := Below.on hbw hb20
            clear hb20
            have D20 : Hid (DN v20 s20 p20 m20 m20 e (-z)) := hd20
            clear hd20
            go_wp2_with fail
            have HDdn : Hid (gd ≠ v20.heap.size) := Nat.ne_of_lt Xd.out.lt
            have HDln : Hid (gl ≠ v20.heap.size) := Nat.ne_of_lt Xl.out.lt
            have HDhn : Hid (gh ≠ v20.heap.size) := Nat.ne_of_lt Xh.out.lt
            have Xn0 : Hid (B3q (v20.alloc (.cells #[.bool s20, .slice p20 m20 m20, .int .i64 (e)] 26)) v20.heap.size (.bool s20) (.slice p20 m20 m20) (.int .i64 (e))) := B3q.new v20 _ _ _ _
            have hbn : Below v20.heap.size v20 (v20.alloc (.cells #[.bool s20, .slice p20 m20 m20, .int .i64 (e)] 26)) := below1 v20 _
            generalize v20.alloc (.cells #[.bool s20, .slice p20 m20 m20, .int .i64 (e)] 26) = Wn at *
            have HGn : Hid (w.heap.size ≤ v20.heap.size) := hbw.size
            replace Xd : Hid _ := Xd.out.below hbn
            replace Xl : Hid _ := Xl.out.below hbn
            replace Xh : Hid _ := Xh.out.below hbn
            replace D10 : Hid _ := D10.out.below hbn
            replace D11 : Hid _ := D11.out.below hbn
            replace D20 : Hid _ := D20.out.below hbn
            replace hbw := Below.on hbw hbn
            clear hbn
            generalize v20.heap.size = gn at *
            have Xn := Xn0
            clear Xn0
            refine (at_d D20.out (by have := HZ.out; omega) HEM.out GH.out.neg (TB.out.below hbw)).mono ?_
            rintro e2 v21 ⟨v, rfl, hv, hb21⟩
            obtain ⟨s21, p21, m21, rfl, hd21⟩ := hv.dn (GH.out.1.neg)
            clear hv
            replace Xd : Hid _ := Xd.out.below hb21
            replace Xl : Hid _ := Xl.out.below hb21
            replace Xh : Hid _ := Xh.out.below hb21
            replace Xn : Hid _ := Xn.out.below hb21
            replace D10 : Hid _ := D10.out.below hb21
            replace D11 : Hid _ := D11.out.below hb21
            replace D20 : Hid _ := D20.out.below hb21
            replace hbw := Below.on hbw hb21
            clear hb21
            have D21 : Hid (DN v21 s21 p21 m21 m21 (eh) (-zh)) := hd21
            clear hd21
            go_wp2_with fail
            have HDdk : Hid (gd ≠ v21.heap.size) := Nat.ne_of_lt Xd.out.lt
            have HDlk : Hid (gl ≠ v21.heap.size) := Nat.ne_of_lt Xl.out.lt
            have HDhk : Hid (gh ≠ v21.heap.size) := Nat.ne_of_lt Xh.out.lt
            have HDnk : Hid (gn ≠ v21.heap.size) := Nat.ne_of_lt Xn.out.lt
            have Xk0 : Hid (B3q (v21.alloc (.cells #[.bool s21, .slice p21 m21 m21, .int .i64 (eh)] 26)) v21.heap.size (.bool s21) (.slice p21 m21 m21) (.int .i64 (eh))) := B3q.new v21 _ _ _ _
            have hbn : Below v21.heap.size v21 (v21.alloc (.cells #[.bool s21, .slice p21 m21 m21, .int .i64 (eh)] 26)) := below1 v21 _
            generalize v21.alloc (.cells #[.bool s21, .slice p21 m21 m21, .int .i64 (eh)] 26) = Wk at *
            have HGk : Hid (w.heap.size ≤ v21.heap.size) := hbw.size
            replace Xd : Hid _ := Xd.out.below hbn
            replace Xl : Hid _ := Xl.out.below hbn
            replace Xh : Hid _ := Xh.out.below hbn
            replace Xn : Hid _ := Xn.out.below hbn
            replace D10 : Hid _ := D10.out.below hbn
            replace D11 : Hid _ := D11.out.below hbn
            replace D20 : Hid _ := D20.out.below hbn
            replace D21 : Hid _ := D21.out.below hbn
            replace hbw := Below.on hbw hbn
            clear hbn
            generalize v21.heap.size = gk at *
            have Xk := Xk0
            clear Xk0
            refine (dneg D21.out).mono ?_
            rintro e2 v22 ⟨v, rfl, hv, hf22, hb22⟩
            rw [Int.neg_neg] at hv hf22
            obtain ⟨s22, p22, m22, rfl, hd22⟩ := hv.dn hf22
            clear hv hf22
            replace Xd : Hid _ := Xd.out.below hb22
            replace Xl : Hid _ := Xl.out.below hb22
            replace Xh : Hid _ := Xh.out.below hb22
            replace Xn : Hid _ := Xn.out.below hb22
            replace Xk : Hid _ := Xk.out.below hb22
            replace D10 : Hid _ := D10.out.below hb22
            replace D11 : Hid _ := D11.out.below hb22
            replace D20 : Hid _ := D20.out.below hb22
            replace D21 : Hid _ := D21.out.below hb22
            replace hbw := Below.on hbw hb22
            clear hb22
            have D22 : Hid (DN v22 s22 p22 m22 m22 eh zh) := hd22
            clear hd22
            obtain ⟨ch0, ch1, ch2, fh0, fh1, fh2⟩ := Xh.out
            have hneh : gh < v22.heap.size := World.block_lt_of_cell? v22 _ ch0
            go_wp2_with fail
            clear ch0 ch1 ch2 fh0 fh1 fh2 hneh
            have HDdu : Hid (gd ≠ v22.heap.size) := Nat.ne_of_lt Xd.out.lt
            have HDlu : Hid (gl ≠ v22.heap.size) := Nat.ne_of_lt Xl.out.lt
            have HDhu : Hid (gh ≠ v22.heap.size) := Nat.ne_of_lt Xh.out.lt
            have HDnu : Hid (gn ≠ v22.heap.size) := Nat.ne_of_lt Xn.out.lt
            have HDku : Hid (gk ≠ v22.heap.size) := Nat.ne_of_lt Xk.out.lt
            have Xu0 : Hid (B3q (v22.alloc (.cells #[.bool s22, .slice p22 m22 m22, .int .i64 (eh)] 26)) v22.heap.size (.bool s22) (.slice p22 m22 m22) (.int .i64 (eh))) := B3q.new v22 _ _ _ _
            have hbn : Below v22.heap.size v22 (v22.alloc (.cells #[.bool s22, .slice p22 m22 m22, .int .i64 (eh)] 26)) := below1 v22 _
            generalize v22.alloc (.cells #[.bool s22, .slice p22 m22 m22, .int .i64 (eh)] 26) = Wu at *
            have HGu : Hid (w.heap.size ≤ v22.heap.size) := hbw.size
            replace Xd : Hid _ := Xd.out.below hbn
            replace Xl : Hid _ := Xl.out.below hbn
            replace Xh : Hid _ := Xh.out.below hbn
            replace Xn : Hid _ := Xn.out.below hbn
            replace Xk : Hid _ := Xk.out.below hbn
            replace D10 : Hid _ := D10.out.below hbn
            replace D11 : Hid _ := D11.out.below hbn
            replace D20 : Hid _ := D20.out.below hbn
            replace D21 : Hid _ := D21.out.below hbn
            replace D22 : Hid _ := D22.out.below hbn
            replace hbw := Below.on hbw hbn
            clear hbn
            generalize v22.heap.size = gu at *
            have Xu := Xu0
            clear Xu0
            refine (same5 D22.out D11.out).mono ?_
            rintro e v23 ⟨rfl, hb23⟩
            replace Xd : Hid _ := Xd.out.below hb23
            replace Xl : Hid _ := Xl.out.below hb23
            replace Xh : Hid _ := Xh.out.below hb23
            replace Xn : Hid _ := Xn.out.below hb23
            replace Xk : Hid _ := Xk.out.below hb23
            replace Xu : Hid _ := Xu.out.below hb23
            replace D10 : Hid _ := D10.out.below hb23
            replace D11 : Hid _ := D11.out.below hb23
            replace D20 : Hid _ := D20.out.below hb23
            replace D21 : Hid _ := D21.out.below hb23
            replace D22 : Hid _ := D22.out.below hb23
            replace hbw := Below.on hbw hb23
            clear hb23
            clear Xn
            clear Xk
            clear Xu
            clear D20
            clear D21
            clear D22
            obtain ⟨cl0, cl1, cl2, fl0, fl1, fl2⟩ := Xl.out
            have hnel : gl < v23.heap.size := World.block_lt_of_cell? v23 _ cl0
            obtain ⟨ch0, ch1, ch2, fh0, fh1, fh2⟩ := Xh.out
            have hneh : gh < v23.heap.size := World.block_lt_of_cell? v23 _ ch0
            go_wp2_with fail
            clear cl0 cl1 cl2 fl0 fl1 fl2 hnel
            clear ch0 ch1 ch2 fh0 fh1 fh2 hneh
            refine (sameD D10.out D11.out).mono ?_
            rintro e v24 ⟨rfl, hb24⟩
            replace Xd : Hid _ := Xd.out.below hb24
            replace Xl : Hid _ := Xl.out.below hb24
            replace Xh : Hid _ := Xh.out.below hb24
            replace D10 : Hid _ := D10.out.below hb24
            replace D11 : Hid _ := D11.out.below hb24
            replace hbw := Below.on hbw hb24
            clear hb24
            by_cases hq : zl = zh ∧ el = eh
            · rw [decide_eq_true hq]
              go_wp2_with fail
              go_ret
              exact ⟨rfl, hbw⟩
            · rw [decide_eq_false hq]
              have HQ := hq
              have HQ2 : Hid (¬ (zl = zh ∧ el = eh)) := hq
              clear hq HQ
              obtain ⟨cl0, cl1, cl2, fl0, fl1, fl2⟩ := Xl.out
              have hnel : gl < v24.heap.size := World.block_lt_of_cell? v24 _ cl0
              obtain ⟨ch0, ch1, ch2, fh0, fh1, fh2⟩ := Xh.out
              have hneh : gh < v24.heap.size := World.block_lt_of_cell? v24 _ ch0
              obtain ⟨cd0, cd1, cd2, fd0, fd1, fd2⟩ := Xd.out
              have hned : gd < v24.heap.size := World.block_lt_of_cell? v24 _ cd0
              go_wp2_with fail
              clear cl0 cl1 cl2 fl0 fl1 fl2 hnel
              clear ch0 ch1 ch2 fh0 fh1 fh2 hneh
              clear cd0 cd1 cd2 fd0 fd1 fd2 hned
              refine (apart5 D10.out D11.out (H0.out.below hbw) GL.out GH.out HE.out.1 HEM.out HQ2.out (TB.out.below hbw)).mono ?_
              rintro e v25 ⟨rfl, hb25⟩
              replace Xd : Hid _ := Xd.out.below hb25
              replace Xl : Hid _ := Xl.out.below hb25
              replace Xh : Hid _ := Xh.out.below hb25
              replace D10 : Hid _ := D10.out.below hb25
              replace D11 : Hid _ := D11.out.below hb25
              replace hbw := Below.on hbw hb25
              clear hb25
              go_wp2_with fail
              go_ret
              exact ⟨rfl, hbw⟩
          · have hlt : e < E := by omega
            clear hEe
            by_cases hm10 : m10 = 0
            · rw [decide_eq_true hm10]
              clear hm10
              obtain ⟨cl0, cl1, cl2, fl0, fl1, fl2⟩ := Xl.out
              have hnel : gl < v13.heap.size := World.block_lt_of_cell? v13 _ cl0
              obtain ⟨cd0, cd1, cd2, fd0, fd1, fd2⟩ := Xd.out
              have hned : gd < v13.heap.size := World.block_lt_of_cell? v13 _ cd0
              obtain ⟨ch0, ch1, ch2, fh0, fh1, fh2⟩ := Xh.out
              have hneh : gh < v13.heap.size := World.block_lt_of_cell? v13 _ ch0
              go_wp2_with fail
              clear cl0 cl1 cl2 fl0 fl1 fl2 hnel
              clear cd0 cd1 cd2 fd0 fd1 fd2 hned
              clear ch0 ch1 ch2 fh0 fh1 fh2 hneh
              clear hlt
              refine (dneg (H0.out.below hbw)).mono ?_
              rintro e2 v20 ⟨v, rfl, hv, hf20, hb20⟩
              obtain ⟨s20, p20, m20, rfl, hd20⟩ := hv.dn hf20
              clear hv hf20
              replace Xd : Hid _ := Xd.out.below hb20
              replace Xl : Hid _ := Xl.out.below hb20
              replace Xh : Hid _ := Xh.out.below hb20
              replace D10 : Hid _ := D10.out.below hb20
              replace D11 : Hid _ := D11.out.below hb20
              replace hbw := Below.on hbw hb20
              clear hb20
              have D20 : Hid (DN v20 s20 p20 m20 m20 e (-z)) := hd20
              clear hd20
              go_wp2_with fail
              have HDdn : Hid (gd ≠ v20.heap.size) := Nat.ne_of_lt Xd.out.lt
              have HDln : Hid (gl ≠ v20.heap.size) := Nat.ne_of_lt Xl.out.lt
              have HDhn : Hid (gh ≠ v20.heap.size) := Nat.ne_of_lt Xh.out.lt
              have Xn0 : Hid (B3q (v20.alloc (.cells #[.bool s20, .slice p20 m20 m20, .int .i64 (e)] 26)) v20.heap.size (.bool s20) (.slice p20 m20 m20) (.int .i64 (e))) := B3q.new v20 _ _ _ _
              have hbn : Below v20.heap.size v20 (v20.alloc (.cells #[.bool s20, .slice p20 m20 m20, .int .i64 (e)] 26)) := below1 v20 _
              generalize v20.alloc (.cells #[.bool s20, .slice p20 m20 m20, .int .i64 (e)] 26) = Wn at *
              have HGn : Hid (w.heap.size ≤ v20.heap.size) := hbw.size
              replace Xd : Hid _ := Xd.out.below hbn
              replace Xl : Hid _ := Xl.out.below hbn
              replace Xh : Hid _ := Xh.out.below hbn
              replace D10 : Hid _ := D10.out.below hbn
              replace D11 : Hid _ := D11.out.below hbn
              replace D20 : Hid _ := D20.out.below hbn
              replace hbw := Below.on hbw hbn
              clear hbn
              generalize v20.heap.size = gn at *
              have Xn := Xn0
              clear Xn0
              refine (at_d D20.out (by have := HZ.out; omega) HEM.out GH.out.neg (TB.out.below hbw)).mono ?_
              rintro e2 v21 ⟨v, rfl, hv, hb21⟩
              obtain ⟨s21, p21, m21, rfl, hd21⟩ := hv.dn (GH.out.1.neg)
              clear hv
              replace Xd : Hid _ := Xd.out.below hb21
              replace Xl : Hid _ := Xl.out.below hb21
              replace Xh : Hid _ := Xh.out.below hb21
              replace Xn : Hid _ := Xn.out.below hb21
              replace D10 : Hid _ := D10.out.below hb21
              replace D11 : Hid _ := D11.out.below hb21
              replace D20 : Hid _ := D20.out.below hb21
              replace hbw := Below.on hbw hb21
              clear hb21
              have D21 : Hid (DN v21 s21 p21 m21 m21 (eh) (-zh)) := hd21
              clear hd21
              go_wp2_with fail
              have HDdk : Hid (gd ≠ v21.heap.size) := Nat.ne_of_lt Xd.out.lt
              have HDlk : Hid (gl ≠ v21.heap.size) := Nat.ne_of_lt Xl.out.lt
              have HDhk : Hid (gh ≠ v21.heap.size) := Nat.ne_of_lt Xh.out.lt
              have HDnk : Hid (gn ≠ v21.heap.size) := Nat.ne_of_lt Xn.out.lt
              have Xk0 : Hid (B3q (v21.alloc (.cells #[.bool s21, .slice p21 m21 m21, .int .i64 (eh)] 26)) v21.heap.size (.bool s21) (.slice p21 m21 m21) (.int .i64 (eh))) := B3q.new v21 _ _ _ _
              have hbn : Below v21.heap.size v21 (v21.alloc (.cells #[.bool s21, .slice p21 m21 m21, .int .i64 (eh)] 26)) := below1 v21 _
              generalize v21.alloc (.cells #[.bool s21, .slice p21 m21 m21, .int .i64 (eh)] 26) = Wk at *
              have HGk : Hid (w.heap.size ≤ v21.heap.size) := hbw.size
              replace Xd : Hid _ := Xd.out.below hbn
              replace Xl : Hid _ := Xl.out.below hbn
              replace Xh : Hid _ := Xh.out.below hbn
              replace Xn : Hid _ := Xn.out.below hbn
              replace D10 : Hid _ := D10.out.below hbn
              replace D11 : Hid _ := D11.out.below hbn
              replace D20 : Hid _ := D20.out.below hbn
              replace D21 : Hid _ := D21.out.below hbn
              replace hbw := Below.on hbw hbn
              clear hbn
              generalize v21.heap.size = gk at *
              have Xk := Xk0
              clear Xk0
              refine (dneg D21.out).mono ?_
              rintro e2 v22 ⟨v, rfl, hv, hf22, hb22⟩
              rw [Int.neg_neg] at hv hf22
              obtain ⟨s22, p22, m22, rfl, hd22⟩ := hv.dn hf22
              clear hv hf22
              replace Xd : Hid _ := Xd.out.below hb22
              replace Xl : Hid _ := Xl.out.below hb22
              replace Xh : Hid _ := Xh.out.below hb22
              replace Xn : Hid _ := Xn.out.below hb22
              replace Xk : Hid _ := Xk.out.below hb22
              replace D10 : Hid _ := D10.out.below hb22
              replace D11 : Hid _ := D11.out.below hb22
              replace D20 : Hid _ := D20.out.below hb22
              replace D21 : Hid _ := D21.out.below hb22
              replace hbw := Below.on hbw hb22
              clear hb22
              have D22 : Hid (DN v22 s22 p22 m22 m22 eh zh) := hd22
              clear hd22
              obtain ⟨ch0, ch1, ch2, fh0, fh1, fh2⟩ := Xh.out
              have hneh : gh < v22.heap.size := World.block_lt_of_cell? v22 _ ch0
              go_wp2_with fail
              clear ch0 ch1 ch2 fh0 fh1 fh2 hneh
              have HDdu : Hid (gd ≠ v22.heap.size) := Nat.ne_of_lt Xd.out.lt
              have HDlu : Hid (gl ≠ v22.heap.size) := Nat.ne_of_lt Xl.out.lt
              have HDhu : Hid (gh ≠ v22.heap.size) := Nat.ne_of_lt Xh.out.lt
              have HDnu : Hid (gn ≠ v22.heap.size) := Nat.ne_of_lt Xn.out.lt
              have HDku : Hid (gk ≠ v22.heap.size) := Nat.ne_of_lt Xk.out.lt
              have Xu0 : Hid (B3q (v22.alloc (.cells #[.bool s22, .slice p22 m22 m22, .int .i64 (eh)] 26)) v22.heap.size (.bool s22) (.slice p22 m22 m22) (.int .i64 (eh))) := B3q.new v22 _ _ _ _
              have hbn : Below v22.heap.size v22 (v22.alloc (.cells #[.bool s22, .slice p22 m22 m22, .int .i64 (eh)] 26)) := below1 v22 _
              generalize v22.alloc (.cells #[.bool s22, .slice p22 m22 m22, .int .i64 (eh)] 26) = Wu at *
              have HGu : Hid (w.heap.size ≤ v22.heap.size) := hbw.size
              replace Xd : Hid _ := Xd.out.below hbn
              replace Xl : Hid _ := Xl.out.below hbn
              replace Xh : Hid _ := Xh.out.below hbn
              replace Xn : Hid _ := Xn.out.below hbn
              replace Xk : Hid _ := Xk.out.below hbn
              replace D10 : Hid _ := D10.out.below hbn
              replace D11 : Hid _ := D11.out.below hbn
              replace D20 : Hid _ := D20.out.below hbn
              replace D21 : Hid _ := D21.out.below hbn
              replace D22 : Hid _ := D22.out.below hbn
              replace hbw := Below.on hbw hbn
              clear hbn
              generalize v22.heap.size = gu at *
              have Xu := Xu0
              clear Xu0
              refine (same5 D22.out D11.out).mono ?_
              rintro e v23 ⟨rfl, hb23⟩
              replace Xd : Hid _ := Xd.out.below hb23
              replace Xl : Hid _ := Xl.out.below hb23
              replace Xh : Hid _ := Xh.out.below hb23
              replace Xn : Hid _ := Xn.out.below hb23
              replace Xk : Hid _ := Xk.out.below hb23
              replace Xu : Hid _ := Xu.out.below hb23
              replace D10 : Hid _ := D10.out.below hb23
              replace D11 : Hid _ := D11.out.below hb23
              replace D20 : Hid _ := D20.out.below hb23
              replace D21 : Hid _ := D21.out.below hb23
              replace D22 : Hid _ := D22.out.below hb23
              replace hbw := Below.on hbw hb23
              clear hb23
              clear Xn
              clear Xk
              clear Xu
              clear D20
              clear D21
              clear D22
              obtain ⟨cl0, cl1, cl2, fl0, fl1, fl2⟩ := Xl.out
              have hnel : gl < v23.heap.size := World.block_lt_of_cell? v23 _ cl0
              obtain ⟨ch0, ch1, ch2, fh0, fh1, fh2⟩ := Xh.out
              have hneh : gh < v23.heap.size := World.block_lt_of_cell? v23 _ ch0
              go_wp2_with fail
              clear cl0 cl1 cl2 fl0 fl1 fl2 hnel
              clear ch0 ch1 ch2 fh0 fh1 fh2 hneh
              refine (sameD D10.out D11.out).mono ?_
              rintro e v24 ⟨rfl, hb24⟩
              replace Xd : Hid _ := Xd.out.below hb24
              replace Xl : Hid _ := Xl.out.below hb24
              replace Xh : Hid _ := Xh.out.below hb24
              replace D10 : Hid _ := D10.out.below hb24
              replace D11 : Hid _ := D11.out.below hb24
              replace hbw := Below.on hbw hb24
              clear hb24
              by_cases hq : zl = zh ∧ el = eh
              · rw [decide_eq_true hq]
                go_wp2_with fail
                go_ret
                exact ⟨rfl, hbw⟩
              · rw [decide_eq_false hq]
                have HQ := hq
                have HQ2 : Hid (¬ (zl = zh ∧ el = eh)) := hq
                clear hq HQ
                obtain ⟨cl0, cl1, cl2, fl0, fl1, fl2⟩ := Xl.out
                have hnel : gl < v24.heap.size := World.block_lt_of_cell? v24 _ cl0
                obtain ⟨ch0, ch1, ch2, fh0, fh1, fh2⟩ := Xh.out
                have hneh : gh < v24.heap.size := World.block_lt_of_cell? v24 _ ch0
                obtain ⟨cd0, cd1, cd2, fd0, fd1, fd2⟩ := Xd.out
                have hned : gd < v24.heap.size := World.block_lt_of_cell? v24 _ cd0
                go_wp2_with fail
                clear cl0 cl1 cl2 fl0 fl1 fl2 hnel
                clear ch0 ch1 ch2 fh0 fh1 fh2 hneh
                clear cd0 cd1 cd2 fd0 fd1 fd2 hned
                refine (apart5 D10.out D11.out (H0.out.below hbw) GL.out GH.out HE.out.1 HEM.out HQ2.out (TB.out.below hbw)).mono ?_
                rintro e v25 ⟨rfl, hb25⟩
                replace Xd : Hid _ := Xd.out.below hb25
                replace Xl : Hid _ := Xl.out.below hb25
                replace Xh : Hid _ := Xh.out.below hb25
                replace D10 : Hid _ := D10.out.below hb25
                replace D11 : Hid _ := D11.out.below hb25
                replace hbw := Below.on hbw hb25
                clear hb25
                go_wp2_with fail
                go_ret
                exact ⟨rfl, hbw⟩
            · rw [decide_eq_false hm10]
              have hle1 : ¬ el < E := by
                rcases GL.out.2 with ⟨h1, _⟩ | ⟨_, _, h1⟩
                · omega
                · rcases h1 with h1 | h1
                  · obtain ⟨ys, hY⟩ := D10.out.zn.ex
                    exact absurd (hY.zero.2 (by rw [h1]; rfl)) hm10
                  · omega
              clear hm10
              obtain ⟨cl0, cl1, cl2, fl0, fl1, fl2⟩ := Xl.out
              have hnel : gl < v13.heap.size := World.block_lt_of_cell? v13 _ cl0
              obtain ⟨cd0, cd1, cd2, fd0, fd1, fd2⟩ := Xd.out
              have hned : gd < v13.heap.size := World.block_lt_of_cell? v13 _ cd0
              obtain ⟨ch0, ch1, ch2, fh0, fh1, fh2⟩ := Xh.out
              have hneh : gh < v13.heap.size := World.block_lt_of_cell? v13 _ ch0
              go_wp2_with fail
              clear cl0 cl1 cl2 fl0 fl1 fl2 hnel
              clear cd0 cd1 cd2 fd0 fd1 fd2 hned
              clear ch0 ch1 ch2 fh0 fh1 fh2 hneh
              clear hlt hle1
              refine (dneg (H0.out.below hbw)).mono ?_
              rintro e2 v20 ⟨v, rfl, hv, hf20, hb20⟩
              obtain ⟨s20, p20, m20, rfl, hd20⟩ := hv.dn hf20
              clear hv hf20
              replace Xd : Hid _ := Xd.out.below hb20
              replace Xl : Hid _ := Xl.out.below hb20
              replace Xh : Hid _ := Xh.out.below hb20
              replace D10 : Hid _ := D10.out.below hb20
              replace D11 : Hid _ := D11.out.below hb20
              replace hbw := Below.on hbw hb20
              clear hb20
              have D20 : Hid (DN v20 s20 p20 m20 m20 e (-z)) := hd20
              clear hd20
              go_wp2_with fail
              have HDdn : Hid (gd ≠ v20.heap.size) := Nat.ne_of_lt Xd.out.lt
              have HDln : Hid (gl ≠ v20.heap.size) := Nat.ne_of_lt Xl.out.lt
              have HDhn : Hid (gh ≠ v20.heap.size) := Nat.ne_of_lt Xh.out.lt
              have Xn0 : Hid (B3q (v20.alloc (.cells #[.bool s20, .slice p20 m20 m20, .int .i64 (e)] 26)) v20.heap.size (.bool s20) (.slice p20 m20 m20) (.int .i64 (e))) := B3q.new v20 _ _ _ _
              have hbn : Below v20.heap.size v20 (v20.alloc (.cells #[.bool s20, .slice p20 m20 m20, .int .i64 (e)] 26)) := below1 v20 _
              generalize v20.alloc (.cells #[.bool s20, .slice p20 m20 m20, .int .i64 (e)] 26) = Wn at *
              have HGn : Hid (w.heap.size ≤ v20.heap.size) := hbw.size
              replace Xd : Hid _ := Xd.out.below hbn
              replace Xl : Hid _ := Xl.out.below hbn
              replace Xh : Hid _ := Xh.out.below hbn
              replace D10 : Hid _ := D10.out.below hbn
              replace D11 : Hid _ := D11.out.below hbn
              replace D20 : Hid _ := D20.out.below hbn
              replace hbw := Below.on hbw hbn
              clear hbn
              generalize v20.heap.size = gn at *
              have Xn := Xn0
              clear Xn0
              refine (at_d D20.out (by have := HZ.out; omega) HEM.out GH.out.neg (TB.out.below hbw)).mono ?_
              rintro e2 v21 ⟨v, rfl, hv, hb21⟩
              obtain ⟨s21, p21, m21, rfl, hd21⟩ := hv.dn (GH.out.1.neg)
              clear hv
              replace Xd : Hid _ := Xd.out.below hb21
              replace Xl : Hid _ := Xl.out.below hb21
              replace Xh : Hid _ := Xh.out.below hb21
              replace Xn : Hid _ := Xn.out.below hb21
              replace D10 : Hid _ := D10.out.below hb21
              replace D11 : Hid _ := D11.out.below hb21
              replace D20 : Hid _ := D20.out.below hb21
              replace hbw := Below.on hbw hb21
              clear hb21
              have D21 : Hid (DN v21 s21 p21 m21 m21 (eh) (-zh)) := hd21
              clear hd21
              go_wp2_with fail
              have HDdk : Hid (gd ≠ v21.heap.size) := Nat.ne_of_lt Xd.out.lt
              have HDlk : Hid (gl ≠ v21.heap.size) := Nat.ne_of_lt Xl.out.lt
              have HDhk : Hid (gh ≠ v21.heap.size) := Nat.ne_of_lt Xh.out.lt
              have HDnk : Hid (gn ≠ v21.heap.size) := Nat.ne_of_lt Xn.out.lt
              have Xk0 : Hid (B3q (v21.alloc (.cells #[.bool s21, .slice p21 m21 m21, .int .i64 (eh)] 26)) v21.heap.size (.bool s21) (.slice p21 m21 m21) (.int .i64 (eh))) := B3q.new v21 _ _ _ _
              have hbn : Below v21.heap.size v21 (v21.alloc (.cells #[.bool s21, .slice p21 m21 m21, .int .i64 (eh)] 26)) := below1 v21 _
              generalize v21.alloc (.cells #[.bool s21, .slice p21 m21 m21, .int .i64 (eh)] 26) = Wk at *
              have HGk : Hid (w.heap.size ≤ v21.heap.size) := hbw.size
              replace Xd : Hid _ := Xd.out.below hbn
              replace Xl : Hid _ := Xl.out.below hbn
              replace Xh : Hid _ := Xh.out.below hbn
              replace Xn : Hid _ := Xn.out.below hbn
              replace D10 : Hid _ := D10.out.below hbn
              replace D11 : Hid _ := D11.out.below hbn
              replace D20 : Hid _ := D20.out.below hbn
              replace D21 : Hid _ := D21.out.below hbn
              replace hbw := Below.on hbw hbn
              clear hbn
              generalize v21.heap.size = gk at *
              have Xk := Xk0
              clear Xk0
              refine (dneg D21.out).mono ?_
              rintro e2 v22 ⟨v, rfl, hv, hf22, hb22⟩
              rw [Int.neg_neg] at hv hf22
              obtain ⟨s22, p22, m22, rfl, hd22⟩ := hv.dn hf22
              clear hv hf22
              replace Xd : Hid _ := Xd.out.below hb22
              replace Xl : Hid _ := Xl.out.below hb22
              replace Xh : Hid _ := Xh.out.below hb22
              replace Xn : Hid _ := Xn.out.below hb22
              replace Xk : Hid _ := Xk.out.below hb22
              replace D10 : Hid _ := D10.out.below hb22
              replace D11 : Hid _ := D11.out.below hb22
              replace D20 : Hid _ := D20.out.below hb22
              replace D21 : Hid _ := D21.out.below hb22
              replace hbw := Below.on hbw hb22
              clear hb22
              have D22 : Hid (DN v22 s22 p22 m22 m22 eh zh) := hd22
              clear hd22
              obtain ⟨ch0, ch1, ch2, fh0, fh1, fh2⟩ := Xh.out
              have hneh : gh < v22.heap.size := World.block_lt_of_cell? v22 _ ch0
              go_wp2_with fail
              clear ch0 ch1 ch2 fh0 fh1 fh2 hneh
              have HDdu : Hid (gd ≠ v22.heap.size) := Nat.ne_of_lt Xd.out.lt
              have HDlu : Hid (gl ≠ v22.heap.size) := Nat.ne_of_lt Xl.out.lt
              have HDhu : Hid (gh ≠ v22.heap.size) := Nat.ne_of_lt Xh.out.lt
              have HDnu : Hid (gn ≠ v22.heap.size) := Nat.ne_of_lt Xn.out.lt
              have HDku : Hid (gk ≠ v22.heap.size) := Nat.ne_of_lt Xk.out.lt
              have Xu0 : Hid (B3q (v22.alloc (.cells #[.bool s22, .slice p22 m22 m22, .int .i64 (eh)] 26)) v22.heap.size (.bool s22) (.slice p22 m22 m22) (.int .i64 (eh))) := B3q.new v22 _ _ _ _
              have hbn : Below v22.heap.size v22 (v22.alloc (.cells #[.bool s22, .slice p22 m22 m22, .int .i64 (eh)] 26)) := below1 v22 _
              generalize v22.alloc (.cells #[.bool s22, .slice p22 m22 m22, .int .i64 (eh)] 26) = Wu at *
              have HGu : Hid (w.heap.size ≤ v22.heap.size) := hbw.size
              replace Xd : Hid _ := Xd.out.below hbn
              replace Xl : Hid _ := Xl.out.below hbn
              replace Xh : Hid _ := Xh.out.below hbn
              replace Xn : Hid _ := Xn.out.below hbn
              replace Xk : Hid _ := Xk.out.below hbn
              replace D10 : Hid _ := D10.out.below hbn
              replace D11 : Hid _ := D11.out.below hbn
              replace D20 : Hid _ := D20.out.below hbn
              replace D21 : Hid _ := D21.out.below hbn
              replace D22 : Hid _ := D22.out.below hbn
              replace hbw := Below.on hbw hbn
              clear hbn
              generalize v22.heap.size = gu at *
              have Xu := Xu0
              clear Xu0
              refine (same5 D22.out D11.out).mono ?_
              rintro e v23 ⟨rfl, hb23⟩
              replace Xd : Hid _ := Xd.out.below hb23
              replace Xl : Hid _ := Xl.out.below hb23
              replace Xh : Hid _ := Xh.out.below hb23
              replace Xn : Hid _ := Xn.out.below hb23
              replace Xk : Hid _ := Xk.out.below hb23
              replace Xu : Hid _ := Xu.out.below hb23
              replace D10 : Hid _ := D10.out.below hb23
              replace D11 : Hid _ := D11.out.below hb23
              replace D20 : Hid _ := D20.out.below hb23
              replace D21 : Hid _ := D21.out.below hb23
              replace D22 : Hid _ := D22.out.below hb23
              replace hbw := Below.on hbw hb23
              clear hb23
              clear Xn
              clear Xk
              clear Xu
              clear D20
              clear D21
              clear D22
              obtain ⟨cl0, cl1, cl2, fl0, fl1, fl2⟩ := Xl.out
              have hnel : gl < v23.heap.size := World.block_lt_of_cell? v23 _ cl0
              obtain ⟨ch0, ch1, ch2, fh0, fh1, fh2⟩ := Xh.out
              have hneh : gh < v23.heap.size := World.block_lt_of_cell? v23 _ ch0
              go_wp2_with fail
              clear cl0 cl1 cl2 fl0 fl1 fl2 hnel
              clear ch0 ch1 ch2 fh0 fh1 fh2 hneh
              refine (sameD D10.out D11.out).mono ?_
              rintro e v24 ⟨rfl, hb24⟩
              replace Xd : Hid _ := Xd.out.below hb24
              replace Xl : Hid _ := Xl.out.below hb24
              replace Xh : Hid _ := Xh.out.below hb24
              replace D10 : Hid _ := D10.out.below hb24
              replace D11 : Hid _ := D11.out.below hb24
              replace hbw := Below.on hbw hb24
              clear hb24
              by_cases hq : zl = zh ∧ el = eh
              · rw [decide_eq_true hq]
                go_wp2_with fail
                go_ret
                exact ⟨rfl, hbw⟩
              · rw [decide_eq_false hq]
                have HQ := hq
                have HQ2 : Hid (¬ (zl = zh ∧ el = eh)) := hq
                clear hq HQ
                obtain ⟨cl0, cl1, cl2, fl0, fl1, fl2⟩ := Xl.out
                have hnel : gl < v24.heap.size := World.block_lt_of_cell? v24 _ cl0
                obtain ⟨ch0, ch1, ch2, fh0, fh1, fh2⟩ := Xh.out
                have hneh : gh < v24.heap.size := World.block_lt_of_cell? v24 _ ch0
                obtain ⟨cd0, cd1, cd2, fd0, fd1, fd2⟩ := Xd.out
                have hned : gd < v24.heap.size := World.block_lt_of_cell? v24 _ cd0
                go_wp2_with fail
                clear cl0 cl1 cl2 fl0 fl1 fl2 hnel
                clear ch0 ch1 ch2 fh0 fh1 fh2 hneh
                clear cd0 cd1 cd2 fd0 fd1 fd2 hned
                refine (apart5 D10.out D11.out (H0.out.below hbw) GL.out GH.out HE.out.1 HEM.out HQ2.out (TB.out.below hbw)).mono ?_
                rintro e v25 ⟨rfl, hb25⟩
                replace Xd : Hid _ := Xd.out.below hb25
                replace Xl : Hid _ := Xl.out.below hb25
                replace Xh : Hid _ := Xh.out.below hb25
                replace D10 : Hid _ := D10.out.below hb25
                replace D11 : Hid _ := D11.out.below hb25
                replace hbw := Below.on hbw hb25
                clear hb25
                go_wp2_with fail
                go_ret
                exact ⟨rfl, hbw⟩
end Go.Proofs.YtkiacehilnghiaaGreatDoor

