import Derived.Laws.OwnMore
import Derived.Maps.AppendAt
import Derived.Deep.AppendLies
import Derived.Deep.LoopGhost
import Derived.Test.YtpnpdngfjgdgfabJ9
namespace Go.Proofs.Ytpnpdngfjgdgfab
open Go.RowKit Go.Shelf
set_option maxRecDepth 20000
set_option maxHeartbeats 0
structure OwR (w : World) (hB : Nat) (lv : Value) (k : Nat) (es : List Nat) : Prop where
  row : w.ownsRow hB 22 1 lv k (cellsU es)
theorem OwR.below {w w' : World} {hB k : Nat} {lv : Value} {es : List Nat} (h : OwR w hB lv k es) (hb : Below w.heap.size w w') : OwR w' hB lv k es := by
  refine ⟨⟨h.row.1, ?_⟩⟩
  rcases h.row.2 with h2 | ⟨g, cap, cur, h2, h3, h4, h5⟩
  · exact .inl h2
  · have hg : g < w.heap.size := by
      rcases Nat.lt_or_ge g w.heap.size with h6 | h6
      · exact h6
      · rw [Array.getElem?_eq_none h6] at h4; cases h4
    exact .inr ⟨g, cap, cur, h2, h3, (hb.block _ hg).trans h4, h5⟩
theorem OwR.set {w : World} {hB k : Nat} {lv : Value} {es : List Nat} (h : OwR w hB lv k es) (g o : Nat) (v : Value) (hg : g < hB) : OwR (w.setCell ⟨g, o, none⟩ v) hB lv k es := ⟨ownsRow_setCell_below h.row (a := ⟨g, o, none⟩) hg v⟩
theorem ZR.grow {w w' : World} {s : Bool} {g m : Nat} {z : Int} {row : Option Nat} (h : ZR w s (some ⟨g, 0, none⟩) m z) (hg : w.grownBy w' row) (hne : m = 0 ∨ some g ≠ row) : ZR w' s (some ⟨g, 0, none⟩) m z := by
  obtain ⟨zs, hA, hN⟩ := h.ex
  refine ⟨⟨zs, ⟨hA.len, hA.cap, hA.big, hA.dig, ?_⟩, hN⟩, h.sg⟩
  rcases hne with h0 | h0
  · exact .inl h0
  · rcases hA.cells with h1 | ⟨g', off, h1, h2⟩
    · exact .inl h1
    · refine .inr ⟨g', off, h1, fun j hj => hg.cell (h2 j hj) ?_⟩
      simp only [Option.some.injEq, Addr.mk.injEq] at h1
      obtain ⟨rfl, _⟩ := h1
      exact h0
theorem ZR.blk {w : World} {s : Bool} {g m : Nat} {z : Int} (h : ZR w s (some ⟨g, 0, none⟩) m z) (hm : m ≠ 0) : g < w.heap.size := by
  obtain ⟨zs, hA, hN⟩ := h.ex
  rcases hA.cells with h1 | ⟨g', off, h1, h2⟩
  · exact absurd h1 hm
  · simp only [Option.some.injEq, Addr.mk.injEq] at h1
    obtain ⟨rfl, _⟩ := h1
    exact World.block_lt_of_cell? w _ (h2 0 (by omega))
theorem Box.grow {w w' : World} {g : Nat} {v0 v1 : Value} {row : Option Nat} (h : Box w g v0 v1) (hg : w.grownBy w' row) (hne : some g ≠ row) : Box w' g v0 v1 := by
  have hlt := h.lt
  exact ⟨hg.cell h.c0 hne, hg.cell h.c1 hne, (hg.frozen_far _ hlt hne).trans h.f0, (hg.frozen_far _ hlt hne).trans h.f1⟩
theorem chain_len {w : World} {s : Bool} {p : Option Addr} {m K M : Nat} {z : Int} (h : ZR w s p m z) (hK : K = 1974) (hM : M = 2 ^ K) (hz : z.natAbs ≤ 140737488355328 * 140737488355328 * M) : m ≤ 3000 := by
  obtain ⟨L, hL⟩ : ∃ L, L = 2200 := ⟨_, rfl⟩
  refine Nat.le_trans (zr_len9 h (L := L) (Nat.lt_of_le_of_lt hz ?_)) (by omega)
  rw [hM, show (140737488355328 : Nat) = 2 ^ 47 by decide, ← Nat.pow_add, ← Nat.pow_add]
  exact Nat.lt_of_lt_of_le (p2lts _) (p2le (by omega))
theorem OwR.cells {w : World} {hB k : Nat} {lv : Value} {es : List Nat} (h : OwR w hB lv k es) : ∃ p cap, lv = .slice p k cap ∧ ∀ j, j < k → ∃ g, p = some ⟨g, 0, none⟩ ∧ w.cell? ⟨g, j, none⟩ = some (U (es.getD j 0)) := by
  rcases h.row.2 with ⟨h1, h2⟩ | ⟨g, cap, cur, h1, h2, h3, h4⟩
  · exact ⟨none, 0, by rw [h1, h2], fun j hj => by omega⟩
  · refine ⟨_, cap, h1, fun j hj => ⟨g, rfl, ?_⟩⟩
    have h5 := h.row
    rw [h1] at h5
    rw [h5.cellAt j (by omega)]
    have hl : es.length = k := by have := h.row.1; unfold cellsU at this; rw [List.length_map] at this; omega
    unfold cellsU
    rw [List.getElem?_map, List.getElem?_eq_getElem (by omega), List.getD_eq_getElem?_getD, List.getElem?_eq_getElem (by omega)]
    rfl
theorem OwR.cap {w : World} {hB k c : Nat} {p : Option Addr} {es : List Nat} (h : OwR w hB (.slice p k c) k es) : k ≤ c := by
  rcases h.row.2 with ⟨h1, h2⟩ | ⟨g, cap, cur, h1, h2, h3, h4, _⟩
  · simp only [Value.slice.injEq] at h1; omega
  · simp only [Value.slice.injEq] at h1; omega
structure Lst (w : World) (G : Nat) (p : Option Addr) (k : Nat) (es : List Nat) : Prop where
  cell : ∀ j, j < k → ∃ g, p = some ⟨g, 0, none⟩ ∧ g < G ∧ w.cell? ⟨g, j, none⟩ = some (U (es.getD j 0))
theorem Lst.below {w w' : World} {G k : Nat} {p : Option Addr} {es : List Nat} (h : Lst w G p k es) (hb : Below w.heap.size w w') : Lst w' G p k es :=
  ⟨fun j hj => by obtain ⟨g, h1, h2, h3⟩ := h.cell j hj; exact ⟨g, h1, h2, (hb.cell (p := ⟨g, j, none⟩) (World.block_lt_of_cell? w _ h3)).trans h3⟩⟩
theorem Lst.set {w : World} {G k : Nat} {p : Option Addr} {es : List Nat} (h : Lst w G p k es) (g2 o : Nat) (v : Value) (hg : G ≤ g2) : Lst (w.setCell ⟨g2, o, none⟩ v) G p k es :=
  ⟨fun j hj => by
    obtain ⟨g, h1, h2, h3⟩ := h.cell j hj
    refine ⟨g, h1, h2, (World.cell?_setCell_other _ _ _ _ ?_).trans h3⟩
    intro h4
    simp only [Addr.mk.injEq] at h4
    omega⟩
theorem ZR.setNe {w : World} {s : Bool} {g m : Nat} {z : Int} (h : ZR w s (some ⟨g, 0, none⟩) m z) (g2 o2 : Nat) (v : Value) (hne : m = 0 ∨ g ≠ g2) : ZR (w.setCell ⟨g2, o2, none⟩ v) s (some ⟨g, 0, none⟩) m z := by
  rcases hne with h0 | h0
  · obtain ⟨zs, hA, hN⟩ := h.ex
    exact ⟨⟨zs, ⟨hA.len, hA.cap, hA.big, hA.dig, .inl h0⟩, hN⟩, h.sg⟩
  · exact h.set g2 o2 v h0
theorem chain_big {M Q j n : Nat} {a b : Int} (hQ : Q = 140737488355328 * M) (hj : j + 1 ≤ 17592186044416) (hn : n ≤ 17592186044416) (ha : a.natAbs ≤ n * M) (hb : b.natAbs ≤ (j + 1) * Q) : (a + b).natAbs ≤ 140737488355328 * 140737488355328 * M := by
  have h1 : n * M ≤ 17592186044416 * M := Nat.mul_le_mul_right _ hn
  have h2 : (j + 1) * Q ≤ 17592186044416 * Q := Nat.mul_le_mul_right _ hj
  have e2 : 17592186044416 * Q = 17592186044416 * 140737488355328 * M := by rw [hQ, Nat.mul_assoc]
  have h3 : 17592186044416 * M + 17592186044416 * 140737488355328 * M ≤ 140737488355328 * 140737488355328 * M := by
    rw [← Nat.add_mul]; exact Nat.mul_le_mul_right _ (by decide)
  have h4 := Int.natAbs_add_le a b
  exact Nat.le_trans h4 (Nat.le_trans (Nat.add_le_add (Nat.le_trans ha h1) (Nat.le_trans hb (Nat.le_trans h2 (Nat.le_of_eq e2)))) h3)
theorem ux_zero : ux 0 = 0 := by rw [ux_eq, if_neg (by omega)]; simp [vs_zero]
theorem rplus {p : Option Addr} {m b : Nat} {w : World} {z : Int} (s : Bool) (h : ZR w s p m z) (hm : m ≤ 3000) :
    Calls Try.prog 14 #[.agg #[.bool s, .slice p m m], U b] w fun en w' => ∃ v, en = .returned v ∧ GotR w.heap.size w' v (z + ux b) 3001 ∧ Below w.heap.size w w' := by
  have HA : Hid (ZR w s p m z) := h
  have HM : Hid (m ≤ 3000) := hm
  clear h hm
  go_enter Try.func14, Try.ntmps14
  go_wp2_with fail
  obtain ⟨W0, hW0⟩ : ∃ W0, W0 = ((w.alloc (.cells #[.bool s, .slice p m m] 35)).alloc (.cells #[.bool false, .slice none 0 0] 35)) := ⟨_, rfl⟩
  have Xv : Hid (Box W0 (w.heap.size) (.bool s) (.slice p m m)) := by rw [hW0]; exact ⟨by go_simp, by go_simp, by go_simp, by go_simp⟩
  have Xr : Hid (Box W0 (w.heap.size + 1) (.bool false) (.slice none 0 0)) := by rw [hW0]; exact ⟨by go_simp, by go_simp, by go_simp, by go_simp⟩
  have hb0 : Below w.heap.size w W0 := by rw [hW0]; exact below2 w _ _
  rw [← hW0]
  clear hW0
  have hbw : Below w.heap.size w w := Below.refl _ _
  obtain ⟨gr, hgr⟩ : ∃ g, g = w.heap.size + 1 := ⟨_, rfl⟩
  have HGr : Hid (w.heap.size ≤ gr) := by rw [hgr]; show _ ≤ _; omega
  rw [← hgr] at Xr
  try rw [← hgr]
  obtain ⟨gv, hgv⟩ : ∃ g, g = w.heap.size := ⟨_, rfl⟩
  have HGv : Hid (w.heap.size ≤ gv) := by rw [hgv]; show _ ≤ _; omega
  rw [← hgv] at Xv
  try rw [← hgv]
  have HGD : Hid (gv ≠ gr ∧ gr ≠ gv) := by rw [hgv, hgr]; exact ⟨by omega, by omega⟩
  clear hgv hgr
  replace HA : Hid _ := HA.out.below hb0
  replace hbw := Below.on hbw hb0
  clear hb0
  obtain ⟨W1, hW1⟩ : ∃ W1, W1 = W0.drew := ⟨_, rfl⟩
  have hbd : Below W0.heap.size W0 W1 := by rw [hW1]; exact bDrew1 (Below.refl _ _)
  replace Xv : Hid _ := Xv.out.below hbd
  replace Xr : Hid _ := Xr.out.below hbd
  replace HA : Hid _ := HA.out.below hbd
  replace hbw := Below.on hbw hbd
  clear hbd
  have HJ : Hid ((fun W' : World => W'.cell? ⟨gv, 0, none⟩ = some (.bool s) ∧ W'.cell? ⟨gv, 1, none⟩ = some (.slice p m m)) W1) := ⟨Xv.out.c0, Xv.out.c1⟩
  refine wp_region_J (fun W' => W'.cell? ⟨gv, 0, none⟩ = some (.bool s) ∧ W'.cell? ⟨gv, 1, none⟩ = some (.slice p m m)) (by kernel_rfl) ?_
  rw [← hW1]
  clear hW1
  refine wpJ_tq 0 rfl HJ.out ?_
  refine wpJ_tq 1 rfl HJ.out ?_
  refine wpJ_on 2 rfl fun KJ hK => ?_
  go_simp
  refine (runits _).mono ?_
  rintro e v1 ⟨v, rfl, hv, hb1⟩
  obtain ⟨s1, g1, m1, rfl, hg1, hz1, hl1⟩ := hv
  have HN1 : Hid (W1.heap.size ≤ g1) := hg1
  have HB1 : Hid (W1.heap.size ≤ v1.heap.size) := hb1.size
  replace Xv : Hid _ := Xv.out.below hb1
  replace Xr : Hid _ := Xr.out.below hb1
  replace HA : Hid _ := HA.out.below hb1
  replace hbw := Below.on hbw hb1
  clear hb1
  have Z1 : Hid (ZR v1 s1 (some ⟨g1, 0, none⟩) m1 (ux b)) := hz1
  have HL1 : Hid (m1 ≤ 2200) := hl1
  clear hz1 hl1 hg1
  refine hK _ _ ⟨Xv.out.c0, Xv.out.c1⟩ ?_
  clear hK
  refine wpJ_on 3 rfl fun KJ hK => ?_
  go_simp
  have HRB : Hid (gr < v1.heap.size ∧ w.heap.size ≤ v1.heap.size) := ⟨Xr.out.lt, hbw.size⟩
  refine (radd04 s s1 HA.out Z1.out (by have := HM.out; omega) (by have := HL1.out; omega)).mono ?_
  rintro e v2 ⟨v, rfl, hv, hb2⟩
  obtain ⟨s2, g2, m2, rfl, hg2, hz2, hl2⟩ := hv
  have HN2 : Hid (v1.heap.size ≤ g2) := hg2
  have HB2 : Hid (v1.heap.size ≤ v2.heap.size) := hb2.size
  replace Xv : Hid _ := Xv.out.below hb2
  replace Xr : Hid _ := Xr.out.below hb2
  replace HA : Hid _ := HA.out.below hb2
  replace Z1 : Hid _ := Z1.out.below hb2
  replace hbw := Below.on hbw hb2
  clear hb2
  have Z2 : Hid (ZR v2 s2 (some ⟨g2, 0, none⟩) m2 (z + ux b)) := hz2
  have HL2 : Hid (m2 ≤ max m m1 + 1) := hl2
  clear hz2 hl2 hg2
  refine hK _ _ ⟨Xv.out.c0, Xv.out.c1⟩ ?_
  clear hK
  obtain ⟨cr0, cr1, fr0, fr1⟩ := Xr.out
  have hner := Xr.out.lt
  obtain ⟨cv0, cv1, fv0, fv1⟩ := Xv.out
  have hnev := Xv.out.lt
  obtain ⟨hgd0, hgd1⟩ := HGD.out
  refine wpJ_on 4 rfl fun KJ hK => ?_
  go_simp
  have HJ2 : Hid ((fun W' : World => W'.cell? ⟨gv, 0, none⟩ = some (.bool s) ∧ W'.cell? ⟨gv, 1, none⟩ = some (.slice p m m)) ((v2.setCell ⟨gr, 0, none⟩ (.bool s2)).setCell ⟨gr, 1, none⟩ (.slice (some ⟨g2, 0, none⟩) m2 m2))) := ⟨by go_simp, by go_simp⟩
  refine hK _ _ HJ2.out ?_
  clear hK HJ
  have HJ := HJ2
  clear HJ2
  refine wpJ_done (by kernel_rfl) ?_ _
  clear HJ
  go_wp2_with fail
  refine bodyPost_ret (v := .agg #[.bool s2, .slice (some ⟨g2, 0, none⟩) m2 m2]) (by rw [results_cell1 rfl]; go_simp) rfl ⟨_, rfl, ⟨s2, g2, m2, rfl, Nat.le_trans HRB.out.2 HN2.out, ?_, (by have h1 := HL1.out; have h2 := HL2.out; have h3 := HM.out; omega)⟩, ?_⟩
  · have := HN2.out; have := HRB.out.1
    exact (Z2.out.set _ _ _ (by omega)).set _ _ _ (by omega)
  · exact bSet (bSet hbw _ _ _ HGr.out) _ _ _ HGr.out
theorem rsameZ {p q : Option Addr} {m n : Nat} {w : World} {z : Int} (s t : Bool) (h : ZR w s p m z) (k : ZR w t q n z) (hm : m ≤ 50000) (hn : n ≤ 50000) :
    Calls Try.prog 17 #[.agg #[.bool s, .slice p m m], .agg #[.bool t, .slice q n n]] w fun en w' => en = .returned (.bool true) ∧ Below w.heap.size w w' := by
  have HA : Hid (ZR w s p m z) := h
  have HB : Hid (ZR w t q n z) := k
  have HM : Hid (m ≤ 50000 ∧ n ≤ 50000) := ⟨hm, hn⟩
  clear h k hm hn
  go_enter Try.func17, Try.ntmps17
  go_wp2_with fail
  obtain ⟨W0, hW0⟩ : ∃ W0, W0 = ((w.alloc (.cells #[.bool s, .slice p m m] 35)).alloc (.cells #[.bool t, .slice q n n] 35)) := ⟨_, rfl⟩
  have Xv : Hid (Box W0 (w.heap.size) (.bool s) (.slice p m m)) := by rw [hW0]; exact ⟨by go_simp, by go_simp, by go_simp, by go_simp⟩
  have Xu : Hid (Box W0 (w.heap.size + 1) (.bool t) (.slice q n n)) := by rw [hW0]; exact ⟨by go_simp, by go_simp, by go_simp, by go_simp⟩
  have hb0 : Below w.heap.size w W0 := by rw [hW0]; exact below2 w _ _
  rw [← hW0]
  clear hW0
  have hbw : Below w.heap.size w w := Below.refl _ _
  obtain ⟨gu, hgu⟩ : ∃ g, g = w.heap.size + 1 := ⟨_, rfl⟩
  have HGu : Hid (w.heap.size ≤ gu) := by rw [hgu]; show _ ≤ _; omega
  rw [← hgu] at Xu
  try rw [← hgu]
  obtain ⟨gv, hgv⟩ : ∃ g, g = w.heap.size := ⟨_, rfl⟩
  have HGv : Hid (w.heap.size ≤ gv) := by rw [hgv]; show _ ≤ _; omega
  rw [← hgv] at Xv
  try rw [← hgv]
  have HGD : Hid (gv ≠ gu ∧ gu ≠ gv) := by rw [hgv, hgu]; exact ⟨by omega, by omega⟩
  clear hgv hgu
  replace HA : Hid _ := HA.out.below hb0
  replace HB : Hid _ := HB.out.below hb0
  replace hbw := Below.on hbw hb0
  clear hb0
  obtain ⟨cv0, cv1, fv0, fv1⟩ := Xv.out
  have hnev := Xv.out.lt
  obtain ⟨cu0, cu1, fu0, fu1⟩ := Xu.out
  have hneu := Xu.out.lt
  go_wp2_with fail
  clear cv0 cv1 fv0 fv1 hnev
  clear cu0 cu1 fu0 fu1 hneu
  refine (rcmp04 s t HA.out HB.out HM.out.1 HM.out.2).mono ?_
  rintro e v1 ⟨rfl, hb1⟩
  rw [show cmpI z z = 0 from by unfold cmpI; rw [if_neg (by omega), if_pos rfl]]
  replace Xv : Hid _ := Xv.out.below hb1
  replace Xu : Hid _ := Xu.out.below hb1
  replace HA : Hid _ := HA.out.below hb1
  replace HB : Hid _ := HB.out.below hb1
  replace hbw := Below.on hbw hb1
  clear hb1
  obtain ⟨cv0, cv1, fv0, fv1⟩ := Xv.out
  have hnev := Xv.out.lt
  obtain ⟨cu0, cu1, fu0, fu1⟩ := Xu.out
  have hneu := Xu.out.lt
  go_wp2_with fail
  clear cv0 cv1 fv0 fv1 hnev
  clear cu0 cu1 fu0 fu1 hneu
  go_ret
  exact ⟨rfl, hbw⟩
theorem eftChain_w {p : Option Addr} {n c : Nat} {xs : List Nat} {w : World} (h : At w p n c xs) (hn : n ≤ 17592186044416) :
    Calls Try.prog 5 #[.slice p n c] w fun en w' => en = .returned (.bool true) ∧ Below w.heap.size w w' := by
  have H : Hid (At w p n c xs ∧ n ≤ 17592186044416) := ⟨h, hn⟩
  have hbw : Below w.heap.size w w := Below.refl _ _
  have cap := h.cap; have big := h.big
  unfold maxLen at big
  clear h hn
  go_enter Try.func5, Try.ntmps5
  go_wp2_with fail
  refine (awake19 _).mono ?_
  rintro e w' ⟨rfl, n1, rfl⟩
  have hbr := bDrewN (Below.refl w.heap.size w) n1
  generalize w.drewN n1 = V0 at *
  replace hbw := Below.on hbw hbr
  clear hbr
  go_wp2_with fail
  refine (runits _).mono ?_
  rintro e v1 ⟨v, rfl, hv, hb1⟩
  obtain ⟨s1, g1, m1, rfl, hg1, hz1, hl1⟩ := hv
  have HN1 : Hid (V0.heap.size ≤ g1) := hg1
  have HB1 : Hid (V0.heap.size ≤ v1.heap.size) := hb1.size
  replace hbw := Below.on hbw hb1
  clear hb1
  have Z1 : Hid (ZR v1 s1 (some ⟨g1, 0, none⟩) m1 (ux 0)) := hz1
  have HL1 : Hid (m1 ≤ 2200) := hl1
  clear hz1 hl1 hg1
  go_wp2_with fail
  have Xt0 : Hid (Box (v1.alloc (.cells #[.bool s1, .slice (some ⟨g1, 0, none⟩) m1 m1] 35)) v1.heap.size (.bool s1) (.slice (some ⟨g1, 0, none⟩) m1 m1)) := Box.new v1 _ _ _
  have hbn : Below v1.heap.size v1 (v1.alloc (.cells #[.bool s1, .slice (some ⟨g1, 0, none⟩) m1 m1] 35)) := below1 v1 _
  generalize v1.alloc (.cells #[.bool s1, .slice (some ⟨g1, 0, none⟩) m1 m1] 35) = W2 at *
  have HGt : Hid (w.heap.size ≤ v1.heap.size) := hbw.size
  replace Z1 : Hid _ := Z1.out.below hbn
  replace hbw := Below.on hbw hbn
  clear hbn
  generalize v1.heap.size = gt at *
  have Xt := Xt0
  clear Xt0
  obtain ⟨K, hK⟩ : ∃ K, K = 1974 := ⟨_, rfl⟩
  obtain ⟨M, hM⟩ : ∃ M, M = 2 ^ K := ⟨_, rfl⟩
  obtain ⟨Q, hQ⟩ : ∃ Q, Q = 140737488355328 * M := ⟨_, rfl⟩
  have HQ : Hid (K = 1974 ∧ M = 2 ^ K ∧ Q = 140737488355328 * M) := ⟨hK, hM, hQ⟩
  clear hK hM hQ
  obtain ⟨hB, hhB⟩ : ∃ hB, hB = W2.heap.size := ⟨_, rfl⟩
  have HHB : Hid (gt < hB ∧ w.heap.size ≤ hB) := by rw [hhB]; exact ⟨Xt.out.lt, hbw.size⟩
  obtain ⟨i0, hi, hz0, hz1, hz2⟩ := info_parts Try.infoU64
  go_loopg [4, 5, 18] n (fun gk av lv iv wr => ∃ (k A : Nat) (T : Int) (es : List Nat) (sT : Bool) (gT mT : Nat), k + gk = n ∧ iv = .int .i64 k ∧ av = U A ∧ Box wr gt (.bool sT) (.slice (some ⟨gT, 0, none⟩) mT mT) ∧ ZR wr sT (some ⟨gT, 0, none⟩) mT T ∧ mT ≤ 3000 ∧ Fin64 A ∧ (ux A).natAbs ≤ k * M ∧ T.natAbs ≤ k * M ∧ ux A + sumU es = T ∧ Lefts k Q es ∧ wr.ownsRow hB 22 1 lv k (cellsU es) ∧ (mT = 0 ∨ some gT ≠ lv.ownBlock) ∧ hB ≤ wr.heap.size ∧ Below w.heap.size w wr)
  case atStart =>
    refine ⟨0, 0, 0, [], s1, g1, m1, by omega, rfl, rfl, Xt.out, ?_, by have := HL1.out; omega, ⟨by omega, by omega⟩, ?_, by simp, ?_, ⟨rfl, fun e he => by cases he⟩, World.ownsRow_nil _ _ _ _, .inr (by simp [Value.ownBlock]), by omega, hbw⟩
    · exact Z1.out.cast ux_zero
    · rw [ux_zero]; simp
    · rw [ux_zero]; rfl
  case round =>
    clear Xt Z1 hbw
    obtain ⟨k, A, T, es, sT, gT, mT, hkg, rfl, rfl, xt, zt, hmT, fA, bA, bT, hsum, hL, hown, hne, hhb, hbw⟩ := hrel
    have Xt : Hid (Box wr gt (.bool sT) (.slice (some ⟨gT, 0, none⟩) mT mT)) := xt
    have ZTT : Hid (ZR wr sT (some ⟨gT, 0, none⟩) mT T) := zt
    have HI : Hid (mT ≤ 3000 ∧ Fin64 A ∧ (ux A).natAbs ≤ k * M ∧ T.natAbs ≤ k * M ∧ ux A + sumU es = T ∧ Lefts k Q es) := ⟨hmT, fA, bA, bT, hsum, hL⟩
    have OW : Hid (OwR wr hB u5 k es) := ⟨hown⟩
    have HO : Hid (hB ≤ wr.heap.size) := hhb
    have HOL : Hid (∀ b, u5.ownBlock = some b → hB ≤ b ∧ b < wr.heap.size) := hown.lt
    clear xt zt hmT fA bA bT hsum hL hown hne hhb hhB
    cases gk with
    | zero =>
      obtain rfl : k = n := by omega
      have hnk : ¬ (k : Int) < (k : Int) := by omega
      obtain ⟨pL, capL, hv, hcell⟩ := OW.out.cells
      subst hv
      have hcap : k ≤ capL := OwR.cap OW.out
      have LS : Hid (Lst wr wr.heap.size pL k es) := ⟨fun j hj => by obtain ⟨g, h1, h2⟩ := hcell j hj; exact ⟨g, h1, World.block_lt_of_cell? wr _ h2, h2⟩⟩
      clear hcell OW HO HOL
      obtain ⟨ct0, ct1, ft0, ft1⟩ := Xt.out
      have hnet := Xt.out.lt
      go_wp2_with fail
      clear ct0 ct1 ft0 ft1 hnet
      refine (runits _).mono ?_
      rintro e v3 ⟨v, rfl, hv, hb3⟩
      obtain ⟨s3, g3, m3, rfl, hg3, hz3, hl3⟩ := hv
      have HN3 : Hid (wr.heap.size ≤ g3) := hg3
      have HB3 : Hid (wr.heap.size ≤ v3.heap.size) := hb3.size
      replace Xt : Hid _ := Xt.out.below hb3
      replace ZTT : Hid _ := ZTT.out.below hb3
      replace LS : Hid (Lst v3 wr.heap.size pL k es) := LS.out.below hb3
      replace hbw := Below.on hbw hb3
      clear hb3
      have Z3 : Hid (ZR v3 s3 (some ⟨g3, 0, none⟩) m3 (ux A)) := hz3
      have HL3 : Hid (m3 ≤ 2200) := hl3
      clear hz3 hl3 hg3
      obtain ⟨ct0, ct1, ft0, ft1⟩ := Xt.out
      have hnet := Xt.out.lt
      go_wp2_with fail
      clear ct0 ct1 ft0 ft1 hnet
      have HTB : Hid (mT = 0 ∨ gT < v3.heap.size) := by
        rcases Nat.eq_zero_or_pos mT with h | h
        · exact .inl h
        · exact .inr (ZTT.out.blk (by omega))
      have HT3 : Hid (gt < v3.heap.size ∧ wr.heap.size ≤ v3.heap.size) := ⟨Xt.out.lt, HB3.out⟩
      have Xb0 : Hid (Box (v3.alloc (.cells #[.bool s3, .slice (some ⟨g3, 0, none⟩) m3 m3] 35)) v3.heap.size (.bool s3) (.slice (some ⟨g3, 0, none⟩) m3 m3)) := Box.new v3 _ _ _
      have hbn : Below v3.heap.size v3 (v3.alloc (.cells #[.bool s3, .slice (some ⟨g3, 0, none⟩) m3 m3] 35)) := below1 v3 _
      generalize v3.alloc (.cells #[.bool s3, .slice (some ⟨g3, 0, none⟩) m3 m3] 35) = W6 at *
      have HGb : Hid (w.heap.size ≤ v3.heap.size) := hbw.size
      replace Xt : Hid _ := Xt.out.below hbn
      replace ZTT : Hid _ := ZTT.out.below hbn
      replace LS : Hid (Lst W6 wr.heap.size pL k es) := LS.out.below hbn
      replace Z3 : Hid _ := Z3.out.below hbn
      replace hbw := Below.on hbw hbn
      clear hbn
      generalize v3.heap.size = gb at *
      have Xb := Xb0
      clear Xb0
      have LS6 : Hid (Lst W6 gb pL k es) := ⟨fun j hj => by obtain ⟨g, h1, h2, h3⟩ := LS.out.cell j hj; exact ⟨g, h1, Nat.lt_of_lt_of_le h2 HT3.out.2, h3⟩⟩
      clear LS
      go_loopg [56] k (fun gk iv wr => ∃ (j : Nat) (sB : Bool) (gB mB : Nat), j + gk = k ∧ iv = .int .i64 j ∧ Box wr gb (.bool sB) (.slice (some ⟨gB, 0, none⟩) mB mB) ∧ ZR wr sB (some ⟨gB, 0, none⟩) mB (ux A + sumU (es.take j)) ∧ mB ≤ 3000 ∧ Box wr gt (.bool sT) (.slice (some ⟨gT, 0, none⟩) mT mT) ∧ ZR wr sT (some ⟨gT, 0, none⟩) mT T ∧ Lst wr gb pL k es ∧ Below w.heap.size w wr)
      case atStart => exact ⟨0, s3, g3, m3, by omega, rfl, Xb.out, Z3.out.cast (by show ux A = ux A + 0; omega), by have := HL3.out; omega, Xt.out, ZTT.out, LS6.out, hbw⟩
      case round =>
        clear Xb Z3 Xt ZTT LS6 hbw
        obtain ⟨j, sB, gB, mB, hjg, rfl, xb, zb, hmB, xt, zt, ls, hbw⟩ := hrel
        have Xb : Hid (Box wr gb (.bool sB) (.slice (some ⟨gB, 0, none⟩) mB mB)) := xb
        have Xt : Hid (Box wr gt (.bool sT) (.slice (some ⟨gT, 0, none⟩) mT mT)) := xt
        have ZB : Hid (ZR wr sB (some ⟨gB, 0, none⟩) mB (ux A + sumU (es.take j))) := zb
        have ZTT : Hid (ZR wr sT (some ⟨gT, 0, none⟩) mT T) := zt
        have LS : Hid (Lst wr gb pL k es) := ls
        have HMB : Hid (mB ≤ 3000) := hmB
        clear xb xt zb zt ls hmB
        cases gk with
        | zero =>
          obtain rfl : j = k := by omega
          have hnj : ¬ (j : Int) < (j : Int) := by omega
          have htk : es.take j = es := List.take_of_length_le (by rw [HI.out.2.2.2.2.2.len]; exact Nat.le_refl _)
          have ZB2 : Hid (ZR wr sB (some ⟨gB, 0, none⟩) mB T) := ZB.out.cast (by rw [htk]; exact HI.out.2.2.2.2.1)
          clear ZB htk
          obtain ⟨ct0, ct1, ft0, ft1⟩ := Xt.out
          have hnet := Xt.out.lt
          obtain ⟨cb0, cb1, fb0, fb1⟩ := Xb.out
          have hneb := Xb.out.lt
          go_wp2_with fail
          clear ct0 ct1 ft0 ft1 hnet
          clear cb0 cb1 fb0 fb1 hneb
          refine (rsameZ sT sB ZTT.out ZB2.out (by have := HI.out.1; omega) (by have := HMB.out; omega)).mono ?_
          rintro e v7 ⟨rfl, hb7⟩
          replace Xt : Hid _ := Xt.out.below hb7
          replace Xb : Hid _ := Xb.out.below hb7
          replace ZTT : Hid _ := ZTT.out.below hb7
          replace LS : Hid (Lst v7 gb pL j es) := LS.out.below hb7
          replace ZB2 : Hid _ := ZB2.out.below hb7
          replace hbw := Below.on hbw hb7
          clear hb7
          obtain ⟨ct0, ct1, ft0, ft1⟩ := Xt.out
          have hnet := Xt.out.lt
          obtain ⟨cb0, cb1, fb0, fb1⟩ := Xb.out
          have hneb := Xb.out.lt
          go_wp2_with fail
          clear ct0 ct1 ft0 ft1 hnet
          clear cb0 cb1 fb0 fb1 hneb
          go_ret
          exact ⟨rfl, hbw⟩
        | succ gj =>
          obtain ⟨gL, rfl, hgl, hcy⟩ := LS.out.cell j (by omega)
          obtain ⟨y, hy⟩ : ∃ y, y = es.getD j 0 := ⟨_, rfl⟩
          rw [← hy] at hcy
          have hly := HI.out.2.2.2.2.2.at_ (j := j) (by omega)
          have HY : Hid (y = es.getD j 0 ∧ Fin64 y ∧ gL < gb ∧ j < k) := ⟨hy, by rw [hy]; exact hly.1, hgl, by omega⟩
          have hjk : (j : Int) < (k : Int) := by omega
          clear hy hly hgl
          obtain ⟨ct0, ct1, ft0, ft1⟩ := Xt.out
          have hnet := Xt.out.lt
          obtain ⟨cb0, cb1, fb0, fb1⟩ := Xb.out
          have hneb := Xb.out.lt
          go_wp2_with fail
          clear ct0 ct1 ft0 ft1 hnet
          clear cb0 cb1 fb0 fb1 hneb
          refine (rfin y _).mono ?_
          rintro e9 w9 ⟨rfl, hw⟩
          obtain rfl := hw.symm
          clear hw
          rw [decide_eq_true HY.out.2.1.fin]
          obtain ⟨ct0, ct1, ft0, ft1⟩ := Xt.out
          have hnet := Xt.out.lt
          obtain ⟨cb0, cb1, fb0, fb1⟩ := Xb.out
          have hneb := Xb.out.lt
          go_wp2_with fail
          clear ct0 ct1 ft0 ft1 hnet
          clear cb0 cb1 fb0 fb1 hneb
          have HGB8 : Hid (gb < wr.heap.size) := Xb.out.lt
          refine (rplus sB ZB.out HMB.out).mono ?_
          rintro e v8 ⟨v, rfl, hv, hb8⟩
          obtain ⟨s8, g8, m8, rfl, hg8, hz8, hl8⟩ := hv
          have HN8 : Hid (wr.heap.size ≤ g8) := hg8
          have HB8 : Hid (wr.heap.size ≤ v8.heap.size) := hb8.size
          replace Xt : Hid _ := Xt.out.below hb8
          replace Xb : Hid _ := Xb.out.below hb8
          replace ZB : Hid _ := ZB.out.below hb8
          replace ZTT : Hid _ := ZTT.out.below hb8
          replace LS : Hid (Lst v8 gb (some ⟨gL, 0, none⟩) k es) := LS.out.below hb8
          replace hbw := Below.on hbw hb8
          clear hb8
          have Z8 : Hid (ZR v8 s8 (some ⟨g8, 0, none⟩) m8 (ux A + sumU (es.take j) + ux y)) := hz8
          have HL8 : Hid (m8 ≤ 3001) := hl8
          clear hz8 hl8 hg8
          clear ZB
          skip
          have hq1 : gt ≠ gb := by have := HT3.out.1; omega
          have hq2 : gb ≠ gt := fun h => hq1 h.symm
          obtain ⟨ct0, ct1, ft0, ft1⟩ := Xt.out
          have hnet := Xt.out.lt
          obtain ⟨cb0, cb1, fb0, fb1⟩ := Xb.out
          have hneb := Xb.out.lt
          go_wp2_with fail
          have hg8 : g8 ≠ gb := by have h1 := HGB8.out; have h2 := HN8.out; omega
          have hv8 : ux A + sumU (es.take j) + ux y = ux A + sumU (es.take (j + 1)) := by rw [sumU_take es j (by rw [HI.out.2.2.2.2.2.len]; exact HY.out.2.2.2), ← HY.out.1]; omega
          have hbig : (ux A + sumU (es.take (j + 1))).natAbs ≤ 140737488355328 * 140737488355328 * M := chain_big HQ.out.2.2 (by have h1 := HY.out.2.2.2; have h2 := H.out.2; omega) H.out.2 HI.out.2.2.1 (sumU_le HI.out.2.2.2.2.2 (j + 1) HY.out.2.2.2)
          go_roundg gj
          case measure => omega
          case rel =>
            refine ⟨j + 1, s8, g8, m8, by omega, by go_num, ⟨by go_simp, by go_simp, by go_simp, by go_simp⟩, (((Z8.out.set _ _ _ hg8).set _ _ _ hg8).cast hv8), ?_, ⟨by go_simp, by go_simp, by go_simp, by go_simp⟩, ?_, (LS.out.set _ _ _ (Nat.le_refl _)).set _ _ _ (Nat.le_refl _), bSet (bSet hbw _ _ _ HGb.out) _ _ _ HGb.out⟩
            · exact chain_len Z8.out HQ.out.1 HQ.out.2.1 (by rw [hv8]; exact hbig)
            · have hn : mT = 0 ∨ gT ≠ gb := HTB.out.imp id fun h => by omega
              exact (ZTT.out.setNe _ _ _ hn).setNe _ _ _ hn
    | succ gg =>
      skip
      obtain ⟨gp, off, rfl, hc⟩ := H.out.1.cells.resolve_left (by omega)
      obtain ⟨x, hx⟩ : ∃ x, x = xs.getD k 0 := ⟨_, rfl⟩
      have hcx0 : w.cell? ⟨gp, off + k, none⟩ = some (U x) := by rw [hx]; exact hc k (by omega)
      have hcx : wr.cell? ⟨gp, off + k, none⟩ = some (U x) := (hbw.cell (p := ⟨gp, off + k, none⟩) (World.block_lt_of_cell? w _ hcx0)).trans hcx0
      have HXB : Hid (x < 18446744073709551616 ∧ k < 17592186044416) := ⟨by rw [hx]; exact H.out.1.dig.getD B64_pos k, by have := H.out.2; omega⟩
      have hkk : (k : Int) < (n : Int) := by omega
      clear hc hx hcx0
      obtain ⟨ct0, ct1, ft0, ft1⟩ := Xt.out
      have hnet := Xt.out.lt
      go_wp2_with fail
      clear ct0 ct1 ft0 ft1 hnet
      obtain ⟨sx, hsx⟩ : ∃ z, z = x % 9223372036854775808 := ⟨_, rfl⟩
      obtain ⟨rx, hrx⟩ : ∃ z, z = sx % 5404319552844595200 := ⟨_, rfl⟩
      obtain ⟨qx, hqx⟩ : ∃ z, z = x / 9223372036854775808 := ⟨_, rfl⟩
      obtain ⟨yx, hyx⟩ : ∃ z, z = qx * 9223372036854775808 := ⟨_, rfl⟩
      obtain ⟨ax, hax⟩ : ∃ z, z = 3256102530588868608 + rx := ⟨_, rfl⟩
      obtain ⟨X, hX⟩ : ∃ z, z = ax + yx := ⟨_, rfl⟩
      have hrl : rx < 5404319552844595200 := by rw [hrx]; exact Nat.mod_lt _ (by omega)
      have hql : qx ≤ 1 := by have := HXB.out.1; omega
      have o0 : IntKind.u64.wrap ((8660422083433463808 : Int) - 3256102530588868608) = 5404319552844595200 := by decide
      have o0' : IntKind.u64.wrap (5404319552844595200 : Int) = 5404319552844595200 := by decide
      have o1 : (sx : Int).tmod 5404319552844595200 = (rx : Int) := by rw [Int.tmod_eq_emod_of_nonneg (by omega)]; omega
      have o2 : (sx : Int) % 5404319552844595200 = (rx : Int) := by omega
      have o3 : (x : Int).tdiv 9223372036854775808 = (qx : Int) := by rw [Int.tdiv_eq_ediv_of_nonneg (by omega)]; omega
      have o4 : (x : Int) / 9223372036854775808 = (qx : Int) := by omega
      have o5 : IntKind.u64.wrap ((3256102530588868608 : Int) + (rx : Int)) = (ax : Int) := by rw [IntKind.wrap_u64]; omega
      have o8 : IntKind.u64.wrap (qx : Int) = (qx : Int) := by rw [IntKind.wrap_u64]; omega
      have o6 : IntKind.u64.wrap ((qx : Int) * 9223372036854775808) = (yx : Int) := by rw [IntKind.wrap_u64]; omega
      have o7 : IntKind.u64.wrap ((ax : Int) + (yx : Int)) = (X : Int) := by rw [IntKind.wrap_u64]; omega
      have HXX : Hid (X = xm x ∧ sx = x % 9223372036854775808) := ⟨by rw [hX, hax, hyx, hqx, hrx, hsx]; rfl, hsx⟩
      clear hsx hrx hqx hyx hax hX hrl hql
      refine (rpow19 723 (-300) (by omega) (by omega) _).mono ?_
      rintro e9 w9 ⟨rfl, hw⟩
      obtain rfl := hw.symm
      clear hw
      rw [show 723 * 4503599627370496 = 3256102530588868608 from rfl]
      obtain ⟨ct0, ct1, ft0, ft1⟩ := Xt.out
      have hnet := Xt.out.lt
      go_wp2_with fail
      clear ct0 ct1 ft0 ft1 hnet
      refine (rsz x _).mono ?_
      rintro e9 w9 ⟨rfl, hw⟩
      obtain rfl := hw.symm
      clear hw
      rw [← HXX.out.2]
      obtain ⟨ct0, ct1, ft0, ft1⟩ := Xt.out
      have hnet := Xt.out.lt
      go_wp2_with fail
      clear ct0 ct1 ft0 ft1 hnet
      refine (rpow19 1923 900 (by omega) (by omega) _).mono ?_
      rintro e9 w9 ⟨rfl, hw⟩
      obtain rfl := hw.symm
      clear hw
      rw [show 1923 * 4503599627370496 = 8660422083433463808 from rfl]
      obtain ⟨ct0, ct1, ft0, ft1⟩ := Xt.out
      have hnet := Xt.out.lt
      go_wp2_with fail
      clear ct0 ct1 ft0 ft1 hnet
      refine (rpow19 723 (-300) (by omega) (by omega) _).mono ?_
      rintro e9 w9 ⟨rfl, hw⟩
      obtain rfl := hw.symm
      clear hw
      rw [show 723 * 4503599627370496 = 3256102530588868608 from rfl]
      obtain ⟨ct0, ct1, ft0, ft1⟩ := Xt.out
      have hnet := Xt.out.lt
      go_wp2_with fail
      clear ct0 ct1 ft0 ft1 hnet
      clear o0 o0' o1 o2 o3 o4 o5 o6 o7 o8
      refine (rplus sT ZTT.out HI.out.1).mono ?_
      rintro e v2 ⟨v, rfl, hv, hb2⟩
      obtain ⟨s2, g2, m2, rfl, hg2, hz2, hl2⟩ := hv
      have HN2 : Hid (wr.heap.size ≤ g2) := hg2
      have HB2 : Hid (wr.heap.size ≤ v2.heap.size) := hb2.size
      replace Xt : Hid _ := Xt.out.below hb2
      replace ZTT : Hid _ := ZTT.out.below hb2
      replace OW : Hid (OwR v2 hB u5 k es) := OW.out.below hb2
      replace hbw := Below.on hbw hb2
      clear hb2
      have Z2 : Hid (ZR v2 s2 (some ⟨g2, 0, none⟩) m2 (T + ux X)) := hz2
      have HL2 : Hid (m2 ≤ 3001) := hl2
      clear hz2 hl2 hg2
      clear ZTT
      have HNO : Hid (∀ b, u5.ownBlock = some b → b ≠ g2) := fun b hb => by have h1 := (HOL.out b hb).2; have h2 := HN2.out; omega
      have HG2 : Hid (gt < g2) := Nat.lt_of_lt_of_le (Nat.lt_of_lt_of_le HHB.out.1 HO.out) HN2.out
      obtain ⟨ct0, ct1, ft0, ft1⟩ := Xt.out
      have hnet := Xt.out.lt
      go_wp2_with fail
      obtain ⟨W4, hW4⟩ : ∃ W4, W4 = ((v2.setCell ⟨gt, 0, none⟩ (.bool s2)).setCell ⟨gt, 1, none⟩ (.slice (some ⟨g2, 0, none⟩) m2 m2)) := ⟨_, rfl⟩
      have Xt2 : Hid (Box W4 gt (.bool s2) (.slice (some ⟨g2, 0, none⟩) m2 m2)) := by rw [hW4]; exact ⟨by go_simp, by go_simp, by go_simp, by go_simp⟩
      have Z22 : Hid (ZR W4 s2 (some ⟨g2, 0, none⟩) m2 (T + ux X)) := by rw [hW4]; have := HG2.out; exact (Z2.out.set _ _ _ (by omega)).set _ _ _ (by omega)
      have OW2 : Hid (OwR W4 hB u5 k es) := by rw [hW4]; exact (OW.out.set _ _ _ HHB.out.1).set _ _ _ HHB.out.1
      have HO2 : Hid (hB ≤ W4.heap.size) := by rw [hW4]; show _ ≤ _; simp only [World.size_setCell]; exact Nat.le_trans HO.out HB2.out
      have hbw4 : Below w.heap.size w W4 := by rw [hW4]; exact bSet (bSet hbw _ _ _ HGt.out) _ _ _ HGt.out
      rw [← hW4]
      clear hW4 Xt Z2 OW HO hbw ct0 ct1 ft0 ft1 hnet
      have Xt := Xt2
      have Z2 := Z22
      have OW := OW2
      have HO := HO2
      have hbw := hbw4
      clear Xt2 Z22 OW2 HO2 hbw4
      refine (sumB A X _).mono ?_
      rintro e9 w9 ⟨s, e, n5, rfl, rfl, hR⟩
      have hc := chain_step HQ.out.1 HQ.out.2.1 HQ.out.2.2 HI.out.2.1 HI.out.2.2.1 HXB.out.2 HXB.out.1 (by rw [← HXX.out.1]; exact hR)
      rw [← HXX.out.1] at hc
      have HC : Hid (Fin64 s ∧ s % 9223372036854775808 ≤ 9209861237972664320 ∧ (ux s).natAbs ≤ (k + 1) * M ∧ Fin64 e ∧ (ux e).natAbs ≤ Q ∧ ux s + ux e = ux A + ux X ∧ (ux X).natAbs ≤ M) := hc
      clear hc hR
      have HO5 : Hid (hB ≤ (W4.drewN n5).heap.size) := HO.out
      have hbr := bDrewN (Below.refl W4.heap.size W4) n5
      generalize W4.drewN n5 = W5 at *
      replace Xt : Hid _ := Xt.out.below hbr
      replace Z2 : Hid _ := Z2.out.below hbr
      replace OW : Hid (OwR W5 hB u5 k es) := OW.out.below hbr
      replace hbw := Below.on hbw hbr
      clear hbr
      obtain ⟨ct0, ct1, ft0, ft1⟩ := Xt.out
      have hnet := Xt.out.lt
      go_wp2_with fail
      clear ct0 ct1 ft0 ft1 hnet
      refine (ratmost s 2045 1022 (by omega) (by omega) _).mono ?_
      rintro e9 w9 ⟨rfl, hw⟩
      obtain rfl := hw.symm
      clear hw
      rw [decide_eq_true (show s % 9223372036854775808 ≤ 2045 * 4503599627370496 from HC.out.2.1)]
      have hb6 : Below W5.heap.size W5 (W5.alloc (.cells #[U e] 22)) := below1 W5 _
      have OWA : Hid ((W5.alloc (.cells #[U e] 22)).ownsRow hB 22 1 u5 k (cellsU es)) := OW.out.row.alloc _
      have Xta : Hid (Box (W5.alloc (.cells #[U e] 22)) gt (.bool s2) (.slice (some ⟨g2, 0, none⟩) m2 m2)) := Xt.out.below hb6
      have Z2a : Hid (ZR (W5.alloc (.cells #[U e] 22)) s2 (some ⟨g2, 0, none⟩) m2 (T + ux X)) := Z2.out.below hb6
      have hbwa := Below.on hbw hb6
      have HSZ : Hid (hB ≤ (W5.alloc (.cells #[U e] 22)).heap.size ∧ (W5.alloc (.cells #[U e] 22)).heap.size = W5.heap.size + 1) := ⟨by have := HO5.out; simp; omega, by simp⟩
      have hxb := HXB.out.2
      obtain ⟨ct0, ct1, ft0, ft1⟩ := Xt.out
      have hnet := Xt.out.lt
      go_wp2_with (at_builtin; refine wpList_append_own_at _ rfl _ _ 32 rfl hB 22 i0 (.int .u64 0) 1 8 Try.underlying32 hi hz0 hz1 hz2 rfl (by decide) _ _ _ rfl OWA.out ⟨W5.heap.size, 0, none⟩ 1 1 [U e] rfl rfl (cell_one_new _ _ _) (by intro u hu; simp at hu; subst hu; rfl) (by unfold maxLen; omega) (by omega) HSZ.out.1 ?_; intro v6 w6 hown6 hgr6 hnil6 hat6)
      go_roundg gg
      case measure => omega
      case rel =>
        have hrowne : some gt ≠ Value.ownBlock (u5) := fun h => by have h1 := (HOL.out gt h.symm).1; have h2 := HHB.out.1; omega
        have hcc := HC.out
        have hii := HI.out
        have hTX : (T + ux X).natAbs ≤ (k + 1) * M := by rw [Nat.add_mul, Nat.one_mul]; have h1 := hii.2.2.2.1; have h2 := hcc.2.2.2.2.2.2; omega
        have hkM : (k + 1) * M ≤ 140737488355328 * 140737488355328 * M := Nat.mul_le_mul_right _ (by omega)
        refine ⟨k + 1, s, T + ux X, es ++ [e], s2, g2, m2, by omega, by go_num, rfl, Xta.out.grow hgr6 hrowne, Z2a.out.grow hgr6 ?_, chain_len Z2.out HQ.out.1 HQ.out.2.1 (Nat.le_trans hTX hkM), hcc.1, hcc.2.2.1, hTX, ?_, hii.2.2.2.2.2.snoc hcc.2.2.2.1 hcc.2.2.2.2.1, ?_, ?_, ?_, ?_⟩
        · exact .inr fun h => HNO.out g2 h.symm rfl
        · rw [sumU_snoc]; have h1 := hii.2.2.2.2.1; have h2 := hcc.2.2.2.2.2.1; omega
        · have e0 : cellsU (es ++ [e]) = cellsU es ++ [U e] := by unfold cellsU; rw [List.map_append]; rfl
          rw [e0]; exact hown6
        · by_cases hm0 : m2 = 0
          · exact .inl hm0
          · refine .inr fun h => ?_
            rcases hat6 with h1 | h1
            · rw [h1] at h; exact HNO.out g2 h.symm rfl
            · rw [h1] at h; have h2 := Z2.out.blk hm0; have h3 := HSZ.out.2; simp only [Option.some.injEq] at h; omega
        · exact Nat.le_trans HSZ.out.1 hgr6.size
        · exact hbwa.grown hgr6 hbwa.size fun b hb => Nat.le_trans HHB.out.2 (HOL.out b hb).1
theorem eftChain_walk {p : Option Addr} {n c : Nat} {xs : List Nat} {w : World} (h : At w p n c xs) (hn : n ≤ 17592186044416) : Calls Try.prog 5 #[.slice p n c] w fun e w' => e = .returned (.bool true) ∧ Below w.heap.size w w' := eftChain_w h hn
end Go.Proofs.Ytpnpdngfjgdgfab
