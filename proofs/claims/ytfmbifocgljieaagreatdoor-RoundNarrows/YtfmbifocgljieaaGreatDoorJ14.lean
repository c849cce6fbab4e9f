import Derived.Test.YtfmbifocgljieaaGreatDoorJ13
import Derived.Test.YtfmbifocgljieaaGreatDoorSmall
import Derived.Test.YtfmbifocgljieaaGreatDoorJ11
import Derived.Deep.LoopGhost
import Derived.Test.YtfmbifocgljieaaGreatDoorJ8
import Derived.Test.YtfmbifocgljieaaGreatDoorJ12
namespace Go.Proofs.YtfmbifocgljieaaGreatDoor
open Go.RowKit Go.Shelf
set_option maxRecDepth 20000
set_option maxHeartbeats 0
structure B10q (W : World) (g : Nat) (v0 v1 v2 v3 v4 v5 v6 v7 v8 v9 : Value) : Prop where
  c0 : W.cell? ⟨g, 0, none⟩ = some v0
  c1 : W.cell? ⟨g, 1, none⟩ = some v1
  c2 : W.cell? ⟨g, 2, none⟩ = some v2
  c3 : W.cell? ⟨g, 3, none⟩ = some v3
  c4 : W.cell? ⟨g, 4, none⟩ = some v4
  c5 : W.cell? ⟨g, 5, none⟩ = some v5
  c6 : W.cell? ⟨g, 6, none⟩ = some v6
  c7 : W.cell? ⟨g, 7, none⟩ = some v7
  c8 : W.cell? ⟨g, 8, none⟩ = some v8
  c9 : W.cell? ⟨g, 9, none⟩ = some v9
  f0 : W.frozen? ⟨g, 0, none⟩ = false
  f1 : W.frozen? ⟨g, 1, none⟩ = false
  f2 : W.frozen? ⟨g, 2, none⟩ = false
  f3 : W.frozen? ⟨g, 3, none⟩ = false
  f4 : W.frozen? ⟨g, 4, none⟩ = false
  f5 : W.frozen? ⟨g, 5, none⟩ = false
  f6 : W.frozen? ⟨g, 6, none⟩ = false
  f7 : W.frozen? ⟨g, 7, none⟩ = false
  f8 : W.frozen? ⟨g, 8, none⟩ = false
  f9 : W.frozen? ⟨g, 9, none⟩ = false
theorem B10q.lt {w : World} {g : Nat} {v0 v1 v2 v3 v4 v5 v6 v7 v8 v9 : Value} (h : B10q w g v0 v1 v2 v3 v4 v5 v6 v7 v8 v9) : g < w.heap.size := World.block_lt_of_cell? w _ h.c0
theorem B10q.below {W W' : World} {g : Nat} {v0 v1 v2 v3 v4 v5 v6 v7 v8 v9 : Value} (h : B10q W g v0 v1 v2 v3 v4 v5 v6 v7 v8 v9) (hb : Below W.heap.size W W') : B10q W' g v0 v1 v2 v3 v4 v5 v6 v7 v8 v9 := by
  have hl : g < W.heap.size := World.block_lt_of_cell? W _ h.c0
  exact ⟨(hb.cell (p := ⟨g, 0, none⟩) hl).trans h.c0, (hb.cell (p := ⟨g, 1, none⟩) hl).trans h.c1, (hb.cell (p := ⟨g, 2, none⟩) hl).trans h.c2, (hb.cell (p := ⟨g, 3, none⟩) hl).trans h.c3, (hb.cell (p := ⟨g, 4, none⟩) hl).trans h.c4, (hb.cell (p := ⟨g, 5, none⟩) hl).trans h.c5, (hb.cell (p := ⟨g, 6, none⟩) hl).trans h.c6, (hb.cell (p := ⟨g, 7, none⟩) hl).trans h.c7, (hb.cell (p := ⟨g, 8, none⟩) hl).trans h.c8, (hb.cell (p := ⟨g, 9, none⟩) hl).trans h.c9, (hb.frozen (p := ⟨g, 0, none⟩) hl).trans h.f0, (hb.frozen (p := ⟨g, 1, none⟩) hl).trans h.f1, (hb.frozen (p := ⟨g, 2, none⟩) hl).trans h.f2, (hb.frozen (p := ⟨g, 3, none⟩) hl).trans h.f3, (hb.frozen (p := ⟨g, 4, none⟩) hl).trans h.f4, (hb.frozen (p := ⟨g, 5, none⟩) hl).trans h.f5, (hb.frozen (p := ⟨g, 6, none⟩) hl).trans h.f6, (hb.frozen (p := ⟨g, 7, none⟩) hl).trans h.f7, (hb.frozen (p := ⟨g, 8, none⟩) hl).trans h.f8, (hb.frozen (p := ⟨g, 9, none⟩) hl).trans h.f9⟩
theorem B10q.new (w : World) (ty : TypeId) (v0 v1 v2 v3 v4 v5 v6 v7 v8 v9 : Value) : B10q (w.alloc (.cells #[v0, v1, v2, v3, v4, v5, v6, v7, v8, v9] ty)) w.heap.size v0 v1 v2 v3 v4 v5 v6 v7 v8 v9 := ⟨by go_simp, by go_simp, by go_simp, by go_simp, by go_simp, by go_simp, by go_simp, by go_simp, by go_simp, by go_simp, by go_simp, by go_simp, by go_simp, by go_simp, by go_simp, by go_simp, by go_simp, by go_simp, by go_simp, by go_simp⟩
theorem twinD {p : Option Addr} {m c : Nat} {xs : List Nat} {w : World} {e : Int} (s : Bool) (h : At w p m c xs) (hm : m ≤ 17592186044416) :
    Calls Tryz.prog 83 #[DV s p m c e] w fun en w' => ∃ g, en = .returned (DV s (some ⟨g, 0, none⟩) m m e) ∧ w.heap.size ≤ g ∧ At w' (some ⟨g, 0, none⟩) m m xs ∧ Below w.heap.size w w' := by
  have H : Hid (At w p m c xs) := h
  have HM : Hid (m ≤ 17592186044416) := hm
  clear h hm
  go_enter Tryz.func83, Tryz.ntmps83
  go_wp2_with fail
  obtain ⟨W0, hW0⟩ : ∃ W0, W0 = ((w.alloc (.cells #[.bool s, .slice p m c, .int .i64 e] 33)).alloc (.cells #[.bool false, .slice none 0 0, .int .i64 0] 33)) := ⟨_, rfl⟩
  have Xd : Hid (B3q W0 (w.heap.size) (.bool s) (.slice p m c) (.int .i64 e)) := by rw [hW0]; exact ⟨by go_simp, by go_simp, by go_simp, by go_simp, by go_simp, by go_simp⟩
  have Xr : Hid (B3q W0 (w.heap.size + 1) (.bool false) (.slice none 0 0) (.int .i64 0)) := by rw [hW0]; exact ⟨by go_simp, by go_simp, by go_simp, by go_simp, by go_simp, by go_simp⟩
  have hb0 : Below w.heap.size w W0 := by rw [hW0]; exact below2 w _ _
  rw [← hW0]
  clear hW0
  have hbw : Below w.heap.size w w := Below.refl _ _
  obtain ⟨gr, hgr⟩ : ∃ g, g = w.heap.size + 1 := ⟨_, rfl⟩
  have HGr : Hid (w.heap.size ≤ gr) := by rw [hgr]; show _ ≤ _; omega
  rw [← hgr] at Xr
  try rw [← hgr]
  obtain ⟨gd, hgd⟩ : ∃ g, g = w.heap.size := ⟨_, rfl⟩
  have HGd : Hid (w.heap.size ≤ gd) := by rw [hgd]; show _ ≤ _; omega
  rw [← hgd] at Xd
  try rw [← hgd]
  have HGD : Hid (gd ≠ gr ∧ gr ≠ gd) := by rw [hgd, hgr]; exact ⟨by omega, by omega⟩
  clear hgd hgr
  replace H : Hid _ := H.out.below hb0
  replace hbw := Below.on hbw hb0
  clear hb0
  obtain ⟨W1, hW1⟩ : ∃ W1, W1 = W0.drew := ⟨_, rfl⟩
  have hbd : Below W0.heap.size W0 W1 := by rw [hW1]; exact bDrew1 (Below.refl _ _)
  replace Xd : Hid _ := Xd.out.below hbd
  replace Xr : Hid _ := Xr.out.below hbd
  replace H : Hid _ := H.out.below hbd
  replace hbw := Below.on hbw hbd
  clear hbd
  have HJ : Hid ((fun W' : World => W'.cell? ⟨gd, 0, none⟩ = some (.bool s) ∧ W'.cell? ⟨gd, 1, none⟩ = some (.slice p m c) ∧ W'.cell? ⟨gd, 2, none⟩ = some (.int .i64 e)) W1) := ⟨Xd.out.c0, Xd.out.c1, Xd.out.c2⟩
  refine wp_region_J (fun W' => W'.cell? ⟨gd, 0, none⟩ = some (.bool s) ∧ W'.cell? ⟨gd, 1, none⟩ = some (.slice p m c) ∧ W'.cell? ⟨gd, 2, none⟩ = some (.int .i64 e)) (by kernel_rfl) ?_
  rw [← hW1]
  clear hW1
  refine wpJ_tq 0 rfl HJ.out ?_
  refine wpJ_tq 1 rfl HJ.out ?_
  refine wpJ_tq 2 rfl HJ.out ?_
  refine wpJ_tq 3 rfl HJ.out ?_
  refine wpJ_tq 4 rfl HJ.out ?_
  refine wpJ_tq 5 rfl HJ.out ?_
  refine wpJ_tq 8 rfl HJ.out ?_
  refine wpJ_tq 9 rfl HJ.out ?_
  refine wpJ_on 6 rfl fun KJ hK => ?_
  go_simp
  refine (twin_any H.out (by have := HM.out; omega)).mono ?_
  rintro e2 w2 ⟨g2, rfl, hg2, hblk2, hb2⟩
  have HRL : Hid (gr < g2 ∧ w.heap.size ≤ g2) := ⟨Nat.lt_of_lt_of_le Xr.out.lt hg2, Nat.le_trans hbw.size hg2⟩
  have hA2 := hblk2.at_ H.out.dig H.out.len (by have := HM.out; unfold maxLen; omega)
  replace Xd : Hid _ := Xd.out.below hb2
  replace Xr : Hid _ := Xr.out.below hb2
  replace H : Hid _ := H.out.below hb2
  replace hbw := Below.on hbw hb2
  clear hb2
  have A2 : Hid (At w2 (some ⟨g2, 0, none⟩) m m xs) := hA2
  clear hg2 hblk2 hA2
  clear HJ
  have HJ : Hid ((fun W' : World => W'.cell? ⟨gd, 0, none⟩ = some (.bool s) ∧ W'.cell? ⟨gd, 1, none⟩ = some (.slice p m c) ∧ W'.cell? ⟨gd, 2, none⟩ = some (.int .i64 e)) w2) := ⟨Xd.out.c0, Xd.out.c1, Xd.out.c2⟩
  refine hK _ _ HJ.out ?_
  clear hK
  refine wpJ_tq 7 rfl HJ.out ?_
  refine wpJ_tq 10 rfl HJ.out ?_
  obtain ⟨cr0, cr1, cr2, fr0, fr1, fr2⟩ := Xr.out
  have hner : gr < w2.heap.size := World.block_lt_of_cell? w2 _ cr0
  obtain ⟨cd0, cd1, cd2, fd0, fd1, fd2⟩ := Xd.out
  have hned : gd < w2.heap.size := World.block_lt_of_cell? w2 _ cd0
  obtain ⟨hgd0, hgd1⟩ := HGD.out
  refine wpJ_on 11 rfl fun KJ hK => ?_
  go_simp
  have HJ2 : Hid ((fun W' : World => W'.cell? ⟨gd, 0, none⟩ = some (.bool s) ∧ W'.cell? ⟨gd, 1, none⟩ = some (.slice p m c) ∧ W'.cell? ⟨gd, 2, none⟩ = some (.int .i64 e)) (((w2.setCell ⟨gr, 0, none⟩ (.bool s)).setCell ⟨gr, 1, none⟩ (.slice (some ⟨g2, 0, none⟩) m m)).setCell ⟨gr, 2, none⟩ (.int .i64 e))) := ⟨by go_simp, by go_simp, by go_simp⟩
  refine hK _ _ HJ2.out ?_
  clear hK HJ
  have HJ := HJ2
  clear HJ2
  refine wpJ_done (by kernel_rfl) ?_ _
  clear HJ
  go_wp2_with fail
  refine bodyPost_ret (v := DV s (some ⟨g2, 0, none⟩) m m e) (by rw [results_cell1 rfl]; go_simp) rfl ⟨g2, rfl, HRL.out.2, ?_, ?_⟩
  · have := HRL.out.1
    exact ((A2.out.setOther _ _ _ (by omega)).setOther _ _ _ (by omega)).setOther _ _ _ (by omega)
  · exact bSet (bSet (bSet hbw _ _ _ HGr.out) _ _ _ HGr.out) _ _ _ HGr.out
structure B9q (W : World) (g : Nat) (v0 v1 v2 v3 v4 v5 v6 v7 v8 : Value) : Prop where
  c0 : W.cell? ⟨g, 0, none⟩ = some v0
  c1 : W.cell? ⟨g, 1, none⟩ = some v1
  c2 : W.cell? ⟨g, 2, none⟩ = some v2
  c3 : W.cell? ⟨g, 3, none⟩ = some v3
  c4 : W.cell? ⟨g, 4, none⟩ = some v4
  c5 : W.cell? ⟨g, 5, none⟩ = some v5
  c6 : W.cell? ⟨g, 6, none⟩ = some v6
  c7 : W.cell? ⟨g, 7, none⟩ = some v7
  c8 : W.cell? ⟨g, 8, none⟩ = some v8
  f0 : W.frozen? ⟨g, 0, none⟩ = false
  f1 : W.frozen? ⟨g, 1, none⟩ = false
  f2 : W.frozen? ⟨g, 2, none⟩ = false
  f3 : W.frozen? ⟨g, 3, none⟩ = false
  f4 : W.frozen? ⟨g, 4, none⟩ = false
  f5 : W.frozen? ⟨g, 5, none⟩ = false
  f6 : W.frozen? ⟨g, 6, none⟩ = false
  f7 : W.frozen? ⟨g, 7, none⟩ = false
  f8 : W.frozen? ⟨g, 8, none⟩ = false
theorem B9q.lt {w : World} {g : Nat} {v0 v1 v2 v3 v4 v5 v6 v7 v8 : Value} (h : B9q w g v0 v1 v2 v3 v4 v5 v6 v7 v8) : g < w.heap.size := World.block_lt_of_cell? w _ h.c0
theorem B9q.below {W W' : World} {g : Nat} {v0 v1 v2 v3 v4 v5 v6 v7 v8 : Value} (h : B9q W g v0 v1 v2 v3 v4 v5 v6 v7 v8) (hb : Below W.heap.size W W') : B9q W' g v0 v1 v2 v3 v4 v5 v6 v7 v8 := by
  have hl : g < W.heap.size := World.block_lt_of_cell? W _ h.c0
  exact ⟨(hb.cell (p := ⟨g, 0, none⟩) hl).trans h.c0, (hb.cell (p := ⟨g, 1, none⟩) hl).trans h.c1, (hb.cell (p := ⟨g, 2, none⟩) hl).trans h.c2, (hb.cell (p := ⟨g, 3, none⟩) hl).trans h.c3, (hb.cell (p := ⟨g, 4, none⟩) hl).trans h.c4, (hb.cell (p := ⟨g, 5, none⟩) hl).trans h.c5, (hb.cell (p := ⟨g, 6, none⟩) hl).trans h.c6, (hb.cell (p := ⟨g, 7, none⟩) hl).trans h.c7, (hb.cell (p := ⟨g, 8, none⟩) hl).trans h.c8, (hb.frozen (p := ⟨g, 0, none⟩) hl).trans h.f0, (hb.frozen (p := ⟨g, 1, none⟩) hl).trans h.f1, (hb.frozen (p := ⟨g, 2, none⟩) hl).trans h.f2, (hb.frozen (p := ⟨g, 3, none⟩) hl).trans h.f3, (hb.frozen (p := ⟨g, 4, none⟩) hl).trans h.f4, (hb.frozen (p := ⟨g, 5, none⟩) hl).trans h.f5, (hb.frozen (p := ⟨g, 6, none⟩) hl).trans h.f6, (hb.frozen (p := ⟨g, 7, none⟩) hl).trans h.f7, (hb.frozen (p := ⟨g, 8, none⟩) hl).trans h.f8⟩
theorem B9q.new (w : World) (ty : TypeId) (v0 v1 v2 v3 v4 v5 v6 v7 v8 : Value) : B9q (w.alloc (.cells #[v0, v1, v2, v3, v4, v5, v6, v7, v8] ty)) w.heap.size v0 v1 v2 v3 v4 v5 v6 v7 v8 := ⟨by go_simp, by go_simp, by go_simp, by go_simp, by go_simp, by go_simp, by go_simp, by go_simp, by go_simp, by go_simp, by go_simp, by go_simp, by go_simp, by go_simp, by go_simp, by go_simp, by go_simp, by go_simp⟩
theorem B9q.set9 {w : World} {r : Nat} {u0 u1 u2 u3 u4 u5 u6 u7 u8 : Value} {v0 v1 v2 v3 v4 v5 v6 v7 v8 : Value} (h : B9q w r u0 u1 u2 u3 u4 u5 u6 u7 u8) : B9q (((((((((w.setCell ⟨r, 0, none⟩ v0).setCell ⟨r, 1, none⟩ v1).setCell ⟨r, 2, none⟩ v2).setCell ⟨r, 3, none⟩ v3).setCell ⟨r, 4, none⟩ v4).setCell ⟨r, 5, none⟩ v5).setCell ⟨r, 6, none⟩ v6).setCell ⟨r, 7, none⟩ v7).setCell ⟨r, 8, none⟩ v8) r v0 v1 v2 v3 v4 v5 v6 v7 v8 := by
  obtain ⟨c0, c1, c2, c3, c4, c5, c6, c7, c8, f0, f1, f2, f3, f4, f5, f6, f7, f8⟩ := h
  exact ⟨by go_simp, by go_simp, by go_simp, by go_simp, by go_simp, by go_simp, by go_simp, by go_simp, by go_simp, by go_simp, by go_simp, by go_simp, by go_simp, by go_simp, by go_simp, by go_simp, by go_simp, by go_simp⟩
theorem At.set9 {w : World} {g r n c : Nat} {xs : List Nat} {v0 v1 v2 v3 v4 v5 v6 v7 v8 : Value} (h : At w (some ⟨g, 0, none⟩) n c xs) (hne : g ≠ r) : At (((((((((w.setCell ⟨r, 0, none⟩ v0).setCell ⟨r, 1, none⟩ v1).setCell ⟨r, 2, none⟩ v2).setCell ⟨r, 3, none⟩ v3).setCell ⟨r, 4, none⟩ v4).setCell ⟨r, 5, none⟩ v5).setCell ⟨r, 6, none⟩ v6).setCell ⟨r, 7, none⟩ v7).setCell ⟨r, 8, none⟩ v8) (some ⟨g, 0, none⟩) n c xs := (((((((((h.setOther _ _ _ hne).setOther _ _ _ hne).setOther _ _ _ hne).setOther _ _ _ hne).setOther _ _ _ hne).setOther _ _ _ hne).setOther _ _ _ hne).setOther _ _ _ hne).setOther _ _ _ hne)
theorem below_set9 {B r : Nat} {w w' : World} {v0 v1 v2 v3 v4 v5 v6 v7 v8 : Value} (h : Below B w w') (hr : B ≤ r) : Below B w (((((((((w'.setCell ⟨r, 0, none⟩ v0).setCell ⟨r, 1, none⟩ v1).setCell ⟨r, 2, none⟩ v2).setCell ⟨r, 3, none⟩ v3).setCell ⟨r, 4, none⟩ v4).setCell ⟨r, 5, none⟩ v5).setCell ⟨r, 6, none⟩ v6).setCell ⟨r, 7, none⟩ v7).setCell ⟨r, 8, none⟩ v8) := (bSet (bSet (bSet (bSet (bSet (bSet (bSet (bSet (bSet h _ _ _ hr) _ _ _ hr) _ _ _ hr) _ _ _ hr) _ _ _ hr) _ _ _ hr) _ _ _ hr) _ _ _ hr) _ _ _ hr)
theorem loadVar_B9 {w : World} {g : Nat} {v0 v1 v2 v3 v4 v5 v6 v7 v8 : Value} (h : B9q w g v0 v1 v2 v3 v4 v5 v6 v7 v8) : (loadVar 59 ⟨g, 0, none⟩).run Tryz.prog w = .ok (.agg #[v0, v1, v2, v3, v4, v5, v6, v7, v8]) w := by
  have hl : (loadCells ⟨g, 0, none⟩ 9).run Tryz.prog w = .ok #[v0, v1, v2, v3, v4, v5, v6, v7, v8] w :=
    run_loadCells_list (P := Tryz.prog) w ⟨g, 0, none⟩ [v0, v1, v2, v3, v4, v5, v6, v7, v8] (fun j v hv => by
      have hadd : (⟨g, 0, none⟩ : Addr).add j = ⟨g, j, none⟩ := by unfold Addr.add; split <;> simp_all
      rw [hadd]
      exact match j, hv with
      | 0, hv => by
        obtain rfl : v0 = v := by simpa using hv
        exact h.c0
      | 1, hv => by
        obtain rfl : v1 = v := by simpa using hv
        exact h.c1
      | 2, hv => by
        obtain rfl : v2 = v := by simpa using hv
        exact h.c2
      | 3, hv => by
        obtain rfl : v3 = v := by simpa using hv
        exact h.c3
      | 4, hv => by
        obtain rfl : v4 = v := by simpa using hv
        exact h.c4
      | 5, hv => by
        obtain rfl : v5 = v := by simpa using hv
        exact h.c5
      | 6, hv => by
        obtain rfl : v6 = v := by simpa using hv
        exact h.c6
      | 7, hv => by
        obtain rfl : v7 = v := by simpa using hv
        exact h.c7
      | 8, hv => by
        obtain rfl : v8 = v := by simpa using hv
        exact h.c8
      | k + 9, hv => by simp at hv)
  have hi : (Tryz.prog.info? 59).map (·.size) = some 9 := by kernel_rfl
  cases hq : Tryz.prog.info? 59 with
  | none => simp [hq] at hi
  | some i =>
    have hs : i.size = 9 := by simpa [hq] using hi
    have hagg : (isAgg 59).run Tryz.prog w = .ok true w := by
      unfold isAgg
      rw [Sem.run_bind, run_underlying Tryz.underlying59 w]
      rfl
    simp [loadVar, Sem.run_bind, hagg, sizeOf, typeInfo, hq, hs, hl]
theorem twin8 {pa pb : Option Addr} {na ca nb cb : Nat} {xa xb : List Nat} {w : World} {kd ff ea eb : Int} {wd : Nat} (sa sb : Bool) (ha : At w pa na ca xa) (hb : At w pb nb cb xb) (hn : na ≤ 17592186044416 ∧ nb ≤ 17592186044416) :
    Calls Tryz.prog 51 #[(.agg #[.int .i64 kd, .int .i64 ff, .bool sa, .slice pa na ca, .int .i64 ea, .bool sb, .slice pb nb cb, .int .i64 eb, U wd])] w fun en w' => ∃ ga gb, en = .returned (.agg #[.int .i64 kd, .int .i64 ff, .bool sa, .slice (some ⟨ga, 0, none⟩) na na, .int .i64 ea, .bool sb, .slice (some ⟨gb, 0, none⟩) nb nb, .int .i64 eb, U wd]) ∧ w.heap.size ≤ ga ∧ w.heap.size ≤ gb ∧ At w' (some ⟨ga, 0, none⟩) na na xa ∧ At w' (some ⟨gb, 0, none⟩) nb nb xb ∧ Below w.heap.size w w' := by
  have HA : Hid (At w pa na ca xa) := ha
  have HB : Hid (At w pb nb cb xb) := hb
  have HN : Hid (na ≤ 17592186044416 ∧ nb ≤ 17592186044416) := hn
  clear ha hb hn
  go_enter Tryz.func51, Tryz.ntmps51
  go_wp2_with fail
  obtain ⟨W0, hW0⟩ : ∃ W0, W0 = ((w.alloc (.cells #[.int .i64 kd, .int .i64 ff, .bool sa, .slice pa na ca, .int .i64 ea, .bool sb, .slice pb nb cb, .int .i64 eb, U wd] 59)).alloc (.cells #[.int .i64 0, .int .i64 0, .bool false, .slice none 0 0, .int .i64 0, .bool false, .slice none 0 0, .int .i64 0, .int .u64 0] 59)) := ⟨_, rfl⟩
  have Xo : Hid (B9q W0 (w.heap.size) (.int .i64 kd) (.int .i64 ff) (.bool sa) (.slice pa na ca) (.int .i64 ea) (.bool sb) (.slice pb nb cb) (.int .i64 eb) (U wd)) := by rw [hW0]; exact ⟨by go_simp, by go_simp, by go_simp, by go_simp, by go_simp, by go_simp, by go_simp, by go_simp, by go_simp, by go_simp, by go_simp, by go_simp, by go_simp, by go_simp, by go_simp, by go_simp, by go_simp, by go_simp⟩
  have Xr : Hid (B9q W0 (w.heap.size + 1) (.int .i64 0) (.int .i64 0) (.bool false) (.slice none 0 0) (.int .i64 0) (.bool false) (.slice none 0 0) (.int .i64 0) (.int .u64 0)) := by rw [hW0]; exact ⟨by go_simp, by go_simp, by go_simp, by go_simp, by go_simp, by go_simp, by go_simp, by go_simp, by go_simp, by go_simp, by go_simp, by go_simp, by go_simp, by go_simp, by go_simp, by go_simp, by go_simp, by go_simp⟩
  have hb0 : Below w.heap.size w W0 := by rw [hW0]; exact below2 w _ _
  rw [← hW0]
  clear hW0
  have hbw : Below w.heap.size w w := Below.refl _ _
  obtain ⟨gr, hgr⟩ : ∃ g, g = w.heap.size + 1 := ⟨_, rfl⟩
  have HGr : Hid (w.heap.size ≤ gr) := by rw [hgr]; show _ ≤ _; omega
  rw [← hgr] at Xr
  try rw [← hgr]
  obtain ⟨go, hgo⟩ : ∃ g, g = w.heap.size := ⟨_, rfl⟩
  have HGo : Hid (w.heap.size ≤ go) := by rw [hgo]; show _ ≤ _; omega
  rw [← hgo] at Xo
  try rw [← hgo]
  have HGD : Hid (go ≠ gr ∧ gr ≠ go) := by rw [hgo, hgr]; exact ⟨by omega, by omega⟩
  clear hgo hgr
  replace hbw := Below.on hbw hb0
  clear hb0
  obtain ⟨co0, co1, co2, co3, co4, co5, co6, co7, co8, fo0, fo1, fo2, fo3, fo4, fo5, fo6, fo7, fo8⟩ := Xo.out
  have hneo : go < W0.heap.size := World.block_lt_of_cell? W0 _ co0
  go_wp2_with fail
  clear co0 co1 co2 co3 co4 co5 co6 co7 co8 fo0 fo1 fo2 fo3 fo4 fo5 fo6 fo7 fo8 hneo
  refine (twinD sa (HA.out.below hbw) HN.out.1).mono ?_
  rintro e2 v1 ⟨g1, rfl, hg1, hA1, hb1⟩
  have HD1 : Hid (go < g1 ∧ gr < g1 ∧ w.heap.size ≤ g1) := ⟨Nat.lt_of_lt_of_le Xo.out.lt hg1, Nat.lt_of_lt_of_le Xr.out.lt hg1, Nat.le_trans hbw.size hg1⟩
  replace Xo : Hid (B9q v1 go (.int .i64 kd) (.int .i64 ff) (.bool sa) (.slice pa na ca) (.int .i64 ea) (.bool sb) (.slice pb nb cb) (.int .i64 eb) (U wd)) := Xo.out.below hb1
  replace Xr : Hid (B9q v1 gr (.int .i64 0) (.int .i64 0) (.bool false) (.slice none 0 0) (.int .i64 0) (.bool false) (.slice none 0 0) (.int .i64 0) (.int .u64 0)) := Xr.out.below hb1
  replace hbw := Below.on hbw hb1
  clear hb1
  have T1 : Hid (At v1 (some ⟨g1, 0, none⟩) na na xa) := hA1
  clear hA1 hg1
  obtain ⟨hgd0, hgd1⟩ := HGD.out
  obtain ⟨co0, co1, co2, co3, co4, co5, co6, co7, co8, fo0, fo1, fo2, fo3, fo4, fo5, fo6, fo7, fo8⟩ := Xo.out
  have hneo : go < v1.heap.size := World.block_lt_of_cell? v1 _ co0
  obtain ⟨cr0, cr1, cr2, cr3, cr4, cr5, cr6, cr7, cr8, fr0, fr1, fr2, fr3, fr4, fr5, fr6, fr7, fr8⟩ := Xr.out
  have hner : gr < v1.heap.size := World.block_lt_of_cell? v1 _ cr0
  go_wp2_with fail
  have Xo2 : Hid (B9q (((v1.setCell ⟨go, 2, none⟩ (.bool sa)).setCell ⟨go, 3, none⟩ (.slice (some ⟨g1, 0, none⟩) na na)).setCell ⟨go, 4, none⟩ (.int .i64 ea)) go (.int .i64 kd) (.int .i64 ff) (.bool sa) (.slice (some ⟨g1, 0, none⟩) na na) (.int .i64 ea) (.bool sb) (.slice pb nb cb) (.int .i64 eb) (U wd)) := ⟨by go_simp, by go_simp, by go_simp, by go_simp, by go_simp, by go_simp, by go_simp, by go_simp, by go_simp, by go_simp, by go_simp, by go_simp, by go_simp, by go_simp, by go_simp, by go_simp, by go_simp, by go_simp⟩
  have Xr2 : Hid (B9q (((v1.setCell ⟨go, 2, none⟩ (.bool sa)).setCell ⟨go, 3, none⟩ (.slice (some ⟨g1, 0, none⟩) na na)).setCell ⟨go, 4, none⟩ (.int .i64 ea)) gr (.int .i64 0) (.int .i64 0) (.bool false) (.slice none 0 0) (.int .i64 0) (.bool false) (.slice none 0 0) (.int .i64 0) (.int .u64 0)) := ⟨by go_simp, by go_simp, by go_simp, by go_simp, by go_simp, by go_simp, by go_simp, by go_simp, by go_simp, by go_simp, by go_simp, by go_simp, by go_simp, by go_simp, by go_simp, by go_simp, by go_simp, by go_simp⟩
  have T12 : Hid (At (((v1.setCell ⟨go, 2, none⟩ (.bool sa)).setCell ⟨go, 3, none⟩ (.slice (some ⟨g1, 0, none⟩) na na)).setCell ⟨go, 4, none⟩ (.int .i64 ea)) (some ⟨g1, 0, none⟩) na na xa) := (((T1.out.setOther _ _ _ (by have := HD1.out; omega)).setOther _ _ _ (by have := HD1.out; omega)).setOther _ _ _ (by have := HD1.out; omega))
  have hbw2 : Below w.heap.size w (((v1.setCell ⟨go, 2, none⟩ (.bool sa)).setCell ⟨go, 3, none⟩ (.slice (some ⟨g1, 0, none⟩) na na)).setCell ⟨go, 4, none⟩ (.int .i64 ea)) := bSet (bSet (bSet (hbw) _ _ _ HGo.out) _ _ _ HGo.out) _ _ _ HGo.out
  clear co0 co1 co2 co3 co4 co5 co6 co7 co8 fo0 fo1 fo2 fo3 fo4 fo5 fo6 fo7 fo8 hneo
  clear cr0 cr1 cr2 cr3 cr4 cr5 cr6 cr7 cr8 fr0 fr1 fr2 fr3 fr4 fr5 fr6 fr7 fr8 hner
  clear hgd0 hgd1 Xo Xr hbw T1
  generalize (((v1.setCell ⟨go, 2, none⟩ (.bool sa)).setCell ⟨go, 3, none⟩ (.slice (some ⟨g1, 0, none⟩) na na)).setCell ⟨go, 4, none⟩ (.int .i64 ea)) = W2 at *
  have Xo := Xo2
  have Xr := Xr2
  have hbw := hbw2
  have T1 := T12
  clear Xo2 Xr2 hbw2 T12
  refine (twinD sb (HB.out.below hbw) HN.out.2).mono ?_
  rintro e2 v3 ⟨g3, rfl, hg3, hA3, hb3⟩
  have HD3 : Hid (go < g3 ∧ gr < g3 ∧ w.heap.size ≤ g3) := ⟨Nat.lt_of_lt_of_le Xo.out.lt hg3, Nat.lt_of_lt_of_le Xr.out.lt hg3, Nat.le_trans hbw.size hg3⟩
  replace Xo : Hid (B9q v3 go (.int .i64 kd) (.int .i64 ff) (.bool sa) (.slice (some ⟨g1, 0, none⟩) na na) (.int .i64 ea) (.bool sb) (.slice pb nb cb) (.int .i64 eb) (U wd)) := Xo.out.below hb3
  replace Xr : Hid (B9q v3 gr (.int .i64 0) (.int .i64 0) (.bool false) (.slice none 0 0) (.int .i64 0) (.bool false) (.slice none 0 0) (.int .i64 0) (.int .u64 0)) := Xr.out.below hb3
  replace T1 : Hid _ := T1.out.below hb3
  replace hbw := Below.on hbw hb3
  clear hb3
  have T3 : Hid (At v3 (some ⟨g3, 0, none⟩) nb nb xb) := hA3
  clear hA3 hg3
  obtain ⟨hgd0, hgd1⟩ := HGD.out
  obtain ⟨co0, co1, co2, co3, co4, co5, co6, co7, co8, fo0, fo1, fo2, fo3, fo4, fo5, fo6, fo7, fo8⟩ := Xo.out
  have hneo : go < v3.heap.size := World.block_lt_of_cell? v3 _ co0
  obtain ⟨cr0, cr1, cr2, cr3, cr4, cr5, cr6, cr7, cr8, fr0, fr1, fr2, fr3, fr4, fr5, fr6, fr7, fr8⟩ := Xr.out
  have hner : gr < v3.heap.size := World.block_lt_of_cell? v3 _ cr0
  go_wp2_with fail
  have Xr2 : Hid (B9q (((v3.setCell ⟨go, 5, none⟩ (.bool sb)).setCell ⟨go, 6, none⟩ (.slice (some ⟨g3, 0, none⟩) nb nb)).setCell ⟨go, 7, none⟩ (.int .i64 eb)) gr (.int .i64 0) (.int .i64 0) (.bool false) (.slice none 0 0) (.int .i64 0) (.bool false) (.slice none 0 0) (.int .i64 0) (.int .u64 0)) := ⟨by go_simp, by go_simp, by go_simp, by go_simp, by go_simp, by go_simp, by go_simp, by go_simp, by go_simp, by go_simp, by go_simp, by go_simp, by go_simp, by go_simp, by go_simp, by go_simp, by go_simp, by go_simp⟩
  have T12 : Hid (At (((v3.setCell ⟨go, 5, none⟩ (.bool sb)).setCell ⟨go, 6, none⟩ (.slice (some ⟨g3, 0, none⟩) nb nb)).setCell ⟨go, 7, none⟩ (.int .i64 eb)) (some ⟨g1, 0, none⟩) na na xa) := (((T1.out.setOther _ _ _ (by have := HD1.out; omega)).setOther _ _ _ (by have := HD1.out; omega)).setOther _ _ _ (by have := HD1.out; omega))
  have T32 : Hid (At (((v3.setCell ⟨go, 5, none⟩ (.bool sb)).setCell ⟨go, 6, none⟩ (.slice (some ⟨g3, 0, none⟩) nb nb)).setCell ⟨go, 7, none⟩ (.int .i64 eb)) (some ⟨g3, 0, none⟩) nb nb xb) := (((T3.out.setOther _ _ _ (by have := HD3.out; omega)).setOther _ _ _ (by have := HD3.out; omega)).setOther _ _ _ (by have := HD3.out; omega))
  have hbw2 : Below w.heap.size w (((v3.setCell ⟨go, 5, none⟩ (.bool sb)).setCell ⟨go, 6, none⟩ (.slice (some ⟨g3, 0, none⟩) nb nb)).setCell ⟨go, 7, none⟩ (.int .i64 eb)) := bSet (bSet (bSet hbw _ _ _ HGo.out) _ _ _ HGo.out) _ _ _ HGo.out
  clear co0 co1 co2 co3 co4 co5 co6 co7 co8 fo0 fo1 fo2 fo3 fo4 fo5 fo6 fo7 fo8 hneo
  clear cr0 cr1 cr2 cr3 cr4 cr5 cr6 cr7 cr8 fr0 fr1 fr2 fr3 fr4 fr5 fr6 fr7 fr8 hner
  clear hgd0 hgd1 Xo Xr hbw T1 T3
  generalize (((v3.setCell ⟨go, 5, none⟩ (.bool sb)).setCell ⟨go, 6, none⟩ (.slice (some ⟨g3, 0, none⟩) nb nb)).setCell ⟨go, 7, none⟩ (.int .i64 eb)) = W6 at *
  have Xr := Xr2
  have hbw := hbw2
  have T1 := T12
  have T3 := T32
  clear Xr2 hbw2 T12 T32
  obtain ⟨cr0, cr1, cr2, cr3, cr4, cr5, cr6, cr7, cr8, fr0, fr1, fr2, fr3, fr4, fr5, fr6, fr7, fr8⟩ := Xr.out
  have hner : gr < W6.heap.size := World.block_lt_of_cell? W6 _ cr0
  clear cr0 cr1 cr2 cr3 cr4 cr5 cr6 cr7 cr8 fr0 fr1 fr2 fr3 fr4 fr5 fr6 fr7 fr8 hner
  have Xr3 : Hid (B9q (((((((((W6.setCell ⟨gr, 0, none⟩ (.int .i64 kd)).setCell ⟨gr, 1, none⟩ (.int .i64 ff)).setCell ⟨gr, 2, none⟩ (.bool sa)).setCell ⟨gr, 3, none⟩ (.slice (some ⟨g1, 0, none⟩) na na)).setCell ⟨gr, 4, none⟩ (.int .i64 ea)).setCell ⟨gr, 5, none⟩ (.bool sb)).setCell ⟨gr, 6, none⟩ (.slice (some ⟨g3, 0, none⟩) nb nb)).setCell ⟨gr, 7, none⟩ (.int .i64 eb)).setCell ⟨gr, 8, none⟩ (U wd)) gr (.int .i64 kd) (.int .i64 ff) (.bool sa) (.slice (some ⟨g1, 0, none⟩) na na) (.int .i64 ea) (.bool sb) (.slice (some ⟨g3, 0, none⟩) nb nb) (.int .i64 eb) (U wd)) := Xr.out.set9
  have T13 : Hid (At (((((((((W6.setCell ⟨gr, 0, none⟩ (.int .i64 kd)).setCell ⟨gr, 1, none⟩ (.int .i64 ff)).setCell ⟨gr, 2, none⟩ (.bool sa)).setCell ⟨gr, 3, none⟩ (.slice (some ⟨g1, 0, none⟩) na na)).setCell ⟨gr, 4, none⟩ (.int .i64 ea)).setCell ⟨gr, 5, none⟩ (.bool sb)).setCell ⟨gr, 6, none⟩ (.slice (some ⟨g3, 0, none⟩) nb nb)).setCell ⟨gr, 7, none⟩ (.int .i64 eb)).setCell ⟨gr, 8, none⟩ (U wd)) (some ⟨g1, 0, none⟩) na na xa) := T1.out.set9 (by have := HD1.out; omega)
  have T33 : Hid (At (((((((((W6.setCell ⟨gr, 0, none⟩ (.int .i64 kd)).setCell ⟨gr, 1, none⟩ (.int .i64 ff)).setCell ⟨gr, 2, none⟩ (.bool sa)).setCell ⟨gr, 3, none⟩ (.slice (some ⟨g1, 0, none⟩) na na)).setCell ⟨gr, 4, none⟩ (.int .i64 ea)).setCell ⟨gr, 5, none⟩ (.bool sb)).setCell ⟨gr, 6, none⟩ (.slice (some ⟨g3, 0, none⟩) nb nb)).setCell ⟨gr, 7, none⟩ (.int .i64 eb)).setCell ⟨gr, 8, none⟩ (U wd)) (some ⟨g3, 0, none⟩) nb nb xb) := T3.out.set9 (by have := HD3.out; omega)
  have hbw3 : Below w.heap.size w (((((((((W6.setCell ⟨gr, 0, none⟩ (.int .i64 kd)).setCell ⟨gr, 1, none⟩ (.int .i64 ff)).setCell ⟨gr, 2, none⟩ (.bool sa)).setCell ⟨gr, 3, none⟩ (.slice (some ⟨g1, 0, none⟩) na na)).setCell ⟨gr, 4, none⟩ (.int .i64 ea)).setCell ⟨gr, 5, none⟩ (.bool sb)).setCell ⟨gr, 6, none⟩ (.slice (some ⟨g3, 0, none⟩) nb nb)).setCell ⟨gr, 7, none⟩ (.int .i64 eb)).setCell ⟨gr, 8, none⟩ (U wd)) := below_set9 hbw HGr.out
  clear Xr hbw T1 T3
  generalize (((((((((W6.setCell ⟨gr, 0, none⟩ (.int .i64 kd)).setCell ⟨gr, 1, none⟩ (.int .i64 ff)).setCell ⟨gr, 2, none⟩ (.bool sa)).setCell ⟨gr, 3, none⟩ (.slice (some ⟨g1, 0, none⟩) na na)).setCell ⟨gr, 4, none⟩ (.int .i64 ea)).setCell ⟨gr, 5, none⟩ (.bool sb)).setCell ⟨gr, 6, none⟩ (.slice (some ⟨g3, 0, none⟩) nb nb)).setCell ⟨gr, 7, none⟩ (.int .i64 eb)).setCell ⟨gr, 8, none⟩ (U wd)) = W8 at *
  refine bodyPost_ret (v := .agg #[.int .i64 kd, .int .i64 ff, .bool sa, .slice (some ⟨g1, 0, none⟩) na na, .int .i64 ea, .bool sb, .slice (some ⟨g3, 0, none⟩) nb nb, .int .i64 eb, U wd]) (by rw [results_cell1 rfl]; exact loadVar_B9 Xr3.out) rfl ⟨g1, g3, rfl, HD1.out.2.2, HD3.out.2.2, T13.out, T33.out, hbw3⟩
def Play8 (k : Int) : Prop := ∀ (pa pb : Option Addr) (na ca nb cb wd : Nat) (xa xb : List Nat) (w : World) (ff ea eb : Int) (sa sb : Bool), At w pa na ca xa → At w pb nb cb xb → (na ≤ 17592186044416 ∧ nb ≤ 17592186044416 ∧ wd < B64) → Tab w →
    Calls Tryz.prog 24 #[.agg #[.int .i64 k, .int .i64 ff, .bool sa, .slice pa na ca, .int .i64 ea, .bool sb, .slice pb nb cb, .int .i64 eb, U wd]] w fun e w' => e = .returned (.bool true) ∧ Below w.heap.size w w'

theorem all8 {P : Option Addr} {N C : Nat} {its : List Op9} {w : World} {lo hi : Int} (h : Scr8 w P N C its) (hT : Tab w)
    (hp : ∀ k, lo ≤ k → k ≤ hi → Play8 k) :
    Calls Tryz.prog 8 #[.slice P N C, .int .i64 lo, .int .i64 hi] w fun e w' => e = .returned (.bool true) ∧ Below w.heap.size w w' := by
  have H : Hid (Scr8 w P N C its) := h
  have HP : Hid (∀ k, lo ≤ k → k ≤ hi → Play8 k) := hp
  have HT : Hid (Tab w) := hT
  have HLN : Hid (its.length = N) := h.len
  have cap := h.cap; have big := h.big
  unfold maxLen at big
  clear h hp hT
  go_enter Tryz.func8, Tryz.ntmps8
  go_wp2_with fail
  go_loopg [11] N (fun gg iv wr => ∃ k : Nat, k + gg = N ∧ iv = .int .i64 k ∧ Below w.heap.size w wr)
  case atStart => exact ⟨0, by omega, rfl, Below.refl _ _⟩
  case round =>
    obtain ⟨k, hkg, rfl, hbw⟩ := hrel
    cases gk with
    | zero =>
      obtain rfl : k = N := by omega
      have hnk : ¬ (k : Int) < (k : Int) := by omega
      go_wp2_with fail
      go_ret
      exact ⟨rfl, hbw⟩
    | succ gg =>
      have hki : k < its.length := by rw [HLN.out]; omega
      have HR := H.out.below hbw
      obtain ⟨g, off, rfl, hc⟩ := HR.cells.resolve_left (by omega)
      obtain ⟨e0, e1, e2, e3, e4, e5, e6, e7, e8⟩ := hc k hki
      have HAT : Hid (At wr its[k].pa its[k].na its[k].ca its[k].xa ∧ At wr its[k].pb its[k].nb its[k].cb its[k].xb ∧ its[k].na ≤ 17592186044416 ∧ its[k].nb ≤ 17592186044416 ∧ its[k].wd < B64) := HR.ats its[k] (List.getElem_mem hki)
      have HBW : Hid (Below w.heap.size w wr) := hbw
      have hkk : (k : Int) < (N : Int) := by omega
      have hlt : g < wr.heap.size := World.block_lt_of_cell? wr _ e0
      clear hc HR hbw
      generalize its[k].k = kd at *
      generalize its[k].ff = ff at *
      generalize its[k].sa = sa at *
      generalize its[k].pa = pa at *
      generalize its[k].na = na at *
      generalize its[k].ca = ca at *
      generalize its[k].xa = xa at *
      generalize its[k].ea = ea at *
      generalize its[k].sb = sb at *
      generalize its[k].pb = pb at *
      generalize its[k].nb = nb at *
      generalize its[k].cb = cb at *
      generalize its[k].xb = xb at *
      generalize its[k].eb = eb at *
      generalize its[k].wd = wd at *
      have hb0 : Below wr.heap.size wr (wr.alloc (.cells #[.int .i64 kd, .int .i64 ff, .bool sa, .slice pa na ca, .int .i64 ea, .bool sb, .slice pb nb cb, .int .i64 eb, U wd] 59)) := below1 wr _
      have HAO : Hid (At (wr.alloc (.cells #[.int .i64 kd, .int .i64 ff, .bool sa, .slice pa na ca, .int .i64 ea, .bool sb, .slice pb nb cb, .int .i64 eb, U wd] 59)) pa na ca xa ∧ At (wr.alloc (.cells #[.int .i64 kd, .int .i64 ff, .bool sa, .slice pa na ca, .int .i64 ea, .bool sb, .slice pb nb cb, .int .i64 eb, U wd] 59)) pb nb cb xb ∧ na ≤ 17592186044416 ∧ nb ≤ 17592186044416 ∧ wd < B64) := ⟨HAT.out.1.below hb0, HAT.out.2.1.below hb0, HAT.out.2.2⟩
      have HBO : Hid (Below w.heap.size w (wr.alloc (.cells #[.int .i64 kd, .int .i64 ff, .bool sa, .slice pa na ca, .int .i64 ea, .bool sb, .slice pb nb cb, .int .i64 eb, U wd] 59))) := Below.on HBW.out hb0
      clear hb0 HAT HBW
      by_cases hlo : lo ≤ kd
      · have hlo2 : ¬ kd < lo := by omega
        by_cases hhi : kd ≤ hi
        · have hhi2 : ¬ hi < kd := by omega
          have HPK : Hid (Play8 kd) := HP.out kd hlo hhi
          go_wp2_with fail
          refine (HPK.out pa pb na ca nb cb wd xa xb _ ff ea eb sa sb HAO.out.1 HAO.out.2.1 HAO.out.2.2 (HT.out.below HBO.out)).mono ?_
          rintro e wz ⟨rfl, hbq⟩
          have hbz := Below.on HBO.out hbq
          clear hbq e0 e1 e2 e3 e4 e5 e6 e7 e8
          go_wp2_with fail
          go_roundg gg
          case measure => omega
          case rel => exact ⟨k + 1, by omega, by go_num, hbz⟩
        · have hhi2 : hi < kd := by omega
          go_wp2_with fail
          go_roundg gg
          case measure => omega
          case rel => exact ⟨k + 1, by omega, by go_num, HBO.out⟩
      · have hlo2 : kd < lo := by omega
        go_wp2_with fail
        go_roundg gg
        case measure => omega
        case rel => exact ⟨k + 1, by omega, by go_num, HBO.out⟩
theorem wpJ_nodes5 {P : Program} {md : Region.Mode} {ops : Array Oper} {Q : Exit → Act → World → Prop} {J : World → Prop} {fuel : Nat} {listed : Array Bool} {a : Act} {w : World} (h : ∀ WP : Nat → Array Bool → Act → World → Prop, WP = wpJ P md ops Q J → ∀ L a0, L = listed → a0 = a → WP fuel L a0 w) : wpJ P md ops Q J fuel listed a w := h _ rfl _ _ rfl rfl
theorem wpJ_same5 {P : Program} {md : Region.Mode} {ops : Array Oper} {Q : Exit → Act → World → Prop} {J : World → Prop} {fuel : Nat} {L L' : Array Bool} {a a' : Act} {w : World} (h1 : L = L') (h2 : a = a') (h : wpJ P md ops Q J fuel L a w) : wpJ P md ops Q J fuel L' a' w := by
  subst h1 h2; exact h
theorem Hid.mk5 {p : Prop} (h : p) : Hid p := h
theorem at_blk9 {w : World} {g n c : Nat} {xs : List Nat} (h : At w (some ⟨g, 0, none⟩) n c xs) : n = 0 ∨ g < w.heap.size := by
  rcases h.cells with h0 | ⟨g9, off, hp, hc⟩
  · exact .inl h0
  · by_cases h0 : n = 0
    · exact .inl h0
    · have h1 := World.block_lt_of_cell? w _ (hc 0 (by omega))
      injection hp with hp
      injection hp with hp1 hp2
      subst hp1
      exact .inr h1
theorem at_set9 {w : World} {g n c : Nat} {xs : List Nat} (h : At w (some ⟨g, 0, none⟩) n c xs) (g2 o2 : Nat) (v : Value) (hne : n = 0 ∨ g ≠ g2) : At (w.setCell ⟨g2, o2, none⟩ v) (some ⟨g, 0, none⟩) n c xs := by
  rcases hne with h0 | h0
  · exact ⟨h.len, h.cap, h.big, h.dig, .inl h0⟩
  · exact h.setOther g2 o2 v h0
theorem cls_of (H I s : Nat) : (clsN H I s = 0 ∧ s = 0) ∨ (clsN H I s = 3 ∧ ¬ s < I) ∨ (clsN H I s = 4 ∧ ¬ s < I) ∨ ((clsN H I s = 1 ∨ clsN H I s = 2) ∧ s ≠ 0 ∧ (s < H ∨ s < I)) := by
  unfold clsN
  split
  · exact .inl ⟨rfl, by assumption⟩
  · split
    · exact .inr (.inr (.inr ⟨.inl rfl, by assumption, .inl (by assumption)⟩))
    · split
      · exact .inr (.inr (.inr ⟨.inr rfl, by assumption, .inr (by assumption)⟩))
      · split
        · exact .inr (.inl ⟨rfl, by omega⟩)
        · exact .inr (.inr (.inl ⟨rfl, by omega⟩))
theorem and_sg {b : Nat} (hb : b < B64) {sg : Bool} (hs : sg = decide (9223372036854775808 ≤ b)) : ∃ an : Int, bits BinOp.and IntKind.u64 (b : Int) 9223372036854775808 = an ∧ (an != 0) = sg ∧ (an == 0) = !sg := by
  refine ⟨_, rfl, ?_⟩
  have h : bits BinOp.and IntKind.u64 (b : Int) (9223372036854775808 : Int) = ((if 9223372036854775808 ≤ b then 9223372036854775808 else 0 : Nat) : Int) := sign_and b 9223372036854775808 63 (by decide) (by decide) (by rw [B64_eq] at hb; omega)
  rw [h, hs]
  by_cases h1 : 9223372036854775808 ≤ b
  · rw [if_pos h1, decide_eq_true h1]; decide
  · rw [if_neg h1, decide_eq_false h1]; decide
theorem vf_dN {b : Nat} {zo eo : Int} (hv : VF 9223372036854775808 4503599627370496 (-1074) b zo eo) {man q : Nat} (hq : q = b % 9223372036854775808 / 4503599627370496 - 1) (hm : man = b % 9223372036854775808 - q * 4503599627370496) : dN zo.natAbs eo = dN man (-1074 + (q : Int)) := by
  have h1 := hv.v
  have h2 : dv zo eo = (if zo < 0 then -(dN zo.natAbs eo : Int) else (dN zo.natAbs eo : Int)) := by rw [dv_abs, dN_dv]
  rw [svS_eq] at h1
  have h3 : vs 4503599627370496 (b % 9223372036854775808) = man * 2 ^ q := by unfold vs; rw [← hq, ← hm]
  have h4 : dN (man * 2 ^ q) (-1074) = dN man (-1074 + (q : Int)) := dN_up rfl (by decide)
  rw [← h4, ← h3]
  have h5 : dv (if 9223372036854775808 ≤ b then -(vs 4503599627370496 (b % 9223372036854775808) : Int) else (vs 4503599627370496 (b % 9223372036854775808) : Int)) (-1074) = (if 9223372036854775808 ≤ b then -(dN (vs 4503599627370496 (b % 9223372036854775808)) (-1074) : Int) else (dN (vs 4503599627370496 (b % 9223372036854775808)) (-1074) : Int)) := by
    by_cases h6 : 9223372036854775808 ≤ b
    · rw [if_pos h6, if_pos h6, dv_neg, dN_dv]
    · rw [if_neg h6, if_neg h6, dN_dv]
  rw [h2, h5] at h1
  split at h1 <;> split at h1 <;> omega
theorem narrow_c0 {b : Nat} (hb : b < B64) {sg : Bool} (hs : sg = decide (9223372036854775808 ≤ b)) (hc : clsN 4503599627370496 9218868437227405312 (b % 9223372036854775808) = 0) (w : World) (hT : Tab w) :
    Calls Tryz.prog 7 #[U b] w fun en w' => en = .returned (.tuple #[U (if sg then 2147483648 + 0 else 0), .int .i64 0]) ∧ Below w.heap.size w w' := by
  have hbw : Below w.heap.size w w := Below.refl _ _
  have TB : Hid (Tab w) := hT
  obtain ⟨an, ha, hn1, hn2⟩ := and_sg hb hs
  have HC : Hid (b < 2 * 9223372036854775808 ∧ clsN 4503599627370496 9218868437227405312 (b % 9223372036854775808) = 0) := ⟨by rw [B64_eq] at hb; omega, hc⟩
  obtain ⟨r, hr⟩ : ∃ r, r = (if sg then 2147483648 + 0 else 0) := ⟨_, rfl⟩
  rw [← hr]
  have HR : Hid ((if sg then 2147483648 + 0 else 0) = r) := hr.symm
  clear hT hc hb hr hs
  go_enter Tryz.func7, Tryz.ntmps7
  go_wp2_with fail
  refine (of_64 _).mono ?_
  rintro e v1 ⟨rfl, hb1⟩
  replace hbw := Below.on hbw hb1
  clear hb1
  go_wp2_with fail
  have Xg0 : Hid (B3q (v1.alloc (.cells #[.int .i64 64, .int .i64 53, .int .i64 (-1074)] 47)) v1.heap.size (.int .i64 64) (.int .i64 53) (.int .i64 (-1074))) := B3q.new v1 _ _ _ _
  have hbn : Below v1.heap.size v1 (v1.alloc (.cells #[.int .i64 64, .int .i64 53, .int .i64 (-1074)] 47)) := below1 v1 _
  generalize v1.alloc (.cells #[.int .i64 64, .int .i64 53, .int .i64 (-1074)] 47) = Wg at *
  have HGg : Hid (w.heap.size ≤ v1.heap.size) := hbw.size
  replace hbw := Below.on hbw hbn
  clear hbn
  generalize v1.heap.size = gg at *
  have Xg := Xg0
  clear Xg0
  refine (of_32 _).mono ?_
  rintro e v2 ⟨rfl, hb2⟩
  replace Xg : Hid _ := Xg.out.below hb2
  replace hbw := Below.on hbw hb2
  clear hb2
  obtain ⟨cg0, cg1, cg2, fg0, fg1, fg2⟩ := Xg.out
  have hneg : gg < v2.heap.size := World.block_lt_of_cell? v2 _ cg0
  go_wp2_with fail
  clear cg0 cg1 cg2 fg0 fg1 fg2 hneg
  have Xh0 : Hid (B3q (v2.alloc (.cells #[.int .i64 32, .int .i64 24, .int .i64 (-149)] 47)) v2.heap.size (.int .i64 32) (.int .i64 24) (.int .i64 (-149))) := B3q.new v2 _ _ _ _
  have hbn : Below v2.heap.size v2 (v2.alloc (.cells #[.int .i64 32, .int .i64 24, .int .i64 (-149)] 47)) := below1 v2 _
  generalize v2.alloc (.cells #[.int .i64 32, .int .i64 24, .int .i64 (-149)] 47) = Wh at *
  have HGh : Hid (w.heap.size ≤ v2.heap.size) := hbw.size
  replace Xg : Hid _ := Xg.out.below hbn
  replace hbw := Below.on hbw hbn
  clear hbn
  generalize v2.heap.size = gh at *
  have Xh := Xh0
  clear Xh0
  refine (sign_64 _).mono ?_
  rintro e v3 ⟨rfl, hb3⟩
  replace Xg : Hid _ := Xg.out.below hb3
  replace Xh : Hid _ := Xh.out.below hb3
  replace hbw := Below.on hbw hb3
  clear hb3
  go_wp2_with fail
  have hc := jn_64.cl b v3 HC.out.1
  rw [HC.out.2] at hc
  refine Calls.mono hc ?_
  clear hc
  rintro e9 v4 ⟨rfl, hb4⟩
  replace Xg : Hid _ := Xg.out.below hb4
  replace Xh : Hid _ := Xh.out.below hb4
  replace hbw := Below.on hbw hb4
  clear hb4
  obtain ⟨ch0, ch1, ch2, fh0, fh1, fh2⟩ := Xh.out
  have hneh : gh < v4.heap.size := World.block_lt_of_cell? v4 _ ch0
  go_wp2_with fail
  clear ch0 ch1 ch2 fh0 fh1 fh2 hneh
  refine Calls.mono (fm_32.sgn sg 0 v4 (by decide)) ?_
  rintro e9 v5 ⟨rfl, hb5⟩
  rw [HR.out]
  replace Xg : Hid _ := Xg.out.below hb5
  replace Xh : Hid _ := Xh.out.below hb5
  replace hbw := Below.on hbw hb5
  clear hb5
  go_wp2_with fail
  go_ret2
  exact ⟨rfl, hbw⟩
theorem narrow_c3 {b : Nat} (hb : b < B64) {sg : Bool} (hs : sg = decide (9223372036854775808 ≤ b)) (hc : clsN 4503599627370496 9218868437227405312 (b % 9223372036854775808) = 3) (w : World) (hT : Tab w) :
    Calls Tryz.prog 7 #[U b] w fun en w' => en = .returned (.tuple #[U (if sg then 2147483648 + 2139095040 else 2139095040), .int .i64 0]) ∧ Below w.heap.size w w' := by
  have hbw : Below w.heap.size w w := Below.refl _ _
  have TB : Hid (Tab w) := hT
  obtain ⟨an, ha, hn1, hn2⟩ := and_sg hb hs
  have HC : Hid (b < 2 * 9223372036854775808 ∧ clsN 4503599627370496 9218868437227405312 (b % 9223372036854775808) = 3) := ⟨by rw [B64_eq] at hb; omega, hc⟩
  obtain ⟨r, hr⟩ : ∃ r, r = (if sg then 2147483648 + 2139095040 else 2139095040) := ⟨_, rfl⟩
  rw [← hr]
  have HR : Hid ((if sg then 2147483648 + 2139095040 else 2139095040) = r) := hr.symm
  clear hT hc hb hr hs
  go_enter Tryz.func7, Tryz.ntmps7
  go_wp2_with fail
  refine (of_64 _).mono ?_
  rintro e v1 ⟨rfl, hb1⟩
  replace hbw := Below.on hbw hb1
  clear hb1
  go_wp2_with fail
  have Xg0 : Hid (B3q (v1.alloc (.cells #[.int .i64 64, .int .i64 53, .int .i64 (-1074)] 47)) v1.heap.size (.int .i64 64) (.int .i64 53) (.int .i64 (-1074))) := B3q.new v1 _ _ _ _
  have hbn : Below v1.heap.size v1 (v1.alloc (.cells #[.int .i64 64, .int .i64 53, .int .i64 (-1074)] 47)) := below1 v1 _
  generalize v1.alloc (.cells #[.int .i64 64, .int .i64 53, .int .i64 (-1074)] 47) = Wg at *
  have HGg : Hid (w.heap.size ≤ v1.heap.size) := hbw.size
  replace hbw := Below.on hbw hbn
  clear hbn
  generalize v1.heap.size = gg at *
  have Xg := Xg0
  clear Xg0
  refine (of_32 _).mono ?_
  rintro e v2 ⟨rfl, hb2⟩
  replace Xg : Hid _ := Xg.out.below hb2
  replace hbw := Below.on hbw hb2
  clear hb2
  obtain ⟨cg0, cg1, cg2, fg0, fg1, fg2⟩ := Xg.out
  have hneg : gg < v2.heap.size := World.block_lt_of_cell? v2 _ cg0
  go_wp2_with fail
  clear cg0 cg1 cg2 fg0 fg1 fg2 hneg
  have Xh0 : Hid (B3q (v2.alloc (.cells #[.int .i64 32, .int .i64 24, .int .i64 (-149)] 47)) v2.heap.size (.int .i64 32) (.int .i64 24) (.int .i64 (-149))) := B3q.new v2 _ _ _ _
  have hbn : Below v2.heap.size v2 (v2.alloc (.cells #[.int .i64 32, .int .i64 24, .int .i64 (-149)] 47)) := below1 v2 _
  generalize v2.alloc (.cells #[.int .i64 32, .int .i64 24, .int .i64 (-149)] 47) = Wh at *
  have HGh : Hid (w.heap.size ≤ v2.heap.size) := hbw.size
  replace Xg : Hid _ := Xg.out.below hbn
  replace hbw := Below.on hbw hbn
  clear hbn
  generalize v2.heap.size = gh at *
  have Xh := Xh0
  clear Xh0
  refine (sign_64 _).mono ?_
  rintro e v3 ⟨rfl, hb3⟩
  replace Xg : Hid _ := Xg.out.below hb3
  replace Xh : Hid _ := Xh.out.below hb3
  replace hbw := Below.on hbw hb3
  clear hb3
  go_wp2_with fail
  have hc := jn_64.cl b v3 HC.out.1
  rw [HC.out.2] at hc
  refine Calls.mono hc ?_
  clear hc
  rintro e9 v4 ⟨rfl, hb4⟩
  replace Xg : Hid _ := Xg.out.below hb4
  replace Xh : Hid _ := Xh.out.below hb4
  replace hbw := Below.on hbw hb4
  clear hb4
  obtain ⟨ch0, ch1, ch2, fh0, fh1, fh2⟩ := Xh.out
  have hneh : gh < v4.heap.size := World.block_lt_of_cell? v4 _ ch0
  go_wp2_with fail
  clear ch0 ch1 ch2 fh0 fh1 fh2 hneh
  obtain ⟨Wr, hWr⟩ : ∃ W1, W1 = v4.drew := ⟨_, rfl⟩
  have hbd : Below v4.heap.size v4 Wr := by rw [hWr]; exact bDrew1 (Below.refl _ _)
  replace Xg : Hid _ := Xg.out.below hbd
  replace Xh : Hid _ := Xh.out.below hbd
  replace hbw := Below.on hbw hbd
  clear hbd
  have HJ : Hid ((fun W' : World => W'.cell? ⟨gh, 0, none⟩ = some (.int .i64 32) ∧ W'.cell? ⟨gh, 1, none⟩ = some (.int .i64 24) ∧ W'.cell? ⟨gh, 2, none⟩ = some (.int .i64 (-149))) Wr) := ⟨Xh.out.c0, Xh.out.c1, Xh.out.c2⟩
  refine wp_region_J (fun W' => W'.cell? ⟨gh, 0, none⟩ = some (.int .i64 32) ∧ W'.cell? ⟨gh, 1, none⟩ = some (.int .i64 24) ∧ W'.cell? ⟨gh, 2, none⟩ = some (.int .i64 (-149))) (by kernel_rfl) ?_
  rw [← hWr]
  clear hWr
  refine wpJ_tq 0 rfl HJ.out ?_
  refine wpJ_tq 1 rfl HJ.out ?_
  refine wpJ_tq 2 rfl HJ.out ?_
  refine wpJ_on 3 rfl fun KJ hK => ?_
  go_simp
  refine (fm_32.inf _).mono ?_
  rintro e v5 ⟨rfl, hb5⟩
  replace Xg : Hid _ := Xg.out.below hb5
  replace Xh : Hid _ := Xh.out.below hb5
  replace hbw := Below.on hbw hb5
  clear hb5
  refine hK _ _ ⟨Xh.out.c0, Xh.out.c1, Xh.out.c2⟩ ?_
  clear hK
  refine wpJ_on 4 rfl fun KJ hK => ?_
  go_simp
  refine Calls.mono (fm_32.sgn sg 2139095040 v5 (by decide)) ?_
  rintro e9 v6 ⟨rfl, hb6⟩
  rw [HR.out]
  replace Xg : Hid _ := Xg.out.below hb6
  replace Xh : Hid _ := Xh.out.below hb6
  replace hbw := Below.on hbw hb6
  clear hb6
  clear HJ
  have HJ : Hid ((fun W' : World => W'.cell? ⟨gh, 0, none⟩ = some (.int .i64 32) ∧ W'.cell? ⟨gh, 1, none⟩ = some (.int .i64 24) ∧ W'.cell? ⟨gh, 2, none⟩ = some (.int .i64 (-149))) v6) := ⟨Xh.out.c0, Xh.out.c1, Xh.out.c2⟩
  refine hK _ _ HJ.out ?_
  clear hK
  refine wpJ_tq 5 rfl HJ.out ?_
  refine wpJ_tq 6 rfl HJ.out ?_
  refine wpJ_done (by kernel_rfl) ?_ _
  clear HJ
  go_wp2_with fail
  go_ret2
  exact ⟨rfl, hbw⟩
theorem narrow_c4 {b : Nat} (hb : b < B64) {sg : Bool} (hs : sg = decide (9223372036854775808 ≤ b)) (hc : clsN 4503599627370496 9218868437227405312 (b % 9223372036854775808) = 4) (w : World) (hT : Tab w) :
    Calls Tryz.prog 7 #[U b] w fun en w' => en = .returned (.tuple #[U 2143289345, .int .i64 0]) ∧ Below w.heap.size w w' := by
  have hbw : Below w.heap.size w w := Below.refl _ _
  have TB : Hid (Tab w) := hT
  obtain ⟨an, ha, hn1, hn2⟩ := and_sg hb hs
  have HC : Hid (b < 2 * 9223372036854775808 ∧ clsN 4503599627370496 9218868437227405312 (b % 9223372036854775808) = 4) := ⟨by rw [B64_eq] at hb; omega, hc⟩
  obtain ⟨r, hr⟩ : ∃ r, r = 2143289345 := ⟨_, rfl⟩
  rw [← hr]
  have HR : Hid (2143289345 = r) := hr.symm
  clear hT hc hb hr hs
  go_enter Tryz.func7, Tryz.ntmps7
  go_wp2_with fail
  refine (of_64 _).mono ?_
  rintro e v1 ⟨rfl, hb1⟩
  replace hbw := Below.on hbw hb1
  clear hb1
  go_wp2_with fail
  have Xg0 : Hid (B3q (v1.alloc (.cells #[.int .i64 64, .int .i64 53, .int .i64 (-1074)] 47)) v1.heap.size (.int .i64 64) (.int .i64 53) (.int .i64 (-1074))) := B3q.new v1 _ _ _ _
  have hbn : Below v1.heap.size v1 (v1.alloc (.cells #[.int .i64 64, .int .i64 53, .int .i64 (-1074)] 47)) := below1 v1 _
  generalize v1.alloc (.cells #[.int .i64 64, .int .i64 53, .int .i64 (-1074)] 47) = Wg at *
  have HGg : Hid (w.heap.size ≤ v1.heap.size) := hbw.size
  replace hbw := Below.on hbw hbn
  clear hbn
  generalize v1.heap.size = gg at *
  have Xg := Xg0
  clear Xg0
  refine (of_32 _).mono ?_
  rintro e v2 ⟨rfl, hb2⟩
  replace Xg : Hid _ := Xg.out.below hb2
  replace hbw := Below.on hbw hb2
  clear hb2
  obtain ⟨cg0, cg1, cg2, fg0, fg1, fg2⟩ := Xg.out
  have hneg : gg < v2.heap.size := World.block_lt_of_cell? v2 _ cg0
  go_wp2_with fail
  clear cg0 cg1 cg2 fg0 fg1 fg2 hneg
  have Xh0 : Hid (B3q (v2.alloc (.cells #[.int .i64 32, .int .i64 24, .int .i64 (-149)] 47)) v2.heap.size (.int .i64 32) (.int .i64 24) (.int .i64 (-149))) := B3q.new v2 _ _ _ _
  have hbn : Below v2.heap.size v2 (v2.alloc (.cells #[.int .i64 32, .int .i64 24, .int .i64 (-149)] 47)) := below1 v2 _
  generalize v2.alloc (.cells #[.int .i64 32, .int .i64 24, .int .i64 (-149)] 47) = Wh at *
  have HGh : Hid (w.heap.size ≤ v2.heap.size) := hbw.size
  replace Xg : Hid _ := Xg.out.below hbn
  replace hbw := Below.on hbw hbn
  clear hbn
  generalize v2.heap.size = gh at *
  have Xh := Xh0
  clear Xh0
  refine (sign_64 _).mono ?_
  rintro e v3 ⟨rfl, hb3⟩
  replace Xg : Hid _ := Xg.out.below hb3
  replace Xh : Hid _ := Xh.out.below hb3
  replace hbw := Below.on hbw hb3
  clear hb3
  go_wp2_with fail
  have hc := jn_64.cl b v3 HC.out.1
  rw [HC.out.2] at hc
  refine Calls.mono hc ?_
  clear hc
  rintro e9 v4 ⟨rfl, hb4⟩
  replace Xg : Hid _ := Xg.out.below hb4
  replace Xh : Hid _ := Xh.out.below hb4
  replace hbw := Below.on hbw hb4
  clear hb4
  obtain ⟨ch0, ch1, ch2, fh0, fh1, fh2⟩ := Xh.out
  have hneh : gh < v4.heap.size := World.block_lt_of_cell? v4 _ ch0
  go_wp2_with fail
  clear ch0 ch1 ch2 fh0 fh1 fh2 hneh
  refine (wquiet_32 _).mono ?_
  rintro e v5 ⟨rfl, hb5⟩
  replace Xg : Hid _ := Xg.out.below hb5
  replace Xh : Hid _ := Xh.out.below hb5
  replace hbw := Below.on hbw hb5
  clear hb5
  go_wp2_with fail
  rw [← HR.out]
  go_ret2
  exact ⟨rfl, hbw⟩
theorem narrow_c1 {b : Nat} (hb : b < B64) {sg : Bool} (hs : sg = decide (9223372036854775808 ≤ b)) (hc : clsN 4503599627370496 9218868437227405312 (b % 9223372036854775808) = 1) {zo eo : Int} (hv : VF 9223372036854775808 4503599627370496 (-1074) b zo eo) (hf : b % 9223372036854775808 < 9218868437227405312) (w : World) (hT : Tab w) :
    Calls Tryz.prog 7 #[U b] w fun en w' => en = .returned (.tuple #[U (rnp (-149) 23 128 2147483648 2139095040 zo eo), .int .i64 0]) ∧ Below w.heap.size w w' := by
  have hbw : Below w.heap.size w w := Below.refl _ _
  have TB : Hid (Tab w) := hT
  obtain ⟨an, ha, hn1, hn2⟩ := and_sg hb hs
  have HC : Hid (b < 2 * 9223372036854775808 ∧ clsN 4503599627370496 9218868437227405312 (b % 9223372036854775808) = 1) := ⟨by rw [B64_eq] at hb; omega, hc⟩
  obtain ⟨r, hr⟩ : ∃ r, r = (rnp (-149) 23 128 2147483648 2139095040 zo eo) := ⟨_, rfl⟩
  rw [← hr]
  have HR : Hid ((rnp (-149) 23 128 2147483648 2139095040 zo eo) = r) := hr.symm
  have HV : Hid (VF 9223372036854775808 4503599627370496 (-1074) b zo eo ∧ b % 9223372036854775808 < 9218868437227405312) := ⟨hv, hf⟩
  clear hv hf
  clear hT hc hb hr hs
  go_enter Tryz.func7, Tryz.ntmps7
  go_wp2_with fail
  refine (of_64 _).mono ?_
  rintro e v1 ⟨rfl, hb1⟩
  replace hbw := Below.on hbw hb1
  clear hb1
  go_wp2_with fail
  have Xg0 : Hid (B3q (v1.alloc (.cells #[.int .i64 64, .int .i64 53, .int .i64 (-1074)] 47)) v1.heap.size (.int .i64 64) (.int .i64 53) (.int .i64 (-1074))) := B3q.new v1 _ _ _ _
  have hbn : Below v1.heap.size v1 (v1.alloc (.cells #[.int .i64 64, .int .i64 53, .int .i64 (-1074)] 47)) := below1 v1 _
  generalize v1.alloc (.cells #[.int .i64 64, .int .i64 53, .int .i64 (-1074)] 47) = Wg at *
  have HGg : Hid (w.heap.size ≤ v1.heap.size) := hbw.size
  replace hbw := Below.on hbw hbn
  clear hbn
  generalize v1.heap.size = gg at *
  have Xg := Xg0
  clear Xg0
  refine (of_32 _).mono ?_
  rintro e v2 ⟨rfl, hb2⟩
  replace Xg : Hid _ := Xg.out.below hb2
  replace hbw := Below.on hbw hb2
  clear hb2
  obtain ⟨cg0, cg1, cg2, fg0, fg1, fg2⟩ := Xg.out
  have hneg : gg < v2.heap.size := World.block_lt_of_cell? v2 _ cg0
  go_wp2_with fail
  clear cg0 cg1 cg2 fg0 fg1 fg2 hneg
  have Xh0 : Hid (B3q (v2.alloc (.cells #[.int .i64 32, .int .i64 24, .int .i64 (-149)] 47)) v2.heap.size (.int .i64 32) (.int .i64 24) (.int .i64 (-149))) := B3q.new v2 _ _ _ _
  have hbn : Below v2.heap.size v2 (v2.alloc (.cells #[.int .i64 32, .int .i64 24, .int .i64 (-149)] 47)) := below1 v2 _
  generalize v2.alloc (.cells #[.int .i64 32, .int .i64 24, .int .i64 (-149)] 47) = Wh at *
  have HGh : Hid (w.heap.size ≤ v2.heap.size) := hbw.size
  replace Xg : Hid _ := Xg.out.below hbn
  replace hbw := Below.on hbw hbn
  clear hbn
  generalize v2.heap.size = gh at *
  have Xh := Xh0
  clear Xh0
  refine (sign_64 _).mono ?_
  rintro e v3 ⟨rfl, hb3⟩
  replace Xg : Hid _ := Xg.out.below hb3
  replace Xh : Hid _ := Xh.out.below hb3
  replace hbw := Below.on hbw hb3
  clear hb3
  go_wp2_with fail
  have hc := jn_64.cl b v3 HC.out.1
  rw [HC.out.2] at hc
  refine Calls.mono hc ?_
  clear hc
  rintro e9 v4 ⟨rfl, hb4⟩
  replace Xg : Hid _ := Xg.out.below hb4
  replace Xh : Hid _ := Xh.out.below hb4
  replace hbw := Below.on hbw hb4
  clear hb4
  obtain ⟨ch0, ch1, ch2, fh0, fh1, fh2⟩ := Xh.out
  have hneh : gh < v4.heap.size := World.block_lt_of_cell? v4 _ ch0
  go_wp2_with fail
  clear ch0 ch1 ch2 fh0 fh1 fh2 hneh
  refine Calls.mono (value_v pm_64 HC.out.1 HV.out.2 HV.out.1 _ (TB.out.below hbw)) ?_
  rintro e9 v5 ⟨v, rfl, hv, hb5⟩
  obtain ⟨s5, p5, m5, rfl, hd5⟩ := hv.dn HV.out.1.fm
  clear hv
  replace Xg : Hid _ := Xg.out.below hb5
  replace Xh : Hid _ := Xh.out.below hb5
  replace hbw := Below.on hbw hb5
  clear hb5
  have D5 : Hid (DN v5 s5 p5 m5 m5 eo zo) := hd5
  clear hd5
  obtain ⟨ch0, ch1, ch2, fh0, fh1, fh2⟩ := Xh.out
  have hneh : gh < v5.heap.size := World.block_lt_of_cell? v5 _ ch0
  go_wp2_with fail
  clear ch0 ch1 ch2 fh0 fh1 fh2 hneh
  have Xd0 : Hid (B3q (v5.alloc (.cells #[.bool s5, .slice p5 m5 m5, .int .i64 eo] 33)) v5.heap.size (.bool s5) (.slice p5 m5 m5) (.int .i64 eo)) := B3q.new v5 _ _ _ _
  have hbn : Below v5.heap.size v5 (v5.alloc (.cells #[.bool s5, .slice p5 m5 m5, .int .i64 eo] 33)) := below1 v5 _
  generalize v5.alloc (.cells #[.bool s5, .slice p5 m5 m5, .int .i64 eo] 33) = Wd at *
  have HGd : Hid (w.heap.size ≤ v5.heap.size) := hbw.size
  replace Xg : Hid _ := Xg.out.below hbn
  replace Xh : Hid _ := Xh.out.below hbn
  replace D5 : Hid _ := D5.out.below hbn
  replace hbw := Below.on hbw hbn
  clear hbn
  generalize v5.heap.size = gd at *
  have Xd := Xd0
  clear Xd0
  refine Calls.mono (nearest_ok (e := eo) jn_32 D5.out.zn (by rcases D5.out.fm with ⟨_, h2⟩ | ⟨_, h2, h3⟩ <;> omega) (TB.out.below hbw)) ?_
  rintro e9 v6 ⟨rfl, hb6⟩
  rw [HR.out]
  replace Xg : Hid _ := Xg.out.below hb6
  replace Xh : Hid _ := Xh.out.below hb6
  replace Xd : Hid _ := Xd.out.below hb6
  replace D5 : Hid _ := D5.out.below hb6
  replace hbw := Below.on hbw hb6
  clear hb6
  go_wp2_with fail
  go_ret2
  exact ⟨rfl, hbw⟩
theorem narrow_c2 {b : Nat} (hb : b < B64) {sg : Bool} (hs : sg = decide (9223372036854775808 ≤ b)) (hc : clsN 4503599627370496 9218868437227405312 (b % 9223372036854775808) = 2) {zo eo : Int} (hv : VF 9223372036854775808 4503599627370496 (-1074) b zo eo) (hf : b % 9223372036854775808 < 9218868437227405312) (w : World) (hT : Tab w) :
    Calls Tryz.prog 7 #[U b] w fun en w' => en = .returned (.tuple #[U (rnp (-149) 23 128 2147483648 2139095040 zo eo), .int .i64 0]) ∧ Below w.heap.size w w' := by
  have hbw : Below w.heap.size w w := Below.refl _ _
  have TB : Hid (Tab w) := hT
  obtain ⟨an, ha, hn1, hn2⟩ := and_sg hb hs
  have HC : Hid (b < 2 * 9223372036854775808 ∧ clsN 4503599627370496 9218868437227405312 (b % 9223372036854775808) = 2) := ⟨by rw [B64_eq] at hb; omega, hc⟩
  obtain ⟨r, hr⟩ : ∃ r, r = (rnp (-149) 23 128 2147483648 2139095040 zo eo) := ⟨_, rfl⟩
  rw [← hr]
  have HR : Hid ((rnp (-149) 23 128 2147483648 2139095040 zo eo) = r) := hr.symm
  have HV : Hid (VF 9223372036854775808 4503599627370496 (-1074) b zo eo ∧ b % 9223372036854775808 < 9218868437227405312) := ⟨hv, hf⟩
  clear hv hf
  clear hT hc hb hr hs
  go_enter Tryz.func7, Tryz.ntmps7
  go_wp2_with fail
  refine (of_64 _).mono ?_
  rintro e v1 ⟨rfl, hb1⟩
  replace hbw := Below.on hbw hb1
  clear hb1
  go_wp2_with fail
  have Xg0 : Hid (B3q (v1.alloc (.cells #[.int .i64 64, .int .i64 53, .int .i64 (-1074)] 47)) v1.heap.size (.int .i64 64) (.int .i64 53) (.int .i64 (-1074))) := B3q.new v1 _ _ _ _
  have hbn : Below v1.heap.size v1 (v1.alloc (.cells #[.int .i64 64, .int .i64 53, .int .i64 (-1074)] 47)) := below1 v1 _
  generalize v1.alloc (.cells #[.int .i64 64, .int .i64 53, .int .i64 (-1074)] 47) = Wg at *
  have HGg : Hid (w.heap.size ≤ v1.heap.size) := hbw.size
  replace hbw := Below.on hbw hbn
  clear hbn
  generalize v1.heap.size = gg at *
  have Xg := Xg0
  clear Xg0
  refine (of_32 _).mono ?_
  rintro e v2 ⟨rfl, hb2⟩
  replace Xg : Hid _ := Xg.out.below hb2
  replace hbw := Below.on hbw hb2
  clear hb2
  obtain ⟨cg0, cg1, cg2, fg0, fg1, fg2⟩ := Xg.out
  have hneg : gg < v2.heap.size := World.block_lt_of_cell? v2 _ cg0
  go_wp2_with fail
  clear cg0 cg1 cg2 fg0 fg1 fg2 hneg
  have Xh0 : Hid (B3q (v2.alloc (.cells #[.int .i64 32, .int .i64 24, .int .i64 (-149)] 47)) v2.heap.size (.int .i64 32) (.int .i64 24) (.int .i64 (-149))) := B3q.new v2 _ _ _ _
  have hbn : Below v2.heap.size v2 (v2.alloc (.cells #[.int .i64 32, .int .i64 24, .int .i64 (-149)] 47)) := below1 v2 _
  generalize v2.alloc (.cells #[.int .i64 32, .int .i64 24, .int .i64 (-149)] 47) = Wh at *
  have HGh : Hid (w.heap.size ≤ v2.heap.size) := hbw.size
  replace Xg : Hid _ := Xg.out.below hbn
  replace hbw := Below.on hbw hbn
  clear hbn
  generalize v2.heap.size = gh at *
  have Xh := Xh0
  clear Xh0
  refine (sign_64 _).mono ?_
  rintro e v3 ⟨rfl, hb3⟩
  replace Xg : Hid _ := Xg.out.below hb3
  replace Xh : Hid _ := Xh.out.below hb3
  replace hbw := Below.on hbw hb3
  clear hb3
  go_wp2_with fail
  have hc := jn_64.cl b v3 HC.out.1
  rw [HC.out.2] at hc
  refine Calls.mono hc ?_
  clear hc
  rintro e9 v4 ⟨rfl, hb4⟩
  replace Xg : Hid _ := Xg.out.below hb4
  replace Xh : Hid _ := Xh.out.below hb4
  replace hbw := Below.on hbw hb4
  clear hb4
  obtain ⟨ch0, ch1, ch2, fh0, fh1, fh2⟩ := Xh.out
  have hneh : gh < v4.heap.size := World.block_lt_of_cell? v4 _ ch0
  go_wp2_with fail
  clear ch0 ch1 ch2 fh0 fh1 fh2 hneh
  refine Calls.mono (value_v pm_64 HC.out.1 HV.out.2 HV.out.1 _ (TB.out.below hbw)) ?_
  rintro e9 v5 ⟨v, rfl, hv, hb5⟩
  obtain ⟨s5, p5, m5, rfl, hd5⟩ := hv.dn HV.out.1.fm
  clear hv
  replace Xg : Hid _ := Xg.out.below hb5
  replace Xh : Hid _ := Xh.out.below hb5
  replace hbw := Below.on hbw hb5
  clear hb5
  have D5 : Hid (DN v5 s5 p5 m5 m5 eo zo) := hd5
  clear hd5
  obtain ⟨ch0, ch1, ch2, fh0, fh1, fh2⟩ := Xh.out
  have hneh : gh < v5.heap.size := World.block_lt_of_cell? v5 _ ch0
  go_wp2_with fail
  clear ch0 ch1 ch2 fh0 fh1 fh2 hneh
  have Xd0 : Hid (B3q (v5.alloc (.cells #[.bool s5, .slice p5 m5 m5, .int .i64 eo] 33)) v5.heap.size (.bool s5) (.slice p5 m5 m5) (.int .i64 eo)) := B3q.new v5 _ _ _ _
  have hbn : Below v5.heap.size v5 (v5.alloc (.cells #[.bool s5, .slice p5 m5 m5, .int .i64 eo] 33)) := below1 v5 _
  generalize v5.alloc (.cells #[.bool s5, .slice p5 m5 m5, .int .i64 eo] 33) = Wd at *
  have HGd : Hid (w.heap.size ≤ v5.heap.size) := hbw.size
  replace Xg : Hid _ := Xg.out.below hbn
  replace Xh : Hid _ := Xh.out.below hbn
  replace D5 : Hid _ := D5.out.below hbn
  replace hbw := Below.on hbw hbn
  clear hbn
  generalize v5.heap.size = gd at *
  have Xd := Xd0
  clear Xd0
  refine Calls.mono (nearest_ok (e := eo) jn_32 D5.out.zn (by rcases D5.out.fm with ⟨_, h2⟩ | ⟨_, h2, h3⟩ <;> omega) (TB.out.below hbw)) ?_
  rintro e9 v6 ⟨rfl, hb6⟩
  rw [HR.out]
  replace Xg : Hid _ := Xg.out.below hb6
  replace Xh : Hid _ := Xh.out.below hb6
  replace Xd : Hid _ := Xd.out.below hb6
  replace D5 : Hid _ := D5.out.below hb6
  replace hbw := Below.on hbw hb6
  clear hb6
  go_wp2_with fail
  go_ret2
  exact ⟨rfl, hbw⟩
theorem docnarrow_c0 {b : Nat} {sg : Bool} (hs : sg = decide (9223372036854775808 ≤ b)) (hc : clsN 4503599627370496 9218868437227405312 (b % 9223372036854775808) = 0) (w : World) :
    Calls Tryz.prog 57 #[U b] w fun en w' => en = .returned (.tuple #[U (if sg then 2147483648 + 0 else 0), .int .i64 0]) ∧ Below w.heap.size w w' := by
  have hbw : Below w.heap.size w w := Below.refl _ _
  obtain ⟨z, hz9⟩ : ∃ z, z = b % 9223372036854775808 := ⟨_, rfl⟩
  rw [← hz9] at hc
  have HC : Hid (b % 9223372036854775808 = z ∧ decide (9223372036854775808 ≤ b) = sg ∧ clsN 4503599627370496 9218868437227405312 z = 0) := ⟨hz9.symm, hs.symm, hc⟩
  obtain ⟨r, hr⟩ : ∃ r, r = (if sg then 2147483648 + 0 else 0) := ⟨_, rfl⟩
  rw [← hr]
  have HR : Hid ((if sg then 2147483648 + 0 else 0) = r) := hr.symm
  clear hr
  clear hs hc hz9
  go_enter Tryz.func57, Tryz.ntmps57
  go_wp2_with fail
  refine (rof_64 _).mono ?_
  rintro e v1 ⟨rfl, hb1⟩
  replace hbw := Below.on hbw hb1
  clear hb1
  go_wp2_with fail
  have Xg0 : Hid (B6q (v1.alloc (.cells #[U 9223372036854775808, .int .i64 53, .int .i64 (-1074), .int .i64 971, U 9218868437227405312, U 9221120237041090561] 126)) v1.heap.size (U 9223372036854775808) (.int .i64 53) (.int .i64 (-1074)) (.int .i64 971) (U 9218868437227405312) (U 9221120237041090561)) := B6q.new v1 _ _ _ _ _ _ _
  have hbn : Below v1.heap.size v1 (v1.alloc (.cells #[U 9223372036854775808, .int .i64 53, .int .i64 (-1074), .int .i64 971, U 9218868437227405312, U 9221120237041090561] 126)) := below1 v1 _
  generalize v1.alloc (.cells #[U 9223372036854775808, .int .i64 53, .int .i64 (-1074), .int .i64 971, U 9218868437227405312, U 9221120237041090561] 126) = Wg at *
  have HGg : Hid (w.heap.size ≤ v1.heap.size) := hbw.size
  replace hbw := Below.on hbw hbn
  clear hbn
  generalize v1.heap.size = gg at *
  have Xg := Xg0
  clear Xg0
  refine (rof_32 _).mono ?_
  rintro e v2 ⟨rfl, hb2⟩
  replace Xg : Hid _ := Xg.out.below hb2
  replace hbw := Below.on hbw hb2
  clear hb2
  obtain ⟨cg0, cg1, cg2, cg3, cg4, cg5, fg0, fg1, fg2, fg3, fg4, fg5⟩ := Xg.out
  have hneg : gg < v2.heap.size := World.block_lt_of_cell? v2 _ cg0
  go_wp2_with fail
  clear cg0 cg1 cg2 cg3 cg4 cg5 fg0 fg1 fg2 fg3 fg4 fg5 hneg
  have Xk0 : Hid (B6q (v2.alloc (.cells #[U 2147483648, .int .i64 24, .int .i64 (-149), .int .i64 104, U 2139095040, U 2143289345] 126)) v2.heap.size (U 2147483648) (.int .i64 24) (.int .i64 (-149)) (.int .i64 104) (U 2139095040) (U 2143289345)) := B6q.new v2 _ _ _ _ _ _ _
  have hbn : Below v2.heap.size v2 (v2.alloc (.cells #[U 2147483648, .int .i64 24, .int .i64 (-149), .int .i64 104, U 2139095040, U 2143289345] 126)) := below1 v2 _
  generalize v2.alloc (.cells #[U 2147483648, .int .i64 24, .int .i64 (-149), .int .i64 104, U 2139095040, U 2143289345] 126) = Wk at *
  have HGk : Hid (w.heap.size ≤ v2.heap.size) := hbw.size
  replace Xg : Hid _ := Xg.out.below hbn
  replace hbw := Below.on hbw hbn
  clear hbn
  generalize v2.heap.size = gk at *
  have Xk := Xk0
  clear Xk0
  refine (cut_any (by decide) (by decide) b _).mono ?_
  rintro e v3 ⟨rfl, hb3⟩
  rw [HC.out.1, HC.out.2.1]
  replace Xg : Hid _ := Xg.out.below hb3
  replace Xk : Hid _ := Xk.out.below hb3
  replace hbw := Below.on hbw hb3
  clear hb3
  obtain ⟨cg0, cg1, cg2, cg3, cg4, cg5, fg0, fg1, fg2, fg3, fg4, fg5⟩ := Xg.out
  have hneg : gg < v3.heap.size := World.block_lt_of_cell? v3 _ cg0
  go_wp2_with fail
  clear cg0 cg1 cg2 cg3 cg4 cg5 fg0 fg1 fg2 fg3 fg4 fg5 hneg
  refine (rcls_64 z _).mono ?_
  rintro e v4 ⟨rfl, hb4⟩
  rw [HC.out.2.2]
  replace Xg : Hid _ := Xg.out.below hb4
  replace Xk : Hid _ := Xk.out.below hb4
  replace hbw := Below.on hbw hb4
  clear hb4
  obtain ⟨cg0, cg1, cg2, cg3, cg4, cg5, fg0, fg1, fg2, fg3, fg4, fg5⟩ := Xg.out
  have hneg : gg < v4.heap.size := World.block_lt_of_cell? v4 _ cg0
  obtain ⟨ck0, ck1, ck2, ck3, ck4, ck5, fk0, fk1, fk2, fk3, fk4, fk5⟩ := Xk.out
  have hnek : gk < v4.heap.size := World.block_lt_of_cell? v4 _ ck0
  go_wp2_with fail
  clear cg0 cg1 cg2 cg3 cg4 cg5 fg0 fg1 fg2 fg3 fg4 fg5 hneg
  clear ck0 ck1 ck2 ck3 ck4 ck5 fk0 fk1 fk2 fk3 fk4 fk5 hnek
  refine (signed_g sg 0 (by decide) _).mono ?_
  rintro e v5 ⟨rfl, hb5⟩
  rw [HR.out]
  replace Xg : Hid _ := Xg.out.below hb5
  replace Xk : Hid _ := Xk.out.below hb5
  replace hbw := Below.on hbw hb5
  clear hb5
  go_wp2_with fail
  go_ret2
  exact ⟨rfl, hbw⟩
theorem docnarrow_c3 {b : Nat} {sg : Bool} (hs : sg = decide (9223372036854775808 ≤ b)) (hc : clsN 4503599627370496 9218868437227405312 (b % 9223372036854775808) = 3) (w : World) :
    Calls Tryz.prog 57 #[U b] w fun en w' => en = .returned (.tuple #[U (if sg then 2147483648 + 2139095040 else 2139095040), .int .i64 0]) ∧ Below w.heap.size w w' := by
  have hbw : Below w.heap.size w w := Below.refl _ _
  obtain ⟨z, hz9⟩ : ∃ z, z = b % 9223372036854775808 := ⟨_, rfl⟩
  rw [← hz9] at hc
  have HC : Hid (b % 9223372036854775808 = z ∧ decide (9223372036854775808 ≤ b) = sg ∧ clsN 4503599627370496 9218868437227405312 z = 3) := ⟨hz9.symm, hs.symm, hc⟩
  obtain ⟨r, hr⟩ : ∃ r, r = (if sg then 2147483648 + 2139095040 else 2139095040) := ⟨_, rfl⟩
  rw [← hr]
  have HR : Hid ((if sg then 2147483648 + 2139095040 else 2139095040) = r) := hr.symm
  clear hr
  clear hs hc hz9
  go_enter Tryz.func57, Tryz.ntmps57
  go_wp2_with fail
  refine (rof_64 _).mono ?_
  rintro e v1 ⟨rfl, hb1⟩
  replace hbw := Below.on hbw hb1
  clear hb1
  go_wp2_with fail
  have Xg0 : Hid (B6q (v1.alloc (.cells #[U 9223372036854775808, .int .i64 53, .int .i64 (-1074), .int .i64 971, U 9218868437227405312, U 9221120237041090561] 126)) v1.heap.size (U 9223372036854775808) (.int .i64 53) (.int .i64 (-1074)) (.int .i64 971) (U 9218868437227405312) (U 9221120237041090561)) := B6q.new v1 _ _ _ _ _ _ _
  have hbn : Below v1.heap.size v1 (v1.alloc (.cells #[U 9223372036854775808, .int .i64 53, .int .i64 (-1074), .int .i64 971, U 9218868437227405312, U 9221120237041090561] 126)) := below1 v1 _
  generalize v1.alloc (.cells #[U 9223372036854775808, .int .i64 53, .int .i64 (-1074), .int .i64 971, U 9218868437227405312, U 9221120237041090561] 126) = Wg at *
  have HGg : Hid (w.heap.size ≤ v1.heap.size) := hbw.size
  replace hbw := Below.on hbw hbn
  clear hbn
  generalize v1.heap.size = gg at *
  have Xg := Xg0
  clear Xg0
  refine (rof_32 _).mono ?_
  rintro e v2 ⟨rfl, hb2⟩
  replace Xg : Hid _ := Xg.out.below hb2
  replace hbw := Below.on hbw hb2
  clear hb2
  obtain ⟨cg0, cg1, cg2, cg3, cg4, cg5, fg0, fg1, fg2, fg3, fg4, fg5⟩ := Xg.out
  have hneg : gg < v2.heap.size := World.block_lt_of_cell? v2 _ cg0
  go_wp2_with fail
  clear cg0 cg1 cg2 cg3 cg4 cg5 fg0 fg1 fg2 fg3 fg4 fg5 hneg
  have Xk0 : Hid (B6q (v2.alloc (.cells #[U 2147483648, .int .i64 24, .int .i64 (-149), .int .i64 104, U 2139095040, U 2143289345] 126)) v2.heap.size (U 2147483648) (.int .i64 24) (.int .i64 (-149)) (.int .i64 104) (U 2139095040) (U 2143289345)) := B6q.new v2 _ _ _ _ _ _ _
  have hbn : Below v2.heap.size v2 (v2.alloc (.cells #[U 2147483648, .int .i64 24, .int .i64 (-149), .int .i64 104, U 2139095040, U 2143289345] 126)) := below1 v2 _
  generalize v2.alloc (.cells #[U 2147483648, .int .i64 24, .int .i64 (-149), .int .i64 104, U 2139095040, U 2143289345] 126) = Wk at *
  have HGk : Hid (w.heap.size ≤ v2.heap.size) := hbw.size
  replace Xg : Hid _ := Xg.out.below hbn
  replace hbw := Below.on hbw hbn
  clear hbn
  generalize v2.heap.size = gk at *
  have Xk := Xk0
  clear Xk0
  refine (cut_any (by decide) (by decide) b _).mono ?_
  rintro e v3 ⟨rfl, hb3⟩
  rw [HC.out.1, HC.out.2.1]
  replace Xg : Hid _ := Xg.out.below hb3
  replace Xk : Hid _ := Xk.out.below hb3
  replace hbw := Below.on hbw hb3
  clear hb3
  obtain ⟨cg0, cg1, cg2, cg3, cg4, cg5, fg0, fg1, fg2, fg3, fg4, fg5⟩ := Xg.out
  have hneg : gg < v3.heap.size := World.block_lt_of_cell? v3 _ cg0
  go_wp2_with fail
  clear cg0 cg1 cg2 cg3 cg4 cg5 fg0 fg1 fg2 fg3 fg4 fg5 hneg
  refine (rcls_64 z _).mono ?_
  rintro e v4 ⟨rfl, hb4⟩
  rw [HC.out.2.2]
  replace Xg : Hid _ := Xg.out.below hb4
  replace Xk : Hid _ := Xk.out.below hb4
  replace hbw := Below.on hbw hb4
  clear hb4
  obtain ⟨cg0, cg1, cg2, cg3, cg4, cg5, fg0, fg1, fg2, fg3, fg4, fg5⟩ := Xg.out
  have hneg : gg < v4.heap.size := World.block_lt_of_cell? v4 _ cg0
  obtain ⟨ck0, ck1, ck2, ck3, ck4, ck5, fk0, fk1, fk2, fk3, fk4, fk5⟩ := Xk.out
  have hnek : gk < v4.heap.size := World.block_lt_of_cell? v4 _ ck0
  go_wp2_with fail
  clear cg0 cg1 cg2 cg3 cg4 cg5 fg0 fg1 fg2 fg3 fg4 fg5 hneg
  clear ck0 ck1 ck2 ck3 ck4 ck5 fk0 fk1 fk2 fk3 fk4 fk5 hnek
  refine (signed_g sg 2139095040 (by decide) _).mono ?_
  rintro e v5 ⟨rfl, hb5⟩
  rw [HR.out]
  replace Xg : Hid _ := Xg.out.below hb5
  replace Xk : Hid _ := Xk.out.below hb5
  replace hbw := Below.on hbw hb5
  clear hb5
  go_wp2_with fail
  go_ret2
  exact ⟨rfl, hbw⟩
theorem docnarrow_c4 {b : Nat} {sg : Bool} (hs : sg = decide (9223372036854775808 ≤ b)) (hc : clsN 4503599627370496 9218868437227405312 (b % 9223372036854775808) = 4) (w : World) :
    Calls Tryz.prog 57 #[U b] w fun en w' => en = .returned (.tuple #[U 2143289345, .int .i64 0]) ∧ Below w.heap.size w w' := by
  have hbw : Below w.heap.size w w := Below.refl _ _
  obtain ⟨z, hz9⟩ : ∃ z, z = b % 9223372036854775808 := ⟨_, rfl⟩
  rw [← hz9] at hc
  have HC : Hid (b % 9223372036854775808 = z ∧ decide (9223372036854775808 ≤ b) = sg ∧ clsN 4503599627370496 9218868437227405312 z = 4) := ⟨hz9.symm, hs.symm, hc⟩
  obtain ⟨r, hr⟩ : ∃ r, r = 2143289345 := ⟨_, rfl⟩
  rw [← hr]
  have HR : Hid (2143289345 = r) := hr.symm
  clear hr
  clear hs hc hz9
  go_enter Tryz.func57, Tryz.ntmps57
  go_wp2_with fail
  refine (rof_64 _).mono ?_
  rintro e v1 ⟨rfl, hb1⟩
  replace hbw := Below.on hbw hb1
  clear hb1
  go_wp2_with fail
  have Xg0 : Hid (B6q (v1.alloc (.cells #[U 9223372036854775808, .int .i64 53, .int .i64 (-1074), .int .i64 971, U 9218868437227405312, U 9221120237041090561] 126)) v1.heap.size (U 9223372036854775808) (.int .i64 53) (.int .i64 (-1074)) (.int .i64 971) (U 9218868437227405312) (U 9221120237041090561)) := B6q.new v1 _ _ _ _ _ _ _
  have hbn : Below v1.heap.size v1 (v1.alloc (.cells #[U 9223372036854775808, .int .i64 53, .int .i64 (-1074), .int .i64 971, U 9218868437227405312, U 9221120237041090561] 126)) := below1 v1 _
  generalize v1.alloc (.cells #[U 9223372036854775808, .int .i64 53, .int .i64 (-1074), .int .i64 971, U 9218868437227405312, U 9221120237041090561] 126) = Wg at *
  have HGg : Hid (w.heap.size ≤ v1.heap.size) := hbw.size
  replace hbw := Below.on hbw hbn
  clear hbn
  generalize v1.heap.size = gg at *
  have Xg := Xg0
  clear Xg0
  refine (rof_32 _).mono ?_
  rintro e v2 ⟨rfl, hb2⟩
  replace Xg : Hid _ := Xg.out.below hb2
  replace hbw := Below.on hbw hb2
  clear hb2
  obtain ⟨cg0, cg1, cg2, cg3, cg4, cg5, fg0, fg1, fg2, fg3, fg4, fg5⟩ := Xg.out
  have hneg : gg < v2.heap.size := World.block_lt_of_cell? v2 _ cg0
  go_wp2_with fail
  clear cg0 cg1 cg2 cg3 cg4 cg5 fg0 fg1 fg2 fg3 fg4 fg5 hneg
  have Xk0 : Hid (B6q (v2.alloc (.cells #[U 2147483648, .int .i64 24, .int .i64 (-149), .int .i64 104, U 2139095040, U 2143289345] 126)) v2.heap.size (U 2147483648) (.int .i64 24) (.int .i64 (-149)) (.int .i64 104) (U 2139095040) (U 2143289345)) := B6q.new v2 _ _ _ _ _ _ _
  have hbn : Below v2.heap.size v2 (v2.alloc (.cells #[U 2147483648, .int .i64 24, .int .i64 (-149), .int .i64 104, U 2139095040, U 2143289345] 126)) := below1 v2 _
  generalize v2.alloc (.cells #[U 2147483648, .int .i64 24, .int .i64 (-149), .int .i64 104, U 2139095040, U 2143289345] 126) = Wk at *
  have HGk : Hid (w.heap.size ≤ v2.heap.size) := hbw.size
  replace Xg : Hid _ := Xg.out.below hbn
  replace hbw := Below.on hbw hbn
  clear hbn
  generalize v2.heap.size = gk at *
  have Xk := Xk0
  clear Xk0
  refine (cut_any (by decide) (by decide) b _).mono ?_
  rintro e v3 ⟨rfl, hb3⟩
  rw [HC.out.1, HC.out.2.1]
  replace Xg : Hid _ := Xg.out.below hb3
  replace Xk : Hid _ := Xk.out.below hb3
  replace hbw := Below.on hbw hb3
  clear hb3
  obtain ⟨cg0, cg1, cg2, cg3, cg4, cg5, fg0, fg1, fg2, fg3, fg4, fg5⟩ := Xg.out
  have hneg : gg < v3.heap.size := World.block_lt_of_cell? v3 _ cg0
  go_wp2_with fail
  clear cg0 cg1 cg2 cg3 cg4 cg5 fg0 fg1 fg2 fg3 fg4 fg5 hneg
  refine (rcls_64 z _).mono ?_
  rintro e v4 ⟨rfl, hb4⟩
  rw [HC.out.2.2]
  replace Xg : Hid _ := Xg.out.below hb4
  replace Xk : Hid _ := Xk.out.below hb4
  replace hbw := Below.on hbw hb4
  clear hb4
  obtain ⟨cg0, cg1, cg2, cg3, cg4, cg5, fg0, fg1, fg2, fg3, fg4, fg5⟩ := Xg.out
  have hneg : gg < v4.heap.size := World.block_lt_of_cell? v4 _ cg0
  obtain ⟨ck0, ck1, ck2, ck3, ck4, ck5, fk0, fk1, fk2, fk3, fk4, fk5⟩ := Xk.out
  have hnek : gk < v4.heap.size := World.block_lt_of_cell? v4 _ ck0
  go_wp2_with fail
  clear cg0 cg1 cg2 cg3 cg4 cg5 fg0 fg1 fg2 fg3 fg4 fg5 hneg
  clear ck0 ck1 ck2 ck3 ck4 ck5 fk0 fk1 fk2 fk3 fk4 fk5 hnek
  rw [← HR.out]
  go_ret2
  exact ⟨rfl, hbw⟩
def NwP (sg : Bool) (n : Nat) (e : Int) (en : Ending) : Prop := NrP 2147483648 8388608 2139095040 (-149) sg n e en
theorem nw_man {z q man : Nat} (hq : q = z / 4503599627370496 - 1) (hm : man = z - q * 4503599627370496) (hz : z ≠ 0) (hf : z < 9218868437227405312) : man ≠ 0 ∧ man < 9007199254740992 ∧ q ≤ 2045 := by omega
theorem docnarrow_c1 {b : Nat} {sg : Bool} (hs : sg = decide (9223372036854775808 ≤ b)) (hc : clsN 4503599627370496 9218868437227405312 (b % 9223372036854775808) = 1) (hz : b % 9223372036854775808 ≠ 0) {man q : Nat} (hq : q = b % 9223372036854775808 / 4503599627370496 - 1) (hm : man = b % 9223372036854775808 - q * 4503599627370496) (hf : b % 9223372036854775808 < 9218868437227405312) (w : World) :
    Calls Tryz.prog 57 #[U b] w fun en w' => NwP sg man (-1074 + (q : Int)) en ∧ Below w.heap.size w w' := by
  have hbw : Below w.heap.size w w := Below.refl _ _
  obtain ⟨z, hz9⟩ : ∃ z, z = b % 9223372036854775808 := ⟨_, rfl⟩
  rw [← hz9] at hc
  have HC : Hid (b % 9223372036854775808 = z ∧ decide (9223372036854775808 ≤ b) = sg ∧ clsN 4503599627370496 9218868437227405312 z = 1) := ⟨hz9.symm, hs.symm, hc⟩
  rw [← hz9] at hq hm hz hf
  obtain ⟨ex, hex⟩ : ∃ ex : Int, ex = -1074 + (q : Int) := ⟨_, rfl⟩
  rw [← hex]
  have hpt := rparts_all64 z (by omega)
  rw [← hq, ← hm, ← hex] at hpt
  have HP : Hid (∀ w, Calls Tryz.prog 96 #[FV 9223372036854775808 53 (-1074) 971 9218868437227405312 9221120237041090561, U z] w fun e w' => e = .returned (.tuple #[U man, .int .i64 ex]) ∧ Below w.heap.size w w') := hpt
  have h9 := nw_man hq hm hz hf
  have HM : Hid (man ≠ 0 ∧ man < 9007199254740992 ∧ -2000 ≤ ex ∧ ex ≤ 2000) := ⟨h9.1, h9.2.1, by omega, by omega⟩
  clear hq hm hz hf hex hpt h9
  clear hs hc hz9
  go_enter Tryz.func57, Tryz.ntmps57
  go_wp2_with fail
  refine (rof_64 _).mono ?_
  rintro e v1 ⟨rfl, hb1⟩
  replace hbw := Below.on hbw hb1
  clear hb1
  go_wp2_with fail
  have Xg0 : Hid (B6q (v1.alloc (.cells #[U 9223372036854775808, .int .i64 53, .int .i64 (-1074), .int .i64 971, U 9218868437227405312, U 9221120237041090561] 126)) v1.heap.size (U 9223372036854775808) (.int .i64 53) (.int .i64 (-1074)) (.int .i64 971) (U 9218868437227405312) (U 9221120237041090561)) := B6q.new v1 _ _ _ _ _ _ _
  have hbn : Below v1.heap.size v1 (v1.alloc (.cells #[U 9223372036854775808, .int .i64 53, .int .i64 (-1074), .int .i64 971, U 9218868437227405312, U 9221120237041090561] 126)) := below1 v1 _
  generalize v1.alloc (.cells #[U 9223372036854775808, .int .i64 53, .int .i64 (-1074), .int .i64 971, U 9218868437227405312, U 9221120237041090561] 126) = Wg at *
  have HGg : Hid (w.heap.size ≤ v1.heap.size) := hbw.size
  replace hbw := Below.on hbw hbn
  clear hbn
  generalize v1.heap.size = gg at *
  have Xg := Xg0
  clear Xg0
  refine (rof_32 _).mono ?_
  rintro e v2 ⟨rfl, hb2⟩
  replace Xg : Hid _ := Xg.out.below hb2
  replace hbw := Below.on hbw hb2
  clear hb2
  obtain ⟨cg0, cg1, cg2, cg3, cg4, cg5, fg0, fg1, fg2, fg3, fg4, fg5⟩ := Xg.out
  have hneg : gg < v2.heap.size := World.block_lt_of_cell? v2 _ cg0
  go_wp2_with fail
  clear cg0 cg1 cg2 cg3 cg4 cg5 fg0 fg1 fg2 fg3 fg4 fg5 hneg
  have Xk0 : Hid (B6q (v2.alloc (.cells #[U 2147483648, .int .i64 24, .int .i64 (-149), .int .i64 104, U 2139095040, U 2143289345] 126)) v2.heap.size (U 2147483648) (.int .i64 24) (.int .i64 (-149)) (.int .i64 104) (U 2139095040) (U 2143289345)) := B6q.new v2 _ _ _ _ _ _ _
  have hbn : Below v2.heap.size v2 (v2.alloc (.cells #[U 2147483648, .int .i64 24, .int .i64 (-149), .int .i64 104, U 2139095040, U 2143289345] 126)) := below1 v2 _
  generalize v2.alloc (.cells #[U 2147483648, .int .i64 24, .int .i64 (-149), .int .i64 104, U 2139095040, U 2143289345] 126) = Wk at *
  have HGk : Hid (w.heap.size ≤ v2.heap.size) := hbw.size
  replace Xg : Hid _ := Xg.out.below hbn
  replace hbw := Below.on hbw hbn
  clear hbn
  generalize v2.heap.size = gk at *
  have Xk := Xk0
  clear Xk0
  refine (cut_any (by decide) (by decide) b _).mono ?_
  rintro e v3 ⟨rfl, hb3⟩
  rw [HC.out.1, HC.out.2.1]
  replace Xg : Hid _ := Xg.out.below hb3
  replace Xk : Hid _ := Xk.out.below hb3
  replace hbw := Below.on hbw hb3
  clear hb3
  obtain ⟨cg0, cg1, cg2, cg3, cg4, cg5, fg0, fg1, fg2, fg3, fg4, fg5⟩ := Xg.out
  have hneg : gg < v3.heap.size := World.block_lt_of_cell? v3 _ cg0
  go_wp2_with fail
  clear cg0 cg1 cg2 cg3 cg4 cg5 fg0 fg1 fg2 fg3 fg4 fg5 hneg
  refine (rcls_64 z _).mono ?_
  rintro e v4 ⟨rfl, hb4⟩
  rw [HC.out.2.2]
  replace Xg : Hid _ := Xg.out.below hb4
  replace Xk : Hid _ := Xk.out.below hb4
  replace hbw := Below.on hbw hb4
  clear hb4
  obtain ⟨cg0, cg1, cg2, cg3, cg4, cg5, fg0, fg1, fg2, fg3, fg4, fg5⟩ := Xg.out
  have hneg : gg < v4.heap.size := World.block_lt_of_cell? v4 _ cg0
  obtain ⟨ck0, ck1, ck2, ck3, ck4, ck5, fk0, fk1, fk2, fk3, fk4, fk5⟩ := Xk.out
  have hnek : gk < v4.heap.size := World.block_lt_of_cell? v4 _ ck0
  go_wp2_with fail
  clear cg0 cg1 cg2 cg3 cg4 cg5 fg0 fg1 fg2 fg3 fg4 fg5 hneg
  clear ck0 ck1 ck2 ck3 ck4 ck5 fk0 fk1 fk2 fk3 fk4 fk5 hnek
  refine (HP.out _).mono ?_
  rintro e v5 ⟨rfl, hb5⟩
  replace Xg : Hid _ := Xg.out.below hb5
  replace Xk : Hid _ := Xk.out.below hb5
  replace hbw := Below.on hbw hb5
  clear hb5
  obtain ⟨ck0, ck1, ck2, ck3, ck4, ck5, fk0, fk1, fk2, fk3, fk4, fk5⟩ := Xk.out
  have hnek : gk < v5.heap.size := World.block_lt_of_cell? v5 _ ck0
  go_wp2_with fail
  clear ck0 ck1 ck2 ck3 ck4 ck5 fk0 fk1 fk2 fk3 fk4 fk5 hnek
  obtain ⟨Wr, hWr⟩ : ∃ W1, W1 = v5.drew := ⟨_, rfl⟩
  have hbd : Below v5.heap.size v5 Wr := by rw [hWr]; exact bDrew1 (Below.refl _ _)
  replace Xg : Hid _ := Xg.out.below hbd
  replace Xk : Hid _ := Xk.out.below hbd
  replace hbw := Below.on hbw hbd
  clear hbd
  have HJ : Hid ((fun W' : World => W'.cell? ⟨gk, 0, none⟩ = some (U 2147483648) ∧ W'.cell? ⟨gk, 1, none⟩ = some (.int .i64 24) ∧ W'.cell? ⟨gk, 2, none⟩ = some (.int .i64 (-149)) ∧ W'.cell? ⟨gk, 3, none⟩ = some (.int .i64 104) ∧ W'.cell? ⟨gk, 4, none⟩ = some (U 2139095040) ∧ W'.cell? ⟨gk, 5, none⟩ = some (U 2143289345)) Wr) := ⟨Xk.out.c0, Xk.out.c1, Xk.out.c2, Xk.out.c3, Xk.out.c4, Xk.out.c5⟩
  refine wp_region_J (fun W' => W'.cell? ⟨gk, 0, none⟩ = some (U 2147483648) ∧ W'.cell? ⟨gk, 1, none⟩ = some (.int .i64 24) ∧ W'.cell? ⟨gk, 2, none⟩ = some (.int .i64 (-149)) ∧ W'.cell? ⟨gk, 3, none⟩ = some (.int .i64 104) ∧ W'.cell? ⟨gk, 4, none⟩ = some (U 2139095040) ∧ W'.cell? ⟨gk, 5, none⟩ = some (U 2143289345)) (by kernel_rfl) ?_
  rw [← hWr]
  clear hWr
  refine wpJ_tq 0 rfl HJ.out ?_
  refine wpJ_tq 1 rfl HJ.out ?_
  refine wpJ_tq 2 rfl HJ.out ?_
  refine wpJ_tq 3 rfl HJ.out ?_
  refine wpJ_tq 6 rfl HJ.out ?_
  refine wpJ_on 4 rfl fun KJ hK => ?_
  go_simp
  refine (rl_word man (b64_9 (by have := HM.out.2.1; omega)) _).mono ?_
  rintro en v6 ⟨p6, m6, rfl, hn6, hl6, hb6⟩
  replace Xg : Hid _ := Xg.out.below hb6
  replace Xk : Hid _ := Xk.out.below hb6
  replace hbw := Below.on hbw hb6
  clear hb6
  have N6 : Hid (RL v6 p6 m6 (man)) := hn6
  have HL6 : Hid (m6 ≤ 2) := hl6
  clear hn6 hl6
  refine hK _ _ ⟨Xk.out.c0, Xk.out.c1, Xk.out.c2, Xk.out.c3, Xk.out.c4, Xk.out.c5⟩ ?_
  clear hK
  refine wpJ_on 5 rfl fun KJ hK => ?_
  go_simp
  refine (rl_word 1 (by decide) _).mono ?_
  rintro en v7 ⟨p7, m7, rfl, hn7, hl7, hb7⟩
  replace Xg : Hid _ := Xg.out.below hb7
  replace Xk : Hid _ := Xk.out.below hb7
  replace N6 : Hid (RL v7 p6 m6 (man)) := N6.out.below hb7
  replace hbw := Below.on hbw hb7
  clear hb7
  have N7 : Hid (RL v7 p7 m7 (1)) := hn7
  have HL7 : Hid (m7 ≤ 2) := hl7
  clear hn7 hl7
  clear HJ
  have HJ : Hid ((fun W' : World => W'.cell? ⟨gk, 0, none⟩ = some (U 2147483648) ∧ W'.cell? ⟨gk, 1, none⟩ = some (.int .i64 24) ∧ W'.cell? ⟨gk, 2, none⟩ = some (.int .i64 (-149)) ∧ W'.cell? ⟨gk, 3, none⟩ = some (.int .i64 104) ∧ W'.cell? ⟨gk, 4, none⟩ = some (U 2139095040) ∧ W'.cell? ⟨gk, 5, none⟩ = some (U 2143289345)) v7) := ⟨Xk.out.c0, Xk.out.c1, Xk.out.c2, Xk.out.c3, Xk.out.c4, Xk.out.c5⟩
  refine hK _ _ HJ.out ?_
  clear hK
  refine wpJ_tq 7 rfl HJ.out ?_
  refine wpJ_on 8 rfl fun KJ hK => ?_
  go_simp
  refine (size_g sk_32 N6.out N7.out (up_quo (d := 1) (E := -149) (by decide)) (by show dN (0 * 1) (-149 - 1) ≤ _; rw [Nat.zero_mul, dN_zero]; exact Nat.zero_le _) (hold_quo HM.out.1 (by decide) sk_32.lo (by have := HM.out.2.2; omega) (by have := HL7.out; omega))).mono ?_
  rintro en v8 ⟨Z, rfl, ht8, hb8⟩
  have HT8 : Hid (Trc (fun z => cmpN (dN man ex) (dN (hv 8388608 z * 1) (-149 - 1))) 2139095040 Z) := ht8
  clear ht8
  replace Xg : Hid _ := Xg.out.below hb8
  replace Xk : Hid _ := Xk.out.below hb8
  replace N6 : Hid (RL v8 p6 m6 (man)) := N6.out.below hb8
  replace N7 : Hid (RL v8 p7 m7 (1)) := N7.out.below hb8
  replace hbw := Below.on hbw hb8
  clear hb8
  refine hK _ _ ⟨Xk.out.c0, Xk.out.c1, Xk.out.c2, Xk.out.c3, Xk.out.c4, Xk.out.c5⟩ ?_
  clear hK
  refine wpJ_on 9 rfl fun KJ hK => ?_
  go_simp
  refine (signed_g sg Z (by have h1 := HT8.out.1; omega) _).mono ?_
  rintro e v9 ⟨rfl, hb9⟩
  obtain ⟨r, hr⟩ : ∃ r, r = (if sg then 2147483648 + Z else Z) := ⟨_, rfl⟩
  rw [← hr]
  have HRR : Hid (r = (if sg then 2147483648 + Z else Z)) := hr
  clear hr
  replace Xg : Hid _ := Xg.out.below hb9
  replace Xk : Hid _ := Xk.out.below hb9
  replace N6 : Hid (RL v9 p6 m6 (man)) := N6.out.below hb9
  replace N7 : Hid (RL v9 p7 m7 (1)) := N7.out.below hb9
  replace hbw := Below.on hbw hb9
  clear hb9
  clear HJ
  have HJ : Hid ((fun W' : World => W'.cell? ⟨gk, 0, none⟩ = some (U 2147483648) ∧ W'.cell? ⟨gk, 1, none⟩ = some (.int .i64 24) ∧ W'.cell? ⟨gk, 2, none⟩ = some (.int .i64 (-149)) ∧ W'.cell? ⟨gk, 3, none⟩ = some (.int .i64 104) ∧ W'.cell? ⟨gk, 4, none⟩ = some (U 2139095040) ∧ W'.cell? ⟨gk, 5, none⟩ = some (U 2143289345)) v9) := ⟨Xk.out.c0, Xk.out.c1, Xk.out.c2, Xk.out.c3, Xk.out.c4, Xk.out.c5⟩
  refine hK _ _ HJ.out ?_
  clear hK
  refine wpJ_tq 10 rfl HJ.out ?_
  refine wpJ_tq 11 rfl HJ.out ?_
  go_simp
  refine wpJ_done (by kernel_rfl) ?_ _
  clear HJ
  obtain ⟨ck0, ck1, ck2, ck3, ck4, ck5, fk0, fk1, fk2, fk3, fk4, fk5⟩ := Xk.out
  have hnek : gk < v9.heap.size := World.block_lt_of_cell? v9 _ ck0
  go_wp2_with fail
  clear ck0 ck1 ck2 ck3 ck4 ck5 fk0 fk1 fk2 fk3 fk4 fk5 hnek
  go_ret2
  exact ⟨⟨Z, by rw [← HRR.out]; rfl, HT8.out⟩, hbw⟩
theorem docnarrow_c2 {b : Nat} {sg : Bool} (hs : sg = decide (9223372036854775808 ≤ b)) (hc : clsN 4503599627370496 9218868437227405312 (b % 9223372036854775808) = 2) (hz : b % 9223372036854775808 ≠ 0) {man q : Nat} (hq : q = b % 9223372036854775808 / 4503599627370496 - 1) (hm : man = b % 9223372036854775808 - q * 4503599627370496) (hf : b % 9223372036854775808 < 9218868437227405312) (w : World) :
    Calls Tryz.prog 57 #[U b] w fun en w' => NwP sg man (-1074 + (q : Int)) en ∧ Below w.heap.size w w' := by
  have hbw : Below w.heap.size w w := Below.refl _ _
  obtain ⟨z, hz9⟩ : ∃ z, z = b % 9223372036854775808 := ⟨_, rfl⟩
  rw [← hz9] at hc
  have HC : Hid (b % 9223372036854775808 = z ∧ decide (9223372036854775808 ≤ b) = sg ∧ clsN 4503599627370496 9218868437227405312 z = 2) := ⟨hz9.symm, hs.symm, hc⟩
  rw [← hz9] at hq hm hz hf
  obtain ⟨ex, hex⟩ : ∃ ex : Int, ex = -1074 + (q : Int) := ⟨_, rfl⟩
  rw [← hex]
  have hpt := rparts_all64 z (by omega)
  rw [← hq, ← hm, ← hex] at hpt
  have HP : Hid (∀ w, Calls Tryz.prog 96 #[FV 9223372036854775808 53 (-1074) 971 9218868437227405312 9221120237041090561, U z] w fun e w' => e = .returned (.tuple #[U man, .int .i64 ex]) ∧ Below w.heap.size w w') := hpt
  have h9 := nw_man hq hm hz hf
  have HM : Hid (man ≠ 0 ∧ man < 9007199254740992 ∧ -2000 ≤ ex ∧ ex ≤ 2000) := ⟨h9.1, h9.2.1, by omega, by omega⟩
  clear hq hm hz hf hex hpt h9
  clear hs hc hz9
  go_enter Tryz.func57, Tryz.ntmps57
  go_wp2_with fail
  refine (rof_64 _).mono ?_
  rintro e v1 ⟨rfl, hb1⟩
  replace hbw := Below.on hbw hb1
  clear hb1
  go_wp2_with fail
  have Xg0 : Hid (B6q (v1.alloc (.cells #[U 9223372036854775808, .int .i64 53, .int .i64 (-1074), .int .i64 971, U 9218868437227405312, U 9221120237041090561] 126)) v1.heap.size (U 9223372036854775808) (.int .i64 53) (.int .i64 (-1074)) (.int .i64 971) (U 9218868437227405312) (U 9221120237041090561)) := B6q.new v1 _ _ _ _ _ _ _
  have hbn : Below v1.heap.size v1 (v1.alloc (.cells #[U 9223372036854775808, .int .i64 53, .int .i64 (-1074), .int .i64 971, U 9218868437227405312, U 9221120237041090561] 126)) := below1 v1 _
  generalize v1.alloc (.cells #[U 9223372036854775808, .int .i64 53, .int .i64 (-1074), .int .i64 971, U 9218868437227405312, U 9221120237041090561] 126) = Wg at *
  have HGg : Hid (w.heap.size ≤ v1.heap.size) := hbw.size
  replace hbw := Below.on hbw hbn
  clear hbn
  generalize v1.heap.size = gg at *
  have Xg := Xg0
  clear Xg0
  refine (rof_32 _).mono ?_
  rintro e v2 ⟨rfl, hb2⟩
  replace Xg : Hid _ := Xg.out.below hb2
  replace hbw := Below.on hbw hb2
  clear hb2
  obtain ⟨cg0, cg1, cg2, cg3, cg4, cg5, fg0, fg1, fg2, fg3, fg4, fg5⟩ := Xg.out
  have hneg : gg < v2.heap.size := World.block_lt_of_cell? v2 _ cg0
  go_wp2_with fail
  clear cg0 cg1 cg2 cg3 cg4 cg5 fg0 fg1 fg2 fg3 fg4 fg5 hneg
  have Xk0 : Hid (B6q (v2.alloc (.cells #[U 2147483648, .int .i64 24, .int .i64 (-149), .int .i64 104, U 2139095040, U 2143289345] 126)) v2.heap.size (U 2147483648) (.int .i64 24) (.int .i64 (-149)) (.int .i64 104) (U 2139095040) (U 2143289345)) := B6q.new v2 _ _ _ _ _ _ _
  have hbn : Below v2.heap.size v2 (v2.alloc (.cells #[U 2147483648, .int .i64 24, .int .i64 (-149), .int .i64 104, U 2139095040, U 2143289345] 126)) := below1 v2 _
  generalize v2.alloc (.cells #[U 2147483648, .int .i64 24, .int .i64 (-149), .int .i64 104, U 2139095040, U 2143289345] 126) = Wk at *
  have HGk : Hid (w.heap.size ≤ v2.heap.size) := hbw.size
  replace Xg : Hid _ := Xg.out.below hbn
  replace hbw := Below.on hbw hbn
  clear hbn
  generalize v2.heap.size = gk at *
  have Xk := Xk0
  clear Xk0
  refine (cut_any (by decide) (by decide) b _).mono ?_
  rintro e v3 ⟨rfl, hb3⟩
  rw [HC.out.1, HC.out.2.1]
  replace Xg : Hid _ := Xg.out.below hb3
  replace Xk : Hid _ := Xk.out.below hb3
  replace hbw := Below.on hbw hb3
  clear hb3
  obtain ⟨cg0, cg1, cg2, cg3, cg4, cg5, fg0, fg1, fg2, fg3, fg4, fg5⟩ := Xg.out
  have hneg : gg < v3.heap.size := World.block_lt_of_cell? v3 _ cg0
  go_wp2_with fail
  clear cg0 cg1 cg2 cg3 cg4 cg5 fg0 fg1 fg2 fg3 fg4 fg5 hneg
  refine (rcls_64 z _).mono ?_
  rintro e v4 ⟨rfl, hb4⟩
  rw [HC.out.2.2]
  replace Xg : Hid _ := Xg.out.below hb4
  replace Xk : Hid _ := Xk.out.below hb4
  replace hbw := Below.on hbw hb4
  clear hb4
  obtain ⟨cg0, cg1, cg2, cg3, cg4, cg5, fg0, fg1, fg2, fg3, fg4, fg5⟩ := Xg.out
  have hneg : gg < v4.heap.size := World.block_lt_of_cell? v4 _ cg0
  obtain ⟨ck0, ck1, ck2, ck3, ck4, ck5, fk0, fk1, fk2, fk3, fk4, fk5⟩ := Xk.out
  have hnek : gk < v4.heap.size := World.block_lt_of_cell? v4 _ ck0
  go_wp2_with fail
  clear cg0 cg1 cg2 cg3 cg4 cg5 fg0 fg1 fg2 fg3 fg4 fg5 hneg
  clear ck0 ck1 ck2 ck3 ck4 ck5 fk0 fk1 fk2 fk3 fk4 fk5 hnek
  refine (HP.out _).mono ?_
  rintro e v5 ⟨rfl, hb5⟩
  replace Xg : Hid _ := Xg.out.below hb5
  replace Xk : Hid _ := Xk.out.below hb5
  replace hbw := Below.on hbw hb5
  clear hb5
  obtain ⟨ck0, ck1, ck2, ck3, ck4, ck5, fk0, fk1, fk2, fk3, fk4, fk5⟩ := Xk.out
  have hnek : gk < v5.heap.size := World.block_lt_of_cell? v5 _ ck0
  go_wp2_with fail
  clear ck0 ck1 ck2 ck3 ck4 ck5 fk0 fk1 fk2 fk3 fk4 fk5 hnek
  obtain ⟨Wr, hWr⟩ : ∃ W1, W1 = v5.drew := ⟨_, rfl⟩
  have hbd : Below v5.heap.size v5 Wr := by rw [hWr]; exact bDrew1 (Below.refl _ _)
  replace Xg : Hid _ := Xg.out.below hbd
  replace Xk : Hid _ := Xk.out.below hbd
  replace hbw := Below.on hbw hbd
  clear hbd
  have HJ : Hid ((fun W' : World => W'.cell? ⟨gk, 0, none⟩ = some (U 2147483648) ∧ W'.cell? ⟨gk, 1, none⟩ = some (.int .i64 24) ∧ W'.cell? ⟨gk, 2, none⟩ = some (.int .i64 (-149)) ∧ W'.cell? ⟨gk, 3, none⟩ = some (.int .i64 104) ∧ W'.cell? ⟨gk, 4, none⟩ = some (U 2139095040) ∧ W'.cell? ⟨gk, 5, none⟩ = some (U 2143289345)) Wr) := ⟨Xk.out.c0, Xk.out.c1, Xk.out.c2, Xk.out.c3, Xk.out.c4, Xk.out.c5⟩
  refine wp_region_J (fun W' => W'.cell? ⟨gk, 0, none⟩ = some (U 2147483648) ∧ W'.cell? ⟨gk, 1, none⟩ = some (.int .i64 24) ∧ W'.cell? ⟨gk, 2, none⟩ = some (.int .i64 (-149)) ∧ W'.cell? ⟨gk, 3, none⟩ = some (.int .i64 104) ∧ W'.cell? ⟨gk, 4, none⟩ = some (U 2139095040) ∧ W'.cell? ⟨gk, 5, none⟩ = some (U 2143289345)) (by kernel_rfl) ?_
  rw [← hWr]
  clear hWr
  refine wpJ_tq 0 rfl HJ.out ?_
  refine wpJ_tq 1 rfl HJ.out ?_
  refine wpJ_tq 2 rfl HJ.out ?_
  refine wpJ_tq 3 rfl HJ.out ?_
  refine wpJ_tq 6 rfl HJ.out ?_
  refine wpJ_on 4 rfl fun KJ hK => ?_
  go_simp
  refine (rl_word man (b64_9 (by have := HM.out.2.1; omega)) _).mono ?_
  rintro en v6 ⟨p6, m6, rfl, hn6, hl6, hb6⟩
  replace Xg : Hid _ := Xg.out.below hb6
  replace Xk : Hid _ := Xk.out.below hb6
  replace hbw := Below.on hbw hb6
  clear hb6
  have N6 : Hid (RL v6 p6 m6 (man)) := hn6
  have HL6 : Hid (m6 ≤ 2) := hl6
  clear hn6 hl6
  refine hK _ _ ⟨Xk.out.c0, Xk.out.c1, Xk.out.c2, Xk.out.c3, Xk.out.c4, Xk.out.c5⟩ ?_
  clear hK
  refine wpJ_on 5 rfl fun KJ hK => ?_
  go_simp
  refine (rl_word 1 (by decide) _).mono ?_
  rintro en v7 ⟨p7, m7, rfl, hn7, hl7, hb7⟩
  replace Xg : Hid _ := Xg.out.below hb7
  replace Xk : Hid _ := Xk.out.below hb7
  replace N6 : Hid (RL v7 p6 m6 (man)) := N6.out.below hb7
  replace hbw := Below.on hbw hb7
  clear hb7
  have N7 : Hid (RL v7 p7 m7 (1)) := hn7
  have HL7 : Hid (m7 ≤ 2) := hl7
  clear hn7 hl7
  clear HJ
  have HJ : Hid ((fun W' : World => W'.cell? ⟨gk, 0, none⟩ = some (U 2147483648) ∧ W'.cell? ⟨gk, 1, none⟩ = some (.int .i64 24) ∧ W'.cell? ⟨gk, 2, none⟩ = some (.int .i64 (-149)) ∧ W'.cell? ⟨gk, 3, none⟩ = some (.int .i64 104) ∧ W'.cell? ⟨gk, 4, none⟩ = some (U 2139095040) ∧ W'.cell? ⟨gk, 5, none⟩ = some (U 2143289345)) v7) := ⟨Xk.out.c0, Xk.out.c1, Xk.out.c2, Xk.out.c3, Xk.out.c4, Xk.out.c5⟩
  refine hK _ _ HJ.out ?_
  clear hK
  refine wpJ_tq 7 rfl HJ.out ?_
  refine wpJ_on 8 rfl fun KJ hK => ?_
  go_simp
  refine (size_g sk_32 N6.out N7.out (up_quo (d := 1) (E := -149) (by decide)) (by show dN (0 * 1) (-149 - 1) ≤ _; rw [Nat.zero_mul, dN_zero]; exact Nat.zero_le _) (hold_quo HM.out.1 (by decide) sk_32.lo (by have := HM.out.2.2; omega) (by have := HL7.out; omega))).mono ?_
  rintro en v8 ⟨Z, rfl, ht8, hb8⟩
  have HT8 : Hid (Trc (fun z => cmpN (dN man ex) (dN (hv 8388608 z * 1) (-149 - 1))) 2139095040 Z) := ht8
  clear ht8
  replace Xg : Hid _ := Xg.out.below hb8
  replace Xk : Hid _ := Xk.out.below hb8
  replace N6 : Hid (RL v8 p6 m6 (man)) := N6.out.below hb8
  replace N7 : Hid (RL v8 p7 m7 (1)) := N7.out.below hb8
  replace hbw := Below.on hbw hb8
  clear hb8
  refine hK _ _ ⟨Xk.out.c0, Xk.out.c1, Xk.out.c2, Xk.out.c3, Xk.out.c4, Xk.out.c5⟩ ?_
  clear hK
  refine wpJ_on 9 rfl fun KJ hK => ?_
  go_simp
  refine (signed_g sg Z (by have h1 := HT8.out.1; omega) _).mono ?_
  rintro e v9 ⟨rfl, hb9⟩
  obtain ⟨r, hr⟩ : ∃ r, r = (if sg then 2147483648 + Z else Z) := ⟨_, rfl⟩
  rw [← hr]
  have HRR : Hid (r = (if sg then 2147483648 + Z else Z)) := hr
  clear hr
  replace Xg : Hid _ := Xg.out.below hb9
  replace Xk : Hid _ := Xk.out.below hb9
  replace N6 : Hid (RL v9 p6 m6 (man)) := N6.out.below hb9
  replace N7 : Hid (RL v9 p7 m7 (1)) := N7.out.below hb9
  replace hbw := Below.on hbw hb9
  clear hb9
  clear HJ
  have HJ : Hid ((fun W' : World => W'.cell? ⟨gk, 0, none⟩ = some (U 2147483648) ∧ W'.cell? ⟨gk, 1, none⟩ = some (.int .i64 24) ∧ W'.cell? ⟨gk, 2, none⟩ = some (.int .i64 (-149)) ∧ W'.cell? ⟨gk, 3, none⟩ = some (.int .i64 104) ∧ W'.cell? ⟨gk, 4, none⟩ = some (U 2139095040) ∧ W'.cell? ⟨gk, 5, none⟩ = some (U 2143289345)) v9) := ⟨Xk.out.c0, Xk.out.c1, Xk.out.c2, Xk.out.c3, Xk.out.c4, Xk.out.c5⟩
  refine hK _ _ HJ.out ?_
  clear hK
  refine wpJ_tq 10 rfl HJ.out ?_
  refine wpJ_tq 11 rfl HJ.out ?_
  go_simp
  refine wpJ_done (by kernel_rfl) ?_ _
  clear HJ
  obtain ⟨ck0, ck1, ck2, ck3, ck4, ck5, fk0, fk1, fk2, fk3, fk4, fk5⟩ := Xk.out
  have hnek : gk < v9.heap.size := World.block_lt_of_cell? v9 _ ck0
  go_wp2_with fail
  clear ck0 ck1 ck2 ck3 ck4 ck5 fk0 fk1 fk2 fk3 fk4 fk5 hnek
  go_ret2
  exact ⟨⟨Z, by rw [← HRR.out]; rfl, HT8.out⟩, hbw⟩
theorem vf_sg {b : Nat} {zo eo : Int} (hv : VF 9223372036854775808 4503599627370496 (-1074) b zo eo) (h0 : b % 9223372036854775808 ≠ 0) : decide (zo < 0) = decide (9223372036854775808 ≤ b) := by
  have h1 := hv.v
  have h2 : dv zo eo = (if zo < 0 then -(dN zo.natAbs eo : Int) else (dN zo.natAbs eo : Int)) := by rw [dv_abs, dN_dv]
  rw [svS_eq] at h1
  have h3 : 0 < vs 4503599627370496 (b % 9223372036854775808) := by have := vs_mono (H := 4503599627370496) (by decide) (s := 0) (t := b % 9223372036854775808) (by omega); omega
  have h6 := dN_pos (a := vs 4503599627370496 (b % 9223372036854775808)) (by omega) (-1074)
  have h5 : dv (if 9223372036854775808 ≤ b then -(vs 4503599627370496 (b % 9223372036854775808) : Int) else (vs 4503599627370496 (b % 9223372036854775808) : Int)) (-1074) = (if 9223372036854775808 ≤ b then -(dN (vs 4503599627370496 (b % 9223372036854775808)) (-1074) : Int) else (dN (vs 4503599627370496 (b % 9223372036854775808)) (-1074) : Int)) := by
    by_cases h6 : 9223372036854775808 ≤ b
    · rw [if_pos h6, if_pos h6, dv_neg, dN_dv]
    · rw [if_neg h6, if_neg h6, dN_dv]
  rw [h2, h5] at h1
  by_cases h7 : zo < 0 <;> by_cases h8 : 9223372036854775808 ≤ b
  · rw [decide_eq_true h7, decide_eq_true h8]
  · exfalso; rw [if_pos h7, if_neg h8] at h1; omega
  · exfalso; rw [if_neg h7, if_pos h8] at h1; omega
  · rw [decide_eq_false h7, decide_eq_false h8]
def NarB (b : Nat) : Prop := ∃ v er : Int, (∀ (w : World), Tab w → Calls Tryz.prog 7 #[U b] w fun en w' => en = .returned (.tuple #[.int .u64 v, .int .i64 er]) ∧ Below w.heap.size w w') ∧ (∀ (w : World), Calls Tryz.prog 57 #[U b] w fun en w' => en = .returned (.tuple #[.int .u64 v, .int .i64 er]) ∧ Below w.heap.size w w')
theorem nar_fin {b : Nat} (h0 : b % 9223372036854775808 ≠ 0) (hf : b % 9223372036854775808 < 9218868437227405312) {sg : Bool} (hs : sg = decide (9223372036854775808 ≤ b)) {man q : Nat} (hq : q = b % 9223372036854775808 / 4503599627370496 - 1) (hm : man = b % 9223372036854775808 - q * 4503599627370496)
    (hp : ∀ {zo eo : Int}, VF 9223372036854775808 4503599627370496 (-1074) b zo eo → ∀ w, Tab w → Calls Tryz.prog 7 #[U b] w fun en w' => en = .returned (.tuple #[U (rnp (-149) 23 128 2147483648 2139095040 zo eo), .int .i64 0]) ∧ Below w.heap.size w w')
    (hd : ∀ w, Calls Tryz.prog 57 #[U b] w fun en w' => NwP sg man (-1074 + (q : Int)) en ∧ Below w.heap.size w w') : NarB b := by
  obtain ⟨zo, eo, hv, -⟩ := vf_ex pm_64 hf
  have he : -4194304 ≤ eo := by rcases hv.fm with ⟨_, h2⟩ | ⟨_, h2, h3⟩ <;> omega
  obtain ⟨Z, h1, h2, h3, -⟩ := rnp_is jn_32 zo eo he
  refine ⟨_, _, hp hv, fun w => (hd w).mono fun en w' ⟨⟨Y, h5, h6⟩, h7⟩ => ⟨?_, h7⟩⟩
  rw [← vf_dN hv hq hm] at h6
  rw [h5, h6.uniq h2.trc, h3, hs, ← vf_sg hv h0]
  by_cases h8 : zo < 0 <;> simp [h8]
theorem narrow_all {b : Nat} (hb : b < B64) : NarB b := by
  rcases cls_of 4503599627370496 9218868437227405312 (b % 9223372036854775808) with ⟨h1, h2⟩ | ⟨h1, h2⟩ | ⟨h1, h2⟩ | ⟨h1, h2, h3⟩
  · exact ⟨_, _, narrow_c0 hb rfl h1, docnarrow_c0 rfl h1⟩
  · exact ⟨_, _, narrow_c3 hb rfl h1, docnarrow_c3 rfl h1⟩
  · exact ⟨_, _, narrow_c4 hb rfl h1, docnarrow_c4 rfl h1⟩
  · have hf : b % 9223372036854775808 < 9218868437227405312 := by omega
    rcases h1 with h1 | h1
    · exact nar_fin h2 hf rfl rfl rfl (fun hv w hT => narrow_c1 hb rfl h1 hv hf w hT) (docnarrow_c1 rfl h1 h2 rfl rfl hf)
    · exact nar_fin h2 hf rfl rfl rfl (fun hv w hT => narrow_c2 hb rfl h1 hv hf w hT) (docnarrow_c2 rfl h1 h2 rfl rfl hf)
theorem plays8_6 {pa pb : Option Addr} {na ca nb cb wd : Nat} {xa xb : List Nat} {w : World} {ff ea eb : Int} (sa sb : Bool) (ha : At w pa na ca xa) (hb : At w pb nb cb xb) (hn : na ≤ 17592186044416 ∧ nb ≤ 17592186044416 ∧ wd < B64) (hT : Tab w) :
    Calls Tryz.prog 24 #[(.agg #[.int .i64 6, .int .i64 ff, .bool sa, .slice pa na ca, .int .i64 ea, .bool sb, .slice pb nb cb, .int .i64 eb, U wd])] w fun en w' => en = .returned (.bool true) ∧ Below w.heap.size w w' := by
  have HA : Hid (At w pa na ca xa) := ha
  have HB : Hid (At w pb nb cb xb) := hb
  have HN : Hid (na ≤ 17592186044416 ∧ nb ≤ 17592186044416 ∧ wd < B64) := hn
  have TB : Hid (Tab w) := hT
  clear ha hb hn hT
  obtain ⟨v, er, h1, h2⟩ := narrow_all HN.out.2.2
  have H1 : Hid (∀ (w : World), Tab w → Calls Tryz.prog 7 #[U wd] w fun en w' => en = .returned (.tuple #[.int .u64 v, .int .i64 er]) ∧ Below w.heap.size w w') := h1
  have H2 : Hid (∀ (w : World), Calls Tryz.prog 57 #[U wd] w fun en w' => en = .returned (.tuple #[.int .u64 v, .int .i64 er]) ∧ Below w.heap.size w w') := h2
  have q0 : (v == v) = true := by simp
  have q1 : (er == er) = true := by simp
  clear h1 h2
  go_enter Tryz.func24, Tryz.ntmps24
  go_wp2_with fail
  obtain ⟨W0, hW0⟩ : ∃ W0, W0 = (w.alloc (.cells #[.int .i64 6, .int .i64 ff, .bool sa, .slice pa na ca, .int .i64 ea, .bool sb, .slice pb nb cb, .int .i64 eb, U wd] 59)) := ⟨_, rfl⟩
  have Xo : Hid (B9q W0 (w.heap.size) (.int .i64 6) (.int .i64 ff) (.bool sa) (.slice pa na ca) (.int .i64 ea) (.bool sb) (.slice pb nb cb) (.int .i64 eb) (U wd)) := by rw [hW0]; exact ⟨by go_simp, by go_simp, by go_simp, by go_simp, by go_simp, by go_simp, by go_simp, by go_simp, by go_simp, by go_simp, by go_simp, by go_simp, by go_simp, by go_simp, by go_simp, by go_simp, by go_simp, by go_simp⟩
  have hb0 : Below w.heap.size w W0 := by rw [hW0]; exact below1 w _
  rw [← hW0]
  clear hW0
  have hbw : Below w.heap.size w w := Below.refl _ _
  obtain ⟨go, hgo⟩ : ∃ g, g = w.heap.size := ⟨_, rfl⟩
  have HGo : Hid (w.heap.size ≤ go) := by rw [hgo]; show _ ≤ _; omega
  rw [← hgo] at Xo
  try rw [← hgo]
  clear hgo
  replace hbw := Below.on hbw hb0
  clear hb0
  obtain ⟨W1, hW1⟩ : ∃ W1, W1 = W0.drew := ⟨_, rfl⟩
  have hbd : Below W0.heap.size W0 W1 := by rw [hW1]; exact bDrew1 (Below.refl _ _)
  replace Xo : Hid (B9q W1 go (.int .i64 6) (.int .i64 ff) (.bool sa) (.slice pa na ca) (.int .i64 ea) (.bool sb) (.slice pb nb cb) (.int .i64 eb) (U wd)) := Xo.out.below hbd
  replace hbw := Below.on hbw hbd
  clear hbd
  have HJ : Hid ((fun W' : World => W'.cell? ⟨go, 0, none⟩ = some (.int .i64 6) ∧ W'.cell? ⟨go, 1, none⟩ = some (.int .i64 ff) ∧ W'.cell? ⟨go, 2, none⟩ = some (.bool sa) ∧ W'.cell? ⟨go, 3, none⟩ = some (.slice pa na ca) ∧ W'.cell? ⟨go, 4, none⟩ = some (.int .i64 ea) ∧ W'.cell? ⟨go, 5, none⟩ = some (.bool sb) ∧ W'.cell? ⟨go, 6, none⟩ = some (.slice pb nb cb) ∧ W'.cell? ⟨go, 7, none⟩ = some (.int .i64 eb) ∧ W'.cell? ⟨go, 8, none⟩ = some (U wd)) W1) := ⟨Xo.out.c0, Xo.out.c1, Xo.out.c2, Xo.out.c3, Xo.out.c4, Xo.out.c5, Xo.out.c6, Xo.out.c7, Xo.out.c8⟩
  refine wp_region_J (fun W' => W'.cell? ⟨go, 0, none⟩ = some (.int .i64 6) ∧ W'.cell? ⟨go, 1, none⟩ = some (.int .i64 ff) ∧ W'.cell? ⟨go, 2, none⟩ = some (.bool sa) ∧ W'.cell? ⟨go, 3, none⟩ = some (.slice pa na ca) ∧ W'.cell? ⟨go, 4, none⟩ = some (.int .i64 ea) ∧ W'.cell? ⟨go, 5, none⟩ = some (.bool sb) ∧ W'.cell? ⟨go, 6, none⟩ = some (.slice pb nb cb) ∧ W'.cell? ⟨go, 7, none⟩ = some (.int .i64 eb) ∧ W'.cell? ⟨go, 8, none⟩ = some (U wd)) (by kernel_rfl) ?_
  rw [← hW1]
  clear hW1
  refine wpJ_tq 0 rfl HJ.out ?_
  refine wpJ_tq 2 rfl HJ.out ?_
  refine wpJ_tq 3 rfl HJ.out ?_
  go_simp
  refine wpJ_nodes5 fun WP hWP L0 a0 hL ha => ?_
  have N1_4 : ∀ (ga : Nat) (gb : Nat) (gt : Nat) (W' : World), (B9q W' go (.int .i64 6) (.int .i64 ff) (.bool sa) (.slice pa na ca) (.int .i64 ea) (.bool sb) (.slice pb nb cb) (.int .i64 eb) (U wd)) ∧ (Below w.heap.size w W') ∧ (At W' (some ⟨ga, 0, none⟩) na na xa) ∧ (At W' (some ⟨gb, 0, none⟩) nb nb xb) ∧ (B9q W' gt (.int .i64 0) (.int .i64 0) (.bool false) (.slice none 0 0) (.int .i64 0) (.bool false) (.slice none 0 0) (.int .i64 0) (.int .u64 0)) ∧ (w.heap.size ≤ gt) ∧ (go ≠ gt) ∧ (na = 0 ∨ ga ≠ gt) ∧ (nb = 0 ∨ gb ≠ gt) → WP 2 ((L0.setIfInBounds 1 true).setIfInBounds 4 true) ((a0.put (some 34) (.agg #[.int .i64 6, .int .i64 ff, .bool sa, .slice (some ⟨ga, 0, none⟩) na na, .int .i64 ea, .bool sb, .slice (some ⟨gb, 0, none⟩) nb nb, .int .i64 eb, U wd])).put (some 3) (.pointer (some ⟨gt, 0, none⟩))) W' := by
    rintro ga gb gt W' ⟨xo, hbw, ta, tb, xt, ht, nt, oa, ob⟩
    subst hWP hL ha
    have Hxo := Hid.mk5 xo
    have Hta := Hid.mk5 ta
    have Htb := Hid.mk5 tb
    have Hxt := Hid.mk5 xt
    have Hht := Hid.mk5 ht
    have Hnt := Hid.mk5 nt
    have Hoa := Hid.mk5 oa
    have Hob := Hid.mk5 ob
    clear xo ta tb xt ht nt oa ob
    go_simp
    have Xo := Hxo
    have Xt := Hxt
    clear Hxo Hxt
    have q1 := Hnt.out
    have q1' := Ne.symm q1
    have HJ : Hid ((fun W' : World => W'.cell? ⟨go, 0, none⟩ = some (.int .i64 6) ∧ W'.cell? ⟨go, 1, none⟩ = some (.int .i64 ff) ∧ W'.cell? ⟨go, 2, none⟩ = some (.bool sa) ∧ W'.cell? ⟨go, 3, none⟩ = some (.slice pa na ca) ∧ W'.cell? ⟨go, 4, none⟩ = some (.int .i64 ea) ∧ W'.cell? ⟨go, 5, none⟩ = some (.bool sb) ∧ W'.cell? ⟨go, 6, none⟩ = some (.slice pb nb cb) ∧ W'.cell? ⟨go, 7, none⟩ = some (.int .i64 eb) ∧ W'.cell? ⟨go, 8, none⟩ = some (U wd)) W') := ⟨Xo.out.c0, Xo.out.c1, Xo.out.c2, Xo.out.c3, Xo.out.c4, Xo.out.c5, Xo.out.c6, Xo.out.c7, Xo.out.c8⟩
    obtain ⟨co0, co1, co2, co3, co4, co5, co6, co7, co8, fo0, fo1, fo2, fo3, fo4, fo5, fo6, fo7, fo8⟩ := Xo.out
    have hneo : go < W'.heap.size := World.block_lt_of_cell? W' _ co0
    obtain ⟨ct0, ct1, ct2, ct3, ct4, ct5, ct6, ct7, ct8, ft0, ft1, ft2, ft3, ft4, ft5, ft6, ft7, ft8⟩ := Xt.out
    have hnet : gt < W'.heap.size := World.block_lt_of_cell? W' _ ct0
    refine wpJ_on 5 rfl fun KJ hK => ?_
    go_simp
    have Yo : Hid (B9q (((((((((W'.setCell ⟨gt, 0, none⟩ (.int .i64 6)).setCell ⟨gt, 1, none⟩ (.int .i64 ff)).setCell ⟨gt, 2, none⟩ (.bool sa)).setCell ⟨gt, 3, none⟩ (.slice (some ⟨ga, 0, none⟩) na na)).setCell ⟨gt, 4, none⟩ (.int .i64 ea)).setCell ⟨gt, 5, none⟩ (.bool sb)).setCell ⟨gt, 6, none⟩ (.slice (some ⟨gb, 0, none⟩) nb nb)).setCell ⟨gt, 7, none⟩ (.int .i64 eb)).setCell ⟨gt, 8, none⟩ (U wd)) go (.int .i64 6) (.int .i64 ff) (.bool sa) (.slice pa na ca) (.int .i64 ea) (.bool sb) (.slice pb nb cb) (.int .i64 eb) (U wd)) := ⟨by go_simp, by go_simp, by go_simp, by go_simp, by go_simp, by go_simp, by go_simp, by go_simp, by go_simp, by go_simp, by go_simp, by go_simp, by go_simp, by go_simp, by go_simp, by go_simp, by go_simp, by go_simp⟩
    clear co0 co1 co2 co3 co4 co5 co6 co7 co8 fo0 fo1 fo2 fo3 fo4 fo5 fo6 fo7 fo8 hneo
    clear ct0 ct1 ct2 ct3 ct4 ct5 ct6 ct7 ct8 ft0 ft1 ft2 ft3 ft4 ft5 ft6 ft7 ft8 hnet
    have Yt : Hid (B9q (((((((((W'.setCell ⟨gt, 0, none⟩ (.int .i64 6)).setCell ⟨gt, 1, none⟩ (.int .i64 ff)).setCell ⟨gt, 2, none⟩ (.bool sa)).setCell ⟨gt, 3, none⟩ (.slice (some ⟨ga, 0, none⟩) na na)).setCell ⟨gt, 4, none⟩ (.int .i64 ea)).setCell ⟨gt, 5, none⟩ (.bool sb)).setCell ⟨gt, 6, none⟩ (.slice (some ⟨gb, 0, none⟩) nb nb)).setCell ⟨gt, 7, none⟩ (.int .i64 eb)).setCell ⟨gt, 8, none⟩ (U wd)) gt (.int .i64 6) (.int .i64 ff) (.bool sa) (.slice (some ⟨ga, 0, none⟩) na na) (.int .i64 ea) (.bool sb) (.slice (some ⟨gb, 0, none⟩) nb nb) (.int .i64 eb) (U wd)) := Xt.out.set9
    have TA : Hid (At (((((((((W'.setCell ⟨gt, 0, none⟩ (.int .i64 6)).setCell ⟨gt, 1, none⟩ (.int .i64 ff)).setCell ⟨gt, 2, none⟩ (.bool sa)).setCell ⟨gt, 3, none⟩ (.slice (some ⟨ga, 0, none⟩) na na)).setCell ⟨gt, 4, none⟩ (.int .i64 ea)).setCell ⟨gt, 5, none⟩ (.bool sb)).setCell ⟨gt, 6, none⟩ (.slice (some ⟨gb, 0, none⟩) nb nb)).setCell ⟨gt, 7, none⟩ (.int .i64 eb)).setCell ⟨gt, 8, none⟩ (U wd)) (some ⟨ga, 0, none⟩) na na xa) := (at_set9 (at_set9 (at_set9 (at_set9 (at_set9 (at_set9 (at_set9 (at_set9 (at_set9 Hta.out _ _ _ Hoa.out) _ _ _ Hoa.out) _ _ _ Hoa.out) _ _ _ Hoa.out) _ _ _ Hoa.out) _ _ _ Hoa.out) _ _ _ Hoa.out) _ _ _ Hoa.out) _ _ _ Hoa.out)
    have TC : Hid (At (((((((((W'.setCell ⟨gt, 0, none⟩ (.int .i64 6)).setCell ⟨gt, 1, none⟩ (.int .i64 ff)).setCell ⟨gt, 2, none⟩ (.bool sa)).setCell ⟨gt, 3, none⟩ (.slice (some ⟨ga, 0, none⟩) na na)).setCell ⟨gt, 4, none⟩ (.int .i64 ea)).setCell ⟨gt, 5, none⟩ (.bool sb)).setCell ⟨gt, 6, none⟩ (.slice (some ⟨gb, 0, none⟩) nb nb)).setCell ⟨gt, 7, none⟩ (.int .i64 eb)).setCell ⟨gt, 8, none⟩ (U wd)) (some ⟨gb, 0, none⟩) nb nb xb) := (at_set9 (at_set9 (at_set9 (at_set9 (at_set9 (at_set9 (at_set9 (at_set9 (at_set9 Htb.out _ _ _ Hob.out) _ _ _ Hob.out) _ _ _ Hob.out) _ _ _ Hob.out) _ _ _ Hob.out) _ _ _ Hob.out) _ _ _ Hob.out) _ _ _ Hob.out) _ _ _ Hob.out)
    have HJ2 : Hid ((fun W' : World => W'.cell? ⟨go, 0, none⟩ = some (.int .i64 6) ∧ W'.cell? ⟨go, 1, none⟩ = some (.int .i64 ff) ∧ W'.cell? ⟨go, 2, none⟩ = some (.bool sa) ∧ W'.cell? ⟨go, 3, none⟩ = some (.slice pa na ca) ∧ W'.cell? ⟨go, 4, none⟩ = some (.int .i64 ea) ∧ W'.cell? ⟨go, 5, none⟩ = some (.bool sb) ∧ W'.cell? ⟨go, 6, none⟩ = some (.slice pb nb cb) ∧ W'.cell? ⟨go, 7, none⟩ = some (.int .i64 eb) ∧ W'.cell? ⟨go, 8, none⟩ = some (U wd)) (((((((((W'.setCell ⟨gt, 0, none⟩ (.int .i64 6)).setCell ⟨gt, 1, none⟩ (.int .i64 ff)).setCell ⟨gt, 2, none⟩ (.bool sa)).setCell ⟨gt, 3, none⟩ (.slice (some ⟨ga, 0, none⟩) na na)).setCell ⟨gt, 4, none⟩ (.int .i64 ea)).setCell ⟨gt, 5, none⟩ (.bool sb)).setCell ⟨gt, 6, none⟩ (.slice (some ⟨gb, 0, none⟩) nb nb)).setCell ⟨gt, 7, none⟩ (.int .i64 eb)).setCell ⟨gt, 8, none⟩ (U wd))) := ⟨Yo.out.c0, Yo.out.c1, Yo.out.c2, Yo.out.c3, Yo.out.c4, Yo.out.c5, Yo.out.c6, Yo.out.c7, Yo.out.c8⟩
    have hbw2 : Below w.heap.size w (((((((((W'.setCell ⟨gt, 0, none⟩ (.int .i64 6)).setCell ⟨gt, 1, none⟩ (.int .i64 ff)).setCell ⟨gt, 2, none⟩ (.bool sa)).setCell ⟨gt, 3, none⟩ (.slice (some ⟨ga, 0, none⟩) na na)).setCell ⟨gt, 4, none⟩ (.int .i64 ea)).setCell ⟨gt, 5, none⟩ (.bool sb)).setCell ⟨gt, 6, none⟩ (.slice (some ⟨gb, 0, none⟩) nb nb)).setCell ⟨gt, 7, none⟩ (.int .i64 eb)).setCell ⟨gt, 8, none⟩ (U wd)) := below_set9 hbw Hht.out
    refine hK _ _ HJ2.out ?_
    clear hK HJ
    have HJ := HJ2
    clear HJ2
    clear Hta Htb hbw Xo Xt
    have Xo := Yo
    have Xt := Yt
    have hbw := hbw2
    clear hbw2 Yo Yt
    generalize (((((((((W'.setCell ⟨gt, 0, none⟩ (.int .i64 6)).setCell ⟨gt, 1, none⟩ (.int .i64 ff)).setCell ⟨gt, 2, none⟩ (.bool sa)).setCell ⟨gt, 3, none⟩ (.slice (some ⟨ga, 0, none⟩) na na)).setCell ⟨gt, 4, none⟩ (.int .i64 ea)).setCell ⟨gt, 5, none⟩ (.bool sb)).setCell ⟨gt, 6, none⟩ (.slice (some ⟨gb, 0, none⟩) nb nb)).setCell ⟨gt, 7, none⟩ (.int .i64 eb)).setCell ⟨gt, 8, none⟩ (U wd)) = V9 at *
    refine wpJ_tq 6 rfl HJ.out ?_
    refine wpJ_done (by kernel_rfl) ?_ _
    clear HJ
    obtain ⟨co0, co1, co2, co3, co4, co5, co6, co7, co8, fo0, fo1, fo2, fo3, fo4, fo5, fo6, fo7, fo8⟩ := Xo.out
    have hneo : go < V9.heap.size := World.block_lt_of_cell? V9 _ co0
    obtain ⟨ct0, ct1, ct2, ct3, ct4, ct5, ct6, ct7, ct8, ft0, ft1, ft2, ft3, ft4, ft5, ft6, ft7, ft8⟩ := Xt.out
    have hnet : gt < V9.heap.size := World.block_lt_of_cell? V9 _ ct0
    go_wp2_with fail
    clear co0 co1 co2 co3 co4 co5 co6 co7 co8 fo0 fo1 fo2 fo3 fo4 fo5 fo6 fo7 fo8 hneo
    clear ct0 ct1 ct2 ct3 ct4 ct5 ct6 ct7 ct8 ft0 ft1 ft2 ft3 ft4 ft5 ft6 ft7 ft8 hnet
    refine (H1.out _ (TB.out.below hbw)).mono ?_
    rintro e v2 ⟨rfl, hb2⟩
    replace Xo : Hid (B9q v2 go (.int .i64 6) (.int .i64 ff) (.bool sa) (.slice pa na ca) (.int .i64 ea) (.bool sb) (.slice pb nb cb) (.int .i64 eb) (U wd)) := Xo.out.below hb2
    replace Xt : Hid (B9q v2 gt (.int .i64 6) (.int .i64 ff) (.bool sa) (.slice (some ⟨ga, 0, none⟩) na na) (.int .i64 ea) (.bool sb) (.slice (some ⟨gb, 0, none⟩) nb nb) (.int .i64 eb) (U wd)) := Xt.out.below hb2
    replace TA : Hid _ := TA.out.below hb2
    replace TC : Hid _ := TC.out.below hb2
    replace hbw := Below.on hbw hb2
    clear hb2
    obtain ⟨co0, co1, co2, co3, co4, co5, co6, co7, co8, fo0, fo1, fo2, fo3, fo4, fo5, fo6, fo7, fo8⟩ := Xo.out
    have hneo : go < v2.heap.size := World.block_lt_of_cell? v2 _ co0
    go_wp2_with fail
    clear co0 co1 co2 co3 co4 co5 co6 co7 co8 fo0 fo1 fo2 fo3 fo4 fo5 fo6 fo7 fo8 hneo
    refine (H2.out _).mono ?_
    rintro e v3 ⟨rfl, hb3⟩
    replace Xo : Hid (B9q v3 go (.int .i64 6) (.int .i64 ff) (.bool sa) (.slice pa na ca) (.int .i64 ea) (.bool sb) (.slice pb nb cb) (.int .i64 eb) (U wd)) := Xo.out.below hb3
    replace Xt : Hid (B9q v3 gt (.int .i64 6) (.int .i64 ff) (.bool sa) (.slice (some ⟨ga, 0, none⟩) na na) (.int .i64 ea) (.bool sb) (.slice (some ⟨gb, 0, none⟩) nb nb) (.int .i64 eb) (U wd)) := Xt.out.below hb3
    replace TA : Hid _ := TA.out.below hb3
    replace TC : Hid _ := TC.out.below hb3
    replace hbw := Below.on hbw hb3
    clear hb3
    obtain ⟨co0, co1, co2, co3, co4, co5, co6, co7, co8, fo0, fo1, fo2, fo3, fo4, fo5, fo6, fo7, fo8⟩ := Xo.out
    have hneo : go < v3.heap.size := World.block_lt_of_cell? v3 _ co0
    go_wp2_with fail
    clear co0 co1 co2 co3 co4 co5 co6 co7 co8 fo0 fo1 fo2 fo3 fo4 fo5 fo6 fo7 fo8 hneo
    go_ret
    exact ⟨rfl, hbw⟩
  have N1 : ∀ (ga : Nat) (gb : Nat) (W' : World), (B9q W' go (.int .i64 6) (.int .i64 ff) (.bool sa) (.slice pa na ca) (.int .i64 ea) (.bool sb) (.slice pb nb cb) (.int .i64 eb) (U wd)) ∧ (Below w.heap.size w W') ∧ (At W' (some ⟨ga, 0, none⟩) na na xa) ∧ (At W' (some ⟨gb, 0, none⟩) nb nb xb) → WP 3 (L0.setIfInBounds 1 true) (a0.put (some 34) (.agg #[.int .i64 6, .int .i64 ff, .bool sa, .slice (some ⟨ga, 0, none⟩) na na, .int .i64 ea, .bool sb, .slice (some ⟨gb, 0, none⟩) nb nb, .int .i64 eb, U wd])) W' := by
    rintro ga gb W' ⟨xo, hbw, ta, tb⟩
    subst hWP hL ha
    have Hxo := Hid.mk5 xo
    have Hta := Hid.mk5 ta
    have Htb := Hid.mk5 tb
    clear xo ta tb
    go_simp
    refine wpJ_on 4 rfl fun KJ hK => ?_
    go_simp
    have hb := below1 W' (.cells #[.int .i64 0, .int .i64 0, .bool false, .slice none 0 0, .int .i64 0, .bool false, .slice none 0 0, .int .i64 0, .int .u64 0] 59)
    refine hK _ _ ⟨(Hxo.out.below hb).c0, (Hxo.out.below hb).c1, (Hxo.out.below hb).c2, (Hxo.out.below hb).c3, (Hxo.out.below hb).c4, (Hxo.out.below hb).c5, (Hxo.out.below hb).c6, (Hxo.out.below hb).c7, (Hxo.out.below hb).c8⟩ ?_
    exact wpJ_same5 (by kernel_rfl) (by kernel_rfl) (N1_4 ga gb W'.heap.size _ ⟨(Hxo.out.below hb), (Below.on hbw hb), (Hta.out.below hb), (Htb.out.below hb), (B9q.new W' _ _ _ _ _ _ _ _ _ _), hbw.size, (Nat.ne_of_lt Hxo.out.lt), ((at_blk9 Hta.out).imp id Nat.ne_of_lt), ((at_blk9 Htb.out).imp id Nat.ne_of_lt)⟩)
  have N4 : ∀ (gt : Nat) (W' : World), (B9q W' go (.int .i64 6) (.int .i64 ff) (.bool sa) (.slice pa na ca) (.int .i64 ea) (.bool sb) (.slice pb nb cb) (.int .i64 eb) (U wd)) ∧ (Below w.heap.size w W') ∧ (B9q W' gt (.int .i64 0) (.int .i64 0) (.bool false) (.slice none 0 0) (.int .i64 0) (.bool false) (.slice none 0 0) (.int .i64 0) (.int .u64 0)) ∧ (w.heap.size ≤ gt) ∧ (go ≠ gt) → WP 3 (L0.setIfInBounds 4 true) (a0.put (some 3) (.pointer (some ⟨gt, 0, none⟩))) W' := by
    rintro gt W' ⟨xo, hbw, xt, ht, nt⟩
    subst hWP hL ha
    have Hxo := Hid.mk5 xo
    have Hxt := Hid.mk5 xt
    have Hht := Hid.mk5 ht
    have Hnt := Hid.mk5 nt
    clear xo xt ht nt
    go_simp
    refine wpJ_on 1 rfl fun KJ hK => ?_
    go_simp
    refine (twin8 sa sb (HA.out.below hbw) (HB.out.below hbw) ⟨HN.out.1, HN.out.2.1⟩).mono ?_
    rintro e9 W2 ⟨ga, gb, rfl, hga, hgb, hta, htb, hb⟩
    refine hK _ _ ⟨(Hxo.out.below hb).c0, (Hxo.out.below hb).c1, (Hxo.out.below hb).c2, (Hxo.out.below hb).c3, (Hxo.out.below hb).c4, (Hxo.out.below hb).c5, (Hxo.out.below hb).c6, (Hxo.out.below hb).c7, (Hxo.out.below hb).c8⟩ ?_
    exact wpJ_same5 (by kernel_rfl) (by kernel_rfl) (N1_4 ga gb gt W2 ⟨(Hxo.out.below hb), (Below.on hbw hb), hta, htb, (Hxt.out.below hb), Hht.out, Hnt.out, (.inr (Nat.ne_of_gt (Nat.lt_of_lt_of_le Hxt.out.lt hga))), (.inr (Nat.ne_of_gt (Nat.lt_of_lt_of_le Hxt.out.lt hgb)))⟩)
  have N_ : ∀ (W' : World), (B9q W' go (.int .i64 6) (.int .i64 ff) (.bool sa) (.slice pa na ca) (.int .i64 ea) (.bool sb) (.slice pb nb cb) (.int .i64 eb) (U wd)) ∧ (Below w.heap.size w W') → WP 4 L0 a0 W' := by
    rintro  W' ⟨xo, hbw⟩
    subst hWP hL ha
    have Hxo := Hid.mk5 xo
    clear xo
    go_simp
    refine wpJ_two (i := 1) (k := 4) (by kernel_rfl) rfl rfl (by kernel_rfl) (by kernel_rfl) (fun KJ hK => ?_) (fun KJ hK => ?_)
    · go_simp
      refine (twin8 sa sb (HA.out.below hbw) (HB.out.below hbw) ⟨HN.out.1, HN.out.2.1⟩).mono ?_
      rintro e9 W2 ⟨ga, gb, rfl, hga, hgb, hta, htb, hb⟩
      refine hK _ _ ⟨(Hxo.out.below hb).c0, (Hxo.out.below hb).c1, (Hxo.out.below hb).c2, (Hxo.out.below hb).c3, (Hxo.out.below hb).c4, (Hxo.out.below hb).c5, (Hxo.out.below hb).c6, (Hxo.out.below hb).c7, (Hxo.out.below hb).c8⟩ ?_
      exact wpJ_same5 (by kernel_rfl) (by kernel_rfl) (N1 ga gb W2 ⟨(Hxo.out.below hb), (Below.on hbw hb), hta, htb⟩)
    · go_simp
      have hb := below1 W' (.cells #[.int .i64 0, .int .i64 0, .bool false, .slice none 0 0, .int .i64 0, .bool false, .slice none 0 0, .int .i64 0, .int .u64 0] 59)
      refine hK _ _ ⟨(Hxo.out.below hb).c0, (Hxo.out.below hb).c1, (Hxo.out.below hb).c2, (Hxo.out.below hb).c3, (Hxo.out.below hb).c4, (Hxo.out.below hb).c5, (Hxo.out.below hb).c6, (Hxo.out.below hb).c7, (Hxo.out.below hb).c8⟩ ?_
      exact wpJ_same5 (by kernel_rfl) (by kernel_rfl) (N4 W'.heap.size _ ⟨(Hxo.out.below hb), (Below.on hbw hb), (B9q.new W' _ _ _ _ _ _ _ _ _ _), hbw.size, (Nat.ne_of_lt Hxo.out.lt)⟩)
  exact N_ W1 ⟨Xo.out, hbw⟩
theorem vf_lit8 {b q man : Nat} {zo eo : Int} (hb : b < 9218868437227405312) (hq : b / 4503599627370496 - 1 = q) (hm : b - q * 4503599627370496 = man) (hf : DFm zo eo) (hv : dv zo eo = dv (man : Int) (-1074 + (q : Int))) : VF 9223372036854775808 4503599627370496 (-1074) b zo eo := by
  have h1 : b % 9223372036854775808 = b := Nat.mod_eq_of_lt (by omega)
  obtain ⟨z1, e1, v1, v2⟩ := vf_ex (b := b) pm_64 (by omega)
  rw [h1, if_neg (by omega), hq, hm, ← hv] at v2
  obtain ⟨rfl, rfl⟩ := dv_inj v1.fm hf v2
  exact v1
theorem vf_aw : VF 9223372036854775808 4503599627370496 (-1074) 4609047870845172685 6369051672525773 (-52) := vf_lit8 (q := 1022) (man := 6369051672525773) (by decide) (by decide) (by decide) (.inr (by decide)) rfl
theorem roundNarrows_walk {P : Option Addr} {N C : Nat} {its : List Op9} {w : World} (h : Scr8 w P N C its) (hT : Tab w) :
    Calls Tryz.prog 3 #[.slice P N C] w fun en w' => en = .returned (.bool true) ∧ Below w.heap.size w w' := by
  have H : Hid (Scr8 w P N C its) := h
  have TB : Hid (Tab w) := hT
  have hbw : Below w.heap.size w w := Below.refl _ _
  clear h hT
  go_enter Tryz.func3, Tryz.ntmps3
  go_wp2_with fail
  have hs := narrow_c2 (b := 4609047870845172685) (by decide) rfl (by decide) vf_aw (by decide) w TB.out
  rw [show rnp (-149) 23 128 2147483648 2139095040 6369051672525773 (-52) = 1068827891 from by decide +kernel] at hs
  refine Calls.mono hs ?_
  clear hs
  rintro e9 v1 ⟨rfl, hb1⟩
  replace hbw := Below.on hbw hb1
  clear hb1
  go_wp2_with fail
  refine (all8 (H.out.below hbw) (TB.out.below hbw) ?_).mono ?_
  · intro k h5 h9 pa pb na ca nb cb wd xa xb w ff ea eb sa sb ha hb hn hT
    obtain rfl : k = 6 := by omega
    exact plays8_6 sa sb ha hb hn hT
  rintro e w9 ⟨rfl, hb9⟩
  replace hbw := Below.on hbw hb9
  clear hb9
  go_wp2_with fail
  go_ret
  exact ⟨rfl, hbw⟩
end Go.Proofs.YtfmbifocgljieaaGreatDoor
