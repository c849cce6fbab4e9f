import Derived.Test.YtfmbifocgljieaaGreatDoorJ16
import Derived.Test.YtfmbifocgljieaaGreatDoorSmall
import Derived.Test.YtfmbifocgljieaaGreatDoorJ12
import Derived.Deep.LoopGhost
import Derived.Test.YtfmbifocgljieaaGreatDoorJ8
import Derived.Test.YtfmbifocgljieaaGreatDoorJ11
import Derived.Test.YtfmbifocgljieaaGreatDoorJ15
import Derived.Test.YtfmbifocgljieaaGreatDoorJ13
import Derived.Test.YtfmbifocgljieaaGreatDoorJ9
import Derived.Test.YtfmbifocgljieaaGreatDoorJ14
namespace Go.Proofs.YtfmbifocgljieaaGreatDoor
open Go.RowKit Go.Shelf
set_option maxRecDepth 20000
set_option maxHeartbeats 0
structure B10q (W : World) (g : Nat) (v0 v1 v2 v3 v4 v5 v6 v7 v8 v9 : Value) : Prop where
  c0 : W.cell? ⟨g, 0, none⟩ = some v0
  c1 : W.cell? ⟨g, 1, none⟩ = some v1
  c2 : W.cell? ⟨g, 2, none⟩ = some v2
  c3 : W.cell? ⟨g, 3, none⟩ = some v3
  c4 : W.cell? ⟨g, 4, none⟩ = some v4
  c5 : W.cell? ⟨g, 5, none⟩ = some v5
  c6 : W.cell? ⟨g, 6, none⟩ = some v6
  c7 : W.cell? ⟨g, 7, none⟩ = some v7
  c8 : W.cell? ⟨g, 8, none⟩ = some v8
  c9 : W.cell? ⟨g, 9, none⟩ = some v9
  f0 : W.frozen? ⟨g, 0, none⟩ = false
  f1 : W.frozen? ⟨g, 1, none⟩ = false
  f2 : W.frozen? ⟨g, 2, none⟩ = false
  f3 : W.frozen? ⟨g, 3, none⟩ = false
  f4 : W.frozen? ⟨g, 4, none⟩ = false
  f5 : W.frozen? ⟨g, 5, none⟩ = false
  f6 : W.frozen? ⟨g, 6, none⟩ = false
  f7 : W.frozen? ⟨g, 7, none⟩ = false
  f8 : W.frozen? ⟨g, 8, none⟩ = false
  f9 : W.frozen? ⟨g, 9, none⟩ = false
theorem B10q.lt {w : World} {g : Nat} {v0 v1 v2 v3 v4 v5 v6 v7 v8 v9 : Value} (h : B10q w g v0 v1 v2 v3 v4 v5 v6 v7 v8 v9) : g < w.heap.size := World.block_lt_of_cell? w _ h.c0
theorem B10q.below {W W' : World} {g : Nat} {v0 v1 v2 v3 v4 v5 v6 v7 v8 v9 : Value} (h : B10q W g v0 v1 v2 v3 v4 v5 v6 v7 v8 v9) (hb : Below W.heap.size W W') : B10q W' g v0 v1 v2 v3 v4 v5 v6 v7 v8 v9 := by
  have hl : g < W.heap.size := World.block_lt_of_cell? W _ h.c0
  exact ⟨(hb.cell (p := ⟨g, 0, none⟩) hl).trans h.c0, (hb.cell (p := ⟨g, 1, none⟩) hl).trans h.c1, (hb.cell (p := ⟨g, 2, none⟩) hl).trans h.c2, (hb.cell (p := ⟨g, 3, none⟩) hl).trans h.c3, (hb.cell (p := ⟨g, 4, none⟩) hl).trans h.c4, (hb.cell (p := ⟨g, 5, none⟩) hl).trans h.c5, (hb.cell (p := ⟨g, 6, none⟩) hl).trans h.c6, (hb.cell (p := ⟨g, 7, none⟩) hl).trans h.c7, (hb.cell (p := ⟨g, 8, none⟩) hl).trans h.c8, (hb.cell (p := ⟨g, 9, none⟩) hl).trans h.c9, (hb.frozen (p := ⟨g, 0, none⟩) hl).trans h.f0, (hb.frozen (p := ⟨g, 1, none⟩) hl).trans h.f1, (hb.frozen (p := ⟨g, 2, none⟩) hl).trans h.f2, (hb.frozen (p := ⟨g, 3, none⟩) hl).trans h.f3, (hb.frozen (p := ⟨g, 4, none⟩) hl).trans h.f4, (hb.frozen (p := ⟨g, 5, none⟩) hl).trans h.f5, (hb.frozen (p := ⟨g, 6, none⟩) hl).trans h.f6, (hb.frozen (p := ⟨g, 7, none⟩) hl).trans h.f7, (hb.frozen (p := ⟨g, 8, none⟩) hl).trans h.f8, (hb.frozen (p := ⟨g, 9, none⟩) hl).trans h.f9⟩
theorem B10q.new (w : World) (ty : TypeId) (v0 v1 v2 v3 v4 v5 v6 v7 v8 v9 : Value) : B10q (w.alloc (.cells #[v0, v1, v2, v3, v4, v5, v6, v7, v8, v9] ty)) w.heap.size v0 v1 v2 v3 v4 v5 v6 v7 v8 v9 := ⟨by go_simp, by go_simp, by go_simp, by go_simp, by go_simp, by go_simp, by go_simp, by go_simp, by go_simp, by go_simp, by go_simp, by go_simp, by go_simp, by go_simp, by go_simp, by go_simp, by go_simp, by go_simp, by go_simp, by go_simp⟩
theorem twinD {p : Option Addr} {m c : Nat} {xs : List Nat} {w : World} {e : Int} (s : Bool) (h : At w p m c xs) (hm : m ≤ 17592186044416) :
    Calls Tryz.prog 83 #[DV s p m c e] w fun en w' => ∃ g, en = .returned (DV s (some ⟨g, 0, none⟩) m m e) ∧ w.heap.size ≤ g ∧ At w' (some ⟨g, 0, none⟩) m m xs ∧ Below w.heap.size w w' := by
  have H : Hid (At w p m c xs) := h
  have HM : Hid (m ≤ 17592186044416) := hm
  clear h hm
  go_enter Tryz.func83, Tryz.ntmps83
  go_wp2_with fail
  obtain ⟨W0, hW0⟩ : ∃ W0, W0 = ((w.alloc (.cells #[.bool s, .slice p m c, .int .i64 e] 33)).alloc (.cells #[.bool false, .slice none 0 0, .int .i64 0] 33)) := ⟨_, rfl⟩
  have Xd : Hid (B3q W0 (w.heap.size) (.bool s) (.slice p m c) (.int .i64 e)) := by rw [hW0]; exact ⟨by go_simp, by go_simp, by go_simp, by go_simp, by go_simp, by go_simp⟩
  have Xr : Hid (B3q W0 (w.heap.size + 1) (.bool false) (.slice none 0 0) (.int .i64 0)) := by rw [hW0]; exact ⟨by go_simp, by go_simp, by go_simp, by go_simp, by go_simp, by go_simp⟩
  have hb0 : Below w.heap.size w W0 := by rw [hW0]; exact below2 w _ _
  rw [← hW0]
  clear hW0
  have hbw : Below w.heap.size w w := Below.refl _ _
  obtain ⟨gr, hgr⟩ : ∃ g, g = w.heap.size + 1 := ⟨_, rfl⟩
  have HGr : Hid (w.heap.size ≤ gr) := by rw [hgr]; show _ ≤ _; omega
  rw [← hgr] at Xr
  try rw [← hgr]
  obtain ⟨gd, hgd⟩ : ∃ g, g = w.heap.size := ⟨_, rfl⟩
  have HGd : Hid (w.heap.size ≤ gd) := by rw [hgd]; show _ ≤ _; omega
  rw [← hgd] at Xd
  try rw [← hgd]
  have HGD : Hid (gd ≠ gr ∧ gr ≠ gd) := by rw [hgd, hgr]; exact ⟨by omega, by omega⟩
  clear hgd hgr
  replace H : Hid _ := H.out.below hb0
  replace hbw := Below.on hbw hb0
  clear hb0
  obtain ⟨W1, hW1⟩ : ∃ W1, W1 = W0.drew := ⟨_, rfl⟩
  have hbd : Below W0.heap.size W0 W1 := by rw [hW1]; exact bDrew1 (Below.refl _ _)
  replace Xd : Hid _ := Xd.out.below hbd
  replace Xr : Hid _ := Xr.out.below hbd
  replace H : Hid _ := H.out.below hbd
  replace hbw := Below.on hbw hbd
  clear hbd
  have HJ : Hid ((fun W' : World => W'.cell? ⟨gd, 0, none⟩ = some (.bool s) ∧ W'.cell? ⟨gd, 1, none⟩ = some (.slice p m c) ∧ W'.cell? ⟨gd, 2, none⟩ = some (.int .i64 e)) W1) := ⟨Xd.out.c0, Xd.out.c1, Xd.out.c2⟩
  refine wp_region_J (fun W' => W'.cell? ⟨gd, 0, none⟩ = some (.bool s) ∧ W'.cell? ⟨gd, 1, none⟩ = some (.slice p m c) ∧ W'.cell? ⟨gd, 2, none⟩ = some (.int .i64 e)) (by kernel_rfl) ?_
  rw [← hW1]
  clear hW1
  refine wpJ_tq 0 rfl HJ.out ?_
  refine wpJ_tq 1 rfl HJ.out ?_
  refine wpJ_tq 2 rfl HJ.out ?_
  refine wpJ_tq 3 rfl HJ.out ?_
  refine wpJ_tq 4 rfl HJ.out ?_
  refine wpJ_tq 5 rfl HJ.out ?_
  refine wpJ_tq 8 rfl HJ.out ?_
  refine wpJ_tq 9 rfl HJ.out ?_
  refine wpJ_on 6 rfl fun KJ hK => ?_
  go_simp
  refine (twin_any H.out (by have := HM.out; omega)).mono ?_
  rintro e2 w2 ⟨g2, rfl, hg2, hblk2, hb2⟩
  have HRL : Hid (gr < g2 ∧ w.heap.size ≤ g2) := ⟨Nat.lt_of_lt_of_le Xr.out.lt hg2, Nat.le_trans hbw.size hg2⟩
  have hA2 := hblk2.at_ H.out.dig H.out.len (by have := HM.out; unfold maxLen; omega)
  replace Xd : Hid _ := Xd.out.below hb2
  replace Xr : Hid _ := Xr.out.below hb2
  replace H : Hid _ := H.out.below hb2
  replace hbw := Below.on hbw hb2
  clear hb2
  have A2 : Hid (At w2 (some ⟨g2, 0, none⟩) m m xs) := hA2
  clear hg2 hblk2 hA2
  clear HJ
  have HJ : Hid ((fun W' : World => W'.cell? ⟨gd, 0, none⟩ = some (.bool s) ∧ W'.cell? ⟨gd, 1, none⟩ = some (.slice p m c) ∧ W'.cell? ⟨gd, 2, none⟩ = some (.int .i64 e)) w2) := ⟨Xd.out.c0, Xd.out.c1, Xd.out.c2⟩
  refine hK _ _ HJ.out ?_
  clear hK
  refine wpJ_tq 7 rfl HJ.out ?_
  refine wpJ_tq 10 rfl HJ.out ?_
  obtain ⟨cr0, cr1, cr2, fr0, fr1, fr2⟩ := Xr.out
  have hner : gr < w2.heap.size := World.block_lt_of_cell? w2 _ cr0
  obtain ⟨cd0, cd1, cd2, fd0, fd1, fd2⟩ := Xd.out
  have hned : gd < w2.heap.size := World.block_lt_of_cell? w2 _ cd0
  obtain ⟨hgd0, hgd1⟩ := HGD.out
  refine wpJ_on 11 rfl fun KJ hK => ?_
  go_simp
  have HJ2 : Hid ((fun W' : World => W'.cell? ⟨gd, 0, none⟩ = some (.bool s) ∧ W'.cell? ⟨gd, 1, none⟩ = some (.slice p m c) ∧ W'.cell? ⟨gd, 2, none⟩ = some (.int .i64 e)) (((w2.setCell ⟨gr, 0, none⟩ (.bool s)).setCell ⟨gr, 1, none⟩ (.slice (some ⟨g2, 0, none⟩) m m)).setCell ⟨gr, 2, none⟩ (.int .i64 e))) := ⟨by go_simp, by go_simp, by go_simp⟩
  refine hK _ _ HJ2.out ?_
  clear hK HJ
  have HJ := HJ2
  clear HJ2
  refine wpJ_done (by kernel_rfl) ?_ _
  clear HJ
  go_wp2_with fail
  refine bodyPost_ret (v := DV s (some ⟨g2, 0, none⟩) m m e) (by rw [results_cell1 rfl]; go_simp) rfl ⟨g2, rfl, HRL.out.2, ?_, ?_⟩
  · have := HRL.out.1
    exact ((A2.out.setOther _ _ _ (by omega)).setOther _ _ _ (by omega)).setOther _ _ _ (by omega)
  · exact bSet (bSet (bSet hbw _ _ _ HGr.out) _ _ _ HGr.out) _ _ _ HGr.out
structure B9q (W : World) (g : Nat) (v0 v1 v2 v3 v4 v5 v6 v7 v8 : Value) : Prop where
  c0 : W.cell? ⟨g, 0, none⟩ = some v0
  c1 : W.cell? ⟨g, 1, none⟩ = some v1
  c2 : W.cell? ⟨g, 2, none⟩ = some v2
  c3 : W.cell? ⟨g, 3, none⟩ = some v3
  c4 : W.cell? ⟨g, 4, none⟩ = some v4
  c5 : W.cell? ⟨g, 5, none⟩ = some v5
  c6 : W.cell? ⟨g, 6, none⟩ = some v6
  c7 : W.cell? ⟨g, 7, none⟩ = some v7
  c8 : W.cell? ⟨g, 8, none⟩ = some v8
  f0 : W.frozen? ⟨g, 0, none⟩ = false
  f1 : W.frozen? ⟨g, 1, none⟩ = false
  f2 : W.frozen? ⟨g, 2, none⟩ = false
  f3 : W.frozen? ⟨g, 3, none⟩ = false
  f4 : W.frozen? ⟨g, 4, none⟩ = false
  f5 : W.frozen? ⟨g, 5, none⟩ = false
  f6 : W.frozen? ⟨g, 6, none⟩ = false
  f7 : W.frozen? ⟨g, 7, none⟩ = false
  f8 : W.frozen? ⟨g, 8, none⟩ = false
theorem B9q.lt {w : World} {g : Nat} {v0 v1 v2 v3 v4 v5 v6 v7 v8 : Value} (h : B9q w g v0 v1 v2 v3 v4 v5 v6 v7 v8) : g < w.heap.size := World.block_lt_of_cell? w _ h.c0
theorem B9q.below {W W' : World} {g : Nat} {v0 v1 v2 v3 v4 v5 v6 v7 v8 : Value} (h : B9q W g v0 v1 v2 v3 v4 v5 v6 v7 v8) (hb : Below W.heap.size W W') : B9q W' g v0 v1 v2 v3 v4 v5 v6 v7 v8 := by
  have hl : g < W.heap.size := World.block_lt_of_cell? W _ h.c0
  exact ⟨(hb.cell (p := ⟨g, 0, none⟩) hl).trans h.c0, (hb.cell (p := ⟨g, 1, none⟩) hl).trans h.c1, (hb.cell (p := ⟨g, 2, none⟩) hl).trans h.c2, (hb.cell (p := ⟨g, 3, none⟩) hl).trans h.c3, (hb.cell (p := ⟨g, 4, none⟩) hl).trans h.c4, (hb.cell (p := ⟨g, 5, none⟩) hl).trans h.c5, (hb.cell (p := ⟨g, 6, none⟩) hl).trans h.c6, (hb.cell (p := ⟨g, 7, none⟩) hl).trans h.c7, (hb.cell (p := ⟨g, 8, none⟩) hl).trans h.c8, (hb.frozen (p := ⟨g, 0, none⟩) hl).trans h.f0, (hb.frozen (p := ⟨g, 1, none⟩) hl).trans h.f1, (hb.frozen (p := ⟨g, 2, none⟩) hl).trans h.f2, (hb.frozen (p := ⟨g, 3, none⟩) hl).trans h.f3, (hb.frozen (p := ⟨g, 4, none⟩) hl).trans h.f4, (hb.frozen (p := ⟨g, 5, none⟩) hl).trans h.f5, (hb.frozen (p := ⟨g, 6, none⟩) hl).trans h.f6, (hb.frozen (p := ⟨g, 7, none⟩) hl).trans h.f7, (hb.frozen (p := ⟨g, 8, none⟩) hl).trans h.f8⟩
theorem B9q.new (w : World) (ty : TypeId) (v0 v1 v2 v3 v4 v5 v6 v7 v8 : Value) : B9q (w.alloc (.cells #[v0, v1, v2, v3, v4, v5, v6, v7, v8] ty)) w.heap.size v0 v1 v2 v3 v4 v5 v6 v7 v8 := ⟨by go_simp, by go_simp, by go_simp, by go_simp, by go_simp, by go_simp, by go_simp, by go_simp, by go_simp, by go_simp, by go_simp, by go_simp, by go_simp, by go_simp, by go_simp, by go_simp, by go_simp, by go_simp⟩
theorem B9q.set9 {w : World} {r : Nat} {u0 u1 u2 u3 u4 u5 u6 u7 u8 : Value} {v0 v1 v2 v3 v4 v5 v6 v7 v8 : Value} (h : B9q w r u0 u1 u2 u3 u4 u5 u6 u7 u8) : B9q (((((((((w.setCell ⟨r, 0, none⟩ v0).setCell ⟨r, 1, none⟩ v1).setCell ⟨r, 2, none⟩ v2).setCell ⟨r, 3, none⟩ v3).setCell ⟨r, 4, none⟩ v4).setCell ⟨r, 5, none⟩ v5).setCell ⟨r, 6, none⟩ v6).setCell ⟨r, 7, none⟩ v7).setCell ⟨r, 8, none⟩ v8) r v0 v1 v2 v3 v4 v5 v6 v7 v8 := by
  obtain ⟨c0, c1, c2, c3, c4, c5, c6, c7, c8, f0, f1, f2, f3, f4, f5, f6, f7, f8⟩ := h
  exact ⟨by go_simp, by go_simp, by go_simp, by go_simp, by go_simp, by go_simp, by go_simp, by go_simp, by go_simp, by go_simp, by go_simp, by go_simp, by go_simp, by go_simp, by go_simp, by go_simp, by go_simp, by go_simp⟩
theorem At.set9 {w : World} {g r n c : Nat} {xs : List Nat} {v0 v1 v2 v3 v4 v5 v6 v7 v8 : Value} (h : At w (some ⟨g, 0, none⟩) n c xs) (hne : g ≠ r) : At (((((((((w.setCell ⟨r, 0, none⟩ v0).setCell ⟨r, 1, none⟩ v1).setCell ⟨r, 2, none⟩ v2).setCell ⟨r, 3, none⟩ v3).setCell ⟨r, 4, none⟩ v4).setCell ⟨r, 5, none⟩ v5).setCell ⟨r, 6, none⟩ v6).setCell ⟨r, 7, none⟩ v7).setCell ⟨r, 8, none⟩ v8) (some ⟨g, 0, none⟩) n c xs := (((((((((h.setOther _ _ _ hne).setOther _ _ _ hne).setOther _ _ _ hne).setOther _ _ _ hne).setOther _ _ _ hne).setOther _ _ _ hne).setOther _ _ _ hne).setOther _ _ _ hne).setOther _ _ _ hne)
theorem below_set9 {B r : Nat} {w w' : World} {v0 v1 v2 v3 v4 v5 v6 v7 v8 : Value} (h : Below B w w') (hr : B ≤ r) : Below B w (((((((((w'.setCell ⟨r, 0, none⟩ v0).setCell ⟨r, 1, none⟩ v1).setCell ⟨r, 2, none⟩ v2).setCell ⟨r, 3, none⟩ v3).setCell ⟨r, 4, none⟩ v4).setCell ⟨r, 5, none⟩ v5).setCell ⟨r, 6, none⟩ v6).setCell ⟨r, 7, none⟩ v7).setCell ⟨r, 8, none⟩ v8) := (bSet (bSet (bSet (bSet (bSet (bSet (bSet (bSet (bSet h _ _ _ hr) _ _ _ hr) _ _ _ hr) _ _ _ hr) _ _ _ hr) _ _ _ hr) _ _ _ hr) _ _ _ hr) _ _ _ hr)
theorem loadVar_B9 {w : World} {g : Nat} {v0 v1 v2 v3 v4 v5 v6 v7 v8 : Value} (h : B9q w g v0 v1 v2 v3 v4 v5 v6 v7 v8) : (loadVar 59 ⟨g, 0, none⟩).run Tryz.prog w = .ok (.agg #[v0, v1, v2, v3, v4, v5, v6, v7, v8]) w := by
  have hl : (loadCells ⟨g, 0, none⟩ 9).run Tryz.prog w = .ok #[v0, v1, v2, v3, v4, v5, v6, v7, v8] w :=
    run_loadCells_list (P := Tryz.prog) w ⟨g, 0, none⟩ [v0, v1, v2, v3, v4, v5, v6, v7, v8] (fun j v hv => by
      have hadd : (⟨g, 0, none⟩ : Addr).add j = ⟨g, j, none⟩ := by unfold Addr.add; split <;> simp_all
      rw [hadd]
      exact match j, hv with
      | 0, hv => by
        obtain rfl : v0 = v := by simpa using hv
        exact h.c0
      | 1, hv => by
        obtain rfl : v1 = v := by simpa using hv
        exact h.c1
      | 2, hv => by
        obtain rfl : v2 = v := by simpa using hv
        exact h.c2
      | 3, hv => by
        obtain rfl : v3 = v := by simpa using hv
        exact h.c3
      | 4, hv => by
        obtain rfl : v4 = v := by simpa using hv
        exact h.c4
      | 5, hv => by
        obtain rfl : v5 = v := by simpa using hv
        exact h.c5
      | 6, hv => by
        obtain rfl : v6 = v := by simpa using hv
        exact h.c6
      | 7, hv => by
        obtain rfl : v7 = v := by simpa using hv
        exact h.c7
      | 8, hv => by
        obtain rfl : v8 = v := by simpa using hv
        exact h.c8
      | k + 9, hv => by simp at hv)
  have hi : (Tryz.prog.info? 59).map (·.size) = some 9 := by kernel_rfl
  cases hq : Tryz.prog.info? 59 with
  | none => simp [hq] at hi
  | some i =>
    have hs : i.size = 9 := by simpa [hq] using hi
    have hagg : (isAgg 59).run Tryz.prog w = .ok true w := by
      unfold isAgg
      rw [Sem.run_bind, run_underlying Tryz.underlying59 w]
      rfl
    simp [loadVar, Sem.run_bind, hagg, sizeOf, typeInfo, hq, hs, hl]
theorem twin8 {pa pb : Option Addr} {na ca nb cb : Nat} {xa xb : List Nat} {w : World} {kd ff ea eb : Int} {wd : Nat} (sa sb : Bool) (ha : At w pa na ca xa) (hb : At w pb nb cb xb) (hn : na ≤ 17592186044416 ∧ nb ≤ 17592186044416) :
    Calls Tryz.prog 51 #[(.agg #[.int .i64 kd, .int .i64 ff, .bool sa, .slice pa na ca, .int .i64 ea, .bool sb, .slice pb nb cb, .int .i64 eb, U wd])] w fun en w' => ∃ ga gb, en = .returned (.agg #[.int .i64 kd, .int .i64 ff, .bool sa, .slice (some ⟨ga, 0, none⟩) na na, .int .i64 ea, .bool sb, .slice (some ⟨gb, 0, none⟩) nb nb, .int .i64 eb, U wd]) ∧ w.heap.size ≤ ga ∧ w.heap.size ≤ gb ∧ At w' (some ⟨ga, 0, none⟩) na na xa ∧ At w' (some ⟨gb, 0, none⟩) nb nb xb ∧ Below w.heap.size w w' := by
  have HA : Hid (At w pa na ca xa) := ha
  have HB : Hid (At w pb nb cb xb) := hb
  have HN : Hid (na ≤ 17592186044416 ∧ nb ≤ 17592186044416) := hn
  clear ha hb hn
  go_enter Tryz.func51, Tryz.ntmps51
  go_wp2_with fail
  obtain ⟨W0, hW0⟩ : ∃ W0, W0 = ((w.alloc (.cells #[.int .i64 kd, .int .i64 ff, .bool sa, .slice pa na ca, .int .i64 ea, .bool sb, .slice pb nb cb, .int .i64 eb, U wd] 59)).alloc (.cells #[.int .i64 0, .int .i64 0, .bool false, .slice none 0 0, .int .i64 0, .bool false, .slice none 0 0, .int .i64 0, .int .u64 0] 59)) := ⟨_, rfl⟩
  have Xo : Hid (B9q W0 (w.heap.size) (.int .i64 kd) (.int .i64 ff) (.bool sa) (.slice pa na ca) (.int .i64 ea) (.bool sb) (.slice pb nb cb) (.int .i64 eb) (U wd)) := by rw [hW0]; exact ⟨by go_simp, by go_simp, by go_simp, by go_simp, by go_simp, by go_simp, by go_simp, by go_simp, by go_simp, by go_simp, by go_simp, by go_simp, by go_simp, by go_simp, by go_simp, by go_simp, by go_simp, by go_simp⟩
  have Xr : Hid (B9q W0 (w.heap.size + 1) (.int .i64 0) (.int .i64 0) (.bool false) (.slice none 0 0) (.int .i64 0) (.bool false) (.slice none 0 0) (.int .i64 0) (.int .u64 0)) := by rw [hW0]; exact ⟨by go_simp, by go_simp, by go_simp, by go_simp, by go_simp, by go_simp, by go_simp, by go_simp, by go_simp, by go_simp, by go_simp, by go_simp, by go_simp, by go_simp, by go_simp, by go_simp, by go_simp, by go_simp⟩
  have hb0 : Below w.heap.size w W0 := by rw [hW0]; exact below2 w _ _
  rw [← hW0]
  clear hW0
  have hbw : Below w.heap.size w w := Below.refl _ _
  obtain ⟨gr, hgr⟩ : ∃ g, g = w.heap.size + 1 := ⟨_, rfl⟩
  have HGr : Hid (w.heap.size ≤ gr) := by rw [hgr]; show _ ≤ _; omega
  rw [← hgr] at Xr
  try rw [← hgr]
  obtain ⟨go, hgo⟩ : ∃ g, g = w.heap.size := ⟨_, rfl⟩
  have HGo : Hid (w.heap.size ≤ go) := by rw [hgo]; show _ ≤ _; omega
  rw [← hgo] at Xo
  try rw [← hgo]
  have HGD : Hid (go ≠ gr ∧ gr ≠ go) := by rw [hgo, hgr]; exact ⟨by omega, by omega⟩
  clear hgo hgr
  replace hbw := Below.on hbw hb0
  clear hb0
  obtain ⟨co0, co1, co2, co3, co4, co5, co6, co7, co8, fo0, fo1, fo2, fo3, fo4, fo5, fo6, fo7, fo8⟩ := Xo.out
  have hneo : go < W0.heap.size := World.block_lt_of_cell? W0 _ co0
  go_wp2_with fail
  clear co0 co1 co2 co3 co4 co5 co6 co7 co8 fo0 fo1 fo2 fo3 fo4 fo5 fo6 fo7 fo8 hneo
  refine (twinD sa (HA.out.below hbw) HN.out.1).mono ?_
  rintro e2 v1 ⟨g1, rfl, hg1, hA1, hb1⟩
  have HD1 : Hid (go < g1 ∧ gr < g1 ∧ w.heap.size ≤ g1) := ⟨Nat.lt_of_lt_of_le Xo.out.lt hg1, Nat.lt_of_lt_of_le Xr.out.lt hg1, Nat.le_trans hbw.size hg1⟩
  replace Xo : Hid (B9q v1 go (.int .i64 kd) (.int .i64 ff) (.bool sa) (.slice pa na ca) (.int .i64 ea) (.bool sb) (.slice pb nb cb) (.int .i64 eb) (U wd)) := Xo.out.below hb1
  replace Xr : Hid (B9q v1 gr (.int .i64 0) (.int .i64 0) (.bool false) (.slice none 0 0) (.int .i64 0) (.bool false) (.slice none 0 0) (.int .i64 0) (.int .u64 0)) := Xr.out.below hb1
  replace hbw := Below.on hbw hb1
  clear hb1
  have T1 : Hid (At v1 (some ⟨g1, 0, none⟩) na na xa) := hA1
  clear hA1 hg1
  obtain ⟨hgd0, hgd1⟩ := HGD.out
  obtain ⟨co0, co1, co2, co3, co4, co5, co6, co7, co8, fo0, fo1, fo2, fo3, fo4, fo5, fo6, fo7, fo8⟩ := Xo.out
  have hneo : go < v1.heap.size := World.block_lt_of_cell? v1 _ co0
  obtain ⟨cr0, cr1, cr2, cr3, cr4, cr5, cr6, cr7, cr8, fr0, fr1, fr2, fr3, fr4, fr5, fr6, fr7, fr8⟩ := Xr.out
  have hner : gr < v1.heap.size := World.block_lt_of_cell? v1 _ cr0
  go_wp2_with fail
  have Xo2 : Hid (B9q (((v1.setCell ⟨go, 2, none⟩ (.bool sa)).setCell ⟨go, 3, none⟩ (.slice (some ⟨g1, 0, none⟩) na na)).setCell ⟨go, 4, none⟩ (.int .i64 ea)) go (.int .i64 kd) (.int .i64 ff) (.bool sa) (.slice (some ⟨g1, 0, none⟩) na na) (.int .i64 ea) (.bool sb) (.slice pb nb cb) (.int .i64 eb) (U wd)) := ⟨by go_simp, by go_simp, by go_simp, by go_simp, by go_simp, by go_simp, by go_simp, by go_simp, by go_simp, by go_simp, by go_simp, by go_simp, by go_simp, by go_simp, by go_simp, by go_simp, by go_simp, by go_simp⟩
  have Xr2 : Hid (B9q (((v1.setCell ⟨go, 2, none⟩ (.bool sa)).setCell ⟨go, 3, none⟩ (.slice (some ⟨g1, 0, none⟩) na na)).setCell ⟨go, 4, none⟩ (.int .i64 ea)) gr (.int .i64 0) (.int .i64 0) (.bool false) (.slice none 0 0) (.int .i64 0) (.bool false) (.slice none 0 0) (.int .i64 0) (.int .u64 0)) := ⟨by go_simp, by go_simp, by go_simp, by go_simp, by go_simp, by go_simp, by go_simp, by go_simp, by go_simp, by go_simp, by go_simp, by go_simp, by go_simp, by go_simp, by go_simp, by go_simp, by go_simp, by go_simp⟩
  have T12 : Hid (At (((v1.setCell ⟨go, 2, none⟩ (.bool sa)).setCell ⟨go, 3, none⟩ (.slice (some ⟨g1, 0, none⟩) na na)).setCell ⟨go, 4, none⟩ (.int .i64 ea)) (some ⟨g1, 0, none⟩) na na xa) := (((T1.out.setOther _ _ _ (by have := HD1.out; omega)).setOther _ _ _ (by have := HD1.out; omega)).setOther _ _ _ (by have := HD1.out; omega))
  have hbw2 : Below w.heap.size w (((v1.setCell ⟨go, 2, none⟩ (.bool sa)).setCell ⟨go, 3, none⟩ (.slice (some ⟨g1, 0, none⟩) na na)).setCell ⟨go, 4, none⟩ (.int .i64 ea)) := bSet (bSet (bSet (hbw) _ _ _ HGo.out) _ _ _ HGo.out) _ _ _ HGo.out
  clear co0 co1 co2 co3 co4 co5 co6 co7 co8 fo0 fo1 fo2 fo3 fo4 fo5 fo6 fo7 fo8 hneo
  clear cr0 cr1 cr2 cr3 cr4 cr5 cr6 cr7 cr8 fr0 fr1 fr2 fr3 fr4 fr5 fr6 fr7 fr8 hner
  clear hgd0 hgd1 Xo Xr hbw T1
  generalize (((v1.setCell ⟨go, 2, none⟩ (.bool sa)).setCell ⟨go, 3, none⟩ (.slice (some ⟨g1, 0, none⟩) na na)).setCell ⟨go, 4, none⟩ (.int .i64 ea)) = W2 at *
  have Xo := Xo2
  have Xr := Xr2
  have hbw := hbw2
  have T1 := T12
  clear Xo2 Xr2 hbw2 T12
  refine (twinD sb (HB.out.below hbw) HN.out.2).mono ?_
  rintro e2 v3 ⟨g3, rfl, hg3, hA3, hb3⟩
  have HD3 : Hid (go < g3 ∧ gr < g3 ∧ w.heap.size ≤ g3) := ⟨Nat.lt_of_lt_of_le Xo.out.lt hg3, Nat.lt_of_lt_of_le Xr.out.lt hg3, Nat.le_trans hbw.size hg3⟩
  replace Xo : Hid (B9q v3 go (.int .i64 kd) (.int .i64 ff) (.bool sa) (.slice (some ⟨g1, 0, none⟩) na na) (.int .i64 ea) (.bool sb) (.slice pb nb cb) (.int .i64 eb) (U wd)) := Xo.out.below hb3
  replace Xr : Hid (B9q v3 gr (.int .i64 0) (.int .i64 0) (.bool false) (.slice none 0 0) (.int .i64 0) (.bool false) (.slice none 0 0) (.int .i64 0) (.int .u64 0)) := Xr.out.below hb3
  replace T1 : Hid _ := T1.out.below hb3
  replace hbw := Below.on hbw hb3
  clear hb3
  have T3 : Hid (At v3 (some ⟨g3, 0, none⟩) nb nb xb) := hA3
  clear hA3 hg3
  obtain ⟨hgd0, hgd1⟩ := HGD.out
  obtain ⟨co0, co1, co2, co3, co4, co5, co6, co7, co8, fo0, fo1, fo2, fo3, fo4, fo5, fo6, fo7, fo8⟩ := Xo.out
  have hneo : go < v3.heap.size := World.block_lt_of_cell? v3 _ co0
  obtain ⟨cr0, cr1, cr2, cr3, cr4, cr5, cr6, cr7, cr8, fr0, fr1, fr2, fr3, fr4, fr5, fr6, fr7, fr8⟩ := Xr.out
  have hner : gr < v3.heap.size := World.block_lt_of_cell? v3 _ cr0
  go_wp2_with fail
  have Xr2 : Hid (B9q (((v3.setCell ⟨go, 5, none⟩ (.bool sb)).setCell ⟨go, 6, none⟩ (.slice (some ⟨g3, 0, none⟩) nb nb)).setCell ⟨go, 7, none⟩ (.int .i64 eb)) gr (.int .i64 0) (.int .i64 0) (.bool false) (.slice none 0 0) (.int .i64 0) (.bool false) (.slice none 0 0) (.int .i64 0) (.int .u64 0)) := ⟨by go_simp, by go_simp, by go_simp, by go_simp, by go_simp, by go_simp, by go_simp, by go_simp, by go_simp, by go_simp, by go_simp, by go_simp, by go_simp, by go_simp, by go_simp, by go_simp, by go_simp, by go_simp⟩
  have T12 : Hid (At (((v3.setCell ⟨go, 5, none⟩ (.bool sb)).setCell ⟨go, 6, none⟩ (.slice (some ⟨g3, 0, none⟩) nb nb)).setCell ⟨go, 7, none⟩ (.int .i64 eb)) (some ⟨g1, 0, none⟩) na na xa) := (((T1.out.setOther _ _ _ (by have := HD1.out; omega)).setOther _ _ _ (by have := HD1.out; omega)).setOther _ _ _ (by have := HD1.out; omega))
  have T32 : Hid (At (((v3.setCell ⟨go, 5, none⟩ (.bool sb)).setCell ⟨go, 6, none⟩ (.slice (some ⟨g3, 0, none⟩) nb nb)).setCell ⟨go, 7, none⟩ (.int .i64 eb)) (some ⟨g3, 0, none⟩) nb nb xb) := (((T3.out.setOther _ _ _ (by have := HD3.out; omega)).setOther _ _ _ (by have := HD3.out; omega)).setOther _ _ _ (by have := HD3.out; omega))
  have hbw2 : Below w.heap.size w (((v3.setCell ⟨go, 5, none⟩ (.bool sb)).setCell ⟨go, 6, none⟩ (.slice (some ⟨g3, 0, none⟩) nb nb)).setCell ⟨go, 7, none⟩ (.int .i64 eb)) := bSet (bSet (bSet hbw _ _ _ HGo.out) _ _ _ HGo.out) _ _ _ HGo.out
  clear co0 co1 co2 co3 co4 co5 co6 co7 co8 fo0 fo1 fo2 fo3 fo4 fo5 fo6 fo7 fo8 hneo
  clear cr0 cr1 cr2 cr3 cr4 cr5 cr6 cr7 cr8 fr0 fr1 fr2 fr3 fr4 fr5 fr6 fr7 fr8 hner
  clear hgd0 hgd1 Xo Xr hbw T1 T3
  generalize (((v3.setCell ⟨go, 5, none⟩ (.bool sb)).setCell ⟨go, 6, none⟩ (.slice (some ⟨g3, 0, none⟩) nb nb)).setCell ⟨go, 7, none⟩ (.int .i64 eb)) = W6 at *
  have Xr := Xr2
  have hbw := hbw2
  have T1 := T12
  have T3 := T32
  clear Xr2 hbw2 T12 T32
  obtain ⟨cr0, cr1, cr2, cr3, cr4, cr5, cr6, cr7, cr8, fr0, fr1, fr2, fr3, fr4, fr5, fr6, fr7, fr8⟩ := Xr.out
  have hner : gr < W6.heap.size := World.block_lt_of_cell? W6 _ cr0
  clear cr0 cr1 cr2 cr3 cr4 cr5 cr6 cr7 cr8 fr0 fr1 fr2 fr3 fr4 fr5 fr6 fr7 fr8 hner
  have Xr3 : Hid (B9q (((((((((W6.setCell ⟨gr, 0, none⟩ (.int .i64 kd)).setCell ⟨gr, 1, none⟩ (.int .i64 ff)).setCell ⟨gr, 2, none⟩ (.bool sa)).setCell ⟨gr, 3, none⟩ (.slice (some ⟨g1, 0, none⟩) na na)).setCell ⟨gr, 4, none⟩ (.int .i64 ea)).setCell ⟨gr, 5, none⟩ (.bool sb)).setCell ⟨gr, 6, none⟩ (.slice (some ⟨g3, 0, none⟩) nb nb)).setCell ⟨gr, 7, none⟩ (.int .i64 eb)).setCell ⟨gr, 8, none⟩ (U wd)) gr (.int .i64 kd) (.int .i64 ff) (.bool sa) (.slice (some ⟨g1, 0, none⟩) na na) (.int .i64 ea) (.bool sb) (.slice (some ⟨g3, 0, none⟩) nb nb) (.int .i64 eb) (U wd)) := Xr.out.set9
  have T13 : Hid (At (((((((((W6.setCell ⟨gr, 0, none⟩ (.int .i64 kd)).setCell ⟨gr, 1, none⟩ (.int .i64 ff)).setCell ⟨gr, 2, none⟩ (.bool sa)).setCell ⟨gr, 3, none⟩ (.slice (some ⟨g1, 0, none⟩) na na)).setCell ⟨gr, 4, none⟩ (.int .i64 ea)).setCell ⟨gr, 5, none⟩ (.bool sb)).setCell ⟨gr, 6, none⟩ (.slice (some ⟨g3, 0, none⟩) nb nb)).setCell ⟨gr, 7, none⟩ (.int .i64 eb)).setCell ⟨gr, 8, none⟩ (U wd)) (some ⟨g1, 0, none⟩) na na xa) := T1.out.set9 (by have := HD1.out; omega)
  have T33 : Hid (At (((((((((W6.setCell ⟨gr, 0, none⟩ (.int .i64 kd)).setCell ⟨gr, 1, none⟩ (.int .i64 ff)).setCell ⟨gr, 2, none⟩ (.bool sa)).setCell ⟨gr, 3, none⟩ (.slice (some ⟨g1, 0, none⟩) na na)).setCell ⟨gr, 4, none⟩ (.int .i64 ea)).setCell ⟨gr, 5, none⟩ (.bool sb)).setCell ⟨gr, 6, none⟩ (.slice (some ⟨g3, 0, none⟩) nb nb)).setCell ⟨gr, 7, none⟩ (.int .i64 eb)).setCell ⟨gr, 8, none⟩ (U wd)) (some ⟨g3, 0, none⟩) nb nb xb) := T3.out.set9 (by have := HD3.out; omega)
  have hbw3 : Below w.heap.size w (((((((((W6.setCell ⟨gr, 0, none⟩ (.int .i64 kd)).setCell ⟨gr, 1, none⟩ (.int .i64 ff)).setCell ⟨gr, 2, none⟩ (.bool sa)).setCell ⟨gr, 3, none⟩ (.slice (some ⟨g1, 0, none⟩) na na)).setCell ⟨gr, 4, none⟩ (.int .i64 ea)).setCell ⟨gr, 5, none⟩ (.bool sb)).setCell ⟨gr, 6, none⟩ (.slice (some ⟨g3, 0, none⟩) nb nb)).setCell ⟨gr, 7, none⟩ (.int .i64 eb)).setCell ⟨gr, 8, none⟩ (U wd)) := below_set9 hbw HGr.out
  clear Xr hbw T1 T3
  generalize (((((((((W6.setCell ⟨gr, 0, none⟩ (.int .i64 kd)).setCell ⟨gr, 1, none⟩ (.int .i64 ff)).setCell ⟨gr, 2, none⟩ (.bool sa)).setCell ⟨gr, 3, none⟩ (.slice (some ⟨g1, 0, none⟩) na na)).setCell ⟨gr, 4, none⟩ (.int .i64 ea)).setCell ⟨gr, 5, none⟩ (.bool sb)).setCell ⟨gr, 6, none⟩ (.slice (some ⟨g3, 0, none⟩) nb nb)).setCell ⟨gr, 7, none⟩ (.int .i64 eb)).setCell ⟨gr, 8, none⟩ (U wd)) = W8 at *
  refine bodyPost_ret (v := .agg #[.int .i64 kd, .int .i64 ff, .bool sa, .slice (some ⟨g1, 0, none⟩) na na, .int .i64 ea, .bool sb, .slice (some ⟨g3, 0, none⟩) nb nb, .int .i64 eb, U wd]) (by rw [results_cell1 rfl]; exact loadVar_B9 Xr3.out) rfl ⟨g1, g3, rfl, HD1.out.2.2, HD3.out.2.2, T13.out, T33.out, hbw3⟩
def Play8 (k : Int) : Prop := ∀ (pa pb : Option Addr) (na ca nb cb wd : Nat) (xa xb : List Nat) (w : World) (ff ea eb : Int) (sa sb : Bool), At w pa na ca xa → At w pb nb cb xb → (na ≤ 17592186044416 ∧ nb ≤ 17592186044416 ∧ wd < B64) → Tab w →
    Calls Tryz.prog 24 #[.agg #[.int .i64 k, .int .i64 ff, .bool sa, .slice pa na ca, .int .i64 ea, .bool sb, .slice pb nb cb, .int .i64 eb, U wd]] w fun e w' => e = .returned (.bool true) ∧ Below w.heap.size w w'

theorem all8 {P : Option Addr} {N C : Nat} {its : List Op9} {w : World} {lo hi : Int} (h : Scr8 w P N C its) (hT : Tab w)
    (hp : ∀ k, lo ≤ k → k ≤ hi → Play8 k) :
    Calls Tryz.prog 8 #[.slice P N C, .int .i64 lo, .int .i64 hi] w fun e w' => e = .returned (.bool true) ∧ Below w.heap.size w w' := by
  have H : Hid (Scr8 w P N C its) := h
  have HP : Hid (∀ k, lo ≤ k → k ≤ hi → Play8 k) := hp
  have HT : Hid (Tab w) := hT
  have HLN : Hid (its.length = N) := h.len
  have cap := h.cap; have big := h.big
  unfold maxLen at big
  clear h hp hT
  go_enter Tryz.func8, Tryz.ntmps8
  go_wp2_with fail
  go_loopg [11] N (fun gg iv wr => ∃ k : Nat, k + gg = N ∧ iv = .int .i64 k ∧ Below w.heap.size w wr)
  case atStart => exact ⟨0, by omega, rfl, Below.refl _ _⟩
  case round =>
    obtain ⟨k, hkg, rfl, hbw⟩ := hrel
    cases gk with
    | zero =>
      obtain rfl : k = N := by omega
      have hnk : ¬ (k : Int) < (k : Int) := by omega
      go_wp2_with fail
      go_ret
      exact ⟨rfl, hbw⟩
    | succ gg =>
      have hki : k < its.length := by rw [HLN.out]; omega
      have HR := H.out.below hbw
      obtain ⟨g, off, rfl, hc⟩ := HR.cells.resolve_left (by omega)
      obtain ⟨e0, e1, e2, e3, e4, e5, e6, e7, e8⟩ := hc k hki
      have HAT : Hid (At wr its[k].pa its[k].na its[k].ca its[k].xa ∧ At wr its[k].pb its[k].nb its[k].cb its[k].xb ∧ its[k].na ≤ 17592186044416 ∧ its[k].nb ≤ 17592186044416 ∧ its[k].wd < B64) := HR.ats its[k] (List.getElem_mem hki)
      have HBW : Hid (Below w.heap.size w wr) := hbw
      have hkk : (k : Int) < (N : Int) := by omega
      have hlt : g < wr.heap.size := World.block_lt_of_cell? wr _ e0
      clear hc HR hbw
      generalize its[k].k = kd at *
      generalize its[k].ff = ff at *
      generalize its[k].sa = sa at *
      generalize its[k].pa = pa at *
      generalize its[k].na = na at *
      generalize its[k].ca = ca at *
      generalize its[k].xa = xa at *
      generalize its[k].ea = ea at *
      generalize its[k].sb = sb at *
      generalize its[k].pb = pb at *
      generalize its[k].nb = nb at *
      generalize its[k].cb = cb at *
      generalize its[k].xb = xb at *
      generalize its[k].eb = eb at *
      generalize its[k].wd = wd at *
      have hb0 : Below wr.heap.size wr (wr.alloc (.cells #[.int .i64 kd, .int .i64 ff, .bool sa, .slice pa na ca, .int .i64 ea, .bool sb, .slice pb nb cb, .int .i64 eb, U wd] 59)) := below1 wr _
      have HAO : Hid (At (wr.alloc (.cells #[.int .i64 kd, .int .i64 ff, .bool sa, .slice pa na ca, .int .i64 ea, .bool sb, .slice pb nb cb, .int .i64 eb, U wd] 59)) pa na ca xa ∧ At (wr.alloc (.cells #[.int .i64 kd, .int .i64 ff, .bool sa, .slice pa na ca, .int .i64 ea, .bool sb, .slice pb nb cb, .int .i64 eb, U wd] 59)) pb nb cb xb ∧ na ≤ 17592186044416 ∧ nb ≤ 17592186044416 ∧ wd < B64) := ⟨HAT.out.1.below hb0, HAT.out.2.1.below hb0, HAT.out.2.2⟩
      have HBO : Hid (Below w.heap.size w (wr.alloc (.cells #[.int .i64 kd, .int .i64 ff, .bool sa, .slice pa na ca, .int .i64 ea, .bool sb, .slice pb nb cb, .int .i64 eb, U wd] 59))) := Below.on HBW.out hb0
      clear hb0 HAT HBW
      by_cases hlo : lo ≤ kd
      · have hlo2 : ¬ kd < lo := by omega
        by_cases hhi : kd ≤ hi
        · have hhi2 : ¬ hi < kd := by omega
          have HPK : Hid (Play8 kd) := HP.out kd hlo hhi
          go_wp2_with fail
          refine (HPK.out pa pb na ca nb cb wd xa xb _ ff ea eb sa sb HAO.out.1 HAO.out.2.1 HAO.out.2.2 (HT.out.below HBO.out)).mono ?_
          rintro e wz ⟨rfl, hbq⟩
          have hbz := Below.on HBO.out hbq
          clear hbq e0 e1 e2 e3 e4 e5 e6 e7 e8
          go_wp2_with fail
          go_roundg gg
          case measure => omega
          case rel => exact ⟨k + 1, by omega, by go_num, hbz⟩
        · have hhi2 : hi < kd := by omega
          go_wp2_with fail
          go_roundg gg
          case measure => omega
          case rel => exact ⟨k + 1, by omega, by go_num, HBO.out⟩
      · have hlo2 : kd < lo := by omega
        go_wp2_with fail
        go_roundg gg
        case measure => omega
        case rel => exact ⟨k + 1, by omega, by go_num, HBO.out⟩
theorem wpJ_nodes5 {P : Program} {md : Region.Mode} {ops : Array Oper} {Q : Exit → Act → World → Prop} {J : World → Prop} {fuel : Nat} {listed : Array Bool} {a : Act} {w : World} (h : ∀ WP : Nat → Array Bool → Act → World → Prop, WP = wpJ P md ops Q J → ∀ L a0, L = listed → a0 = a → WP fuel L a0 w) : wpJ P md ops Q J fuel listed a w := h _ rfl _ _ rfl rfl
theorem wpJ_same5 {P : Program} {md : Region.Mode} {ops : Array Oper} {Q : Exit → Act → World → Prop} {J : World → Prop} {fuel : Nat} {L L' : Array Bool} {a a' : Act} {w : World} (h1 : L = L') (h2 : a = a') (h : wpJ P md ops Q J fuel L a w) : wpJ P md ops Q J fuel L' a' w := by
  subst h1 h2; exact h
theorem Hid.mk5 {p : Prop} (h : p) : Hid p := h
theorem val_nil {xs : List Nat} {s : Bool} {e : Int} {w : World} {p : Option Addr} {n c : Nat} (h : At w p n c xs) (hf : formD s xs e = true) (hv : valB B64 xs = 0) : n = 0 := by
  obtain ⟨ys, hY⟩ := (formD_dn h hf).zn.ex
  have h1 : iv s (valB B64 xs) = 0 := by rw [hv]; cases s <;> rfl
  rw [h1] at hY
  have h2 := hY.nf.val
  have h3 : ys = [] := (hY.nf.zero_iff B64_one).2 rfl
  have h4 := hY.at_.len
  rw [h3] at h4
  simpa using h4.symm
theorem at_blk9 {w : World} {g n c : Nat} {xs : List Nat} (h : At w (some ⟨g, 0, none⟩) n c xs) : n = 0 ∨ g < w.heap.size := by
  rcases h.cells with h0 | ⟨g9, off, hp, hc⟩
  · exact .inl h0
  · by_cases h0 : n = 0
    · exact .inl h0
    · have h1 := World.block_lt_of_cell? w _ (hc 0 (by omega))
      injection hp with hp
      injection hp with hp1 hp2
      subst hp1
      exact .inr h1
theorem at_set9 {w : World} {g n c : Nat} {xs : List Nat} (h : At w (some ⟨g, 0, none⟩) n c xs) (g2 o2 : Nat) (v : Value) (hne : n = 0 ∨ g ≠ g2) : At (w.setCell ⟨g2, o2, none⟩ v) (some ⟨g, 0, none⟩) n c xs := by
  rcases hne with h0 | h0
  · exact ⟨h.len, h.cap, h.big, h.dig, .inl h0⟩
  · exact h.setOther g2 o2 v h0
theorem sform_t {s1 s2 : Bool} {p1 p2 : Option Addr} {m1 m2 c1 c2 : Nat} {e1 e2 : Int} {w : World} {x y : Int} (h : DN w s1 p1 m1 c1 e1 x) (k : DN w s2 p2 m2 c2 e2 y) (hc : dv x e1 ≤ dv y e2) :
    Calls Tryz.prog 26 #[SV s1 p1 m1 c1 e1 s2 p2 m2 c2 e2] w fun en w' => en = .returned (.bool true) ∧ Below w.heap.size w w' := by
  have A : Hid (DN w s1 p1 m1 c1 e1 x) := h
  have B : Hid (DN w s2 p2 m2 c2 e2 y) := k
  obtain ⟨cc, hcc⟩ : ∃ cc, cc = cmpI (dv x e1) (dv y e2) := ⟨_, rfl⟩
  have HCC : Hid (cmpI (dv x e1) (dv y e2) = cc) := hcc.symm
  have k1 : decide (cc ≤ 0) = true := by rw [hcc]; unfold cmpI; by_cases a : dv x e1 < dv y e2; (· rw [if_pos a]; rfl); rw [if_neg a, if_pos (by omega)]; rfl
  clear h k hc hcc
  go_enter Tryz.func26, Tryz.ntmps26
  go_wp2_with fail
  obtain ⟨W0, hW0⟩ : ∃ W0, W0 = (w.alloc (.cells #[.bool s1, .slice p1 m1 c1, .int .i64 e1, .bool s2, .slice p2 m2 c2, .int .i64 e2] 35)) := ⟨_, rfl⟩
  have Xs : Hid (B6q W0 (w.heap.size) (.bool s1) (.slice p1 m1 c1) (.int .i64 e1) (.bool s2) (.slice p2 m2 c2) (.int .i64 e2)) := by rw [hW0]; exact ⟨by go_simp, by go_simp, by go_simp, by go_simp, by go_simp, by go_simp, by go_simp, by go_simp, by go_simp, by go_simp, by go_simp, by go_simp⟩
  have hb0 : Below w.heap.size w W0 := by rw [hW0]; exact below1 w _
  rw [← hW0]
  clear hW0
  have hbw : Below w.heap.size w w := Below.refl _ _
  obtain ⟨gs, hgs⟩ : ∃ g, g = w.heap.size := ⟨_, rfl⟩
  have HGs : Hid (w.heap.size ≤ gs) := by rw [hgs]; show _ ≤ _; omega
  rw [← hgs] at Xs
  try rw [← hgs]
  clear hgs
  replace hbw := Below.on hbw hb0
  clear hb0
  refine (dcmp (A.out.below hbw) (B.out.below hbw)).mono ?_
  rintro e v1 ⟨rfl, hb1⟩
  rw [HCC.out]
  replace Xs : Hid _ := Xs.out.below hb1
  replace hbw := Below.on hbw hb1
  clear hb1
  go_wp2_with fail
  go_ret
  exact ⟨rfl, hbw⟩
theorem sform_g {s1 s2 : Bool} {p1 p2 : Option Addr} {m1 m2 c1 c2 : Nat} {e1 e2 : Int} {w : World} {x y : Int} (h : DN w s1 p1 m1 c1 e1 x) (k : DN w s2 p2 m2 c2 e2 y) (hc : dv y e2 < dv x e1) :
    Calls Tryz.prog 26 #[SV s1 p1 m1 c1 e1 s2 p2 m2 c2 e2] w fun en w' => en = .returned (.bool false) ∧ Below w.heap.size w w' := by
  have A : Hid (DN w s1 p1 m1 c1 e1 x) := h
  have B : Hid (DN w s2 p2 m2 c2 e2 y) := k
  have HCC : Hid (cmpI (dv x e1) (dv y e2) = 1) := cmp_g hc
  clear h k hc
  go_enter Tryz.func26, Tryz.ntmps26
  go_wp2_with fail
  obtain ⟨W0, hW0⟩ : ∃ W0, W0 = (w.alloc (.cells #[.bool s1, .slice p1 m1 c1, .int .i64 e1, .bool s2, .slice p2 m2 c2, .int .i64 e2] 35)) := ⟨_, rfl⟩
  have Xs : Hid (B6q W0 (w.heap.size) (.bool s1) (.slice p1 m1 c1) (.int .i64 e1) (.bool s2) (.slice p2 m2 c2) (.int .i64 e2)) := by rw [hW0]; exact ⟨by go_simp, by go_simp, by go_simp, by go_simp, by go_simp, by go_simp, by go_simp, by go_simp, by go_simp, by go_simp, by go_simp, by go_simp⟩
  have hb0 : Below w.heap.size w W0 := by rw [hW0]; exact below1 w _
  rw [← hW0]
  clear hW0
  have hbw : Below w.heap.size w w := Below.refl _ _
  obtain ⟨gs, hgs⟩ : ∃ g, g = w.heap.size := ⟨_, rfl⟩
  have HGs : Hid (w.heap.size ≤ gs) := by rw [hgs]; show _ ≤ _; omega
  rw [← hgs] at Xs
  try rw [← hgs]
  clear hgs
  replace hbw := Below.on hbw hb0
  clear hb0
  refine (dcmp (A.out.below hbw) (B.out.below hbw)).mono ?_
  rintro e v1 ⟨rfl, hb1⟩
  rw [HCC.out]
  replace Xs : Hid _ := Xs.out.below hb1
  replace hbw := Below.on hbw hb1
  clear hb1
  go_wp2_with fail
  go_ret
  exact ⟨rfl, hbw⟩
theorem sform_l {s1 s2 : Bool} {p1 p2 : Option Addr} {m1 m2 c1 c2 : Nat} {e1 e2 : Int} {w : World} {xs : List Nat} (h : At w p1 m1 c1 xs) (hf : formD s1 xs e1 = false) :
    Calls Tryz.prog 26 #[SV s1 p1 m1 c1 e1 s2 p2 m2 c2 e2] w fun en w' => en = .returned (.bool false) ∧ Below w.heap.size w w' := by
  have A : Hid (At w p1 m1 c1 xs ∧ formD s1 xs e1 = false) := ⟨h, hf⟩
  clear h hf
  go_enter Tryz.func26, Tryz.ntmps26
  go_wp2_with fail
  obtain ⟨W0, hW0⟩ : ∃ W0, W0 = (w.alloc (.cells #[.bool s1, .slice p1 m1 c1, .int .i64 e1, .bool s2, .slice p2 m2 c2, .int .i64 e2] 35)) := ⟨_, rfl⟩
  have Xs : Hid (B6q W0 (w.heap.size) (.bool s1) (.slice p1 m1 c1) (.int .i64 e1) (.bool s2) (.slice p2 m2 c2) (.int .i64 e2)) := by rw [hW0]; exact ⟨by go_simp, by go_simp, by go_simp, by go_simp, by go_simp, by go_simp, by go_simp, by go_simp, by go_simp, by go_simp, by go_simp, by go_simp⟩
  have hb0 : Below w.heap.size w W0 := by rw [hW0]; exact below1 w _
  rw [← hW0]
  clear hW0
  have hbw : Below w.heap.size w w := Below.refl _ _
  obtain ⟨gs, hgs⟩ : ∃ g, g = w.heap.size := ⟨_, rfl⟩
  have HGs : Hid (w.heap.size ≤ gs) := by rw [hgs]; show _ ≤ _; omega
  rw [← hgs] at Xs
  try rw [← hgs]
  clear hgs
  replace hbw := Below.on hbw hb0
  clear hb0
  refine (dcmp_fl s1 s2 (A.out.1.below hbw) A.out.2).mono ?_
  rintro e v1 ⟨rfl, hb1⟩
  replace Xs : Hid _ := Xs.out.below hb1
  replace hbw := Below.on hbw hb1
  clear hb1
  go_wp2_with fail
  go_ret
  exact ⟨rfl, hbw⟩
theorem sform_r {s1 s2 : Bool} {p1 p2 : Option Addr} {m1 m2 c1 c2 : Nat} {e1 e2 : Int} {w : World} {x : Int} {xs : List Nat} (k : DN w s1 p1 m1 c1 e1 x) (h : At w p2 m2 c2 xs) (hf : formD s2 xs e2 = false) :
    Calls Tryz.prog 26 #[SV s1 p1 m1 c1 e1 s2 p2 m2 c2 e2] w fun en w' => en = .returned (.bool false) ∧ Below w.heap.size w w' := by
  have A : Hid (At w p2 m2 c2 xs ∧ formD s2 xs e2 = false) := ⟨h, hf⟩
  have B : Hid (DN w s1 p1 m1 c1 e1 x) := k
  clear h k hf
  go_enter Tryz.func26, Tryz.ntmps26
  go_wp2_with fail
  obtain ⟨W0, hW0⟩ : ∃ W0, W0 = (w.alloc (.cells #[.bool s1, .slice p1 m1 c1, .int .i64 e1, .bool s2, .slice p2 m2 c2, .int .i64 e2] 35)) := ⟨_, rfl⟩
  have Xs : Hid (B6q W0 (w.heap.size) (.bool s1) (.slice p1 m1 c1) (.int .i64 e1) (.bool s2) (.slice p2 m2 c2) (.int .i64 e2)) := by rw [hW0]; exact ⟨by go_simp, by go_simp, by go_simp, by go_simp, by go_simp, by go_simp, by go_simp, by go_simp, by go_simp, by go_simp, by go_simp, by go_simp⟩
  have hb0 : Below w.heap.size w W0 := by rw [hW0]; exact below1 w _
  rw [← hW0]
  clear hW0
  have hbw : Below w.heap.size w w := Below.refl _ _
  obtain ⟨gs, hgs⟩ : ∃ g, g = w.heap.size := ⟨_, rfl⟩
  have HGs : Hid (w.heap.size ≤ gs) := by rw [hgs]; show _ ≤ _; omega
  rw [← hgs] at Xs
  try rw [← hgs]
  clear hgs
  replace hbw := Below.on hbw hb0
  clear hb0
  refine (dcmp_fr s1 s2 (B.out.below hbw) (A.out.1.below hbw) A.out.2).mono ?_
  rintro e v1 ⟨rfl, hb1⟩
  replace Xs : Hid _ := Xs.out.below hb1
  replace hbw := Below.on hbw hb1
  clear hb1
  go_wp2_with fail
  go_ret
  exact ⟨rfl, hbw⟩
theorem results_t3 {fn : Func} {a b c : Tmp} (h : fn.results = #[.tmp a, .tmp b, .tmp c]) (tmps : Array Value) (P : Program) (w : World) :
    (results fn tmps).run P w = .ok (.tuple #[tmps.getD a undef, tmps.getD b undef, tmps.getD c undef]) w := by
  simp only [results, h]
  simp
theorem decide_f {f p m l : Int} {S I H sd : Nat} {Be : Int} (J : Jn f p m l S I H sd Be) {s1 s2 : Bool} {p1 p2 : Option Addr} {m1 m2 c1 c2 : Nat} {e1 e2 : Int} {w : World} (hF : ∀ w', Below w.heap.size w w' → Calls Tryz.prog 26 #[SV s1 p1 m1 c1 e1 s2 p2 m2 c2 e2] w' fun en w2 => en = .returned (.bool false) ∧ Below w'.heap.size w' w2) :
    Calls Tryz.prog 10 #[.int .i64 f, SV s1 p1 m1 c1 e1 s2 p2 m2 c2 e2] w fun en w' => en = .returned (.tuple #[.int .u64 0, .bool false, .int .i64 2]) ∧ Below w.heap.size w w' := by
  have HJN : Hid (Jn f p m l S I H sd Be) := J
  have HF : Hid (∀ w', Below w.heap.size w w' → Calls Tryz.prog 26 #[SV s1 p1 m1 c1 e1 s2 p2 m2 c2 e2] w' fun en w2 => en = .returned (.bool false) ∧ Below w'.heap.size w' w2) := hF
  clear J hF
  go_enter Tryz.func10, Tryz.ntmps10
  go_wp2_with fail
  obtain ⟨W0, hW0⟩ : ∃ W0, W0 = (w.alloc (.cells #[.bool s1, .slice p1 m1 c1, .int .i64 e1, .bool s2, .slice p2 m2 c2, .int .i64 e2] 35)) := ⟨_, rfl⟩
  have Xs : Hid (B6q W0 (w.heap.size) (.bool s1) (.slice p1 m1 c1) (.int .i64 e1) (.bool s2) (.slice p2 m2 c2) (.int .i64 e2)) := by rw [hW0]; exact ⟨by go_simp, by go_simp, by go_simp, by go_simp, by go_simp, by go_simp, by go_simp, by go_simp, by go_simp, by go_simp, by go_simp, by go_simp⟩
  have hb0 : Below w.heap.size w W0 := by rw [hW0]; exact below1 w _
  rw [← hW0]
  clear hW0
  have hbw : Below w.heap.size w w := Below.refl _ _
  obtain ⟨gs, hgs⟩ : ∃ g, g = w.heap.size := ⟨_, rfl⟩
  have HGs : Hid (w.heap.size ≤ gs) := by rw [hgs]; show _ ≤ _; omega
  rw [← hgs] at Xs
  try rw [← hgs]
  clear hgs
  replace hbw := Below.on hbw hb0
  clear hb0
  refine (HJN.out.jm.pm.fm.of _).mono ?_
  rintro e v1 ⟨rfl, hb1⟩
  replace Xs : Hid _ := Xs.out.below hb1
  replace hbw := Below.on hbw hb1
  clear hb1
  obtain ⟨cs0, cs1, cs2, cs3, cs4, cs5, fs0, fs1, fs2, fs3, fs4, fs5⟩ := Xs.out
  have hnes : gs < v1.heap.size := World.block_lt_of_cell? v1 _ cs0
  go_wp2_with fail
  clear cs0 cs1 cs2 cs3 cs4 cs5 fs0 fs1 fs2 fs3 fs4 fs5 hnes
  have Xg0 : Hid (B3q (v1.alloc (.cells #[.int .i64 p, .int .i64 m, .int .i64 l] 47)) v1.heap.size (.int .i64 p) (.int .i64 m) (.int .i64 l)) := B3q.new v1 _ _ _ _
  have hbn : Below v1.heap.size v1 (v1.alloc (.cells #[.int .i64 p, .int .i64 m, .int .i64 l] 47)) := below1 v1 _
  generalize v1.alloc (.cells #[.int .i64 p, .int .i64 m, .int .i64 l] 47) = Wg at *
  have HGg : Hid (w.heap.size ≤ v1.heap.size) := hbw.size
  replace Xs : Hid _ := Xs.out.below hbn
  replace hbw := Below.on hbw hbn
  clear hbn
  generalize v1.heap.size = gg at *
  have Xg := Xg0
  clear Xg0
  refine (HF.out _ hbw).mono ?_
  rintro e2 v2 ⟨rfl, hb2⟩
  replace Xs : Hid _ := Xs.out.below hb2
  replace Xg : Hid _ := Xg.out.below hb2
  replace hbw := Below.on hbw hb2
  clear hb2
  go_wp2_with fail
  refine bodyPost_ret (v := .tuple #[.int .u64 0, .bool false, .int .i64 2]) (by rw [results_t3 rfl]; go_simp) rfl ⟨rfl, hbw⟩
theorem decide_y {f p m l : Int} {S I H sd : Nat} {Be : Int} (J : Jn f p m l S I H sd Be) {s1 s2 : Bool} {p1 p2 : Option Addr} {m1 m2 c1 c2 : Nat} {e1 e2 : Int} {w : World} {x y : Int} (h : DN w s1 p1 m1 c1 e1 x) (k : DN w s2 p2 m2 c2 e2 y) (hc : dv x e1 ≤ dv y e2) (hq : rnp l sd Be S I x e1 = rnp l sd Be S I y e2) (hT : Tab w) :
    Calls Tryz.prog 10 #[.int .i64 f, SV s1 p1 m1 c1 e1 s2 p2 m2 c2 e2] w fun en w' => en = .returned (.tuple #[U (rnp l sd Be S I x e1), .bool true, .int .i64 0]) ∧ Below w.heap.size w w' := by
  have HJN : Hid (Jn f p m l S I H sd Be) := J
  have A : Hid (DN w s1 p1 m1 c1 e1 x) := h
  have B : Hid (DN w s2 p2 m2 c2 e2 y) := k
  have HC : Hid (dv x e1 ≤ dv y e2) := hc
  have TB : Hid (Tab w) := hT
  have HE : Hid ((-4194304 ≤ e1 ∧ e1 ≤ 4194304) ∧ -4194304 ≤ e2 ∧ e2 ≤ 4194304) := by
    refine ⟨?_, ?_⟩
    · rcases h.fm with ⟨_, h2⟩ | ⟨_, h2, h3⟩ <;> omega
    · rcases k.fm with ⟨_, h2⟩ | ⟨_, h2, h3⟩ <;> omega
  obtain ⟨ra, hra⟩ : ∃ r, r = rnp l sd Be S I x e1 := ⟨_, rfl⟩
  obtain ⟨rb, hrb⟩ : ∃ r, r = rnp l sd Be S I y e2 := ⟨_, rfl⟩
  rw [← hra, ← hrb] at hq
  rw [← hra]
  have HR : Hid (rnp l sd Be S I x e1 = ra ∧ rnp l sd Be S I y e2 = rb) := ⟨hra.symm, hrb.symm⟩
  have q1 : ((ra : Int) == (rb : Int)) = true := by simp; omega
  clear J h k hc hT hra hrb
  subst hq
  go_enter Tryz.func10, Tryz.ntmps10
  go_wp2_with fail
  obtain ⟨W0, hW0⟩ : ∃ W0, W0 = (w.alloc (.cells #[.bool s1, .slice p1 m1 c1, .int .i64 e1, .bool s2, .slice p2 m2 c2, .int .i64 e2] 35)) := ⟨_, rfl⟩
  have Xs : Hid (B6q W0 (w.heap.size) (.bool s1) (.slice p1 m1 c1) (.int .i64 e1) (.bool s2) (.slice p2 m2 c2) (.int .i64 e2)) := by rw [hW0]; exact ⟨by go_simp, by go_simp, by go_simp, by go_simp, by go_simp, by go_simp, by go_simp, by go_simp, by go_simp, by go_simp, by go_simp, by go_simp⟩
  have hb0 : Below w.heap.size w W0 := by rw [hW0]; exact below1 w _
  rw [← hW0]
  clear hW0
  have hbw : Below w.heap.size w w := Below.refl _ _
  obtain ⟨gs, hgs⟩ : ∃ g, g = w.heap.size := ⟨_, rfl⟩
  have HGs : Hid (w.heap.size ≤ gs) := by rw [hgs]; show _ ≤ _; omega
  rw [← hgs] at Xs
  try rw [← hgs]
  clear hgs
  replace hbw := Below.on hbw hb0
  clear hb0
  refine (HJN.out.jm.pm.fm.of _).mono ?_
  rintro e v1 ⟨rfl, hb1⟩
  replace Xs : Hid _ := Xs.out.below hb1
  replace hbw := Below.on hbw hb1
  clear hb1
  obtain ⟨cs0, cs1, cs2, cs3, cs4, cs5, fs0, fs1, fs2, fs3, fs4, fs5⟩ := Xs.out
  have hnes : gs < v1.heap.size := World.block_lt_of_cell? v1 _ cs0
  go_wp2_with fail
  clear cs0 cs1 cs2 cs3 cs4 cs5 fs0 fs1 fs2 fs3 fs4 fs5 hnes
  have Xg0 : Hid (B3q (v1.alloc (.cells #[.int .i64 p, .int .i64 m, .int .i64 l] 47)) v1.heap.size (.int .i64 p) (.int .i64 m) (.int .i64 l)) := B3q.new v1 _ _ _ _
  have hbn : Below v1.heap.size v1 (v1.alloc (.cells #[.int .i64 p, .int .i64 m, .int .i64 l] 47)) := below1 v1 _
  generalize v1.alloc (.cells #[.int .i64 p, .int .i64 m, .int .i64 l] 47) = Wg at *
  have HGg : Hid (w.heap.size ≤ v1.heap.size) := hbw.size
  replace Xs : Hid _ := Xs.out.below hbn
  replace hbw := Below.on hbw hbn
  clear hbn
  generalize v1.heap.size = gg at *
  have Xg := Xg0
  clear Xg0
  refine (sform_t (A.out.below hbw) (B.out.below hbw) HC.out).mono ?_
  rintro e v2 ⟨rfl, hb2⟩
  replace Xs : Hid _ := Xs.out.below hb2
  replace Xg : Hid _ := Xg.out.below hb2
  replace hbw := Below.on hbw hb2
  clear hb2
  obtain ⟨cs0, cs1, cs2, cs3, cs4, cs5, fs0, fs1, fs2, fs3, fs4, fs5⟩ := Xs.out
  have hnes : gs < v2.heap.size := World.block_lt_of_cell? v2 _ cs0
  obtain ⟨cg0, cg1, cg2, fg0, fg1, fg2⟩ := Xg.out
  have hneg : gg < v2.heap.size := World.block_lt_of_cell? v2 _ cg0
  go_wp2_with fail
  clear cs0 cs1 cs2 cs3 cs4 cs5 fs0 fs1 fs2 fs3 fs4 fs5 hnes
  clear cg0 cg1 cg2 fg0 fg1 fg2 hneg
  refine (nearest_ok HJN.out (A.out.zn.below hbw) HE.out.1 (TB.out.below hbw)).mono ?_
  rintro e v3 ⟨rfl, hb3⟩
  rw [HR.out.1]
  replace Xs : Hid _ := Xs.out.below hb3
  replace Xg : Hid _ := Xg.out.below hb3
  replace hbw := Below.on hbw hb3
  clear hb3
  obtain ⟨cs0, cs1, cs2, cs3, cs4, cs5, fs0, fs1, fs2, fs3, fs4, fs5⟩ := Xs.out
  have hnes : gs < v3.heap.size := World.block_lt_of_cell? v3 _ cs0
  obtain ⟨cg0, cg1, cg2, fg0, fg1, fg2⟩ := Xg.out
  have hneg : gg < v3.heap.size := World.block_lt_of_cell? v3 _ cg0
  go_wp2_with fail
  clear cs0 cs1 cs2 cs3 cs4 cs5 fs0 fs1 fs2 fs3 fs4 fs5 hnes
  clear cg0 cg1 cg2 fg0 fg1 fg2 hneg
  refine (nearest_ok HJN.out (B.out.zn.below hbw) HE.out.2 (TB.out.below hbw)).mono ?_
  rintro e v4 ⟨rfl, hb4⟩
  rw [HR.out.2]
  replace Xs : Hid _ := Xs.out.below hb4
  replace Xg : Hid _ := Xg.out.below hb4
  replace hbw := Below.on hbw hb4
  clear hb4
  obtain ⟨cs0, cs1, cs2, cs3, cs4, cs5, fs0, fs1, fs2, fs3, fs4, fs5⟩ := Xs.out
  have hnes : gs < v4.heap.size := World.block_lt_of_cell? v4 _ cs0
  obtain ⟨cg0, cg1, cg2, fg0, fg1, fg2⟩ := Xg.out
  have hneg : gg < v4.heap.size := World.block_lt_of_cell? v4 _ cg0
  go_wp2_with fail
  clear cs0 cs1 cs2 cs3 cs4 cs5 fs0 fs1 fs2 fs3 fs4 fs5 hnes
  clear cg0 cg1 cg2 fg0 fg1 fg2 hneg
  refine bodyPost_ret (v := .tuple #[U ra, .bool true, .int .i64 0]) (by rw [results_t3 rfl]; go_simp) rfl ⟨rfl, hbw⟩
theorem decide_n {f p m l : Int} {S I H sd : Nat} {Be : Int} (J : Jn f p m l S I H sd Be) {s1 s2 : Bool} {p1 p2 : Option Addr} {m1 m2 c1 c2 : Nat} {e1 e2 : Int} {w : World} {x y : Int} (h : DN w s1 p1 m1 c1 e1 x) (k : DN w s2 p2 m2 c2 e2 y) (hc : dv x e1 ≤ dv y e2) (hq : ¬ rnp l sd Be S I x e1 = rnp l sd Be S I y e2) (hT : Tab w) :
    Calls Tryz.prog 10 #[.int .i64 f, SV s1 p1 m1 c1 e1 s2 p2 m2 c2 e2] w fun en w' => en = .returned (.tuple #[.int .u64 0, .bool false, .int .i64 0]) ∧ Below w.heap.size w w' := by
  have HJN : Hid (Jn f p m l S I H sd Be) := J
  have A : Hid (DN w s1 p1 m1 c1 e1 x) := h
  have B : Hid (DN w s2 p2 m2 c2 e2 y) := k
  have HC : Hid (dv x e1 ≤ dv y e2) := hc
  have TB : Hid (Tab w) := hT
  have HE : Hid ((-4194304 ≤ e1 ∧ e1 ≤ 4194304) ∧ -4194304 ≤ e2 ∧ e2 ≤ 4194304) := by
    refine ⟨?_, ?_⟩
    · rcases h.fm with ⟨_, h2⟩ | ⟨_, h2, h3⟩ <;> omega
    · rcases k.fm with ⟨_, h2⟩ | ⟨_, h2, h3⟩ <;> omega
  obtain ⟨ra, hra⟩ : ∃ r, r = rnp l sd Be S I x e1 := ⟨_, rfl⟩
  obtain ⟨rb, hrb⟩ : ∃ r, r = rnp l sd Be S I y e2 := ⟨_, rfl⟩
  rw [← hra, ← hrb] at hq
  skip
  have HR : Hid (rnp l sd Be S I x e1 = ra ∧ rnp l sd Be S I y e2 = rb) := ⟨hra.symm, hrb.symm⟩
  have q1 : ((ra : Int) == (rb : Int)) = false := by simp; omega
  clear J h k hc hT hra hrb
  clear hq
  go_enter Tryz.func10, Tryz.ntmps10
  go_wp2_with fail
  obtain ⟨W0, hW0⟩ : ∃ W0, W0 = (w.alloc (.cells #[.bool s1, .slice p1 m1 c1, .int .i64 e1, .bool s2, .slice p2 m2 c2, .int .i64 e2] 35)) := ⟨_, rfl⟩
  have Xs : Hid (B6q W0 (w.heap.size) (.bool s1) (.slice p1 m1 c1) (.int .i64 e1) (.bool s2) (.slice p2 m2 c2) (.int .i64 e2)) := by rw [hW0]; exact ⟨by go_simp, by go_simp, by go_simp, by go_simp, by go_simp, by go_simp, by go_simp, by go_simp, by go_simp, by go_simp, by go_simp, by go_simp⟩
  have hb0 : Below w.heap.size w W0 := by rw [hW0]; exact below1 w _
  rw [← hW0]
  clear hW0
  have hbw : Below w.heap.size w w := Below.refl _ _
  obtain ⟨gs, hgs⟩ : ∃ g, g = w.heap.size := ⟨_, rfl⟩
  have HGs : Hid (w.heap.size ≤ gs) := by rw [hgs]; show _ ≤ _; omega
  rw [← hgs] at Xs
  try rw [← hgs]
  clear hgs
  replace hbw := Below.on hbw hb0
  clear hb0
  refine (HJN.out.jm.pm.fm.of _).mono ?_
  rintro e v1 ⟨rfl, hb1⟩
  replace Xs : Hid _ := Xs.out.below hb1
  replace hbw := Below.on hbw hb1
  clear hb1
  obtain ⟨cs0, cs1, cs2, cs3, cs4, cs5, fs0, fs1, fs2, fs3, fs4, fs5⟩ := Xs.out
  have hnes : gs < v1.heap.size := World.block_lt_of_cell? v1 _ cs0
  go_wp2_with fail
  clear cs0 cs1 cs2 cs3 cs4 cs5 fs0 fs1 fs2 fs3 fs4 fs5 hnes
  have Xg0 : Hid (B3q (v1.alloc (.cells #[.int .i64 p, .int .i64 m, .int .i64 l] 47)) v1.heap.size (.int .i64 p) (.int .i64 m) (.int .i64 l)) := B3q.new v1 _ _ _ _
  have hbn : Below v1.heap.size v1 (v1.alloc (.cells #[.int .i64 p, .int .i64 m, .int .i64 l] 47)) := below1 v1 _
  generalize v1.alloc (.cells #[.int .i64 p, .int .i64 m, .int .i64 l] 47) = Wg at *
  have HGg : Hid (w.heap.size ≤ v1.heap.size) := hbw.size
  replace Xs : Hid _ := Xs.out.below hbn
  replace hbw := Below.on hbw hbn
  clear hbn
  generalize v1.heap.size = gg at *
  have Xg := Xg0
  clear Xg0
  refine (sform_t (A.out.below hbw) (B.out.below hbw) HC.out).mono ?_
  rintro e v2 ⟨rfl, hb2⟩
  replace Xs : Hid _ := Xs.out.below hb2
  replace Xg : Hid _ := Xg.out.below hb2
  replace hbw := Below.on hbw hb2
  clear hb2
  obtain ⟨cs0, cs1, cs2, cs3, cs4, cs5, fs0, fs1, fs2, fs3, fs4, fs5⟩ := Xs.out
  have hnes : gs < v2.heap.size := World.block_lt_of_cell? v2 _ cs0
  obtain ⟨cg0, cg1, cg2, fg0, fg1, fg2⟩ := Xg.out
  have hneg : gg < v2.heap.size := World.block_lt_of_cell? v2 _ cg0
  go_wp2_with fail
  clear cs0 cs1 cs2 cs3 cs4 cs5 fs0 fs1 fs2 fs3 fs4 fs5 hnes
  clear cg0 cg1 cg2 fg0 fg1 fg2 hneg
  refine (nearest_ok HJN.out (A.out.zn.below hbw) HE.out.1 (TB.out.below hbw)).mono ?_
  rintro e v3 ⟨rfl, hb3⟩
  rw [HR.out.1]
  replace Xs : Hid _ := Xs.out.below hb3
  replace Xg : Hid _ := Xg.out.below hb3
  replace hbw := Below.on hbw hb3
  clear hb3
  obtain ⟨cs0, cs1, cs2, cs3, cs4, cs5, fs0, fs1, fs2, fs3, fs4, fs5⟩ := Xs.out
  have hnes : gs < v3.heap.size := World.block_lt_of_cell? v3 _ cs0
  obtain ⟨cg0, cg1, cg2, fg0, fg1, fg2⟩ := Xg.out
  have hneg : gg < v3.heap.size := World.block_lt_of_cell? v3 _ cg0
  go_wp2_with fail
  clear cs0 cs1 cs2 cs3 cs4 cs5 fs0 fs1 fs2 fs3 fs4 fs5 hnes
  clear cg0 cg1 cg2 fg0 fg1 fg2 hneg
  refine (nearest_ok HJN.out (B.out.zn.below hbw) HE.out.2 (TB.out.below hbw)).mono ?_
  rintro e v4 ⟨rfl, hb4⟩
  rw [HR.out.2]
  replace Xs : Hid _ := Xs.out.below hb4
  replace Xg : Hid _ := Xg.out.below hb4
  replace hbw := Below.on hbw hb4
  clear hb4
  obtain ⟨cs0, cs1, cs2, cs3, cs4, cs5, fs0, fs1, fs2, fs3, fs4, fs5⟩ := Xs.out
  have hnes : gs < v4.heap.size := World.block_lt_of_cell? v4 _ cs0
  obtain ⟨cg0, cg1, cg2, fg0, fg1, fg2⟩ := Xg.out
  have hneg : gg < v4.heap.size := World.block_lt_of_cell? v4 _ cg0
  go_wp2_with fail
  clear cs0 cs1 cs2 cs3 cs4 cs5 fs0 fs1 fs2 fs3 fs4 fs5 hnes
  clear cg0 cg1 cg2 fg0 fg1 fg2 hneg
  refine bodyPost_ret (v := .tuple #[.int .u64 0, .bool false, .int .i64 0]) (by rw [results_t3 rfl]; go_simp) rfl ⟨rfl, hbw⟩
def MakeA (s : Bool) (xs : List Nat) (e zo eo er : Int) : Prop := (formZ s xs = false ∧ zo = 0 ∧ eo = 0 ∧ er = 2) ∨ (formZ s xs = true ∧ MkR (iv s (valB B64 xs)) e zo eo er)
theorem MakeA.uniq {s : Bool} {xs : List Nat} {e zo eo er zo' eo' er' : Int} (h : MakeA s xs e zo eo er) (k : MakeA s xs e zo' eo' er') : zo = zo' ∧ eo = eo' ∧ er = er' := by
  rcases h with ⟨h0, rfl, rfl, rfl⟩ | ⟨h0, h⟩ <;> rcases k with ⟨k0, rfl, rfl, rfl⟩ | ⟨k0, k⟩
  · exact ⟨rfl, rfl, rfl⟩
  · rw [h0] at k0; cases k0
  · rw [h0] at k0; cases k0
  · exact h.uniq k
def CmpA (s : Bool) (xs : List Nat) (e : Int) (t : Bool) (ys : List Nat) (f : Int) : Int × Int :=
  if formD s xs e = true ∧ formD t ys f = true then (cmpI (dv (iv s (valB B64 xs)) e) (dv (iv t (valB B64 ys)) f), 0) else (0, 2)
theorem rshr_alle {p : Option Addr} {n : Nat} {xs : List Nat} {v : Nat} {w : World} (h : At32 w p n n xs) (hx : Nf B32 xs v) (hn : n ≤ 16384) (N : Nat) (hN2 : N ≤ 9223372036854775807) :
    Calls Tryz.prog 103 #[.slice p n n, .int .i64 N] w fun e w' => ∃ p' m' zs, e = .returned (.slice p' m' m') ∧ At32 w' p' m' m' zs ∧ Nf B32 zs (v / 2 ^ N) ∧ m' ≤ n ∧ Below w.heap.size w w' := by
  rcases Nat.eq_zero_or_pos N with h0 | h0
  · subst h0
    refine (rshr_0 h hx hn).mono ?_
    rintro e w' ⟨g, rfl, h1, hb⟩
    exact ⟨_, n, xs, rfl, h1, by rw [Nat.pow_zero, Nat.div_one]; exact hx, Nat.le_refl _, hb⟩
  · exact rfshr_any h hx hn N h0 hN2
theorem dn_exp {w : World} {s : Bool} {p : Option Addr} {m c : Nat} {e z : Int} (h : DN w s p m c e z) : -1048576 ≤ e ∧ e ≤ 1048576 := by
  rcases h.fm with ⟨_, rfl⟩ | ⟨_, h⟩
  · exact ⟨by decide, by decide⟩
  · exact h
theorem cmp3 (a b : Int) : cmpI a b = -1 ∨ cmpI a b = 0 ∨ cmpI a b = 1 := by
  rcases Int.lt_trichotomy a b with h | h | h
  · exact .inl (cmp_l h)
  · exact .inr (.inl (cmp_e h))
  · exact .inr (.inr (cmp_g h))
theorem rfromD {p : Option Addr} {m c : Nat} {w : World} {z e : Int} {s : Bool} (h : DN w s p m c e z) :
    Calls Tryz.prog 62 #[ZV s p m c] w fun e w' => ∃ s' p' m', e = .returned (.agg #[.bool s', .slice p' m' m']) ∧ ZR w' s' p' m' z ∧ m' ≤ 16384 ∧ Below w.heap.size w w' := by
  obtain ⟨xs, hX⟩ := h.zn.ex
  have hv : iv s (valB B64 xs) = z := by rw [hX.nf.val]; exact h.zn.iv
  have hl := hX.le
  refine (rfrom5 s hX.at_ (by omega)).mono ?_
  rintro e w1 ⟨s1, p1, m1, rfl, h1, h2, h3⟩
  rw [hv] at h1
  exact ⟨s1, p1, m1, rfl, h1, by omega, h3⟩
theorem rsg5 {p : Option Addr} {m c : Nat} {w : World} {z e : Int} {s : Bool} (h : DN w s p m c e z) :
    Calls Tryz.prog 131 #[DV s p m c e] w fun en w' => en = .returned (.int .i64 (sgnI z)) ∧ Below w.heap.size w w' := by
  have H : Hid (DN w s p m c e z) := h
  clear h
  go_enter Tryz.func131, Tryz.ntmps131
  go_wp2_with fail
  obtain ⟨W0, hW0⟩ : ∃ W0, W0 = (w.alloc (.cells #[.bool s, .slice p m c, .int .i64 e] 33)) := ⟨_, rfl⟩
  have Xd : Hid (B3q W0 (w.heap.size) (.bool s) (.slice p m c) (.int .i64 e)) := by rw [hW0]; exact ⟨by go_simp, by go_simp, by go_simp, by go_simp, by go_simp, by go_simp⟩
  have hb0 : Below w.heap.size w W0 := by rw [hW0]; exact below1 w _
  rw [← hW0]
  clear hW0
  have hbw : Below w.heap.size w w := Below.refl _ _
  obtain ⟨gd, hgd⟩ : ∃ g, g = w.heap.size := ⟨_, rfl⟩
  have HGd : Hid (w.heap.size ≤ gd) := by rw [hgd]; show _ ≤ _; omega
  rw [← hgd] at Xd
  try rw [← hgd]
  clear hgd
  replace hbw := Below.on hbw hb0
  clear hb0
  refine (rfromD (H.out.below hbw)).mono ?_
  rintro e2 v1 ⟨s1, p1, m1, rfl, hz1, hl1, hb1⟩
  replace Xd : Hid _ := Xd.out.below hb1
  replace hbw := Below.on hbw hb1
  clear hb1
  have Z1 : Hid (ZR v1 s1 p1 m1 z) := hz1
  have HL1 : Hid (m1 ≤ 16384) := hl1
  clear hz1 hl1
  go_wp2_with fail
  refine (rsign04 s1 Z1.out).mono ?_
  rintro e v2 ⟨rfl, hb2⟩
  replace Xd : Hid _ := Xd.out.below hb2
  replace Z1 : Hid _ := Z1.out.below hb2
  replace hbw := Below.on hbw hb2
  clear hb2
  go_wp2_with fail
  go_ret
  exact ⟨rfl, hbw⟩
theorem topS {p : Option Addr} {m c : Nat} {w : World} {z e : Int} {s : Bool} (h : DN w s p m c e z) :
    Calls Tryz.prog 133 #[DV s p m c e] w fun en w' => en = .returned (.int .i64 (topI z e)) ∧ Below w.heap.size w w' := by
  have H : Hid (DN w s p m c e z) := h
  clear h
  go_enter Tryz.func133, Tryz.ntmps133
  go_wp2_with fail
  obtain ⟨W0, hW0⟩ : ∃ W0, W0 = (w.alloc (.cells #[.bool s, .slice p m c, .int .i64 e] 33)) := ⟨_, rfl⟩
  have Xd : Hid (B3q W0 (w.heap.size) (.bool s) (.slice p m c) (.int .i64 e)) := by rw [hW0]; exact ⟨by go_simp, by go_simp, by go_simp, by go_simp, by go_simp, by go_simp⟩
  have hb0 : Below w.heap.size w W0 := by rw [hW0]; exact below1 w _
  rw [← hW0]
  clear hW0
  have hbw : Below w.heap.size w w := Below.refl _ _
  obtain ⟨gd, hgd⟩ : ∃ g, g = w.heap.size := ⟨_, rfl⟩
  have HGd : Hid (w.heap.size ≤ gd) := by rw [hgd]; show _ ≤ _; omega
  rw [← hgd] at Xd
  try rw [← hgd]
  clear hgd
  replace hbw := Below.on hbw hb0
  clear hb0
  obtain ⟨xs, hX⟩ := (H.out.zn.below hbw).ex
  have hbN := (lim_bits z.natAbs).1 H.out.zn.lim
  have hee := dn_exp H.out
  have t7 : wrap64 (e + (bitsN z.natAbs : Int)) = e + (bitsN z.natAbs : Int) := by simp only [wrap64]; omega
  have t6 : IntKind.i64.wrap (e + (bitsN z.natAbs : Int)) = e + (bitsN z.natAbs : Int) := by simp [IntKind.wrap, IntKind.signed, IntKind.bits]; omega
  have t8 : wrap64 (e + (bitsN z.natAbs : Int) - 1) = topI z e := by unfold topI; simp only [wrap64]; omega
  have t9 : IntKind.i64.wrap (e + (bitsN z.natAbs : Int) - 1) = topI z e := by unfold topI; simp [IntKind.wrap, IntKind.signed, IntKind.bits]; omega
  have HX : Hid (At W0 p m c xs) := hX.at_
  have HV : Hid (valB B64 xs = z.natAbs ∧ m ≤ 8192) := ⟨hX.nf.val, hX.le⟩
  clear hX hbN hee
  obtain ⟨W1, hW1⟩ : ∃ W1, W1 = W0.drew := ⟨_, rfl⟩
  have hbd : Below W0.heap.size W0 W1 := by rw [hW1]; exact bDrew1 (Below.refl _ _)
  replace Xd : Hid _ := Xd.out.below hbd
  replace HX : Hid _ := HX.out.below hbd
  replace hbw := Below.on hbw hbd
  clear hbd
  have HJ : Hid ((fun W' : World => W'.cell? ⟨gd, 0, none⟩ = some (.bool s) ∧ W'.cell? ⟨gd, 1, none⟩ = some (.slice p m c) ∧ W'.cell? ⟨gd, 2, none⟩ = some (.int .i64 e)) W1) := ⟨Xd.out.c0, Xd.out.c1, Xd.out.c2⟩
  refine wp_region_J (fun W' => W'.cell? ⟨gd, 0, none⟩ = some (.bool s) ∧ W'.cell? ⟨gd, 1, none⟩ = some (.slice p m c) ∧ W'.cell? ⟨gd, 2, none⟩ = some (.int .i64 e)) (by kernel_rfl) ?_
  rw [← hW1]
  clear hW1
  refine wpJ_tq 0 rfl HJ.out ?_
  refine wpJ_tq 1 rfl HJ.out ?_
  refine wpJ_tq 2 rfl HJ.out ?_
  refine wpJ_tq 3 rfl HJ.out ?_
  refine wpJ_tq 4 rfl HJ.out ?_
  refine wpJ_on 5 rfl fun KJ hK => ?_
  go_simp
  refine (from_any HX.out (by have := HV.out; omega)).mono ?_
  rintro e2 v2 ⟨g2, z2, rfl, hg2, hB2, hN2, hl2, hb2⟩
  have hA2 := hB2.at_ hN2.dig rfl (by have := HV.out; unfold maxLen; omega)
  obtain ⟨m2, hm2⟩ : ∃ m, m = z2.length := ⟨_, rfl⟩
  rw [← hm2] at hA2 hl2 ⊢
  clear hB2 hg2 hm2
  replace Xd : Hid _ := Xd.out.below hb2
  replace HX : Hid _ := HX.out.below hb2
  replace hbw := Below.on hbw hb2
  clear hb2
  have A2 : Hid (At32 v2 (some ⟨g2, 0, none⟩) m2 m2 z2) := hA2
  have N2 : Hid (Nf B32 z2 z.natAbs ∧ m2 ≤ 16384) := ⟨by rw [← HV.out.1]; exact hN2, by have := HV.out; omega⟩
  clear hA2 hN2 hl2
  clear HJ
  have HJ : Hid ((fun W' : World => W'.cell? ⟨gd, 0, none⟩ = some (.bool s) ∧ W'.cell? ⟨gd, 1, none⟩ = some (.slice p m c) ∧ W'.cell? ⟨gd, 2, none⟩ = some (.int .i64 e)) v2) := ⟨Xd.out.c0, Xd.out.c1, Xd.out.c2⟩
  refine hK _ _ HJ.out ?_
  clear hK
  refine wpJ_on 6 rfl fun KJ hK => ?_
  go_simp
  refine (rbits_any A2.out N2.out.1 (by have := N2.out; omega)).mono ?_
  rintro e2 v3 ⟨rfl, hw⟩
  obtain rfl := hw.symm
  clear hw
  refine hK _ _ HJ.out ?_
  clear hK
  refine wpJ_tq 7 rfl HJ.out ?_
  refine wpJ_tq 8 rfl HJ.out ?_
  refine wpJ_tq 9 rfl HJ.out ?_
  refine wpJ_done (by kernel_rfl) ?_ _
  clear HJ
  go_wp2_with fail
  go_ret
  exact ⟨rfl, hbw⟩
theorem rdc_s {p q : Option Addr} {m c n d : Nat} {w : World} {e f : Int} {s t : Bool} {x y : Int} (h : DN w s p m c e x) (k : DN w t q n d f y) (hs : sgnI x ≠ sgnI y ∨ sgnI x = 0) :
    Calls Tryz.prog 89 #[DV s p m c e, DV t q n d f] w fun en w' => en = .returned (.tuple #[.int .i64 (cmpI (dv x e) (dv y f)), .int .i64 0]) ∧ Below w.heap.size w w' := by
  have A : Hid (DN w s p m c e x) := h
  have B : Hid (DN w t q n d f y) := k
  clear h k
  have HS : Hid (sgnI x ≠ sgnI y ∨ sgnI x = 0) := hs
  clear hs
  obtain ⟨xs, hX⟩ := A.out.zn.ex
  obtain ⟨ys, hY⟩ := B.out.zn.ex
  have FX : Hid (At w p m c xs ∧ formD s xs e = true) := ⟨hX.at_, dn_formD A.out hX⟩
  have FY : Hid (At w q n d ys ∧ formD t ys f = true) := ⟨hY.at_, dn_formD B.out hY⟩
  clear hX hY
  go_enter Tryz.func89, Tryz.ntmps89
  go_wp2_with fail
  obtain ⟨W0, hW0⟩ : ∃ W0, W0 = ((w.alloc (.cells #[.bool s, .slice p m c, .int .i64 e] 33)).alloc (.cells #[.bool t, .slice q n d, .int .i64 f] 33)) := ⟨_, rfl⟩
  have Xa : Hid (B3q W0 (w.heap.size) (.bool s) (.slice p m c) (.int .i64 e)) := by rw [hW0]; exact ⟨by go_simp, by go_simp, by go_simp, by go_simp, by go_simp, by go_simp⟩
  have Xb : Hid (B3q W0 (w.heap.size + 1) (.bool t) (.slice q n d) (.int .i64 f)) := by rw [hW0]; exact ⟨by go_simp, by go_simp, by go_simp, by go_simp, by go_simp, by go_simp⟩
  have hb0 : Below w.heap.size w W0 := by rw [hW0]; exact below2 w _ _
  rw [← hW0]
  clear hW0
  have hbw : Below w.heap.size w w := Below.refl _ _
  obtain ⟨gb, hgb⟩ : ∃ g, g = w.heap.size + 1 := ⟨_, rfl⟩
  have HGb : Hid (w.heap.size ≤ gb) := by rw [hgb]; show _ ≤ _; omega
  rw [← hgb] at Xb
  try rw [← hgb]
  obtain ⟨ga, hga⟩ : ∃ g, g = w.heap.size := ⟨_, rfl⟩
  have HGa : Hid (w.heap.size ≤ ga) := by rw [hga]; show _ ≤ _; omega
  rw [← hga] at Xa
  try rw [← hga]
  have HGD : Hid (ga ≠ gb ∧ gb ≠ ga) := by rw [hga, hgb]; exact ⟨by omega, by omega⟩
  clear hga hgb
  replace hbw := Below.on hbw hb0
  clear hb0
  refine (docformd s (FX.out.1.below hbw)).mono ?_
  rintro e v1 ⟨rfl, hb1⟩
  rw [FX.out.2]
  replace Xa : Hid _ := Xa.out.below hb1
  replace Xb : Hid _ := Xb.out.below hb1
  replace hbw := Below.on hbw hb1
  clear hb1
  obtain ⟨cb0, cb1, cb2, fb0, fb1, fb2⟩ := Xb.out
  have hneb : gb < v1.heap.size := World.block_lt_of_cell? v1 _ cb0
  go_wp2_with fail
  clear cb0 cb1 cb2 fb0 fb1 fb2 hneb
  refine (docformd t (FY.out.1.below hbw)).mono ?_
  rintro e v2 ⟨rfl, hb2⟩
  rw [FY.out.2]
  replace Xa : Hid _ := Xa.out.below hb2
  replace Xb : Hid _ := Xb.out.below hb2
  replace hbw := Below.on hbw hb2
  clear hb2
  obtain ⟨ca0, ca1, ca2, fa0, fa1, fa2⟩ := Xa.out
  have hnea : ga < v2.heap.size := World.block_lt_of_cell? v2 _ ca0
  obtain ⟨cb0, cb1, cb2, fb0, fb1, fb2⟩ := Xb.out
  have hneb : gb < v2.heap.size := World.block_lt_of_cell? v2 _ cb0
  go_wp2_with fail
  clear ca0 ca1 ca2 fa0 fa1 fa2 hnea
  clear cb0 cb1 cb2 fb0 fb1 fb2 hneb
  obtain ⟨W1, hW1⟩ : ∃ W1, W1 = v2.drew := ⟨_, rfl⟩
  have hbd : Below v2.heap.size v2 W1 := by rw [hW1]; exact bDrew1 (Below.refl _ _)
  replace Xa : Hid _ := Xa.out.below hbd
  replace Xb : Hid _ := Xb.out.below hbd
  replace hbw := Below.on hbw hbd
  clear hbd
  have HJ : Hid ((fun W' : World => W'.cell? ⟨ga, 0, none⟩ = some (.bool s) ∧ W'.cell? ⟨ga, 1, none⟩ = some (.slice p m c) ∧ W'.cell? ⟨ga, 2, none⟩ = some (.int .i64 e) ∧ W'.cell? ⟨gb, 0, none⟩ = some (.bool t) ∧ W'.cell? ⟨gb, 1, none⟩ = some (.slice q n d) ∧ W'.cell? ⟨gb, 2, none⟩ = some (.int .i64 f)) W1) := ⟨Xa.out.c0, Xa.out.c1, Xa.out.c2, Xb.out.c0, Xb.out.c1, Xb.out.c2⟩
  refine wp_region_J (fun W' => W'.cell? ⟨ga, 0, none⟩ = some (.bool s) ∧ W'.cell? ⟨ga, 1, none⟩ = some (.slice p m c) ∧ W'.cell? ⟨ga, 2, none⟩ = some (.int .i64 e) ∧ W'.cell? ⟨gb, 0, none⟩ = some (.bool t) ∧ W'.cell? ⟨gb, 1, none⟩ = some (.slice q n d) ∧ W'.cell? ⟨gb, 2, none⟩ = some (.int .i64 f)) (by kernel_rfl) ?_
  rw [← hW1]
  clear hW1
  refine wpJ_tq 0 rfl HJ.out ?_
  refine wpJ_tq 2 rfl HJ.out ?_
  refine wpJ_on 1 rfl fun KJ hK => ?_
  go_simp
  refine (rsg5 (A.out.below hbw)).mono ?_
  rintro e v3 ⟨rfl, hb3⟩
  replace Xa : Hid _ := Xa.out.below hb3
  replace Xb : Hid _ := Xb.out.below hb3
  replace hbw := Below.on hbw hb3
  clear hb3
  refine hK _ _ ⟨Xa.out.c0, Xa.out.c1, Xa.out.c2, Xb.out.c0, Xb.out.c1, Xb.out.c2⟩ ?_
  clear hK
  refine wpJ_on 3 rfl fun KJ hK => ?_
  go_simp
  refine (rsg5 (B.out.below hbw)).mono ?_
  rintro e v4 ⟨rfl, hb4⟩
  replace Xa : Hid _ := Xa.out.below hb4
  replace Xb : Hid _ := Xb.out.below hb4
  replace hbw := Below.on hbw hb4
  clear hb4
  clear HJ
  have HJ : Hid ((fun W' : World => W'.cell? ⟨ga, 0, none⟩ = some (.bool s) ∧ W'.cell? ⟨ga, 1, none⟩ = some (.slice p m c) ∧ W'.cell? ⟨ga, 2, none⟩ = some (.int .i64 e) ∧ W'.cell? ⟨gb, 0, none⟩ = some (.bool t) ∧ W'.cell? ⟨gb, 1, none⟩ = some (.slice q n d) ∧ W'.cell? ⟨gb, 2, none⟩ = some (.int .i64 f)) v4) := ⟨Xa.out.c0, Xa.out.c1, Xa.out.c2, Xb.out.c0, Xb.out.c1, Xb.out.c2⟩
  refine hK _ _ HJ.out ?_
  clear hK
  refine wpJ_tq 4 rfl HJ.out ?_
  refine wpJ_tq 5 rfl HJ.out ?_
  refine wpJ_done (by kernel_rfl) ?_ _
  clear HJ
  by_cases hq : sgnI x = sgnI y
  · have hx0 : sgnI x = 0 := HS.out.resolve_left (fun h => h hq)
    have hy0 : sgnI y = 0 := hq.symm.trans hx0
    have HR : Hid (cmpI (dv x e) (dv y f) = cmpI 0 0) := by have h9 := cmp_sgn (e := e) (f := f) (.inr hx0 : sgnI x ≠ sgnI y ∨ sgnI x = 0); rw [hx0, hy0] at h9; exact h9.symm
    rw [hx0, hy0]
    clear hq hx0 hy0 HS
    go_wp2_with fail
    refine (rof04 (0) v4 (by have := hbw; omega) (by have := hbw; omega)).mono ?_
    rintro e2 v5 ⟨s5, g5, m5, rfl, hz5, hl5, hb5⟩
    replace Xa : Hid _ := Xa.out.below hb5
    replace Xb : Hid _ := Xb.out.below hb5
    replace hbw := Below.on hbw hb5
    clear hb5
    have Z5 : Hid (ZR v5 s5 (some ⟨g5, 0, none⟩) m5 (0)) := hz5
    have HL5 : Hid (m5 ≤ 3) := hl5
    clear hz5 hl5
    go_wp2_with fail
    refine (rof04 (0) v5 (by have := hbw; omega) (by have := hbw; omega)).mono ?_
    rintro e2 v6 ⟨s6, g6, m6, rfl, hz6, hl6, hb6⟩
    replace Xa : Hid _ := Xa.out.below hb6
    replace Xb : Hid _ := Xb.out.below hb6
    replace Z5 : Hid _ := Z5.out.below hb6
    replace hbw := Below.on hbw hb6
    clear hb6
    have Z6 : Hid (ZR v6 s6 (some ⟨g6, 0, none⟩) m6 (0)) := hz6
    have HL6 : Hid (m6 ≤ 3) := hl6
    clear hz6 hl6
    go_wp2_with fail
    refine (rcmp04 s5 s6 Z5.out Z6.out (by have := HL5.out; omega) (by have := HL6.out; omega)).mono ?_
    rintro e v7 ⟨rfl, hb7⟩
    replace Xa : Hid _ := Xa.out.below hb7
    replace Xb : Hid _ := Xb.out.below hb7
    replace Z5 : Hid _ := Z5.out.below hb7
    replace Z6 : Hid _ := Z6.out.below hb7
    replace hbw := Below.on hbw hb7
    clear hb7
    go_wp2_with fail
    go_ret2
    exact ⟨by rw [HR.out]; rfl, hbw⟩
  · have HR : Hid (cmpI (dv x e) (dv y f) = cmpI (sgnI x) (sgnI y)) := (cmp_sgn (.inl hq)).symm
    have hs1 := sgn3 x
    have hs2 := sgn3 y
    have HB : Hid (-1 ≤ sgnI x ∧ sgnI x ≤ 1 ∧ -1 ≤ sgnI y ∧ sgnI y ≤ 1) := by show _ ∧ _; omega
    clear hs1 hs2 HS
    go_wp2_with fail
    refine (rof04 (sgnI x) v4 (by have := HB.out; omega) (by have := HB.out; omega)).mono ?_
    rintro e2 v5 ⟨s5, g5, m5, rfl, hz5, hl5, hb5⟩
    replace Xa : Hid _ := Xa.out.below hb5
    replace Xb : Hid _ := Xb.out.below hb5
    replace hbw := Below.on hbw hb5
    clear hb5
    have Z5 : Hid (ZR v5 s5 (some ⟨g5, 0, none⟩) m5 (sgnI x)) := hz5
    have HL5 : Hid (m5 ≤ 3) := hl5
    clear hz5 hl5
    go_wp2_with fail
    refine (rof04 (sgnI y) v5 (by have := HB.out; omega) (by have := HB.out; omega)).mono ?_
    rintro e2 v6 ⟨s6, g6, m6, rfl, hz6, hl6, hb6⟩
    replace Xa : Hid _ := Xa.out.below hb6
    replace Xb : Hid _ := Xb.out.below hb6
    replace Z5 : Hid _ := Z5.out.below hb6
    replace hbw := Below.on hbw hb6
    clear hb6
    have Z6 : Hid (ZR v6 s6 (some ⟨g6, 0, none⟩) m6 (sgnI y)) := hz6
    have HL6 : Hid (m6 ≤ 3) := hl6
    clear hz6 hl6
    go_wp2_with fail
    refine (rcmp04 s5 s6 Z5.out Z6.out (by have := HL5.out; omega) (by have := HL6.out; omega)).mono ?_
    rintro e v7 ⟨rfl, hb7⟩
    replace Xa : Hid _ := Xa.out.below hb7
    replace Xb : Hid _ := Xb.out.below hb7
    replace Z5 : Hid _ := Z5.out.below hb7
    replace Z6 : Hid _ := Z6.out.below hb7
    replace hbw := Below.on hbw hb7
    clear hb7
    go_wp2_with fail
    go_ret2
    exact ⟨by rw [HR.out]; rfl, hbw⟩
theorem rdc_t {p q : Option Addr} {m c n d : Nat} {w : World} {e f : Int} {s t : Bool} {x y : Int} (h : DN w s p m c e x) (k : DN w t q n d f y) (hs : sgnI x = sgnI y) (h0 : sgnI x ≠ 0) (ht : topI x e ≠ topI y f) :
    Calls Tryz.prog 89 #[DV s p m c e, DV t q n d f] w fun en w' => en = .returned (.tuple #[.int .i64 (cmpI (dv x e) (dv y f)), .int .i64 0]) ∧ Below w.heap.size w w' := by
  have A : Hid (DN w s p m c e x) := h
  have B : Hid (DN w t q n d f y) := k
  clear h k
  have HS : Hid (sgnI x = sgnI y ∧ sgnI x ≠ 0 ∧ topI x e ≠ topI y f) := ⟨hs, h0, ht⟩
  clear hs h0 ht
  obtain ⟨xs, hX⟩ := A.out.zn.ex
  obtain ⟨ys, hY⟩ := B.out.zn.ex
  have FX : Hid (At w p m c xs ∧ formD s xs e = true) := ⟨hX.at_, dn_formD A.out hX⟩
  have FY : Hid (At w q n d ys ∧ formD t ys f = true) := ⟨hY.at_, dn_formD B.out hY⟩
  clear hX hY
  go_enter Tryz.func89, Tryz.ntmps89
  go_wp2_with fail
  obtain ⟨W0, hW0⟩ : ∃ W0, W0 = ((w.alloc (.cells #[.bool s, .slice p m c, .int .i64 e] 33)).alloc (.cells #[.bool t, .slice q n d, .int .i64 f] 33)) := ⟨_, rfl⟩
  have Xa : Hid (B3q W0 (w.heap.size) (.bool s) (.slice p m c) (.int .i64 e)) := by rw [hW0]; exact ⟨by go_simp, by go_simp, by go_simp, by go_simp, by go_simp, by go_simp⟩
  have Xb : Hid (B3q W0 (w.heap.size + 1) (.bool t) (.slice q n d) (.int .i64 f)) := by rw [hW0]; exact ⟨by go_simp, by go_simp, by go_simp, by go_simp, by go_simp, by go_simp⟩
  have hb0 : Below w.heap.size w W0 := by rw [hW0]; exact below2 w _ _
  rw [← hW0]
  clear hW0
  have hbw : Below w.heap.size w w := Below.refl _ _
  obtain ⟨gb, hgb⟩ : ∃ g, g = w.heap.size + 1 := ⟨_, rfl⟩
  have HGb : Hid (w.heap.size ≤ gb) := by rw [hgb]; show _ ≤ _; omega
  rw [← hgb] at Xb
  try rw [← hgb]
  obtain ⟨ga, hga⟩ : ∃ g, g = w.heap.size := ⟨_, rfl⟩
  have HGa : Hid (w.heap.size ≤ ga) := by rw [hga]; show _ ≤ _; omega
  rw [← hga] at Xa
  try rw [← hga]
  have HGD : Hid (ga ≠ gb ∧ gb ≠ ga) := by rw [hga, hgb]; exact ⟨by omega, by omega⟩
  clear hga hgb
  replace hbw := Below.on hbw hb0
  clear hb0
  refine (docformd s (FX.out.1.below hbw)).mono ?_
  rintro e v1 ⟨rfl, hb1⟩
  rw [FX.out.2]
  replace Xa : Hid _ := Xa.out.below hb1
  replace Xb : Hid _ := Xb.out.below hb1
  replace hbw := Below.on hbw hb1
  clear hb1
  obtain ⟨cb0, cb1, cb2, fb0, fb1, fb2⟩ := Xb.out
  have hneb : gb < v1.heap.size := World.block_lt_of_cell? v1 _ cb0
  go_wp2_with fail
  clear cb0 cb1 cb2 fb0 fb1 fb2 hneb
  refine (docformd t (FY.out.1.below hbw)).mono ?_
  rintro e v2 ⟨rfl, hb2⟩
  rw [FY.out.2]
  replace Xa : Hid _ := Xa.out.below hb2
  replace Xb : Hid _ := Xb.out.below hb2
  replace hbw := Below.on hbw hb2
  clear hb2
  obtain ⟨ca0, ca1, ca2, fa0, fa1, fa2⟩ := Xa.out
  have hnea : ga < v2.heap.size := World.block_lt_of_cell? v2 _ ca0
  obtain ⟨cb0, cb1, cb2, fb0, fb1, fb2⟩ := Xb.out
  have hneb : gb < v2.heap.size := World.block_lt_of_cell? v2 _ cb0
  go_wp2_with fail
  clear ca0 ca1 ca2 fa0 fa1 fa2 hnea
  clear cb0 cb1 cb2 fb0 fb1 fb2 hneb
  obtain ⟨W1, hW1⟩ : ∃ W1, W1 = v2.drew := ⟨_, rfl⟩
  have hbd : Below v2.heap.size v2 W1 := by rw [hW1]; exact bDrew1 (Below.refl _ _)
  replace Xa : Hid _ := Xa.out.below hbd
  replace Xb : Hid _ := Xb.out.below hbd
  replace hbw := Below.on hbw hbd
  clear hbd
  have HJ : Hid ((fun W' : World => W'.cell? ⟨ga, 0, none⟩ = some (.bool s) ∧ W'.cell? ⟨ga, 1, none⟩ = some (.slice p m c) ∧ W'.cell? ⟨ga, 2, none⟩ = some (.int .i64 e) ∧ W'.cell? ⟨gb, 0, none⟩ = some (.bool t) ∧ W'.cell? ⟨gb, 1, none⟩ = some (.slice q n d) ∧ W'.cell? ⟨gb, 2, none⟩ = some (.int .i64 f)) W1) := ⟨Xa.out.c0, Xa.out.c1, Xa.out.c2, Xb.out.c0, Xb.out.c1, Xb.out.c2⟩
  refine wp_region_J (fun W' => W'.cell? ⟨ga, 0, none⟩ = some (.bool s) ∧ W'.cell? ⟨ga, 1, none⟩ = some (.slice p m c) ∧ W'.cell? ⟨ga, 2, none⟩ = some (.int .i64 e) ∧ W'.cell? ⟨gb, 0, none⟩ = some (.bool t) ∧ W'.cell? ⟨gb, 1, none⟩ = some (.slice q n d) ∧ W'.cell? ⟨gb, 2, none⟩ = some (.int .i64 f)) (by kernel_rfl) ?_
  rw [← hW1]
  clear hW1
  refine wpJ_tq 0 rfl HJ.out ?_
  refine wpJ_tq 2 rfl HJ.out ?_
  refine wpJ_on 1 rfl fun KJ hK => ?_
  go_simp
  refine (rsg5 (A.out.below hbw)).mono ?_
  rintro e v3 ⟨rfl, hb3⟩
  replace Xa : Hid _ := Xa.out.below hb3
  replace Xb : Hid _ := Xb.out.below hb3
  replace hbw := Below.on hbw hb3
  clear hb3
  refine hK _ _ ⟨Xa.out.c0, Xa.out.c1, Xa.out.c2, Xb.out.c0, Xb.out.c1, Xb.out.c2⟩ ?_
  clear hK
  refine wpJ_on 3 rfl fun KJ hK => ?_
  go_simp
  refine (rsg5 (B.out.below hbw)).mono ?_
  rintro e v4 ⟨rfl, hb4⟩
  replace Xa : Hid _ := Xa.out.below hb4
  replace Xb : Hid _ := Xb.out.below hb4
  replace hbw := Below.on hbw hb4
  clear hb4
  clear HJ
  have HJ : Hid ((fun W' : World => W'.cell? ⟨ga, 0, none⟩ = some (.bool s) ∧ W'.cell? ⟨ga, 1, none⟩ = some (.slice p m c) ∧ W'.cell? ⟨ga, 2, none⟩ = some (.int .i64 e) ∧ W'.cell? ⟨gb, 0, none⟩ = some (.bool t) ∧ W'.cell? ⟨gb, 1, none⟩ = some (.slice q n d) ∧ W'.cell? ⟨gb, 2, none⟩ = some (.int .i64 f)) v4) := ⟨Xa.out.c0, Xa.out.c1, Xa.out.c2, Xb.out.c0, Xb.out.c1, Xb.out.c2⟩
  refine hK _ _ HJ.out ?_
  clear hK
  refine wpJ_tq 4 rfl HJ.out ?_
  refine wpJ_tq 5 rfl HJ.out ?_
  refine wpJ_done (by kernel_rfl) ?_ _
  clear HJ
  obtain ⟨sg, hsg⟩ : ∃ sg, sg = sgnI x := ⟨_, rfl⟩
  have HSG : Hid (sg = sgnI x) := hsg
  have hsy : sgnI y = sg := by rw [hsg]; exact HS.out.1.symm
  have hz : ¬ sg = 0 := by rw [hsg]; exact HS.out.2.1
  rw [hsy, ← hsg]
  clear hsg hsy
  go_wp2_with fail
  obtain ⟨W2, hW2⟩ : ∃ W1, W1 = v4.drew := ⟨_, rfl⟩
  have hbd : Below v4.heap.size v4 W2 := by rw [hW2]; exact bDrew1 (Below.refl _ _)
  replace Xa : Hid _ := Xa.out.below hbd
  replace Xb : Hid _ := Xb.out.below hbd
  replace hbw := Below.on hbw hbd
  clear hbd
  have HJ : Hid ((fun W' : World => W'.cell? ⟨ga, 0, none⟩ = some (.bool s) ∧ W'.cell? ⟨ga, 1, none⟩ = some (.slice p m c) ∧ W'.cell? ⟨ga, 2, none⟩ = some (.int .i64 e) ∧ W'.cell? ⟨gb, 0, none⟩ = some (.bool t) ∧ W'.cell? ⟨gb, 1, none⟩ = some (.slice q n d) ∧ W'.cell? ⟨gb, 2, none⟩ = some (.int .i64 f)) W2) := ⟨Xa.out.c0, Xa.out.c1, Xa.out.c2, Xb.out.c0, Xb.out.c1, Xb.out.c2⟩
  refine wp_region_J (fun W' => W'.cell? ⟨ga, 0, none⟩ = some (.bool s) ∧ W'.cell? ⟨ga, 1, none⟩ = some (.slice p m c) ∧ W'.cell? ⟨ga, 2, none⟩ = some (.int .i64 e) ∧ W'.cell? ⟨gb, 0, none⟩ = some (.bool t) ∧ W'.cell? ⟨gb, 1, none⟩ = some (.slice q n d) ∧ W'.cell? ⟨gb, 2, none⟩ = some (.int .i64 f)) (by kernel_rfl) ?_
  rw [← hW2]
  clear hW2
  refine wpJ_tq 0 rfl HJ.out ?_
  refine wpJ_tq 2 rfl HJ.out ?_
  refine wpJ_on 1 rfl fun KJ hK => ?_
  go_simp
  refine (topS (A.out.below hbw)).mono ?_
  rintro e v5 ⟨rfl, hb5⟩
  replace Xa : Hid _ := Xa.out.below hb5
  replace Xb : Hid _ := Xb.out.below hb5
  replace hbw := Below.on hbw hb5
  clear hb5
  refine hK _ _ ⟨Xa.out.c0, Xa.out.c1, Xa.out.c2, Xb.out.c0, Xb.out.c1, Xb.out.c2⟩ ?_
  clear hK
  refine wpJ_on 3 rfl fun KJ hK => ?_
  go_simp
  refine (topS (B.out.below hbw)).mono ?_
  rintro e v6 ⟨rfl, hb6⟩
  replace Xa : Hid _ := Xa.out.below hb6
  replace Xb : Hid _ := Xb.out.below hb6
  replace hbw := Below.on hbw hb6
  clear hb6
  clear HJ
  have HJ : Hid ((fun W' : World => W'.cell? ⟨ga, 0, none⟩ = some (.bool s) ∧ W'.cell? ⟨ga, 1, none⟩ = some (.slice p m c) ∧ W'.cell? ⟨ga, 2, none⟩ = some (.int .i64 e) ∧ W'.cell? ⟨gb, 0, none⟩ = some (.bool t) ∧ W'.cell? ⟨gb, 1, none⟩ = some (.slice q n d) ∧ W'.cell? ⟨gb, 2, none⟩ = some (.int .i64 f)) v6) := ⟨Xa.out.c0, Xa.out.c1, Xa.out.c2, Xb.out.c0, Xb.out.c1, Xb.out.c2⟩
  refine hK _ _ HJ.out ?_
  clear hK
  refine wpJ_tq 4 rfl HJ.out ?_
  refine wpJ_done (by kernel_rfl) ?_ _
  clear HJ
  obtain ⟨ta, hta⟩ : ∃ t, t = topI x e := ⟨_, rfl⟩
  obtain ⟨tb, htb⟩ : ∃ t, t = topI y f := ⟨_, rfl⟩
  rw [← hta, ← htb]
  have HT9 : Hid (ta = topI x e ∧ tb = topI y f) := ⟨hta, htb⟩
  have HB : Hid (-2000000 ≤ ta ∧ ta ≤ 2000000 ∧ -2000000 ≤ tb ∧ tb ≤ 2000000) := by have h1 := dn_exp A.out; have h2 := dn_exp B.out; have h3 := (lim_bits x.natAbs).1 A.out.zn.lim; have h4 := (lim_bits y.natAbs).1 B.out.zn.lim; unfold topI at hta htb; show _ ∧ _; omega
  have hne : ¬ ta = tb := by rw [hta, htb]; exact HS.out.2.2
  clear hta htb
  go_wp2_with fail
  obtain ⟨cm, hcm⟩ : ∃ c, c = cmpI ta tb := ⟨_, rfl⟩
  have HCM : Hid (cm = cmpI ta tb) := hcm
  have hc3 : cm = -1 ∨ cm = 0 ∨ cm = 1 := by rw [hcm]; exact cmp3 _ _
  have hs3 : sg = -1 ∨ sg = 1 := by have h1 := sgn3 x; have h2 := HSG.out; omega
  have hmm : -1 ≤ sg * cm ∧ sg * cm ≤ 1 := by rcases hs3 with rfl | rfl <;> omega
  have t6 : wrap64 (sg * cm) = sg * cm := by simp only [wrap64]; omega
  have t7 : IntKind.i64.wrap (sg * cm) = sg * cm := by simp [IntKind.wrap, IntKind.signed, IntKind.bits]; omega
  have HR : Hid (cmpI (dv x e) (dv y f) = sg * cm) := by have h1 := dn_exp A.out; have h2 := dn_exp B.out; rw [HCM.out, HT9.out.1, HT9.out.2, HSG.out]; exact (cmp_top (fun h => HS.out.2.1 (by rw [h]; rfl)) HS.out.1 (by omega) (by omega) HS.out.2.2).symm
  clear hcm hc3 hs3 hmm
  obtain ⟨W3, hW3⟩ : ∃ W1, W1 = v6.drew := ⟨_, rfl⟩
  have hbd : Below v6.heap.size v6 W3 := by rw [hW3]; exact bDrew1 (Below.refl _ _)
  replace Xa : Hid _ := Xa.out.below hbd
  replace Xb : Hid _ := Xb.out.below hbd
  replace hbw := Below.on hbw hbd
  clear hbd
  have HJ : Hid ((fun W' : World => W'.cell? ⟨ga, 0, none⟩ = some (.bool s) ∧ W'.cell? ⟨ga, 1, none⟩ = some (.slice p m c) ∧ W'.cell? ⟨ga, 2, none⟩ = some (.int .i64 e) ∧ W'.cell? ⟨gb, 0, none⟩ = some (.bool t) ∧ W'.cell? ⟨gb, 1, none⟩ = some (.slice q n d) ∧ W'.cell? ⟨gb, 2, none⟩ = some (.int .i64 f)) W3) := ⟨Xa.out.c0, Xa.out.c1, Xa.out.c2, Xb.out.c0, Xb.out.c1, Xb.out.c2⟩
  refine wp_region_J (fun W' => W'.cell? ⟨ga, 0, none⟩ = some (.bool s) ∧ W'.cell? ⟨ga, 1, none⟩ = some (.slice p m c) ∧ W'.cell? ⟨ga, 2, none⟩ = some (.int .i64 e) ∧ W'.cell? ⟨gb, 0, none⟩ = some (.bool t) ∧ W'.cell? ⟨gb, 1, none⟩ = some (.slice q n d) ∧ W'.cell? ⟨gb, 2, none⟩ = some (.int .i64 f)) (by kernel_rfl) ?_
  rw [← hW3]
  clear hW3
  refine wpJ_tq 0 rfl HJ.out ?_
  refine wpJ_tq 1 rfl HJ.out ?_
  refine wpJ_tq 4 rfl HJ.out ?_
  refine wpJ_on 2 rfl fun KJ hK => ?_
  go_simp
  refine (topS (A.out.below hbw)).mono ?_
  rintro e v7 ⟨rfl, hb7⟩
  rw [← HT9.out.1]
  replace Xa : Hid _ := Xa.out.below hb7
  replace Xb : Hid _ := Xb.out.below hb7
  replace hbw := Below.on hbw hb7
  clear hb7
  refine hK _ _ ⟨Xa.out.c0, Xa.out.c1, Xa.out.c2, Xb.out.c0, Xb.out.c1, Xb.out.c2⟩ ?_
  clear hK
  refine wpJ_on 3 rfl fun KJ hK => ?_
  go_simp
  refine (rof04 (ta) v7 (by have := HB.out; omega) (by have := HB.out; omega)).mono ?_
  rintro e2 v8 ⟨s8, g8, m8, rfl, hz8, hl8, hb8⟩
  replace Xa : Hid _ := Xa.out.below hb8
  replace Xb : Hid _ := Xb.out.below hb8
  replace hbw := Below.on hbw hb8
  clear hb8
  have Z8 : Hid (ZR v8 s8 (some ⟨g8, 0, none⟩) m8 (ta)) := hz8
  have HL8 : Hid (m8 ≤ 3) := hl8
  clear hz8 hl8
  refine hK _ _ ⟨Xa.out.c0, Xa.out.c1, Xa.out.c2, Xb.out.c0, Xb.out.c1, Xb.out.c2⟩ ?_
  clear hK
  refine wpJ_on 5 rfl fun KJ hK => ?_
  go_simp
  refine (topS (B.out.below hbw)).mono ?_
  rintro e v9 ⟨rfl, hb9⟩
  rw [← HT9.out.2]
  replace Xa : Hid _ := Xa.out.below hb9
  replace Xb : Hid _ := Xb.out.below hb9
  replace Z8 : Hid _ := Z8.out.below hb9
  replace hbw := Below.on hbw hb9
  clear hb9
  refine hK _ _ ⟨Xa.out.c0, Xa.out.c1, Xa.out.c2, Xb.out.c0, Xb.out.c1, Xb.out.c2⟩ ?_
  clear hK
  refine wpJ_on 6 rfl fun KJ hK => ?_
  go_simp
  refine (rof04 (tb) v9 (by have := HB.out; omega) (by have := HB.out; omega)).mono ?_
  rintro e2 v10 ⟨s10, g10, m10, rfl, hz10, hl10, hb10⟩
  replace Xa : Hid _ := Xa.out.below hb10
  replace Xb : Hid _ := Xb.out.below hb10
  replace Z8 : Hid _ := Z8.out.below hb10
  replace hbw := Below.on hbw hb10
  clear hb10
  have Z10 : Hid (ZR v10 s10 (some ⟨g10, 0, none⟩) m10 (tb)) := hz10
  have HL10 : Hid (m10 ≤ 3) := hl10
  clear hz10 hl10
  refine hK _ _ ⟨Xa.out.c0, Xa.out.c1, Xa.out.c2, Xb.out.c0, Xb.out.c1, Xb.out.c2⟩ ?_
  clear hK
  refine wpJ_on 7 rfl fun KJ hK => ?_
  go_simp
  refine (rcmp04 s8 s10 Z8.out Z10.out (by have := HL8.out; omega) (by have := HL10.out; omega)).mono ?_
  rintro e v11 ⟨rfl, hb11⟩
  rw [← HCM.out]
  replace Xa : Hid _ := Xa.out.below hb11
  replace Xb : Hid _ := Xb.out.below hb11
  replace Z8 : Hid _ := Z8.out.below hb11
  replace Z10 : Hid _ := Z10.out.below hb11
  replace hbw := Below.on hbw hb11
  clear hb11
  clear HJ
  have HJ : Hid ((fun W' : World => W'.cell? ⟨ga, 0, none⟩ = some (.bool s) ∧ W'.cell? ⟨ga, 1, none⟩ = some (.slice p m c) ∧ W'.cell? ⟨ga, 2, none⟩ = some (.int .i64 e) ∧ W'.cell? ⟨gb, 0, none⟩ = some (.bool t) ∧ W'.cell? ⟨gb, 1, none⟩ = some (.slice q n d) ∧ W'.cell? ⟨gb, 2, none⟩ = some (.int .i64 f)) v11) := ⟨Xa.out.c0, Xa.out.c1, Xa.out.c2, Xb.out.c0, Xb.out.c1, Xb.out.c2⟩
  refine hK _ _ HJ.out ?_
  clear hK
  refine wpJ_tq 8 rfl HJ.out ?_
  refine wpJ_tq 9 rfl HJ.out ?_
  refine wpJ_tq 10 rfl HJ.out ?_
  refine wpJ_done (by kernel_rfl) ?_ _
  clear HJ
  go_wp2_with fail
  go_ret2
  exact ⟨by rw [HR.out]; rfl, hbw⟩
theorem rdc_e {p q : Option Addr} {m c n d : Nat} {w : World} {e f : Int} {s t : Bool} {x y : Int} (h : DN w s p m c e x) (k : DN w t q n d f y) (hs : sgnI x = sgnI y) (h0 : sgnI x ≠ 0) (ht : topI x e = topI y f) :
    Calls Tryz.prog 89 #[DV s p m c e, DV t q n d f] w fun en w' => en = .returned (.tuple #[.int .i64 (cmpI (dv x e) (dv y f)), .int .i64 0]) ∧ Below w.heap.size w w' := by
  have A : Hid (DN w s p m c e x) := h
  have B : Hid (DN w t q n d f y) := k
  clear h k
  have HS : Hid (sgnI x = sgnI y ∧ sgnI x ≠ 0 ∧ topI x e = topI y f) := ⟨hs, h0, ht⟩
  clear hs h0 ht
  obtain ⟨xs, hX⟩ := A.out.zn.ex
  obtain ⟨ys, hY⟩ := B.out.zn.ex
  have FX : Hid (At w p m c xs ∧ formD s xs e = true) := ⟨hX.at_, dn_formD A.out hX⟩
  have FY : Hid (At w q n d ys ∧ formD t ys f = true) := ⟨hY.at_, dn_formD B.out hY⟩
  clear hX hY
  go_enter Tryz.func89, Tryz.ntmps89
  go_wp2_with fail
  obtain ⟨W0, hW0⟩ : ∃ W0, W0 = ((w.alloc (.cells #[.bool s, .slice p m c, .int .i64 e] 33)).alloc (.cells #[.bool t, .slice q n d, .int .i64 f] 33)) := ⟨_, rfl⟩
  have Xa : Hid (B3q W0 (w.heap.size) (.bool s) (.slice p m c) (.int .i64 e)) := by rw [hW0]; exact ⟨by go_simp, by go_simp, by go_simp, by go_simp, by go_simp, by go_simp⟩
  have Xb : Hid (B3q W0 (w.heap.size + 1) (.bool t) (.slice q n d) (.int .i64 f)) := by rw [hW0]; exact ⟨by go_simp, by go_simp, by go_simp, by go_simp, by go_simp, by go_simp⟩
  have hb0 : Below w.heap.size w W0 := by rw [hW0]; exact below2 w _ _
  rw [← hW0]
  clear hW0
  have hbw : Below w.heap.size w w := Below.refl _ _
  obtain ⟨gb, hgb⟩ : ∃ g, g = w.heap.size + 1 := ⟨_, rfl⟩
  have HGb : Hid (w.heap.size ≤ gb) := by rw [hgb]; show _ ≤ _; omega
  rw [← hgb] at Xb
  try rw [← hgb]
  obtain ⟨ga, hga⟩ : ∃ g, g = w.heap.size := ⟨_, rfl⟩
  have HGa : Hid (w.heap.size ≤ ga) := by rw [hga]; show _ ≤ _; omega
  rw [← hga] at Xa
  try rw [← hga]
  have HGD : Hid (ga ≠ gb ∧ gb ≠ ga) := by rw [hga, hgb]; exact ⟨by omega, by omega⟩
  clear hga hgb
  replace hbw := Below.on hbw hb0
  clear hb0
  refine (docformd s (FX.out.1.below hbw)).mono ?_
  rintro e v1 ⟨rfl, hb1⟩
  rw [FX.out.2]
  replace Xa : Hid _ := Xa.out.below hb1
  replace Xb : Hid _ := Xb.out.below hb1
  replace hbw := Below.on hbw hb1
  clear hb1
  obtain ⟨cb0, cb1, cb2, fb0, fb1, fb2⟩ := Xb.out
  have hneb : gb < v1.heap.size := World.block_lt_of_cell? v1 _ cb0
  go_wp2_with fail
  clear cb0 cb1 cb2 fb0 fb1 fb2 hneb
  refine (docformd t (FY.out.1.below hbw)).mono ?_
  rintro e v2 ⟨rfl, hb2⟩
  rw [FY.out.2]
  replace Xa : Hid _ := Xa.out.below hb2
  replace Xb : Hid _ := Xb.out.below hb2
  replace hbw := Below.on hbw hb2
  clear hb2
  obtain ⟨ca0, ca1, ca2, fa0, fa1, fa2⟩ := Xa.out
  have hnea : ga < v2.heap.size := World.block_lt_of_cell? v2 _ ca0
  obtain ⟨cb0, cb1, cb2, fb0, fb1, fb2⟩ := Xb.out
  have hneb : gb < v2.heap.size := World.block_lt_of_cell? v2 _ cb0
  go_wp2_with fail
  clear ca0 ca1 ca2 fa0 fa1 fa2 hnea
  clear cb0 cb1 cb2 fb0 fb1 fb2 hneb
  obtain ⟨W1, hW1⟩ : ∃ W1, W1 = v2.drew := ⟨_, rfl⟩
  have hbd : Below v2.heap.size v2 W1 := by rw [hW1]; exact bDrew1 (Below.refl _ _)
  replace Xa : Hid _ := Xa.out.below hbd
  replace Xb : Hid _ := Xb.out.below hbd
  replace hbw := Below.on hbw hbd
  clear hbd
  have HJ : Hid ((fun W' : World => W'.cell? ⟨ga, 0, none⟩ = some (.bool s) ∧ W'.cell? ⟨ga, 1, none⟩ = some (.slice p m c) ∧ W'.cell? ⟨ga, 2, none⟩ = some (.int .i64 e) ∧ W'.cell? ⟨gb, 0, none⟩ = some (.bool t) ∧ W'.cell? ⟨gb, 1, none⟩ = some (.slice q n d) ∧ W'.cell? ⟨gb, 2, none⟩ = some (.int .i64 f)) W1) := ⟨Xa.out.c0, Xa.out.c1, Xa.out.c2, Xb.out.c0, Xb.out.c1, Xb.out.c2⟩
  refine wp_region_J (fun W' => W'.cell? ⟨ga, 0, none⟩ = some (.bool s) ∧ W'.cell? ⟨ga, 1, none⟩ = some (.slice p m c) ∧ W'.cell? ⟨ga, 2, none⟩ = some (.int .i64 e) ∧ W'.cell? ⟨gb, 0, none⟩ = some (.bool t) ∧ W'.cell? ⟨gb, 1, none⟩ = some (.slice q n d) ∧ W'.cell? ⟨gb, 2, none⟩ = some (.int .i64 f)) (by kernel_rfl) ?_
  rw [← hW1]
  clear hW1
  refine wpJ_tq 0 rfl HJ.out ?_
  refine wpJ_tq 2 rfl HJ.out ?_
  refine wpJ_on 1 rfl fun KJ hK => ?_
  go_simp
  refine (rsg5 (A.out.below hbw)).mono ?_
  rintro e v3 ⟨rfl, hb3⟩
  replace Xa : Hid _ := Xa.out.below hb3
  replace Xb : Hid _ := Xb.out.below hb3
  replace hbw := Below.on hbw hb3
  clear hb3
  refine hK _ _ ⟨Xa.out.c0, Xa.out.c1, Xa.out.c2, Xb.out.c0, Xb.out.c1, Xb.out.c2⟩ ?_
  clear hK
  refine wpJ_on 3 rfl fun KJ hK => ?_
  go_simp
  refine (rsg5 (B.out.below hbw)).mono ?_
  rintro e v4 ⟨rfl, hb4⟩
  replace Xa : Hid _ := Xa.out.below hb4
  replace Xb : Hid _ := Xb.out.below hb4
  replace hbw := Below.on hbw hb4
  clear hb4
  clear HJ
  have HJ : Hid ((fun W' : World => W'.cell? ⟨ga, 0, none⟩ = some (.bool s) ∧ W'.cell? ⟨ga, 1, none⟩ = some (.slice p m c) ∧ W'.cell? ⟨ga, 2, none⟩ = some (.int .i64 e) ∧ W'.cell? ⟨gb, 0, none⟩ = some (.bool t) ∧ W'.cell? ⟨gb, 1, none⟩ = some (.slice q n d) ∧ W'.cell? ⟨gb, 2, none⟩ = some (.int .i64 f)) v4) := ⟨Xa.out.c0, Xa.out.c1, Xa.out.c2, Xb.out.c0, Xb.out.c1, Xb.out.c2⟩
  refine hK _ _ HJ.out ?_
  clear hK
  refine wpJ_tq 4 rfl HJ.out ?_
  refine wpJ_tq 5 rfl HJ.out ?_
  refine wpJ_done (by kernel_rfl) ?_ _
  clear HJ
  obtain ⟨sg, hsg⟩ : ∃ sg, sg = sgnI x := ⟨_, rfl⟩
  have HSG : Hid (sg = sgnI x) := hsg
  have hsy : sgnI y = sg := by rw [hsg]; exact HS.out.1.symm
  have hz : ¬ sg = 0 := by rw [hsg]; exact HS.out.2.1
  rw [hsy, ← hsg]
  clear hsg hsy
  go_wp2_with fail
  obtain ⟨W2, hW2⟩ : ∃ W1, W1 = v4.drew := ⟨_, rfl⟩
  have hbd : Below v4.heap.size v4 W2 := by rw [hW2]; exact bDrew1 (Below.refl _ _)
  replace Xa : Hid _ := Xa.out.below hbd
  replace Xb : Hid _ := Xb.out.below hbd
  replace hbw := Below.on hbw hbd
  clear hbd
  have HJ : Hid ((fun W' : World => W'.cell? ⟨ga, 0, none⟩ = some (.bool s) ∧ W'.cell? ⟨ga, 1, none⟩ = some (.slice p m c) ∧ W'.cell? ⟨ga, 2, none⟩ = some (.int .i64 e) ∧ W'.cell? ⟨gb, 0, none⟩ = some (.bool t) ∧ W'.cell? ⟨gb, 1, none⟩ = some (.slice q n d) ∧ W'.cell? ⟨gb, 2, none⟩ = some (.int .i64 f)) W2) := ⟨Xa.out.c0, Xa.out.c1, Xa.out.c2, Xb.out.c0, Xb.out.c1, Xb.out.c2⟩
  refine wp_region_J (fun W' => W'.cell? ⟨ga, 0, none⟩ = some (.bool s) ∧ W'.cell? ⟨ga, 1, none⟩ = some (.slice p m c) ∧ W'.cell? ⟨ga, 2, none⟩ = some (.int .i64 e) ∧ W'.cell? ⟨gb, 0, none⟩ = some (.bool t) ∧ W'.cell? ⟨gb, 1, none⟩ = some (.slice q n d) ∧ W'.cell? ⟨gb, 2, none⟩ = some (.int .i64 f)) (by kernel_rfl) ?_
  rw [← hW2]
  clear hW2
  refine wpJ_tq 0 rfl HJ.out ?_
  refine wpJ_tq 2 rfl HJ.out ?_
  refine wpJ_on 1 rfl fun KJ hK => ?_
  go_simp
  refine (topS (A.out.below hbw)).mono ?_
  rintro e v5 ⟨rfl, hb5⟩
  replace Xa : Hid _ := Xa.out.below hb5
  replace Xb : Hid _ := Xb.out.below hb5
  replace hbw := Below.on hbw hb5
  clear hb5
  refine hK _ _ ⟨Xa.out.c0, Xa.out.c1, Xa.out.c2, Xb.out.c0, Xb.out.c1, Xb.out.c2⟩ ?_
  clear hK
  refine wpJ_on 3 rfl fun KJ hK => ?_
  go_simp
  refine (topS (B.out.below hbw)).mono ?_
  rintro e v6 ⟨rfl, hb6⟩
  replace Xa : Hid _ := Xa.out.below hb6
  replace Xb : Hid _ := Xb.out.below hb6
  replace hbw := Below.on hbw hb6
  clear hb6
  clear HJ
  have HJ : Hid ((fun W' : World => W'.cell? ⟨ga, 0, none⟩ = some (.bool s) ∧ W'.cell? ⟨ga, 1, none⟩ = some (.slice p m c) ∧ W'.cell? ⟨ga, 2, none⟩ = some (.int .i64 e) ∧ W'.cell? ⟨gb, 0, none⟩ = some (.bool t) ∧ W'.cell? ⟨gb, 1, none⟩ = some (.slice q n d) ∧ W'.cell? ⟨gb, 2, none⟩ = some (.int .i64 f)) v6) := ⟨Xa.out.c0, Xa.out.c1, Xa.out.c2, Xb.out.c0, Xb.out.c1, Xb.out.c2⟩
  refine hK _ _ HJ.out ?_
  clear hK
  refine wpJ_tq 4 rfl HJ.out ?_
  refine wpJ_done (by kernel_rfl) ?_ _
  clear HJ
  obtain ⟨ta, hta⟩ : ∃ t, t = topI x e := ⟨_, rfl⟩
  obtain ⟨tb, htb⟩ : ∃ t, t = topI y f := ⟨_, rfl⟩
  rw [← hta, ← htb]
  have HT9 : Hid (ta = topI x e ∧ tb = topI y f) := ⟨hta, htb⟩
  have HB : Hid (-2000000 ≤ ta ∧ ta ≤ 2000000 ∧ -2000000 ≤ tb ∧ tb ≤ 2000000) := by have h1 := dn_exp A.out; have h2 := dn_exp B.out; have h3 := (lim_bits x.natAbs).1 A.out.zn.lim; have h4 := (lim_bits y.natAbs).1 B.out.zn.lim; unfold topI at hta htb; show _ ∧ _; omega
  have hne : ta = tb := by rw [hta, htb]; exact HS.out.2.2
  clear hta htb
  obtain ⟨ca0, ca1, ca2, fa0, fa1, fa2⟩ := Xa.out
  have hnea : ga < v6.heap.size := World.block_lt_of_cell? v6 _ ca0
  obtain ⟨cb0, cb1, cb2, fb0, fb1, fb2⟩ := Xb.out
  have hneb : gb < v6.heap.size := World.block_lt_of_cell? v6 _ cb0
  go_wp2_with fail
  clear ca0 ca1 ca2 fa0 fa1 fa2 hnea
  clear cb0 cb1 cb2 fb0 fb1 fb2 hneb
  obtain ⟨g9, hg9⟩ : ∃ g, g = min e f := ⟨_, rfl⟩
  rw [← hg9]
  obtain ⟨k1, hk1⟩ : ∃ k, k = (e - g9).toNat := ⟨_, rfl⟩
  obtain ⟨k2, hk2⟩ : ∃ k, k = (f - g9).toNat := ⟨_, rfl⟩
  have hee := dn_exp A.out
  have hff := dn_exp B.out
  have hbx := (lim_bits x.natAbs).1 A.out.zn.lim
  have hby := (lim_bits y.natAbs).1 B.out.zn.lim
  have u1 : wrap64 (e - g9) = (k1 : Int) := by simp only [wrap64]; omega
  have u2 : IntKind.i64.wrap (e - g9) = (k1 : Int) := by simp [IntKind.wrap, IntKind.signed, IntKind.bits]; omega
  have u3 : wrap64 (f - g9) = (k2 : Int) := by simp only [wrap64]; omega
  have u4 : IntKind.i64.wrap (f - g9) = (k2 : Int) := by simp [IntKind.wrap, IntKind.signed, IntKind.bits]; omega
  have HK : Hid (k1 ≤ 524288 ∧ k2 ≤ 524288) := by have h1 := HS.out.2.2; unfold topI at h1; show _ ∧ _; omega
  have HR : Hid (cmpI (dv x e) (dv y f) = cmpI (x * 2 ^ k1) (y * 2 ^ k2)) := by rw [hk1, hk2]; exact (cmp_same (by omega) (by omega) (by omega)).symm
  clear hg9 hk1 hk2 hee hff hbx hby
  obtain ⟨W3, hW3⟩ : ∃ W1, W1 = v6.drew := ⟨_, rfl⟩
  have hbd : Below v6.heap.size v6 W3 := by rw [hW3]; exact bDrew1 (Below.refl _ _)
  replace Xa : Hid _ := Xa.out.below hbd
  replace Xb : Hid _ := Xb.out.below hbd
  replace hbw := Below.on hbw hbd
  clear hbd
  have HJ : Hid ((fun W' : World => W'.cell? ⟨ga, 0, none⟩ = some (.bool s) ∧ W'.cell? ⟨ga, 1, none⟩ = some (.slice p m c) ∧ W'.cell? ⟨ga, 2, none⟩ = some (.int .i64 e) ∧ W'.cell? ⟨gb, 0, none⟩ = some (.bool t) ∧ W'.cell? ⟨gb, 1, none⟩ = some (.slice q n d) ∧ W'.cell? ⟨gb, 2, none⟩ = some (.int .i64 f)) W3) := ⟨Xa.out.c0, Xa.out.c1, Xa.out.c2, Xb.out.c0, Xb.out.c1, Xb.out.c2⟩
  refine wp_region_J (fun W' => W'.cell? ⟨ga, 0, none⟩ = some (.bool s) ∧ W'.cell? ⟨ga, 1, none⟩ = some (.slice p m c) ∧ W'.cell? ⟨ga, 2, none⟩ = some (.int .i64 e) ∧ W'.cell? ⟨gb, 0, none⟩ = some (.bool t) ∧ W'.cell? ⟨gb, 1, none⟩ = some (.slice q n d) ∧ W'.cell? ⟨gb, 2, none⟩ = some (.int .i64 f)) (by kernel_rfl) ?_
  rw [← hW3]
  clear hW3
  refine wpJ_tq 0 rfl HJ.out ?_
  refine wpJ_tq 1 rfl HJ.out ?_
  refine wpJ_tq 3 rfl HJ.out ?_
  refine wpJ_tq 4 rfl HJ.out ?_
  refine wpJ_tq 5 rfl HJ.out ?_
  go_simp
  refine wpJ_tq 6 rfl HJ.out ?_
  refine wpJ_tq 8 rfl HJ.out ?_
  refine wpJ_tq 9 rfl HJ.out ?_
  refine wpJ_tq 11 rfl HJ.out ?_
  refine wpJ_tq 12 rfl HJ.out ?_
  go_simp
  refine wpJ_tq 13 rfl HJ.out ?_
  refine wpJ_tq 14 rfl HJ.out ?_
  refine wpJ_on 2 rfl fun KJ hK => ?_
  go_simp
  refine (rfromD (A.out.below hbw)).mono ?_
  rintro e2 v7 ⟨s7, p7, m7, rfl, hz7, hl7, hb7⟩
  replace Xa : Hid _ := Xa.out.below hb7
  replace Xb : Hid _ := Xb.out.below hb7
  replace hbw := Below.on hbw hb7
  clear hb7
  have Z7 : Hid (ZR v7 s7 p7 m7 x) := hz7
  have HL7 : Hid (m7 ≤ 16384) := hl7
  clear hz7 hl7
  refine hK _ _ ⟨Xa.out.c0, Xa.out.c1, Xa.out.c2, Xb.out.c0, Xb.out.c1, Xb.out.c2⟩ ?_
  clear hK
  refine wpJ_on 7 rfl fun KJ hK => ?_
  go_simp
  refine (rshl04 s7 Z7.out HL7.out k1 (.inl HK.out.1)).mono ?_
  rintro e v8 ⟨v, rfl, hv, hb8⟩
  obtain ⟨s8, g8, m8, rfl, hg8, hz8, hl8⟩ := hv
  have HN8 : Hid (v7.heap.size ≤ g8) := hg8
  have HB8 : Hid (v7.heap.size ≤ v8.heap.size) := hb8.size
  replace Xa : Hid _ := Xa.out.below hb8
  replace Xb : Hid _ := Xb.out.below hb8
  replace Z7 : Hid _ := Z7.out.below hb8
  replace hbw := Below.on hbw hb8
  clear hb8
  have Z8 : Hid (ZR v8 s8 (some ⟨g8, 0, none⟩) m8 (x * 2 ^ k1)) := hz8
  have HL8 : Hid (m8 ≤ 40000) := hl8
  clear hz8 hl8 hg8
  refine hK _ _ ⟨Xa.out.c0, Xa.out.c1, Xa.out.c2, Xb.out.c0, Xb.out.c1, Xb.out.c2⟩ ?_
  clear hK
  refine wpJ_on 10 rfl fun KJ hK => ?_
  go_simp
  refine (rfromD (B.out.below hbw)).mono ?_
  rintro e2 v9 ⟨s9, p9, m9, rfl, hz9, hl9, hb9⟩
  replace Xa : Hid _ := Xa.out.below hb9
  replace Xb : Hid _ := Xb.out.below hb9
  replace Z7 : Hid _ := Z7.out.below hb9
  replace Z8 : Hid _ := Z8.out.below hb9
  replace hbw := Below.on hbw hb9
  clear hb9
  have Z9 : Hid (ZR v9 s9 p9 m9 y) := hz9
  have HL9 : Hid (m9 ≤ 16384) := hl9
  clear hz9 hl9
  refine hK _ _ ⟨Xa.out.c0, Xa.out.c1, Xa.out.c2, Xb.out.c0, Xb.out.c1, Xb.out.c2⟩ ?_
  clear hK
  refine wpJ_on 15 rfl fun KJ hK => ?_
  go_simp
  refine (rshl04 s9 Z9.out HL9.out k2 (.inl HK.out.2)).mono ?_
  rintro e v10 ⟨v, rfl, hv, hb10⟩
  obtain ⟨s10, g10, m10, rfl, hg10, hz10, hl10⟩ := hv
  have HN10 : Hid (v9.heap.size ≤ g10) := hg10
  have HB10 : Hid (v9.heap.size ≤ v10.heap.size) := hb10.size
  replace Xa : Hid _ := Xa.out.below hb10
  replace Xb : Hid _ := Xb.out.below hb10
  replace Z7 : Hid _ := Z7.out.below hb10
  replace Z8 : Hid _ := Z8.out.below hb10
  replace Z9 : Hid _ := Z9.out.below hb10
  replace hbw := Below.on hbw hb10
  clear hb10
  have Z10 : Hid (ZR v10 s10 (some ⟨g10, 0, none⟩) m10 (y * 2 ^ k2)) := hz10
  have HL10 : Hid (m10 ≤ 40000) := hl10
  clear hz10 hl10 hg10
  refine hK _ _ ⟨Xa.out.c0, Xa.out.c1, Xa.out.c2, Xb.out.c0, Xb.out.c1, Xb.out.c2⟩ ?_
  clear hK
  refine wpJ_on 16 rfl fun KJ hK => ?_
  go_simp
  refine (rcmp04 s8 s10 Z8.out Z10.out (by have := HL8.out; omega) (by have := HL10.out; omega)).mono ?_
  rintro e v11 ⟨rfl, hb11⟩
  replace Xa : Hid _ := Xa.out.below hb11
  replace Xb : Hid _ := Xb.out.below hb11
  replace Z7 : Hid _ := Z7.out.below hb11
  replace Z8 : Hid _ := Z8.out.below hb11
  replace Z9 : Hid _ := Z9.out.below hb11
  replace Z10 : Hid _ := Z10.out.below hb11
  replace hbw := Below.on hbw hb11
  clear hb11
  clear HJ
  have HJ : Hid ((fun W' : World => W'.cell? ⟨ga, 0, none⟩ = some (.bool s) ∧ W'.cell? ⟨ga, 1, none⟩ = some (.slice p m c) ∧ W'.cell? ⟨ga, 2, none⟩ = some (.int .i64 e) ∧ W'.cell? ⟨gb, 0, none⟩ = some (.bool t) ∧ W'.cell? ⟨gb, 1, none⟩ = some (.slice q n d) ∧ W'.cell? ⟨gb, 2, none⟩ = some (.int .i64 f)) v11) := ⟨Xa.out.c0, Xa.out.c1, Xa.out.c2, Xb.out.c0, Xb.out.c1, Xb.out.c2⟩
  refine hK _ _ HJ.out ?_
  clear hK
  refine wpJ_tq 17 rfl HJ.out ?_
  refine wpJ_tq 18 rfl HJ.out ?_
  refine wpJ_done (by kernel_rfl) ?_ _
  clear HJ
  go_wp2_with fail
  go_ret2
  exact ⟨by rw [HR.out]; rfl, hbw⟩
theorem rdc {p q : Option Addr} {m c n d : Nat} {w : World} {e f : Int} {s t : Bool} {x y : Int} (h : DN w s p m c e x) (k : DN w t q n d f y) :
    Calls Tryz.prog 89 #[DV s p m c e, DV t q n d f] w fun en w' => en = .returned (.tuple #[.int .i64 (cmpI (dv x e) (dv y f)), .int .i64 0]) ∧ Below w.heap.size w w' := by
  by_cases h1 : sgnI x ≠ sgnI y ∨ sgnI x = 0
  · exact rdc_s h k h1
  · have h2 : sgnI x = sgnI y := Decidable.byContradiction fun h => h1 (.inl h)
    have h3 : sgnI x ≠ 0 := fun h => h1 (.inr h)
    by_cases h4 : topI x e = topI y f
    · exact rdc_e h k h2 h3 h4
    · exact rdc_t h k h2 h3 h4
theorem doccmp_l {p q : Option Addr} {m c n d : Nat} {w : World} {e f : Int} {s t : Bool} {xs : List Nat} (h : At w p m c xs) (hf : formD s xs e = false) :
    Calls Tryz.prog 89 #[DV s p m c e, DV t q n d f] w fun en w' => en = .returned (.tuple #[.int .i64 0, .int .i64 2]) ∧ Below w.heap.size w w' := by
  have H : Hid (At w p m c xs ∧ formD s xs e = false) := ⟨h, hf⟩
  clear h hf
  go_enter Tryz.func89, Tryz.ntmps89
  go_wp2_with fail
  obtain ⟨W0, hW0⟩ : ∃ W0, W0 = ((w.alloc (.cells #[.bool s, .slice p m c, .int .i64 e] 33)).alloc (.cells #[.bool t, .slice q n d, .int .i64 f] 33)) := ⟨_, rfl⟩
  have Xa : Hid (B3q W0 (w.heap.size) (.bool s) (.slice p m c) (.int .i64 e)) := by rw [hW0]; exact ⟨by go_simp, by go_simp, by go_simp, by go_simp, by go_simp, by go_simp⟩
  have Xb : Hid (B3q W0 (w.heap.size + 1) (.bool t) (.slice q n d) (.int .i64 f)) := by rw [hW0]; exact ⟨by go_simp, by go_simp, by go_simp, by go_simp, by go_simp, by go_simp⟩
  have hb0 : Below w.heap.size w W0 := by rw [hW0]; exact below2 w _ _
  rw [← hW0]
  clear hW0
  have hbw : Below w.heap.size w w := Below.refl _ _
  obtain ⟨gb, hgb⟩ : ∃ g, g = w.heap.size + 1 := ⟨_, rfl⟩
  have HGb : Hid (w.heap.size ≤ gb) := by rw [hgb]; show _ ≤ _; omega
  rw [← hgb] at Xb
  try rw [← hgb]
  obtain ⟨ga, hga⟩ : ∃ g, g = w.heap.size := ⟨_, rfl⟩
  have HGa : Hid (w.heap.size ≤ ga) := by rw [hga]; show _ ≤ _; omega
  rw [← hga] at Xa
  try rw [← hga]
  have HGD : Hid (ga ≠ gb ∧ gb ≠ ga) := by rw [hga, hgb]; exact ⟨by omega, by omega⟩
  clear hga hgb
  replace hbw := Below.on hbw hb0
  clear hb0
  refine (docformd s (H.out.1.below hbw)).mono ?_
  rintro e v1 ⟨rfl, hb1⟩
  rw [H.out.2]
  replace Xa : Hid _ := Xa.out.below hb1
  replace Xb : Hid _ := Xb.out.below hb1
  replace hbw := Below.on hbw hb1
  clear hb1
  obtain ⟨ca0, ca1, ca2, fa0, fa1, fa2⟩ := Xa.out
  have hnea : ga < v1.heap.size := World.block_lt_of_cell? v1 _ ca0
  obtain ⟨cb0, cb1, cb2, fb0, fb1, fb2⟩ := Xb.out
  have hneb : gb < v1.heap.size := World.block_lt_of_cell? v1 _ cb0
  go_wp2_with fail
  clear ca0 ca1 ca2 fa0 fa1 fa2 hnea
  clear cb0 cb1 cb2 fb0 fb1 fb2 hneb
  go_ret2
  exact ⟨rfl, hbw⟩
theorem doccmp_r {p q : Option Addr} {m c n d : Nat} {w : World} {e f : Int} {s t : Bool} {xs ys : List Nat} (h : At w p m c xs) (hf : formD s xs e = true) (k : At w q n d ys) (hg : formD t ys f = false) :
    Calls Tryz.prog 89 #[DV s p m c e, DV t q n d f] w fun en w' => en = .returned (.tuple #[.int .i64 0, .int .i64 2]) ∧ Below w.heap.size w w' := by
  have H : Hid (At w p m c xs ∧ formD s xs e = true) := ⟨h, hf⟩
  have K : Hid (At w q n d ys ∧ formD t ys f = false) := ⟨k, hg⟩
  clear h hf k hg
  go_enter Tryz.func89, Tryz.ntmps89
  go_wp2_with fail
  obtain ⟨W0, hW0⟩ : ∃ W0, W0 = ((w.alloc (.cells #[.bool s, .slice p m c, .int .i64 e] 33)).alloc (.cells #[.bool t, .slice q n d, .int .i64 f] 33)) := ⟨_, rfl⟩
  have Xa : Hid (B3q W0 (w.heap.size) (.bool s) (.slice p m c) (.int .i64 e)) := by rw [hW0]; exact ⟨by go_simp, by go_simp, by go_simp, by go_simp, by go_simp, by go_simp⟩
  have Xb : Hid (B3q W0 (w.heap.size + 1) (.bool t) (.slice q n d) (.int .i64 f)) := by rw [hW0]; exact ⟨by go_simp, by go_simp, by go_simp, by go_simp, by go_simp, by go_simp⟩
  have hb0 : Below w.heap.size w W0 := by rw [hW0]; exact below2 w _ _
  rw [← hW0]
  clear hW0
  have hbw : Below w.heap.size w w := Below.refl _ _
  obtain ⟨gb, hgb⟩ : ∃ g, g = w.heap.size + 1 := ⟨_, rfl⟩
  have HGb : Hid (w.heap.size ≤ gb) := by rw [hgb]; show _ ≤ _; omega
  rw [← hgb] at Xb
  try rw [← hgb]
  obtain ⟨ga, hga⟩ : ∃ g, g = w.heap.size := ⟨_, rfl⟩
  have HGa : Hid (w.heap.size ≤ ga) := by rw [hga]; show _ ≤ _; omega
  rw [← hga] at Xa
  try rw [← hga]
  have HGD : Hid (ga ≠ gb ∧ gb ≠ ga) := by rw [hga, hgb]; exact ⟨by omega, by omega⟩
  clear hga hgb
  replace hbw := Below.on hbw hb0
  clear hb0
  refine (docformd s (H.out.1.below hbw)).mono ?_
  rintro e v1 ⟨rfl, hb1⟩
  rw [H.out.2]
  replace Xa : Hid _ := Xa.out.below hb1
  replace Xb : Hid _ := Xb.out.below hb1
  replace hbw := Below.on hbw hb1
  clear hb1
  obtain ⟨ca0, ca1, ca2, fa0, fa1, fa2⟩ := Xa.out
  have hnea : ga < v1.heap.size := World.block_lt_of_cell? v1 _ ca0
  obtain ⟨cb0, cb1, cb2, fb0, fb1, fb2⟩ := Xb.out
  have hneb : gb < v1.heap.size := World.block_lt_of_cell? v1 _ cb0
  go_wp2_with fail
  clear ca0 ca1 ca2 fa0 fa1 fa2 hnea
  clear cb0 cb1 cb2 fb0 fb1 fb2 hneb
  refine (docformd t (K.out.1.below hbw)).mono ?_
  rintro e v2 ⟨rfl, hb2⟩
  rw [K.out.2]
  replace Xa : Hid _ := Xa.out.below hb2
  replace Xb : Hid _ := Xb.out.below hb2
  replace hbw := Below.on hbw hb2
  clear hb2
  obtain ⟨ca0, ca1, ca2, fa0, fa1, fa2⟩ := Xa.out
  have hnea : ga < v2.heap.size := World.block_lt_of_cell? v2 _ ca0
  obtain ⟨cb0, cb1, cb2, fb0, fb1, fb2⟩ := Xb.out
  have hneb : gb < v2.heap.size := World.block_lt_of_cell? v2 _ cb0
  go_wp2_with fail
  clear ca0 ca1 ca2 fa0 fa1 fa2 hnea
  clear cb0 cb1 cb2 fb0 fb1 fb2 hneb
  go_ret2
  exact ⟨rfl, hbw⟩
theorem doccmpA {p q : Option Addr} {m c n d : Nat} {xs ys : List Nat} {w : World} {e f : Int} (s t : Bool) (h : At w p m c xs) (k : At w q n d ys) :
    Calls Tryz.prog 89 #[DV s p m c e, DV t q n d f] w fun en w' => en = .returned (.tuple #[.int .i64 (CmpA s xs e t ys f).1, .int .i64 (CmpA s xs e t ys f).2]) ∧ Below w.heap.size w w' := by
  unfold CmpA
  cases hf : formD s xs e
  · rw [if_neg (by simp)]; exact doccmp_l h hf
  · cases hg : formD t ys f
    · rw [if_neg (by simp)]; exact doccmp_r h hf k hg
    · rw [if_pos ⟨rfl, rfl⟩]; exact rdc (formD_dn h hf) (formD_dn k hg)
end Go.Proofs.YtfmbifocgljieaaGreatDoor
