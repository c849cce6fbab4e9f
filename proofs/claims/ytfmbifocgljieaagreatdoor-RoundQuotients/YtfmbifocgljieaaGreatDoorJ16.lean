import Derived.Test.YtfmbifocgljieaaGreatDoorJ14
import Derived.Laws.EntriesVeiled
import Derived.Test.YtfmbifocgljieaaGreatDoorJ13
import Derived.Test.YtfmbifocgljieaaGreatDoorJ15
import Derived.Test.YtfmbifocgljieaaGreatDoorSmall
import Derived.Deep.LoopGhost
import Derived.Test.YtfmbifocgljieaaGreatDoorJ8
import Derived.Test.YtfmbifocgljieaaGreatDoorJ12
import Derived.Test.YtfmbifocgljieaaGreatDoorJ11
import Derived.Test.YtfmbifocgljieaaGreatDoorJ9
namespace Go.Proofs.YtfmbifocgljieaaGreatDoor
open Go.RowKit Go.Shelf
set_option maxRecDepth 20000
set_option maxHeartbeats 0
theorem nought_t {p : Option Addr} {c : Nat} {w : World} {e : Int} {s : Bool} :
    Calls Tryz.prog 60 #[DV s p 0 c e] w fun en w' => en = .returned (.bool true) ∧ Below w.heap.size w w' := by
  go_enter Tryz.func60, Tryz.ntmps60
  go_wp2_with fail
  go_ret
  exact ⟨rfl, below1 w _⟩
theorem nought {p : Option Addr} {m c : Nat} {w : World} {e : Int} {s : Bool} :
    Calls Tryz.prog 60 #[DV s p m c e] w fun en w' => en = .returned (.bool (decide (m = 0))) ∧ Below w.heap.size w w' := by
  rcases Nat.eq_zero_or_pos m with h | h
  · subst h; exact nought_t
  · rw [decide_eq_false (by omega)]; exact nought5 h
structure B10q (W : World) (g : Nat) (v0 v1 v2 v3 v4 v5 v6 v7 v8 v9 : Value) : Prop where
  c0 : W.cell? ⟨g, 0, none⟩ = some v0
  c1 : W.cell? ⟨g, 1, none⟩ = some v1
  c2 : W.cell? ⟨g, 2, none⟩ = some v2
  c3 : W.cell? ⟨g, 3, none⟩ = some v3
  c4 : W.cell? ⟨g, 4, none⟩ = some v4
  c5 : W.cell? ⟨g, 5, none⟩ = some v5
  c6 : W.cell? ⟨g, 6, none⟩ = some v6
  c7 : W.cell? ⟨g, 7, none⟩ = some v7
  c8 : W.cell? ⟨g, 8, none⟩ = some v8
  c9 : W.cell? ⟨g, 9, none⟩ = some v9
  f0 : W.frozen? ⟨g, 0, none⟩ = false
  f1 : W.frozen? ⟨g, 1, none⟩ = false
  f2 : W.frozen? ⟨g, 2, none⟩ = false
  f3 : W.frozen? ⟨g, 3, none⟩ = false
  f4 : W.frozen? ⟨g, 4, none⟩ = false
  f5 : W.frozen? ⟨g, 5, none⟩ = false
  f6 : W.frozen? ⟨g, 6, none⟩ = false
  f7 : W.frozen? ⟨g, 7, none⟩ = false
  f8 : W.frozen? ⟨g, 8, none⟩ = false
  f9 : W.frozen? ⟨g, 9, none⟩ = false
theorem B10q.lt {w : World} {g : Nat} {v0 v1 v2 v3 v4 v5 v6 v7 v8 v9 : Value} (h : B10q w g v0 v1 v2 v3 v4 v5 v6 v7 v8 v9) : g < w.heap.size := World.block_lt_of_cell? w _ h.c0
theorem B10q.below {W W' : World} {g : Nat} {v0 v1 v2 v3 v4 v5 v6 v7 v8 v9 : Value} (h : B10q W g v0 v1 v2 v3 v4 v5 v6 v7 v8 v9) (hb : Below W.heap.size W W') : B10q W' g v0 v1 v2 v3 v4 v5 v6 v7 v8 v9 := by
  have hl : g < W.heap.size := World.block_lt_of_cell? W _ h.c0
  exact ⟨(hb.cell (p := ⟨g, 0, none⟩) hl).trans h.c0, (hb.cell (p := ⟨g, 1, none⟩) hl).trans h.c1, (hb.cell (p := ⟨g, 2, none⟩) hl).trans h.c2, (hb.cell (p := ⟨g, 3, none⟩) hl).trans h.c3, (hb.cell (p := ⟨g, 4, none⟩) hl).trans h.c4, (hb.cell (p := ⟨g, 5, none⟩) hl).trans h.c5, (hb.cell (p := ⟨g, 6, none⟩) hl).trans h.c6, (hb.cell (p := ⟨g, 7, none⟩) hl).trans h.c7, (hb.cell (p := ⟨g, 8, none⟩) hl).trans h.c8, (hb.cell (p := ⟨g, 9, none⟩) hl).trans h.c9, (hb.frozen (p := ⟨g, 0, none⟩) hl).trans h.f0, (hb.frozen (p := ⟨g, 1, none⟩) hl).trans h.f1, (hb.frozen (p := ⟨g, 2, none⟩) hl).trans h.f2, (hb.frozen (p := ⟨g, 3, none⟩) hl).trans h.f3, (hb.frozen (p := ⟨g, 4, none⟩) hl).trans h.f4, (hb.frozen (p := ⟨g, 5, none⟩) hl).trans h.f5, (hb.frozen (p := ⟨g, 6, none⟩) hl).trans h.f6, (hb.frozen (p := ⟨g, 7, none⟩) hl).trans h.f7, (hb.frozen (p := ⟨g, 8, none⟩) hl).trans h.f8, (hb.frozen (p := ⟨g, 9, none⟩) hl).trans h.f9⟩
theorem B10q.new (w : World) (ty : TypeId) (v0 v1 v2 v3 v4 v5 v6 v7 v8 v9 : Value) : B10q (w.alloc (.cells #[v0, v1, v2, v3, v4, v5, v6, v7, v8, v9] ty)) w.heap.size v0 v1 v2 v3 v4 v5 v6 v7 v8 v9 := ⟨by go_simp, by go_simp, by go_simp, by go_simp, by go_simp, by go_simp, by go_simp, by go_simp, by go_simp, by go_simp, by go_simp, by go_simp, by go_simp, by go_simp, by go_simp, by go_simp, by go_simp, by go_simp, by go_simp, by go_simp⟩
theorem twinD {p : Option Addr} {m c : Nat} {xs : List Nat} {w : World} {e : Int} (s : Bool) (h : At w p m c xs) (hm : m ≤ 17592186044416) :
    Calls Tryz.prog 83 #[DV s p m c e] w fun en w' => ∃ g, en = .returned (DV s (some ⟨g, 0, none⟩) m m e) ∧ w.heap.size ≤ g ∧ At w' (some ⟨g, 0, none⟩) m m xs ∧ Below w.heap.size w w' := by
  have H : Hid (At w p m c xs) := h
  have HM : Hid (m ≤ 17592186044416) := hm
  clear h hm
  go_enter Tryz.func83, Tryz.ntmps83
  go_wp2_with fail
  obtain ⟨W0, hW0⟩ : ∃ W0, W0 = ((w.alloc (.cells #[.bool s, .slice p m c, .int .i64 e] 33)).alloc (.cells #[.bool false, .slice none 0 0, .int .i64 0] 33)) := ⟨_, rfl⟩
  have Xd : Hid (B3q W0 (w.heap.size) (.bool s) (.slice p m c) (.int .i64 e)) := by rw [hW0]; exact ⟨by go_simp, by go_simp, by go_simp, by go_simp, by go_simp, by go_simp⟩
  have Xr : Hid (B3q W0 (w.heap.size + 1) (.bool false) (.slice none 0 0) (.int .i64 0)) := by rw [hW0]; exact ⟨by go_simp, by go_simp, by go_simp, by go_simp, by go_simp, by go_simp⟩
  have hb0 : Below w.heap.size w W0 := by rw [hW0]; exact below2 w _ _
  rw [← hW0]
  clear hW0
  have hbw : Below w.heap.size w w := Below.refl _ _
  obtain ⟨gr, hgr⟩ : ∃ g, g = w.heap.size + 1 := ⟨_, rfl⟩
  have HGr : Hid (w.heap.size ≤ gr) := by rw [hgr]; show _ ≤ _; omega
  rw [← hgr] at Xr
  try rw [← hgr]
  obtain ⟨gd, hgd⟩ : ∃ g, g = w.heap.size := ⟨_, rfl⟩
  have HGd : Hid (w.heap.size ≤ gd) := by rw [hgd]; show _ ≤ _; omega
  rw [← hgd] at Xd
  try rw [← hgd]
  have HGD : Hid (gd ≠ gr ∧ gr ≠ gd) := by rw [hgd, hgr]; exact ⟨by omega, by omega⟩
  clear hgd hgr
  replace H : Hid _ := H.out.below hb0
  replace hbw := Below.on hbw hb0
  clear hb0
  obtain ⟨W1, hW1⟩ : ∃ W1, W1 = W0.drew := ⟨_, rfl⟩
  have hbd : Below W0.heap.size W0 W1 := by rw [hW1]; exact bDrew1 (Below.refl _ _)
  replace Xd : Hid _ := Xd.out.below hbd
  replace Xr : Hid _ := Xr.out.below hbd
  replace H : Hid _ := H.out.below hbd
  replace hbw := Below.on hbw hbd
  clear hbd
  have HJ : Hid ((fun W' : World => W'.cell? ⟨gd, 0, none⟩ = some (.bool s) ∧ W'.cell? ⟨gd, 1, none⟩ = some (.slice p m c) ∧ W'.cell? ⟨gd, 2, none⟩ = some (.int .i64 e)) W1) := ⟨Xd.out.c0, Xd.out.c1, Xd.out.c2⟩
  refine wp_region_J (fun W' => W'.cell? ⟨gd, 0, none⟩ = some (.bool s) ∧ W'.cell? ⟨gd, 1, none⟩ = some (.slice p m c) ∧ W'.cell? ⟨gd, 2, none⟩ = some (.int .i64 e)) (by kernel_rfl) ?_
  rw [← hW1]
  clear hW1
  refine wpJ_tq 0 rfl HJ.out ?_
  refine wpJ_tq 1 rfl HJ.out ?_
  refine wpJ_tq 2 rfl HJ.out ?_
  refine wpJ_tq 3 rfl HJ.out ?_
  refine wpJ_tq 4 rfl HJ.out ?_
  refine wpJ_tq 5 rfl HJ.out ?_
  refine wpJ_tq 8 rfl HJ.out ?_
  refine wpJ_tq 9 rfl HJ.out ?_
  refine wpJ_on 6 rfl fun KJ hK => ?_
  go_simp
  refine (twin_any H.out (by have := HM.out; omega)).mono ?_
  rintro e2 w2 ⟨g2, rfl, hg2, hblk2, hb2⟩
  have HRL : Hid (gr < g2 ∧ w.heap.size ≤ g2) := ⟨Nat.lt_of_lt_of_le Xr.out.lt hg2, Nat.le_trans hbw.size hg2⟩
  have hA2 := hblk2.at_ H.out.dig H.out.len (by have := HM.out; unfold maxLen; omega)
  replace Xd : Hid _ := Xd.out.below hb2
  replace Xr : Hid _ := Xr.out.below hb2
  replace H : Hid _ := H.out.below hb2
  replace hbw := Below.on hbw hb2
  clear hb2
  have A2 : Hid (At w2 (some ⟨g2, 0, none⟩) m m xs) := hA2
  clear hg2 hblk2 hA2
  clear HJ
  have HJ : Hid ((fun W' : World => W'.cell? ⟨gd, 0, none⟩ = some (.bool s) ∧ W'.cell? ⟨gd, 1, none⟩ = some (.slice p m c) ∧ W'.cell? ⟨gd, 2, none⟩ = some (.int .i64 e)) w2) := ⟨Xd.out.c0, Xd.out.c1, Xd.out.c2⟩
  refine hK _ _ HJ.out ?_
  clear hK
  refine wpJ_tq 7 rfl HJ.out ?_
  refine wpJ_tq 10 rfl HJ.out ?_
  obtain ⟨cr0, cr1, cr2, fr0, fr1, fr2⟩ := Xr.out
  have hner : gr < w2.heap.size := World.block_lt_of_cell? w2 _ cr0
  obtain ⟨cd0, cd1, cd2, fd0, fd1, fd2⟩ := Xd.out
  have hned : gd < w2.heap.size := World.block_lt_of_cell? w2 _ cd0
  obtain ⟨hgd0, hgd1⟩ := HGD.out
  refine wpJ_on 11 rfl fun KJ hK => ?_
  go_simp
  have HJ2 : Hid ((fun W' : World => W'.cell? ⟨gd, 0, none⟩ = some (.bool s) ∧ W'.cell? ⟨gd, 1, none⟩ = some (.slice p m c) ∧ W'.cell? ⟨gd, 2, none⟩ = some (.int .i64 e)) (((w2.setCell ⟨gr, 0, none⟩ (.bool s)).setCell ⟨gr, 1, none⟩ (.slice (some ⟨g2, 0, none⟩) m m)).setCell ⟨gr, 2, none⟩ (.int .i64 e))) := ⟨by go_simp, by go_simp, by go_simp⟩
  refine hK _ _ HJ2.out ?_
  clear hK HJ
  have HJ := HJ2
  clear HJ2
  refine wpJ_done (by kernel_rfl) ?_ _
  clear HJ
  go_wp2_with fail
  refine bodyPost_ret (v := DV s (some ⟨g2, 0, none⟩) m m e) (by rw [results_cell1 rfl]; go_simp) rfl ⟨g2, rfl, HRL.out.2, ?_, ?_⟩
  · have := HRL.out.1
    exact ((A2.out.setOther _ _ _ (by omega)).setOther _ _ _ (by omega)).setOther _ _ _ (by omega)
  · exact bSet (bSet (bSet hbw _ _ _ HGr.out) _ _ _ HGr.out) _ _ _ HGr.out
structure B9q (W : World) (g : Nat) (v0 v1 v2 v3 v4 v5 v6 v7 v8 : Value) : Prop where
  c0 : W.cell? ⟨g, 0, none⟩ = some v0
  c1 : W.cell? ⟨g, 1, none⟩ = some v1
  c2 : W.cell? ⟨g, 2, none⟩ = some v2
  c3 : W.cell? ⟨g, 3, none⟩ = some v3
  c4 : W.cell? ⟨g, 4, none⟩ = some v4
  c5 : W.cell? ⟨g, 5, none⟩ = some v5
  c6 : W.cell? ⟨g, 6, none⟩ = some v6
  c7 : W.cell? ⟨g, 7, none⟩ = some v7
  c8 : W.cell? ⟨g, 8, none⟩ = some v8
  f0 : W.frozen? ⟨g, 0, none⟩ = false
  f1 : W.frozen? ⟨g, 1, none⟩ = false
  f2 : W.frozen? ⟨g, 2, none⟩ = false
  f3 : W.frozen? ⟨g, 3, none⟩ = false
  f4 : W.frozen? ⟨g, 4, none⟩ = false
  f5 : W.frozen? ⟨g, 5, none⟩ = false
  f6 : W.frozen? ⟨g, 6, none⟩ = false
  f7 : W.frozen? ⟨g, 7, none⟩ = false
  f8 : W.frozen? ⟨g, 8, none⟩ = false
theorem B9q.lt {w : World} {g : Nat} {v0 v1 v2 v3 v4 v5 v6 v7 v8 : Value} (h : B9q w g v0 v1 v2 v3 v4 v5 v6 v7 v8) : g < w.heap.size := World.block_lt_of_cell? w _ h.c0
theorem B9q.below {W W' : World} {g : Nat} {v0 v1 v2 v3 v4 v5 v6 v7 v8 : Value} (h : B9q W g v0 v1 v2 v3 v4 v5 v6 v7 v8) (hb : Below W.heap.size W W') : B9q W' g v0 v1 v2 v3 v4 v5 v6 v7 v8 := by
  have hl : g < W.heap.size := World.block_lt_of_cell? W _ h.c0
  exact ⟨(hb.cell (p := ⟨g, 0, none⟩) hl).trans h.c0, (hb.cell (p := ⟨g, 1, none⟩) hl).trans h.c1, (hb.cell (p := ⟨g, 2, none⟩) hl).trans h.c2, (hb.cell (p := ⟨g, 3, none⟩) hl).trans h.c3, (hb.cell (p := ⟨g, 4, none⟩) hl).trans h.c4, (hb.cell (p := ⟨g, 5, none⟩) hl).trans h.c5, (hb.cell (p := ⟨g, 6, none⟩) hl).trans h.c6, (hb.cell (p := ⟨g, 7, none⟩) hl).trans h.c7, (hb.cell (p := ⟨g, 8, none⟩) hl).trans h.c8, (hb.frozen (p := ⟨g, 0, none⟩) hl).trans h.f0, (hb.frozen (p := ⟨g, 1, none⟩) hl).trans h.f1, (hb.frozen (p := ⟨g, 2, none⟩) hl).trans h.f2, (hb.frozen (p := ⟨g, 3, none⟩) hl).trans h.f3, (hb.frozen (p := ⟨g, 4, none⟩) hl).trans h.f4, (hb.frozen (p := ⟨g, 5, none⟩) hl).trans h.f5, (hb.frozen (p := ⟨g, 6, none⟩) hl).trans h.f6, (hb.frozen (p := ⟨g, 7, none⟩) hl).trans h.f7, (hb.frozen (p := ⟨g, 8, none⟩) hl).trans h.f8⟩
theorem B9q.new (w : World) (ty : TypeId) (v0 v1 v2 v3 v4 v5 v6 v7 v8 : Value) : B9q (w.alloc (.cells #[v0, v1, v2, v3, v4, v5, v6, v7, v8] ty)) w.heap.size v0 v1 v2 v3 v4 v5 v6 v7 v8 := ⟨by go_simp, by go_simp, by go_simp, by go_simp, by go_simp, by go_simp, by go_simp, by go_simp, by go_simp, by go_simp, by go_simp, by go_simp, by go_simp, by go_simp, by go_simp, by go_simp, by go_simp, by go_simp⟩
theorem B9q.set9 {w : World} {r : Nat} {u0 u1 u2 u3 u4 u5 u6 u7 u8 : Value} {v0 v1 v2 v3 v4 v5 v6 v7 v8 : Value} (h : B9q w r u0 u1 u2 u3 u4 u5 u6 u7 u8) : B9q (((((((((w.setCell ⟨r, 0, none⟩ v0).setCell ⟨r, 1, none⟩ v1).setCell ⟨r, 2, none⟩ v2).setCell ⟨r, 3, none⟩ v3).setCell ⟨r, 4, none⟩ v4).setCell ⟨r, 5, none⟩ v5).setCell ⟨r, 6, none⟩ v6).setCell ⟨r, 7, none⟩ v7).setCell ⟨r, 8, none⟩ v8) r v0 v1 v2 v3 v4 v5 v6 v7 v8 := by
  obtain ⟨c0, c1, c2, c3, c4, c5, c6, c7, c8, f0, f1, f2, f3, f4, f5, f6, f7, f8⟩ := h
  exact ⟨by go_simp, by go_simp, by go_simp, by go_simp, by go_simp, by go_simp, by go_simp, by go_simp, by go_simp, by go_simp, by go_simp, by go_simp, by go_simp, by go_simp, by go_simp, by go_simp, by go_simp, by go_simp⟩
theorem At.set9 {w : World} {g r n c : Nat} {xs : List Nat} {v0 v1 v2 v3 v4 v5 v6 v7 v8 : Value} (h : At w (some ⟨g, 0, none⟩) n c xs) (hne : g ≠ r) : At (((((((((w.setCell ⟨r, 0, none⟩ v0).setCell ⟨r, 1, none⟩ v1).setCell ⟨r, 2, none⟩ v2).setCell ⟨r, 3, none⟩ v3).setCell ⟨r, 4, none⟩ v4).setCell ⟨r, 5, none⟩ v5).setCell ⟨r, 6, none⟩ v6).setCell ⟨r, 7, none⟩ v7).setCell ⟨r, 8, none⟩ v8) (some ⟨g, 0, none⟩) n c xs := (((((((((h.setOther _ _ _ hne).setOther _ _ _ hne).setOther _ _ _ hne).setOther _ _ _ hne).setOther _ _ _ hne).setOther _ _ _ hne).setOther _ _ _ hne).setOther _ _ _ hne).setOther _ _ _ hne)
theorem below_set9 {B r : Nat} {w w' : World} {v0 v1 v2 v3 v4 v5 v6 v7 v8 : Value} (h : Below B w w') (hr : B ≤ r) : Below B w (((((((((w'.setCell ⟨r, 0, none⟩ v0).setCell ⟨r, 1, none⟩ v1).setCell ⟨r, 2, none⟩ v2).setCell ⟨r, 3, none⟩ v3).setCell ⟨r, 4, none⟩ v4).setCell ⟨r, 5, none⟩ v5).setCell ⟨r, 6, none⟩ v6).setCell ⟨r, 7, none⟩ v7).setCell ⟨r, 8, none⟩ v8) := (bSet (bSet (bSet (bSet (bSet (bSet (bSet (bSet (bSet h _ _ _ hr) _ _ _ hr) _ _ _ hr) _ _ _ hr) _ _ _ hr) _ _ _ hr) _ _ _ hr) _ _ _ hr) _ _ _ hr)
theorem loadVar_B9 {w : World} {g : Nat} {v0 v1 v2 v3 v4 v5 v6 v7 v8 : Value} (h : B9q w g v0 v1 v2 v3 v4 v5 v6 v7 v8) : (loadVar 59 ⟨g, 0, none⟩).run Tryz.prog w = .ok (.agg #[v0, v1, v2, v3, v4, v5, v6, v7, v8]) w := by
  have hl : (loadCells ⟨g, 0, none⟩ 9).run Tryz.prog w = .ok #[v0, v1, v2, v3, v4, v5, v6, v7, v8] w :=
    run_loadCells_list (P := Tryz.prog) w ⟨g, 0, none⟩ [v0, v1, v2, v3, v4, v5, v6, v7, v8] (fun j v hv => by
      have hadd : (⟨g, 0, none⟩ : Addr).add j = ⟨g, j, none⟩ := by unfold Addr.add; split <;> simp_all
      rw [hadd]
      exact match j, hv with
      | 0, hv => by
        obtain rfl : v0 = v := by simpa using hv
        exact h.c0
      | 1, hv => by
        obtain rfl : v1 = v := by simpa using hv
        exact h.c1
      | 2, hv => by
        obtain rfl : v2 = v := by simpa using hv
        exact h.c2
      | 3, hv => by
        obtain rfl : v3 = v := by simpa using hv
        exact h.c3
      | 4, hv => by
        obtain rfl : v4 = v := by simpa using hv
        exact h.c4
      | 5, hv => by
        obtain rfl : v5 = v := by simpa using hv
        exact h.c5
      | 6, hv => by
        obtain rfl : v6 = v := by simpa using hv
        exact h.c6
      | 7, hv => by
        obtain rfl : v7 = v := by simpa using hv
        exact h.c7
      | 8, hv => by
        obtain rfl : v8 = v := by simpa using hv
        exact h.c8
      | k + 9, hv => by simp at hv)
  have hi : (Tryz.prog.info? 59).map (·.size) = some 9 := by kernel_rfl
  cases hq : Tryz.prog.info? 59 with
  | none => simp [hq] at hi
  | some i =>
    have hs : i.size = 9 := by simpa [hq] using hi
    have hagg : (isAgg 59).run Tryz.prog w = .ok true w := by
      unfold isAgg
      rw [Sem.run_bind, run_underlying Tryz.underlying59 w]
      rfl
    simp [loadVar, Sem.run_bind, hagg, sizeOf, typeInfo, hq, hs, hl]
theorem twin8 {pa pb : Option Addr} {na ca nb cb : Nat} {xa xb : List Nat} {w : World} {kd ff ea eb : Int} {wd : Nat} (sa sb : Bool) (ha : At w pa na ca xa) (hb : At w pb nb cb xb) (hn : na ≤ 17592186044416 ∧ nb ≤ 17592186044416) :
    Calls Tryz.prog 51 #[(.agg #[.int .i64 kd, .int .i64 ff, .bool sa, .slice pa na ca, .int .i64 ea, .bool sb, .slice pb nb cb, .int .i64 eb, U wd])] w fun en w' => ∃ ga gb, en = .returned (.agg #[.int .i64 kd, .int .i64 ff, .bool sa, .slice (some ⟨ga, 0, none⟩) na na, .int .i64 ea, .bool sb, .slice (some ⟨gb, 0, none⟩) nb nb, .int .i64 eb, U wd]) ∧ w.heap.size ≤ ga ∧ w.heap.size ≤ gb ∧ At w' (some ⟨ga, 0, none⟩) na na xa ∧ At w' (some ⟨gb, 0, none⟩) nb nb xb ∧ Below w.heap.size w w' := by
  have HA : Hid (At w pa na ca xa) := ha
  have HB : Hid (At w pb nb cb xb) := hb
  have HN : Hid (na ≤ 17592186044416 ∧ nb ≤ 17592186044416) := hn
  clear ha hb hn
  go_enter Tryz.func51, Tryz.ntmps51
  go_wp2_with fail
  obtain ⟨W0, hW0⟩ : ∃ W0, W0 = ((w.alloc (.cells #[.int .i64 kd, .int .i64 ff, .bool sa, .slice pa na ca, .int .i64 ea, .bool sb, .slice pb nb cb, .int .i64 eb, U wd] 59)).alloc (.cells #[.int .i64 0, .int .i64 0, .bool false, .slice none 0 0, .int .i64 0, .bool false, .slice none 0 0, .int .i64 0, .int .u64 0] 59)) := ⟨_, rfl⟩
  have Xo : Hid (B9q W0 (w.heap.size) (.int .i64 kd) (.int .i64 ff) (.bool sa) (.slice pa na ca) (.int .i64 ea) (.bool sb) (.slice pb nb cb) (.int .i64 eb) (U wd)) := by rw [hW0]; exact ⟨by go_simp, by go_simp, by go_simp, by go_simp, by go_simp, by go_simp, by go_simp, by go_simp, by go_simp, by go_simp, by go_simp, by go_simp, by go_simp, by go_simp, by go_simp, by go_simp, by go_simp, by go_simp⟩
  have Xr : Hid (B9q W0 (w.heap.size + 1) (.int .i64 0) (.int .i64 0) (.bool false) (.slice none 0 0) (.int .i64 0) (.bool false) (.slice none 0 0) (.int .i64 0) (.int .u64 0)) := by rw [hW0]; exact ⟨by go_simp, by go_simp, by go_simp, by go_simp, by go_simp, by go_simp, by go_simp, by go_simp, by go_simp, by go_simp, by go_simp, by go_simp, by go_simp, by go_simp, by go_simp, by go_simp, by go_simp, by go_simp⟩
  have hb0 : Below w.heap.size w W0 := by rw [hW0]; exact below2 w _ _
  rw [← hW0]
  clear hW0
  have hbw : Below w.heap.size w w := Below.refl _ _
  obtain ⟨gr, hgr⟩ : ∃ g, g = w.heap.size + 1 := ⟨_, rfl⟩
  have HGr : Hid (w.heap.size ≤ gr) := by rw [hgr]; show _ ≤ _; omega
  rw [← hgr] at Xr
  try rw [← hgr]
  obtain ⟨go, hgo⟩ : ∃ g, g = w.heap.size := ⟨_, rfl⟩
  have HGo : Hid (w.heap.size ≤ go) := by rw [hgo]; show _ ≤ _; omega
  rw [← hgo] at Xo
  try rw [← hgo]
  have HGD : Hid (go ≠ gr ∧ gr ≠ go) := by rw [hgo, hgr]; exact ⟨by omega, by omega⟩
  clear hgo hgr
  replace hbw := Below.on hbw hb0
  clear hb0
  obtain ⟨co0, co1, co2, co3, co4, co5, co6, co7, co8, fo0, fo1, fo2, fo3, fo4, fo5, fo6, fo7, fo8⟩ := Xo.out
  have hneo : go < W0.heap.size := World.block_lt_of_cell? W0 _ co0
  go_wp2_with fail
  clear co0 co1 co2 co3 co4 co5 co6 co7 co8 fo0 fo1 fo2 fo3 fo4 fo5 fo6 fo7 fo8 hneo
  refine (twinD sa (HA.out.below hbw) HN.out.1).mono ?_
  rintro e2 v1 ⟨g1, rfl, hg1, hA1, hb1⟩
  have HD1 : Hid (go < g1 ∧ gr < g1 ∧ w.heap.size ≤ g1) := ⟨Nat.lt_of_lt_of_le Xo.out.lt hg1, Nat.lt_of_lt_of_le Xr.out.lt hg1, Nat.le_trans hbw.size hg1⟩
  replace Xo : Hid (B9q v1 go (.int .i64 kd) (.int .i64 ff) (.bool sa) (.slice pa na ca) (.int .i64 ea) (.bool sb) (.slice pb nb cb) (.int .i64 eb) (U wd)) := Xo.out.below hb1
  replace Xr : Hid (B9q v1 gr (.int .i64 0) (.int .i64 0) (.bool false) (.slice none 0 0) (.int .i64 0) (.bool false) (.slice none 0 0) (.int .i64 0) (.int .u64 0)) := Xr.out.below hb1
  replace hbw := Below.on hbw hb1
  clear hb1
  have T1 : Hid (At v1 (some ⟨g1, 0, none⟩) na na xa) := hA1
  clear hA1 hg1
  obtain ⟨hgd0, hgd1⟩ := HGD.out
  obtain ⟨co0, co1, co2, co3, co4, co5, co6, co7, co8, fo0, fo1, fo2, fo3, fo4, fo5, fo6, fo7, fo8⟩ := Xo.out
  have hneo : go < v1.heap.size := World.block_lt_of_cell? v1 _ co0
  obtain ⟨cr0, cr1, cr2, cr3, cr4, cr5, cr6, cr7, cr8, fr0, fr1, fr2, fr3, fr4, fr5, fr6, fr7, fr8⟩ := Xr.out
  have hner : gr < v1.heap.size := World.block_lt_of_cell? v1 _ cr0
  go_wp2_with fail
  have Xo2 : Hid (B9q (((v1.setCell ⟨go, 2, none⟩ (.bool sa)).setCell ⟨go, 3, none⟩ (.slice (some ⟨g1, 0, none⟩) na na)).setCell ⟨go, 4, none⟩ (.int .i64 ea)) go (.int .i64 kd) (.int .i64 ff) (.bool sa) (.slice (some ⟨g1, 0, none⟩) na na) (.int .i64 ea) (.bool sb) (.slice pb nb cb) (.int .i64 eb) (U wd)) := ⟨by go_simp, by go_simp, by go_simp, by go_simp, by go_simp, by go_simp, by go_simp, by go_simp, by go_simp, by go_simp, by go_simp, by go_simp, by go_simp, by go_simp, by go_simp, by go_simp, by go_simp, by go_simp⟩
  have Xr2 : Hid (B9q (((v1.setCell ⟨go, 2, none⟩ (.bool sa)).setCell ⟨go, 3, none⟩ (.slice (some ⟨g1, 0, none⟩) na na)).setCell ⟨go, 4, none⟩ (.int .i64 ea)) gr (.int .i64 0) (.int .i64 0) (.bool false) (.slice none 0 0) (.int .i64 0) (.bool false) (.slice none 0 0) (.int .i64 0) (.int .u64 0)) := ⟨by go_simp, by go_simp, by go_simp, by go_simp, by go_simp, by go_simp, by go_simp, by go_simp, by go_simp, by go_simp, by go_simp, by go_simp, by go_simp, by go_simp, by go_simp, by go_simp, by go_simp, by go_simp⟩
  have T12 : Hid (At (((v1.setCell ⟨go, 2, none⟩ (.bool sa)).setCell ⟨go, 3, none⟩ (.slice (some ⟨g1, 0, none⟩) na na)).setCell ⟨go, 4, none⟩ (.int .i64 ea)) (some ⟨g1, 0, none⟩) na na xa) := (((T1.out.setOther _ _ _ (by have := HD1.out; omega)).setOther _ _ _ (by have := HD1.out; omega)).setOther _ _ _ (by have := HD1.out; omega))
  have hbw2 : Below w.heap.size w (((v1.setCell ⟨go, 2, none⟩ (.bool sa)).setCell ⟨go, 3, none⟩ (.slice (some ⟨g1, 0, none⟩) na na)).setCell ⟨go, 4, none⟩ (.int .i64 ea)) := bSet (bSet (bSet (hbw) _ _ _ HGo.out) _ _ _ HGo.out) _ _ _ HGo.out
  clear co0 co1 co2 co3 co4 co5 co6 co7 co8 fo0 fo1 fo2 fo3 fo4 fo5 fo6 fo7 fo8 hneo
  clear cr0 cr1 cr2 cr3 cr4 cr5 cr6 cr7 cr8 fr0 fr1 fr2 fr3 fr4 fr5 fr6 fr7 fr8 hner
  clear hgd0 hgd1 Xo Xr hbw T1
  generalize (((v1.setCell ⟨go, 2, none⟩ (.bool sa)).setCell ⟨go, 3, none⟩ (.slice (some ⟨g1, 0, none⟩) na na)).setCell ⟨go, 4, none⟩ (.int .i64 ea)) = W2 at *
  have Xo := Xo2
  have Xr := Xr2
  have hbw := hbw2
  have T1 := T12
  clear Xo2 Xr2 hbw2 T12
  refine (twinD sb (HB.out.below hbw) HN.out.2).mono ?_
  rintro e2 v3 ⟨g3, rfl, hg3, hA3, hb3⟩
  have HD3 : Hid (go < g3 ∧ gr < g3 ∧ w.heap.size ≤ g3) := ⟨Nat.lt_of_lt_of_le Xo.out.lt hg3, Nat.lt_of_lt_of_le Xr.out.lt hg3, Nat.le_trans hbw.size hg3⟩
  replace Xo : Hid (B9q v3 go (.int .i64 kd) (.int .i64 ff) (.bool sa) (.slice (some ⟨g1, 0, none⟩) na na) (.int .i64 ea) (.bool sb) (.slice pb nb cb) (.int .i64 eb) (U wd)) := Xo.out.below hb3
  replace Xr : Hid (B9q v3 gr (.int .i64 0) (.int .i64 0) (.bool false) (.slice none 0 0) (.int .i64 0) (.bool false) (.slice none 0 0) (.int .i64 0) (.int .u64 0)) := Xr.out.below hb3
  replace T1 : Hid _ := T1.out.below hb3
  replace hbw := Below.on hbw hb3
  clear hb3
  have T3 : Hid (At v3 (some ⟨g3, 0, none⟩) nb nb xb) := hA3
  clear hA3 hg3
  obtain ⟨hgd0, hgd1⟩ := HGD.out
  obtain ⟨co0, co1, co2, co3, co4, co5, co6, co7, co8, fo0, fo1, fo2, fo3, fo4, fo5, fo6, fo7, fo8⟩ := Xo.out
  have hneo : go < v3.heap.size := World.block_lt_of_cell? v3 _ co0
  obtain ⟨cr0, cr1, cr2, cr3, cr4, cr5, cr6, cr7, cr8, fr0, fr1, fr2, fr3, fr4, fr5, fr6, fr7, fr8⟩ := Xr.out
  have hner : gr < v3.heap.size := World.block_lt_of_cell? v3 _ cr0
  go_wp2_with fail
  have Xr2 : Hid (B9q (((v3.setCell ⟨go, 5, none⟩ (.bool sb)).setCell ⟨go, 6, none⟩ (.slice (some ⟨g3, 0, none⟩) nb nb)).setCell ⟨go, 7, none⟩ (.int .i64 eb)) gr (.int .i64 0) (.int .i64 0) (.bool false) (.slice none 0 0) (.int .i64 0) (.bool false) (.slice none 0 0) (.int .i64 0) (.int .u64 0)) := ⟨by go_simp, by go_simp, by go_simp, by go_simp, by go_simp, by go_simp, by go_simp, by go_simp, by go_simp, by go_simp, by go_simp, by go_simp, by go_simp, by go_simp, by go_simp, by go_simp, by go_simp, by go_simp⟩
  have T12 : Hid (At (((v3.setCell ⟨go, 5, none⟩ (.bool sb)).setCell ⟨go, 6, none⟩ (.slice (some ⟨g3, 0, none⟩) nb nb)).setCell ⟨go, 7, none⟩ (.int .i64 eb)) (some ⟨g1, 0, none⟩) na na xa) := (((T1.out.setOther _ _ _ (by have := HD1.out; omega)).setOther _ _ _ (by have := HD1.out; omega)).setOther _ _ _ (by have := HD1.out; omega))
  have T32 : Hid (At (((v3.setCell ⟨go, 5, none⟩ (.bool sb)).setCell ⟨go, 6, none⟩ (.slice (some ⟨g3, 0, none⟩) nb nb)).setCell ⟨go, 7, none⟩ (.int .i64 eb)) (some ⟨g3, 0, none⟩) nb nb xb) := (((T3.out.setOther _ _ _ (by have := HD3.out; omega)).setOther _ _ _ (by have := HD3.out; omega)).setOther _ _ _ (by have := HD3.out; omega))
  have hbw2 : Below w.heap.size w (((v3.setCell ⟨go, 5, none⟩ (.bool sb)).setCell ⟨go, 6, none⟩ (.slice (some ⟨g3, 0, none⟩) nb nb)).setCell ⟨go, 7, none⟩ (.int .i64 eb)) := bSet (bSet (bSet hbw _ _ _ HGo.out) _ _ _ HGo.out) _ _ _ HGo.out
  clear co0 co1 co2 co3 co4 co5 co6 co7 co8 fo0 fo1 fo2 fo3 fo4 fo5 fo6 fo7 fo8 hneo
  clear cr0 cr1 cr2 cr3 cr4 cr5 cr6 cr7 cr8 fr0 fr1 fr2 fr3 fr4 fr5 fr6 fr7 fr8 hner
  clear hgd0 hgd1 Xo Xr hbw T1 T3
  generalize (((v3.setCell ⟨go, 5, none⟩ (.bool sb)).setCell ⟨go, 6, none⟩ (.slice (some ⟨g3, 0, none⟩) nb nb)).setCell ⟨go, 7, none⟩ (.int .i64 eb)) = W6 at *
  have Xr := Xr2
  have hbw := hbw2
  have T1 := T12
  have T3 := T32
  clear Xr2 hbw2 T12 T32
  obtain ⟨cr0, cr1, cr2, cr3, cr4, cr5, cr6, cr7, cr8, fr0, fr1, fr2, fr3, fr4, fr5, fr6, fr7, fr8⟩ := Xr.out
  have hner : gr < W6.heap.size := World.block_lt_of_cell? W6 _ cr0
  clear cr0 cr1 cr2 cr3 cr4 cr5 cr6 cr7 cr8 fr0 fr1 fr2 fr3 fr4 fr5 fr6 fr7 fr8 hner
  have Xr3 : Hid (B9q (((((((((W6.setCell ⟨gr, 0, none⟩ (.int .i64 kd)).setCell ⟨gr, 1, none⟩ (.int .i64 ff)).setCell ⟨gr, 2, none⟩ (.bool sa)).setCell ⟨gr, 3, none⟩ (.slice (some ⟨g1, 0, none⟩) na na)).setCell ⟨gr, 4, none⟩ (.int .i64 ea)).setCell ⟨gr, 5, none⟩ (.bool sb)).setCell ⟨gr, 6, none⟩ (.slice (some ⟨g3, 0, none⟩) nb nb)).setCell ⟨gr, 7, none⟩ (.int .i64 eb)).setCell ⟨gr, 8, none⟩ (U wd)) gr (.int .i64 kd) (.int .i64 ff) (.bool sa) (.slice (some ⟨g1, 0, none⟩) na na) (.int .i64 ea) (.bool sb) (.slice (some ⟨g3, 0, none⟩) nb nb) (.int .i64 eb) (U wd)) := Xr.out.set9
  have T13 : Hid (At (((((((((W6.setCell ⟨gr, 0, none⟩ (.int .i64 kd)).setCell ⟨gr, 1, none⟩ (.int .i64 ff)).setCell ⟨gr, 2, none⟩ (.bool sa)).setCell ⟨gr, 3, none⟩ (.slice (some ⟨g1, 0, none⟩) na na)).setCell ⟨gr, 4, none⟩ (.int .i64 ea)).setCell ⟨gr, 5, none⟩ (.bool sb)).setCell ⟨gr, 6, none⟩ (.slice (some ⟨g3, 0, none⟩) nb nb)).setCell ⟨gr, 7, none⟩ (.int .i64 eb)).setCell ⟨gr, 8, none⟩ (U wd)) (some ⟨g1, 0, none⟩) na na xa) := T1.out.set9 (by have := HD1.out; omega)
  have T33 : Hid (At (((((((((W6.setCell ⟨gr, 0, none⟩ (.int .i64 kd)).setCell ⟨gr, 1, none⟩ (.int .i64 ff)).setCell ⟨gr, 2, none⟩ (.bool sa)).setCell ⟨gr, 3, none⟩ (.slice (some ⟨g1, 0, none⟩) na na)).setCell ⟨gr, 4, none⟩ (.int .i64 ea)).setCell ⟨gr, 5, none⟩ (.bool sb)).setCell ⟨gr, 6, none⟩ (.slice (some ⟨g3, 0, none⟩) nb nb)).setCell ⟨gr, 7, none⟩ (.int .i64 eb)).setCell ⟨gr, 8, none⟩ (U wd)) (some ⟨g3, 0, none⟩) nb nb xb) := T3.out.set9 (by have := HD3.out; omega)
  have hbw3 : Below w.heap.size w (((((((((W6.setCell ⟨gr, 0, none⟩ (.int .i64 kd)).setCell ⟨gr, 1, none⟩ (.int .i64 ff)).setCell ⟨gr, 2, none⟩ (.bool sa)).setCell ⟨gr, 3, none⟩ (.slice (some ⟨g1, 0, none⟩) na na)).setCell ⟨gr, 4, none⟩ (.int .i64 ea)).setCell ⟨gr, 5, none⟩ (.bool sb)).setCell ⟨gr, 6, none⟩ (.slice (some ⟨g3, 0, none⟩) nb nb)).setCell ⟨gr, 7, none⟩ (.int .i64 eb)).setCell ⟨gr, 8, none⟩ (U wd)) := below_set9 hbw HGr.out
  clear Xr hbw T1 T3
  generalize (((((((((W6.setCell ⟨gr, 0, none⟩ (.int .i64 kd)).setCell ⟨gr, 1, none⟩ (.int .i64 ff)).setCell ⟨gr, 2, none⟩ (.bool sa)).setCell ⟨gr, 3, none⟩ (.slice (some ⟨g1, 0, none⟩) na na)).setCell ⟨gr, 4, none⟩ (.int .i64 ea)).setCell ⟨gr, 5, none⟩ (.bool sb)).setCell ⟨gr, 6, none⟩ (.slice (some ⟨g3, 0, none⟩) nb nb)).setCell ⟨gr, 7, none⟩ (.int .i64 eb)).setCell ⟨gr, 8, none⟩ (U wd)) = W8 at *
  refine bodyPost_ret (v := .agg #[.int .i64 kd, .int .i64 ff, .bool sa, .slice (some ⟨g1, 0, none⟩) na na, .int .i64 ea, .bool sb, .slice (some ⟨g3, 0, none⟩) nb nb, .int .i64 eb, U wd]) (by rw [results_cell1 rfl]; exact loadVar_B9 Xr3.out) rfl ⟨g1, g3, rfl, HD1.out.2.2, HD3.out.2.2, T13.out, T33.out, hbw3⟩
def Play8 (k : Int) : Prop := ∀ (pa pb : Option Addr) (na ca nb cb wd : Nat) (xa xb : List Nat) (w : World) (ff ea eb : Int) (sa sb : Bool), At w pa na ca xa → At w pb nb cb xb → (na ≤ 17592186044416 ∧ nb ≤ 17592186044416 ∧ wd < B64) → Tab w →
    Calls Tryz.prog 24 #[.agg #[.int .i64 k, .int .i64 ff, .bool sa, .slice pa na ca, .int .i64 ea, .bool sb, .slice pb nb cb, .int .i64 eb, U wd]] w fun e w' => e = .returned (.bool true) ∧ Below w.heap.size w w'

theorem all8 {P : Option Addr} {N C : Nat} {its : List Op9} {w : World} {lo hi : Int} (h : Scr8 w P N C its) (hT : Tab w)
    (hp : ∀ k, lo ≤ k → k ≤ hi → Play8 k) :
    Calls Tryz.prog 8 #[.slice P N C, .int .i64 lo, .int .i64 hi] w fun e w' => e = .returned (.bool true) ∧ Below w.heap.size w w' := by
  have H : Hid (Scr8 w P N C its) := h
  have HP : Hid (∀ k, lo ≤ k → k ≤ hi → Play8 k) := hp
  have HT : Hid (Tab w) := hT
  have HLN : Hid (its.length = N) := h.len
  have cap := h.cap; have big := h.big
  unfold maxLen at big
  clear h hp hT
  go_enter Tryz.func8, Tryz.ntmps8
  go_wp2_with fail
  go_loopg [11] N (fun gg iv wr => ∃ k : Nat, k + gg = N ∧ iv = .int .i64 k ∧ Below w.heap.size w wr)
  case atStart => exact ⟨0, by omega, rfl, Below.refl _ _⟩
  case round =>
    obtain ⟨k, hkg, rfl, hbw⟩ := hrel
    cases gk with
    | zero =>
      obtain rfl : k = N := by omega
      have hnk : ¬ (k : Int) < (k : Int) := by omega
      go_wp2_with fail
      go_ret
      exact ⟨rfl, hbw⟩
    | succ gg =>
      have hki : k < its.length := by rw [HLN.out]; omega
      have HR := H.out.below hbw
      obtain ⟨g, off, rfl, hc⟩ := HR.cells.resolve_left (by omega)
      obtain ⟨e0, e1, e2, e3, e4, e5, e6, e7, e8⟩ := hc k hki
      have HAT : Hid (At wr its[k].pa its[k].na its[k].ca its[k].xa ∧ At wr its[k].pb its[k].nb its[k].cb its[k].xb ∧ its[k].na ≤ 17592186044416 ∧ its[k].nb ≤ 17592186044416 ∧ its[k].wd < B64) := HR.ats its[k] (List.getElem_mem hki)
      have HBW : Hid (Below w.heap.size w wr) := hbw
      have hkk : (k : Int) < (N : Int) := by omega
      have hlt : g < wr.heap.size := World.block_lt_of_cell? wr _ e0
      clear hc HR hbw
      generalize its[k].k = kd at *
      generalize its[k].ff = ff at *
      generalize its[k].sa = sa at *
      generalize its[k].pa = pa at *
      generalize its[k].na = na at *
      generalize its[k].ca = ca at *
      generalize its[k].xa = xa at *
      generalize its[k].ea = ea at *
      generalize its[k].sb = sb at *
      generalize its[k].pb = pb at *
      generalize its[k].nb = nb at *
      generalize its[k].cb = cb at *
      generalize its[k].xb = xb at *
      generalize its[k].eb = eb at *
      generalize its[k].wd = wd at *
      have hb0 : Below wr.heap.size wr (wr.alloc (.cells #[.int .i64 kd, .int .i64 ff, .bool sa, .slice pa na ca, .int .i64 ea, .bool sb, .slice pb nb cb, .int .i64 eb, U wd] 59)) := below1 wr _
      have HAO : Hid (At (wr.alloc (.cells #[.int .i64 kd, .int .i64 ff, .bool sa, .slice pa na ca, .int .i64 ea, .bool sb, .slice pb nb cb, .int .i64 eb, U wd] 59)) pa na ca xa ∧ At (wr.alloc (.cells #[.int .i64 kd, .int .i64 ff, .bool sa, .slice pa na ca, .int .i64 ea, .bool sb, .slice pb nb cb, .int .i64 eb, U wd] 59)) pb nb cb xb ∧ na ≤ 17592186044416 ∧ nb ≤ 17592186044416 ∧ wd < B64) := ⟨HAT.out.1.below hb0, HAT.out.2.1.below hb0, HAT.out.2.2⟩
      have HBO : Hid (Below w.heap.size w (wr.alloc (.cells #[.int .i64 kd, .int .i64 ff, .bool sa, .slice pa na ca, .int .i64 ea, .bool sb, .slice pb nb cb, .int .i64 eb, U wd] 59))) := Below.on HBW.out hb0
      clear hb0 HAT HBW
      by_cases hlo : lo ≤ kd
      · have hlo2 : ¬ kd < lo := by omega
        by_cases hhi : kd ≤ hi
        · have hhi2 : ¬ hi < kd := by omega
          have HPK : Hid (Play8 kd) := HP.out kd hlo hhi
          go_wp2_with fail
          refine (HPK.out pa pb na ca nb cb wd xa xb _ ff ea eb sa sb HAO.out.1 HAO.out.2.1 HAO.out.2.2 (HT.out.below HBO.out)).mono ?_
          rintro e wz ⟨rfl, hbq⟩
          have hbz := Below.on HBO.out hbq
          clear hbq e0 e1 e2 e3 e4 e5 e6 e7 e8
          go_wp2_with fail
          go_roundg gg
          case measure => omega
          case rel => exact ⟨k + 1, by omega, by go_num, hbz⟩
        · have hhi2 : hi < kd := by omega
          go_wp2_with fail
          go_roundg gg
          case measure => omega
          case rel => exact ⟨k + 1, by omega, by go_num, HBO.out⟩
      · have hlo2 : kd < lo := by omega
        go_wp2_with fail
        go_roundg gg
        case measure => omega
        case rel => exact ⟨k + 1, by omega, by go_num, HBO.out⟩
theorem wpJ_nodes5 {P : Program} {md : Region.Mode} {ops : Array Oper} {Q : Exit → Act → World → Prop} {J : World → Prop} {fuel : Nat} {listed : Array Bool} {a : Act} {w : World} (h : ∀ WP : Nat → Array Bool → Act → World → Prop, WP = wpJ P md ops Q J → ∀ L a0, L = listed → a0 = a → WP fuel L a0 w) : wpJ P md ops Q J fuel listed a w := h _ rfl _ _ rfl rfl
theorem wpJ_same5 {P : Program} {md : Region.Mode} {ops : Array Oper} {Q : Exit → Act → World → Prop} {J : World → Prop} {fuel : Nat} {L L' : Array Bool} {a a' : Act} {w : World} (h1 : L = L') (h2 : a = a') (h : wpJ P md ops Q J fuel L a w) : wpJ P md ops Q J fuel L' a' w := by
  subst h1 h2; exact h
theorem Hid.mk5 {p : Prop} (h : p) : Hid p := h
theorem val_nil {xs : List Nat} {s : Bool} {e : Int} {w : World} {p : Option Addr} {n c : Nat} (h : At w p n c xs) (hf : formD s xs e = true) (hv : valB B64 xs = 0) : n = 0 := by
  obtain ⟨ys, hY⟩ := (formD_dn h hf).zn.ex
  have h1 : iv s (valB B64 xs) = 0 := by rw [hv]; cases s <;> rfl
  rw [h1] at hY
  have h2 := hY.nf.val
  have h3 : ys = [] := (hY.nf.zero_iff B64_one).2 rfl
  have h4 := hY.at_.len
  rw [h3] at h4
  simpa using h4.symm
theorem at_blk9 {w : World} {g n c : Nat} {xs : List Nat} (h : At w (some ⟨g, 0, none⟩) n c xs) : n = 0 ∨ g < w.heap.size := by
  rcases h.cells with h0 | ⟨g9, off, hp, hc⟩
  · exact .inl h0
  · by_cases h0 : n = 0
    · exact .inl h0
    · have h1 := World.block_lt_of_cell? w _ (hc 0 (by omega))
      injection hp with hp
      injection hp with hp1 hp2
      subst hp1
      exact .inr h1
theorem at_set9 {w : World} {g n c : Nat} {xs : List Nat} (h : At w (some ⟨g, 0, none⟩) n c xs) (g2 o2 : Nat) (v : Value) (hne : n = 0 ∨ g ≠ g2) : At (w.setCell ⟨g2, o2, none⟩ v) (some ⟨g, 0, none⟩) n c xs := by
  rcases hne with h0 | h0
  · exact ⟨h.len, h.cap, h.big, h.dig, .inl h0⟩
  · exact h.setOther g2 o2 v h0
structure Mk (H : Nat) (l : Int) (I : Nat) (g : Int → Int) (A V : Int) : Prop where
  lt : ∀ z, z < I → V < dv (hv H z : Int) (l - 1) → A < g (dv (hv H z : Int) (l - 1))
  gt : ∀ z, z < I → dv (hv H z : Int) (l - 1) < V → g (dv (hv H z : Int) (l - 1)) < A
  eq : ∀ z, z < I → V = dv (hv H z : Int) (l - 1) → A = g (dv (hv H z : Int) (l - 1))
def Rise (g : Int → Int) : Prop := ∀ a b, 0 ≤ a → a < b → g a < g b
theorem Rise.le {g : Int → Int} (h : Rise g) {a b : Int} (ha : 0 ≤ a) (hab : a ≤ b) : g a ≤ g b := by
  rcases Int.lt_or_eq_of_le hab with h1 | h1
  · exact Int.le_of_lt (h a b ha h1)
  · rw [h1]; exact Int.le_refl _
theorem Rise.of {g : Int → Int} (h : Rise g) {a b : Int} (hb : 0 ≤ b) (hg : g a ≤ g b) : a ≤ b := by
  refine Int.not_lt.1 fun h1 => ?_
  have := h b a hb h1
  omega
theorem rise_mul {B : Int} (h : 0 < B) : Rise fun t => B * t := fun _ _ _ hab => Int.mul_lt_mul_of_pos_left hab h
theorem rise_sq : Rise fun t => t * t := fun a b ha hab => by
  have h1 : a * a ≤ a * b := Int.mul_le_mul_of_nonneg_left (by omega) ha
  have h2 : a * b < b * b := Int.mul_lt_mul_of_pos_right hab (by omega)
  show a * a < b * b
  omega
theorem dv_nn (n : Nat) (e : Int) : 0 ≤ dv (n : Int) e := by
  have := dv_le e (show (0 : Int) ≤ (n : Int) by omega)
  rwa [dv_zero] at this
theorem Mk.low {H : Nat} {l : Int} {I : Nat} {g : Int → Int} {A V T : Int} {Z Y : Nat} (h : Mk H l I g A V) (hg : Rise g) (hZ : RNz H l I V Z) (hY : RNz H l I T Y) (_hT : 0 ≤ T) (hA : g T ≤ A) : Y ≤ Z := by
  refine Nat.le_of_not_lt fun hlt => ?_
  have hZI : Z < I := Nat.lt_of_lt_of_le hlt hY.le
  have h0 := dv_nn (hv H Z) (l - 1)
  have h1 : dv (hv H Z : Int) (l - 1) ≤ T := Int.not_lt.1 fun h2 => by have := hY.lo Z hZI h2; omega
  have h2 : V ≤ dv (hv H Z : Int) (l - 1) := Int.not_lt.1 fun h2 => by have := hZ.hi Z hZI h2; omega
  have h3 := hg.le h0 h1
  rcases Int.lt_or_eq_of_le h2 with h4 | h4
  · have := h.lt Z hZI h4; omega
  · have h5 := h.eq Z hZI h4
    have h6 : T ≤ dv (hv H Z : Int) (l - 1) := hg.of h0 (by omega)
    have h7 : V = T := by omega
    rw [h7] at hZ
    have := hZ.uniq hY
    omega
theorem Mk.high {H : Nat} {l : Int} {I : Nat} {g : Int → Int} {A V T : Int} {Z Y : Nat} (h : Mk H l I g A V) (hg : Rise g) (hZ : RNz H l I V Z) (hY : RNz H l I T Y) (hT : 0 ≤ T) (hA : A ≤ g T) : Z ≤ Y := by
  refine Nat.le_of_not_lt fun hlt => ?_
  have hYI : Y < I := Nat.lt_of_lt_of_le hlt hZ.le
  have h0 := dv_nn (hv H Y) (l - 1)
  have h1 : T ≤ dv (hv H Y : Int) (l - 1) := Int.not_lt.1 fun h2 => by have := hY.hi Y hYI h2; omega
  have h2 : dv (hv H Y : Int) (l - 1) ≤ V := Int.not_lt.1 fun h2 => by have := hZ.lo Y hYI h2; omega
  have h3 := hg.le hT h1
  rcases Int.lt_or_eq_of_le h2 with h4 | h4
  · have := h.gt Y hYI h4; omega
  · have h5 := h.eq Y hYI h4.symm
    have h6 : dv (hv H Y : Int) (l - 1) ≤ T := hg.of hT (by omega)
    have h7 : V = T := by omega
    rw [h7] at hZ
    have := hZ.uniq hY
    omega
theorem Mk.same {H : Nat} {l : Int} {I : Nat} {g : Int → Int} {A V T : Int} {Z Y : Nat} (h : Mk H l I g A V) (hg : Rise g) (hZ : RNz H l I V Z) (hY : RNz H l I T Y) (hT : 0 ≤ T) (hA : A = g T) : Z = Y :=
  Nat.le_antisymm (h.high hg hZ hY hT (by omega)) (h.low hg hZ hY hT (by omega))
theorem Mk.cell {H : Nat} {l : Int} {I : Nat} {g : Int → Int} {A V : Int} {Z : Nat} (h : Mk H l I g A V) (hZ : RNz H l I V Z) (h0 : Z ≠ 0) (h1 : Z < I) :
    g (dv (hv H (Z - 1) : Int) (l - 1)) ≤ A ∧ A ≤ g (dv (hv H Z : Int) (l - 1)) ∧ (Z % 2 = 1 → g (dv (hv H (Z - 1) : Int) (l - 1)) < A ∧ A < g (dv (hv H Z : Int) (l - 1))) := by
  obtain ⟨c1, c2, c3⟩ := hZ.cell h0 h1
  refine ⟨?_, ?_, fun ho => ⟨h.gt _ (by omega) (c3 ho).1, h.lt _ h1 (c3 ho).2⟩⟩
  · rcases Int.lt_or_eq_of_le c1 with h2 | h2
    · exact Int.le_of_lt (h.gt _ (by omega) h2)
    · have := h.eq _ (by omega) h2.symm; omega
  · rcases Int.lt_or_eq_of_le c2 with h2 | h2
    · exact Int.le_of_lt (h.lt _ h1 h2)
    · have := h.eq _ h1 h2; omega
theorem dv_exp_le {k : Nat} {a b : Int} (h : a ≤ b) (ha : -4194304 ≤ a) : dv (k : Int) a ≤ dv (k : Int) b := by
  obtain ⟨j, hj⟩ : ∃ j : Nat, b = a + j := ⟨(b - a).toNat, by omega⟩
  rw [hj, dv_up j ha]
  apply dv_le
  have h1 : 1 ≤ 2 ^ j := Nat.pow_pos (by omega)
  have h2 : k * 1 ≤ k * 2 ^ j := Nat.mul_le_mul_left k h1
  rw [← Int.natCast_mul]
  omega
theorem mk_of {H : Nat} {l : Int} {I : Nat} {g : Int → Int} (hg : Rise g) (hH : 0 < H) (hl : -4194303 ≤ l) {A e : Int} {F k : Nat} (he : -4194304 ≤ e) (hF : 2 * H ≤ F) (hk : k = 0 ∧ A = g (dv ((2 * F : Nat) : Int) e) ∨ k = 1 ∧ g (dv ((2 * F : Nat) : Int) e) < A ∧ A < g (dv ((2 * F + 2 : Nat) : Int) e)) :
    Mk H l I g A (dv ((2 * F + k : Nat) : Int) e) := by
  have hFA : g (dv ((2 * F : Nat) : Int) e) ≤ A := by rcases hk with ⟨_, h⟩ | ⟨_, h, _⟩ <;> omega
  have hFV : dv ((2 * F : Nat) : Int) e ≤ dv ((2 * F + k : Nat) : Int) e := dv_le e (by omega)
  have hk2 : k < 2 := by rcases hk with ⟨h, _⟩ | ⟨h, _, _⟩ <;> omega
  have hVU : dv ((2 * F + k : Nat) : Int) e < dv ((2 * F + 2 : Nat) : Int) e := dv_lt e (by omega)
  have hF0 := dv_nn (2 * F) e
  have hAU : A < g (dv ((2 * F + 2 : Nat) : Int) e) := by
    rcases hk with ⟨_, h⟩ | ⟨_, _, h⟩
    · rw [h]; exact hg _ _ hF0 (Int.lt_of_le_of_lt hFV hVU)
    · exact h
  -- the point half way is below the floor, or a whole number of units
  have key : ∀ z, (dv (hv H z : Int) (l - 1) < dv ((2 * F : Nat) : Int) e) ∨ ∃ c : Nat, dv (hv H z : Int) (l - 1) = dv ((2 * c : Nat) : Int) e := fun z => by
    rw [← mid_dv z hl]
    obtain ⟨q, hq⟩ : ∃ q, q = z / H - 1 := ⟨_, rfl⟩
    rw [← hq]
    have hmn : z - q * H < 2 * H := by
      have e1 := Nat.div_add_mod z H
      have e2 := Nat.mod_lt z hH
      rw [Nat.mul_comm] at e1
      by_cases e3 : z / H = 0
      · rw [e3] at e1; omega
      · rw [hq, Nat.sub_mul]; omega
    rcases Int.lt_or_le e (l + (q : Int) - 1) with h1 | h1
    · right
      obtain ⟨j, hj⟩ : ∃ j : Nat, l + (q : Int) - 1 = e + ((j + 1 : Nat) : Int) := ⟨(l + (q : Int) - 1 - e - 1).toNat, by omega⟩
      refine ⟨(2 * (z - q * H) + 1) * 2 ^ j, ?_⟩
      rw [hj, dv_up (j + 1) he, ← Int.natCast_mul]
      congr 2
      rw [Nat.pow_succ, Nat.mul_comm 2 ((2 * (z - q * H) + 1) * 2 ^ j), Nat.mul_assoc]
    · left
      refine Int.lt_of_le_of_lt (dv_exp_le h1 (by omega)) (dv_lt e ?_)
      omega
  have up : ∀ c : Nat, F < c → dv ((2 * F + 2 : Nat) : Int) e ≤ dv ((2 * c : Nat) : Int) e := fun c h => dv_le e (by omega)
  have dn : ∀ c : Nat, c < F → dv ((2 * c : Nat) : Int) e < dv ((2 * F : Nat) : Int) e := fun c h => dv_lt e (by omega)
  refine ⟨fun z hz hlt => ?_, fun z hz hgt => ?_, fun z hz heq => ?_⟩
  · rcases key z with h1 | ⟨c, h1⟩
    · omega
    · rw [h1] at hlt ⊢
      rcases Nat.lt_trichotomy c F with h2 | h2 | h2
      · have := dn c h2; omega
      · rw [h2] at hlt; omega
      · exact Int.lt_of_lt_of_le hAU (hg.le (dv_nn _ _) (up c h2))
  · rcases key z with h1 | ⟨c, h1⟩
    · exact Int.lt_of_lt_of_le (hg _ _ (dv_nn _ _) h1) hFA
    · rw [h1] at hgt ⊢
      rcases Nat.lt_trichotomy c F with h2 | h2 | h2
      · exact Int.lt_of_lt_of_le (hg _ _ (dv_nn _ _) (dn c h2)) hFA
      · rcases hk with ⟨h3, _⟩ | ⟨_, h3, _⟩
        · rw [h2, h3] at hgt; exact absurd hgt (Int.lt_irrefl _)
        · rw [h2]; exact h3
      · have := up c h2; omega
  · rcases key z with h1 | ⟨c, h1⟩
    · omega
    · rw [h1] at heq ⊢
      rcases Nat.lt_trichotomy c F with h2 | h2 | h2
      · have := dn c h2; omega
      · rcases hk with ⟨_, h3⟩ | ⟨h3, _, _⟩
        · rw [h2]; exact h3
        · rw [h2, h3] at heq
          have := dv_lt e (show ((2 * F : Nat) : Int) < ((2 * F + 1 : Nat) : Int) by omega)
          omega
      · have := up c h2; omega
theorem mk_quo {H : Nat} {l : Int} {I : Nat} (hH : 0 < H) (hl : -4194303 ≤ l) {e d : Int} {x y k F r m : Nat} (hd : d = e - (k : Int) - 1) (he : -4194304 ≤ d) (hF : 2 * H ≤ F) (hq : x * 2 ^ k = F * y + r) (hr : r < y) (hm : m = 2 * F + (if r = 0 then 0 else 1)) :
    Mk H l I (fun t => (y : Int) * t) (dv (x : Int) e) (dv (m : Int) d) := by
  have e1 : ∀ n : Nat, (y : Int) * dv (n : Int) d = dv ((n * y : Nat) : Int) d := fun n => by
    unfold dv
    rw [Int.natCast_mul, ← Int.mul_assoc, Int.mul_comm (y : Int)]
  have e2 : dv (x : Int) e = dv ((2 * (F * y + r) : Nat) : Int) d := by
    have h1 := dv_up (x := (x : Int)) (e := d) (k + 1) he
    rw [show d + ((k + 1 : Nat) : Int) = e from by omega] at h1
    rw [h1, ← Int.natCast_mul, ← hq]
    congr 2
    rw [Nat.pow_succ, ← Nat.mul_assoc, Nat.mul_comm]
  rw [hm]
  refine mk_of (rise_mul (by omega)) hH hl he hF ?_
  rw [e2, e1, e1]
  by_cases h0 : r = 0
  · left
    rw [if_pos h0]
    refine ⟨rfl, ?_⟩
    congr 2
    rw [h0, Nat.mul_assoc]; omega
  · right
    rw [if_neg h0]
    have h2 : 2 * F * y = 2 * (F * y) := Nat.mul_assoc _ _ _
    have h3 : (2 * F + 2) * y = 2 * (F * y) + 2 * y := by rw [Nat.add_mul, h2]
    exact ⟨rfl, dv_lt d (by omega), dv_lt d (by omega)⟩
theorem mk_root {H : Nat} {l : Int} {I : Nat} (hH : 0 < H) (hl : -4194303 ≤ l) {e d : Int} {x k F r m : Nat} (hd : 2 * (d + 1) = e - (k : Int)) (he : -4194304 ≤ d) (hF : 2 * H ≤ F) (hq : x * 2 ^ k = F * F + r) (hr : r ≤ 2 * F) (hm : m = 2 * F + (if r = 0 then 0 else 1)) :
    Mk H l I (fun t => t * t) ((x : Int) * ((2 ^ (e + 2 * 4194304).toNat : Nat) : Int)) (dv (m : Int) d) := by
  obtain ⟨P, hP⟩ : ∃ P, P = (d + 4194304).toNat := ⟨_, rfl⟩
  obtain ⟨W, hW⟩ : ∃ W : Nat, W = 2 ^ P := ⟨_, rfl⟩
  have hWp : 0 < W := by rw [hW]; exact Nat.pow_pos (by omega)
  have e1 : ∀ n : Nat, dv (n : Int) d * dv (n : Int) d = ((n * n * (W * W) : Nat) : Int) := fun n => by
    unfold dv
    rw [← hP, ← hW, ← Int.natCast_mul, ← Int.natCast_mul]
    congr 1
    rw [Nat.mul_mul_mul_comm]
  have e2 : (x : Int) * ((2 ^ (e + 2 * 4194304).toNat : Nat) : Int) = ((4 * (F * F + r) * (W * W) : Nat) : Int) := by
    rw [← Int.natCast_mul, ← hq, show (e + 2 * 4194304).toNat = k + (2 + (P + P)) from by omega, hW]
    congr 1
    rw [Nat.pow_add 2 k, Nat.pow_add 2 2, Nat.pow_add 2 P P]
    have : (2 : Nat) ^ 2 = 4 := rfl
    rw [this, Nat.mul_comm 4 (x * 2 ^ k), Nat.mul_assoc, Nat.mul_assoc]
  rw [hm]
  refine mk_of rise_sq hH hl he hF ?_
  show _ ∧ _ = dv _ d * dv _ d ∨ _ ∧ dv _ d * dv _ d < _ ∧ _ < dv _ d * dv _ d
  rw [e2, e1, e1]
  have hWW : 0 < W * W := Nat.mul_pos hWp hWp
  have h2 : 2 * F * (2 * F) = 4 * (F * F) := by rw [Nat.mul_mul_mul_comm]
  have h3 : (2 * F + 2) * (2 * F + 2) = 4 * (F * F) + 8 * F + 4 := by rw [Nat.add_mul, Nat.mul_add, h2]; omega
  by_cases h0 : r = 0
  · left
    rw [if_pos h0, h2, h0]
    exact ⟨rfl, rfl⟩
  · right
    rw [if_neg h0, h2, h3]
    exact ⟨rfl, Int.ofNat_lt.2 (Nat.mul_lt_mul_of_pos_right (by omega) hWW), Int.ofNat_lt.2 (Nat.mul_lt_mul_of_pos_right (by omega) hWW)⟩
theorem newton_ge {x s r : Nat} (_hs : 0 < s) (hr : r * r ≤ x) : r ≤ (s + x / s) / 2 := by
  rw [Nat.le_div_iff_mul_le (by decide)]
  by_cases h : 2 * r ≤ s
  · have h3 : 0 ≤ x / s := Nat.zero_le _
    generalize x / s = e at *
    omega
  · have h1 : (2 * r - s) * s ≤ x := by
      refine Nat.le_trans ?_ hr
      obtain ⟨t, ht⟩ : ∃ t, 2 * r = s + t := ⟨2 * r - s, by omega⟩
      rw [ht, Nat.add_sub_cancel_left]
      rcases Nat.le_total s r with hsr | hsr
      · obtain ⟨u, hu⟩ : ∃ u, r = s + u := ⟨r - s, by omega⟩
        subst hu
        obtain rfl : t = s + 2 * u := by omega
        rw [Nat.add_mul, Nat.mul_add, Nat.add_mul, Nat.add_mul s u u]
        have : 2 * u * s = s * u + u * s := by rw [Nat.mul_comm s u, Nat.mul_assoc]; omega
        omega
      · obtain ⟨u, hu⟩ : ∃ u, s = r + u := ⟨s - r, by omega⟩
        subst hu
        obtain ⟨t', ht'⟩ : ∃ t', r = t' + u := ⟨r - u, by omega⟩
        subst ht'
        obtain rfl : t = t' := by omega
        have e : t * (t + u + u) + u * u = (t + u) * (t + u) := by rw [Nat.mul_add, Nat.mul_add, Nat.add_mul, Nat.mul_add, Nat.mul_add, Nat.mul_comm u t]; omega
        omega
    have h2 : 2 * r - s ≤ x / s := (Nat.le_div_iff_mul_le _hs).2 h1
    generalize x / s = e at *
    omega
structure NewR (x s : Nat) : Prop where
  pos : 0 < s
  le : s ≤ 4294967296
  lt : x < (s + 1) * (s + 1)
theorem NewR.step {x s : Nat} (h : NewR x s) (h0 : x ≠ 0) (hlt : (s + x / s) / 2 < s) : NewR x ((s + x / s) / 2) := by
  have h1 := h.le
  have hx : x < ((s + x / s) / 2 + 1) * ((s + x / s) / 2 + 1) := by
    rcases Nat.lt_or_ge x (((s + x / s) / 2 + 1) * ((s + x / s) / 2 + 1)) with e | e
    · exact e
    · have := newton_ge h.pos e; omega
  refine ⟨?_, by omega, hx⟩
  rcases Nat.eq_zero_or_pos ((s + x / s) / 2) with e | e
  · rw [e] at hx; omega
  · exact e
theorem NewR.done {x s : Nat} (h : NewR x s) (hge : s ≤ (s + x / s) / 2) : s * s ≤ x ∧ x ≤ s * s + 2 * s := by
  have h1 : s ≤ x / s := by omega
  have h2 := (Nat.le_div_iff_mul_le h.pos).1 h1
  have h3 := h.lt
  rw [Nat.add_mul, Nat.mul_add] at h3
  exact ⟨h2, by omega⟩
theorem NewR.start {x k L : Nat} (hL : L = bitsN x) (hk : k = (L + 1) / 2) (hb : L ≤ 64) : NewR x (2 ^ k) := by
  refine ⟨Nat.two_pow_pos k, ?_, ?_⟩
  · exact Nat.le_trans (Nat.pow_le_pow_right (by decide) (show k ≤ 32 by omega)) (by decide)
  · have h1 := bitsN_lt x
    rw [← hL] at h1
    have h2 : (2:Nat) ^ L ≤ 2 ^ (k + k) := Nat.pow_le_pow_right (by decide) (by omega)
    rw [Nat.pow_add] at h2
    rw [Nat.add_mul, Nat.mul_add]; omega

theorem newton_words {x s : Nat} (h : NewR x s) (hxb : x < B64) : ∃ q t n2 : Nat, IntKind.u64.wrap ((x : Int) / (s : Int)) = (q : Int) ∧ IntKind.u64.wrap ((s : Int) + (q : Int)) = (t : Int) ∧ (t : Int).tdiv 2 = (n2 : Int) ∧ IntKind.u64.wrap (n2 : Int) = (n2 : Int) ∧ n2 = (s + x / s) / 2 ∧ n2 < B64 := by
  have h1 := h.lt; have h2 := h.le; have h3 := h.pos
  have hq : x / s ≤ s + 2 := by
    refine Nat.lt_succ_iff.1 (Nat.div_lt_of_lt_mul ?_)
    rw [Nat.mul_succ, Nat.mul_add]
    rw [Nat.add_mul, Nat.mul_add] at h1
    omega
  rw [B64_eq] at *
  refine ⟨x / s, s + x / s, (s + x / s) / 2, u_quo x s (by rw [B64_eq]; exact hxb), ?_, ?_, ?_, rfl, ?_⟩ <;> generalize x / s = e at *
  · exact wrap_mod _ _ (by omega)
  · rw [Int.tdiv_eq_ediv_of_nonneg (by omega)]; omega
  · exact wrap_mod _ _ (by omega)
  · omega

structure RootTo (w : World) (a : Nat) (v1 v2 : Value) (w' : World) : Prop where
  val : ∃ s p m zs p' m' zs', s * s ≤ a ∧ a ≤ s * s + 2 * s ∧ v1 = .slice p m m ∧ Own w.heap.size w' p m zs ∧ Nf B64 zs s ∧ m ≤ 8192 ∧ v2 = .slice p' m' m' ∧ Own w.heap.size w' p' m' zs' ∧ Nf B64 zs' (a - s * s) ∧ m' ≤ 8192
  bel : Below w.heap.size w w'

theorem wordroot_any {g off c x : Nat} {w : World} (h : At w (some ⟨g, off, none⟩) 1 c [x]) (h0 : x ≠ 0) :
    Calls Tryz.prog 116 #[.slice (some ⟨g, off, none⟩) 1 c] w fun e w' => ∃ v1 v2, e = .returned (.tuple #[v1, v2]) ∧ RootTo w x v1 v2 w' := by
  have hxb : x < B64 := h.dig.head
  have hcx : w.cell? ⟨g, off, none⟩ = some (U x) := h.cellAt 0 (by omega)
  have cap := h.cap
  obtain ⟨L, hL⟩ : ∃ L, L = bitsN x := ⟨_, rfl⟩
  have hLb : L ≤ 64 := by rw [hL]; exact bits64 hxb
  obtain ⟨k, hk⟩ : ∃ k, k = (L + 1) / 2 := ⟨_, rfl⟩
  have HN : Hid (NewR x (2 ^ k)) := NewR.start hL hk hLb
  have hkt : ((L : Int) + 1).tdiv 2 = (k : Int) := by rw [Int.tdiv_eq_ediv_of_nonneg (by omega)]; omega
  have hk32 : k ≤ 32 := by omega
  have HL : Hid (L = bitsN x) := hL
  clear hL hk
  obtain ⟨s0, hs0⟩ : ∃ s0, s0 = 2 ^ k := ⟨_, rfl⟩
  have HN0 : Hid (NewR x s0) := by rw [hs0]; exact HN.out
  have hw0 : IntKind.u64.wrap (2 ^ k) = (s0 : Int) := by
    rw [int_pow, ← hs0]
    have h1 := HN0.out.le
    exact wrap_mod _ _ (by omega)
  have hp0 : ¬ (s0 : Int) = 0 := by have := HN0.out.pos; omega
  obtain ⟨q0, t0, n0, e1, e2, e3, e4, e5, e6⟩ := newton_words HN0.out hxb
  have HE5 : Hid (n0 = (s0 + x / s0) / 2) := e5
  clear hs0 HN e5
  go_enter Tryz.func116, Tryz.ntmps116
  go_wp2_with fail
  refine (len_any x w hxb).mono ?_
  rintro e w' ⟨rfl, hw⟩
  obtain rfl := hw.symm
  clear hw
  rw [← HL.out]
  go_wp2_with fail
  clear hw0 hp0 e1 e2 e3 e4
  go_loopg [5, 6] s0 (fun gk sv nv wr => sv = U gk ∧ ∃ n2 : Nat, nv = U n2 ∧ Hid (n2 = (gk + x / gk) / 2) ∧ Hid (NewR x gk) ∧ wr = w)
  case atStart => exact ⟨rfl, n0, rfl, HE5, HN0, rfl⟩
  case round =>
    obtain ⟨rfl, n2, rfl, HE, HR, hwr⟩ := hrel
    obtain rfl := hwr.symm
    clear hwr
    by_cases hlt : n2 < gk
    · have HR2 : Hid (NewR x n2) := by rw [HE.out]; exact HR.out.step h0 (by rw [← HE.out]; exact hlt)
      obtain ⟨q2, t2, n3, f1, f2, f3, f4, f5, f6⟩ := newton_words HR2.out hxb
      have HF5 : Hid (n3 = (n2 + x / n2) / 2) := f5
      have hp2 : ¬ (n2 : Int) = 0 := by have := HR2.out.pos; omega
      have hlt' : (n2 : Int) < (gk : Int) := by omega
      clear f5
      go_wp2_with fail
      go_roundg n2
      case measure => omega
      case rel => exact ⟨rfl, n3, rfl, HF5, HR2, rfl⟩
    · have hlt' : ¬ (n2 : Int) < (gk : Int) := by omega
      have hd := HR.out.done (by rw [← HE.out]; omega)
      have HD : Hid (gk * gk ≤ x ∧ x ≤ gk * gk + 2 * gk) := hd
      have hgb := HR.out.le
      obtain ⟨sq, hsq⟩ : ∃ sq, sq = gk * gk := ⟨_, rfl⟩
      have g1 : IntKind.u64.wrap ((gk : Int) * (gk : Int)) = (sq : Int) := by
        have e : ((gk : Int) * (gk : Int)) = ((gk * gk : Nat) : Int) := by simp
        rw [e, ← hsq]
        refine wrap_mod _ _ ?_
        rw [B64_eq] at hxb
        omega
      obtain ⟨re, hre⟩ : ∃ re, re = x - sq := ⟨_, rfl⟩
      have g2 : IntKind.u64.wrap ((x : Int) - (sq : Int)) = (re : Int) := wrap_mod _ _ (by rw [B64_eq] at hxb; omega)
      have hreb : re < B64 := by omega
      have HRE : Hid (re = x - gk * gk) := by rw [← hsq]; exact hre
      have hgk : gk < B64 := by rw [B64_eq]; omega
      clear hd hsq hre hlt
      go_wp2_with fail
      refine (word_any gk w hgk).mono ?_
      rintro e w1 ⟨p1, m1, z1, rfl, ho1, hn1, hm1, hb1⟩
      have N1 : Hid (Nf B64 z1 gk) := hn1
      clear hn1
      go_wp2_with fail
      refine (word_any re w1 hreb).mono ?_
      rintro e w2 ⟨p2, m2, z2, rfl, ho2, hn2, hm2, hb2⟩
      have N2 : Hid (Nf B64 z2 re) := hn2
      clear hn2
      go_wp2_with fail
      go_ret2
      refine ⟨_, _, rfl, ⟨gk, p1, m1, z1, p2, m2, z2, HD.out.1, HD.out.2, rfl, ho1.below hb2, N1.out, by omega, rfl, ho2.mono hb1.size, ?_, by omega⟩, Below.on hb1 hb2⟩
      rw [← HRE.out]; exact N2.out
end Go.Proofs.YtfmbifocgljieaaGreatDoor
namespace Go.Proofs.YtfmbifocgljieaaGreatDoor
set_option maxRecDepth 20000
set_option maxHeartbeats 0
structure RootC (a h P d o last : Nat) : Prop where
  id : a + d * d = (P * h + d) * (P * h + d) + (P * o + last)
  dP : d ≤ P
  big : (P * h) * (P * h) ≤ a
  lf : P * o + last < 2 * (P * h)
  dd : d * d ≤ 2 * (P * h)
  hh : 6 ≤ h
  pp : 1 ≤ P
theorem root_core {a h l P next last d o : Nat} (ha : a = (h * h + l) * (P * P) + (P * next + last)) (hl : l ≤ 2 * h) (hn : next < P) (hla : last < P) (hd : P * l + next = d * (2 * h) + o) (ho : o < 2 * h) (hP : P ≤ 2 * h) (h6 : 6 ≤ h) : RootC a h P d o last := by
  have hdP : d ≤ P := by
    have h1 : d * (2 * h) < (P + 1) * (2 * h) := by
      have h2 : P * l ≤ P * (2 * h) := Nat.mul_le_mul_left _ hl
      rw [Nat.add_mul, Nat.one_mul]; omega
    have := Nat.lt_of_mul_lt_mul_right h1
    omega
  have hid : a + d * d = (P * h + d) * (P * h + d) + (P * o + last) := by
    have h1 : P * (P * l + next) = P * (d * (2 * h) + o) := by rw [hd]
    rw [Nat.mul_add, Nat.mul_add] at h1
    have h2 : (h * h + l) * (P * P) = (P * h) * (P * h) + P * (P * l) := by
      rw [Nat.add_mul]
      have e1 : h * h * (P * P) = P * h * (P * h) := by rw [Nat.mul_mul_mul_comm, Nat.mul_comm h P]
      have e2 : l * (P * P) = P * (P * l) := by rw [Nat.mul_comm, Nat.mul_assoc]
      omega
    have h3 : (P * h + d) * (P * h + d) = (P * h) * (P * h) + P * (d * (2 * h)) + d * d := by
      have e1 : P * (d * (2 * h)) = P * h * d + d * (P * h) := by
        rw [Nat.mul_comm 2 h, ← Nat.mul_assoc d h 2, ← Nat.mul_assoc P (d * h) 2, Nat.mul_comm d (P * h), Nat.mul_comm d h, ← Nat.mul_assoc P h d]; omega
      rw [Nat.add_mul, Nat.mul_add, Nat.mul_add]; omega
    omega
  refine ⟨hid, hdP, ?_, ?_, ?_, h6, by omega⟩
  · have e1 : h * h * (P * P) = P * h * (P * h) := by rw [Nat.mul_mul_mul_comm, Nat.mul_comm h P]
    rw [ha, Nat.add_mul]; omega
  · have h1 : P * (o + 1) ≤ P * (2 * h) := Nat.mul_le_mul_left _ ho
    rw [Nat.mul_add, Nat.mul_one, Nat.mul_left_comm] at h1
    omega
  · have h1 : d * d ≤ P * P := Nat.mul_le_mul hdP hdP
    have h2 : P * P ≤ P * (2 * h) := Nat.mul_le_mul_left _ hP
    rw [Nat.mul_left_comm] at h2
    omega
theorem RootC.le {a h P d o last : Nat} (c : RootC a h P d o last) : 6 * (P * h) ≤ a ∧ P ≤ P * h ∧ h ≤ P * h := by
  have h1 : P * 6 ≤ P * h := Nat.mul_le_mul_left _ c.hh
  have h2 : 1 * h ≤ P * h := Nat.mul_le_mul_right _ c.pp
  have h3 : 6 * (P * h) ≤ (P * h) * (P * h) := Nat.mul_le_mul_right _ (by have := c.pp; omega)
  have := c.big
  exact ⟨by omega, by omega, by omega⟩
theorem RootC.fin {a h P d o last : Nat} (c : RootC a h P d o last) :
    (P * o + last < d * d → 1 ≤ P * h + d ∧ d * d ≤ P * o + last + 2 * (P * h + d) - 1) ∧
    (let S := if P * o + last < d * d then P * h + d - 1 else P * h + d
     let T := if P * o + last < d * d then P * o + last + 2 * (P * h + d) - 1 - d * d else P * o + last - d * d
     S * S ≤ a ∧ a ≤ S * S + 2 * S ∧ T = a - S * S) := by
  have h1 := c.id; have h2 := c.lf; have h3 := c.dd
  have hl := c.le
  refine ⟨fun hlt => ?_, ?_⟩
  · have hd1 : 1 ≤ d := by
      rcases Nat.eq_zero_or_pos d with e | e
      · subst e; simp at hlt
      · exact e
    exact ⟨by omega, by omega⟩
  · by_cases hlt : P * o + last < d * d
    · have hd1 : 1 ≤ d := by
        rcases Nat.eq_zero_or_pos d with e | e
        · subst e; simp at hlt
        · exact e
      simp only [if_pos hlt]
      generalize P * o + last = lf at *
      obtain ⟨S, hS⟩ : ∃ S, P * h + d = S + 1 := ⟨P * h + d - 1, by omega⟩
      rw [hS] at h1 ⊢
      have e1 : (S + 1) * (S + 1) = S * S + 2 * S + 1 := by rw [Nat.add_mul, Nat.mul_add]; omega
      rw [Nat.add_sub_cancel]
      rw [e1] at h1
      have h4 : d * d ≤ 2 * (S + 1) := by omega
      generalize d * d = dd at *
      generalize S * S = ss at *
      exact ⟨by omega, by omega, by omega⟩
    · simp only [if_neg hlt]
      generalize P * o + last = lf at *
      have h4 : lf ≤ 2 * (P * h + d) := by omega
      generalize P * h + d = S at *
      generalize d * d = dd at *
      generalize S * S = ss at *
      exact ⟨by omega, by omega, by omega⟩
theorem half_big {a n k h : Nat} (hn : n = bitsN a) (hk : k = n / 4) (hn65 : 65 ≤ n) (hh : a / 2 ^ (2 * k) ≤ h * h + 2 * h) : 2 ^ k ≤ 2 * h ∧ 6 ≤ h := by
  have ha : a ≠ 0 := by intro e; subst e; rw [bitsN_zero] at hn; omega
  have h1 := bitsN_le a ha
  rw [← hn] at h1
  have h2 : 2 ^ (2 * k - 1) ≤ a / 2 ^ (2 * k) := by
    rw [Nat.le_div_iff_mul_le (Nat.two_pow_pos _), ← Nat.pow_add]
    exact Nat.le_trans (Nat.pow_le_pow_right (by decide) (by omega)) h1
  have h3 : 2 ^ (k - 1) ≤ h := by
    rcases Nat.lt_or_ge h (2 ^ (k - 1)) with e | e
    · exfalso
      have e1 : (h + 1) * (h + 1) ≤ 2 ^ (k - 1) * 2 ^ (k - 1) := Nat.mul_le_mul e e
      rw [← Nat.pow_add] at e1
      have e2 : (2:Nat) ^ (k - 1 + (k - 1)) ≤ 2 ^ (2 * k - 1) := Nat.pow_le_pow_right (by decide) (by omega)
      have e3 : (h + 1) * (h + 1) = h * h + 2 * h + 1 := by rw [Nat.add_mul, Nat.mul_add]; omega
      omega
    · exact e
  have h4 : (2:Nat) ^ 3 ≤ 2 ^ (k - 1) := Nat.pow_le_pow_right (by decide) (by omega)
  have h5 : (2:Nat) ^ k = 2 * 2 ^ (k - 1) := by rw [← Nat.pow_succ', show (k - 1).succ = k by omega]
  exact ⟨by omega, by omega⟩
theorem split_low (a k : Nat) : a = a / 2 ^ (2 * k) * (2 ^ k * 2 ^ k) + (2 ^ k * (a % 2 ^ (2 * k) / 2 ^ k) + a % 2 ^ (2 * k) % 2 ^ k) := by
  have h1 := Nat.div_add_mod a (2 ^ (2 * k))
  have h2 := Nat.div_add_mod (a % 2 ^ (2 * k)) (2 ^ k)
  rw [h2, ← Nat.pow_add, show k + k = 2 * k by omega, Nat.mul_comm]; omega
end Go.Proofs.YtfmbifocgljieaaGreatDoor
namespace Go.Proofs.YtfmbifocgljieaaGreatDoor
open Go.RowKit
set_option maxRecDepth 20000
set_option maxHeartbeats 0
theorem sqr_any {p : Option Addr} {n c : Nat} {xs : List Nat} {a : Nat} {w : World} (h : At w p n c xs) (hx : Nf B64 xs a) (hlx : n ≤ 8192) :
    Calls Tryz.prog 148 #[.slice p n c] w fun e w' => Ans w.heap.size w' e (a * a) ∧ Below w.heap.size w w' := by
  have HX : Hid (Nf B64 xs a) := hx
  clear hx
  go_enter Tryz.func148, Tryz.ntmps148
  go_wp2_with fail
  refine (mul_any h h HX.out HX.out hlx hlx).mono ?_
  rintro e w1 ⟨ha, hb⟩
  rcases ha with ⟨hl, p1, m1, zs, rfl, ho, hn1, hm1⟩ | ⟨hl, rfl⟩
  · have HL : Hid (a * a < LIM) := hl
    clear hl
    go_wp2_with fail
    go_ret2
    exact ⟨.inl ⟨HL.out, p1, m1, zs, rfl, ho, hn1, hm1⟩, hb⟩
  · have HL : Hid (LIM ≤ a * a) := hl
    clear hl
    go_wp2_with fail
    go_ret2
    exact ⟨.inr ⟨HL.out, rfl⟩, hb⟩
theorem Nf.drop {xs : List Nat} {a k : Nat} (hx : Nf B64 xs a) (hk : k ≤ xs.length) : Nf B64 (xs.drop k) (a / B64 ^ k) := by
  refine ⟨hx.dig.drop k, ?_, drop_div hx hk⟩
  intro x h
  refine hx.top x ?_
  by_cases hkl : k < xs.length
  · rw [List.getLast?_drop, if_neg (by omega)] at h; exact h
  · rw [List.drop_of_length_le (by omega)] at h; simp at h
theorem Nf.low {xs : List Nat} {a k : Nat} (hx : Nf B64 xs a) (hk : k ≤ xs.length) : Nf B64 (trimL (xs.take k)) (a % B64 ^ k) := by
  have h := Nf.trim (hx.dig.take k)
  rw [take_mod hx hk] at h; exact h
end Go.Proofs.YtfmbifocgljieaaGreatDoor
namespace Go.Proofs.YtfmbifocgljieaaGreatDoor
open Go.RowKit Go.Shelf
set_option maxRecDepth 20000
set_option maxHeartbeats 0
theorem join_any {p q : Option Addr} {n m c d : Nat} {xs ys : List Nat} {a b : Nat} {w : World} (h : Num w p n c xs a) (k : Num w q m d ys b) (K : Nat) (hK : K ≤ 9223372036854775807) (hl : 2 ^ K * a + b < LIM) :
    Calls Tryz.prog 119 #[.slice p n c, .slice q m d, .int .i64 K] w fun e w' => ∃ p' m' zs, e = .returned (.slice p' m' m') ∧ Own w.heap.size w' p' m' zs ∧ Nf B64 zs (2 ^ K * a + b) ∧ m' ≤ 8192 ∧ Below w.heap.size w w' := by
  have H : Hid (Num w p n c xs a) := h
  have KK : Hid (Num w q m d ys b) := k
  have L : Hid (2 ^ K * a + b < LIM) := hl
  clear h k hl
  go_enter Tryz.func119, Tryz.ntmps119
  go_wp2_with fail
  refine (shl_nf H.out.at_ H.out.nf H.out.le K hK).mono ?_
  rintro e w1 ⟨ha1, hb1⟩
  obtain ⟨p1, m1, z1, rfl, ho1, hn1, hm1⟩ := ha1.ok (Nat.lt_of_le_of_lt (Nat.le_add_right _ _) L.out)
  have N1 : Hid (Num w1 p1 m1 m1 z1 (2 ^ K * a)) := Num.of ho1 hn1 hm1
  have K1 : Hid (Num w1 q m d ys b) := KK.out.below hb1
  clear ha1 ho1 hn1
  go_wp2_with fail
  refine (add_ord N1.out.at_ K1.out.at_ N1.out.nf K1.out.nf N1.out.le K1.out.le).mono ?_
  rintro e w2 ⟨ha2, hb2⟩
  obtain ⟨p2, m2, z2, rfl, ho2, hn2, hm2⟩ := ha2.ok L.out
  have N2 : Hid (Nf B64 z2 (2 ^ K * a + b)) := hn2
  have hbw := Below.on hb1 hb2
  have hsz := hb1.size
  clear ha2 hn2
  go_wp2_with fail
  go_ret
  exact ⟨p2, m2, z2, rfl, ho2.mono hsz, N2.out, hm2, hbw⟩

theorem cmp_nf {p q : Option Addr} {n m c d : Nat} {xs ys : List Nat} {a b : Nat} {w : World} (h : Num w p n c xs a) (k : Num w q m d ys b) :
    Calls Tryz.prog 141 #[.slice p n c, .slice q m d] w fun e w' => e = .returned (.int .i64 (cmpN a b)) ∧ Below w.heap.size w w' := by
  have := cmp_w h.at_ k.at_
  rw [h.nf.val, k.nf.val] at this; exact this

structure SettleTo (B : Nat) (s r : Nat) (v1 v2 : Value) (w w' : World) : Prop where
  v1 : ∃ p m zs, v1 = .slice p m m ∧ Own B w' p m zs ∧ Nf B64 zs s ∧ m ≤ 8192
  v2 : ∃ p m zs, v2 = .slice p m m ∧ Own B w' p m zs ∧ Nf B64 zs r ∧ m ≤ 8192
  bel : Below w.heap.size w w'

theorem sub_ok {p q : Option Addr} {n m c d : Nat} {xs ys : List Nat} {a b : Nat} {w : World} (h : Num w p n c xs a) (k : Num w q m d ys b) (hle : b ≤ a) :
    Calls Tryz.prog 149 #[.slice p n c, .slice q m d] w fun e w' => (∃ p m zs, e = .returned (.tuple #[.slice p m m, .int .i64 0]) ∧ Own w.heap.size w' p m zs ∧ Nf B64 zs (a - b) ∧ m ≤ 8192) ∧ Below w.heap.size w w' := by
  refine (sub_nf h.at_ k.at_ h.nf k.nf h.le k.le).mono ?_
  rintro e w' ⟨h1 | h1, hb⟩
  · exact ⟨h1.2, hb⟩
  · exact absurd h1.1 (by omega)

theorem settle_any {p q r : Option Addr} {n m l : Nat} {xs ys zs : List Nat} {R Lft D B : Nat} {w : World} (h0 : Own B w p n xs) (hB : B ≤ w.heap.size) (h : Num w p n n xs R) (k : Num w q m m ys Lft) (t : Num w r l l zs D) (hD : D * D < LIM) (hR : 2 * R < LIM) (hL : Lft + 2 * R < LIM) (hlow : Lft < D * D → 1 ≤ R ∧ D * D ≤ Lft + 2 * R - 1) :
    Calls Tryz.prog 120 #[.slice p n n, .slice q m m, .slice r l l] w fun e w' => ∃ v1 v2, e = .returned (.tuple #[v1, v2]) ∧
      SettleTo B (if Lft < D * D then R - 1 else R) (if Lft < D * D then Lft + 2 * R - 1 - D * D else Lft - D * D) v1 v2 w w' := by
  obtain ⟨S, hS⟩ : ∃ S, S = if Lft < D * D then R - 1 else R := ⟨_, rfl⟩
  obtain ⟨T, hT⟩ : ∃ T, T = if Lft < D * D then Lft + 2 * R - 1 - D * D else Lft - D * D := ⟨_, rfl⟩
  rw [← hS, ← hT]
  have HS : Hid (S = if Lft < D * D then R - 1 else R) := hS
  have HT : Hid (T = if Lft < D * D then Lft + 2 * R - 1 - D * D else Lft - D * D) := hT
  have HO : Hid (Own B w p n xs) := h0
  have H : Hid (Num w p n n xs R) := h
  have K : Hid (Num w q m m ys Lft) := k
  have TT : Hid (Num w r l l zs D) := t
  have LD : Hid (D * D < LIM) := hD
  have LR : Hid (2 * R < LIM) := hR
  have LL : Hid (Lft + 2 * R < LIM) := hL
  have HLOW : Hid (Lft < D * D → 1 ≤ R ∧ D * D ≤ Lft + 2 * R - 1) := hlow
  have hBs := hB
  clear hS hT h0 h k t hD hR hL hlow
  go_enter Tryz.func120, Tryz.ntmps120
  go_wp2_with fail
  refine (sqr_any TT.out.at_ TT.out.nf TT.out.le).mono ?_
  rintro e v1 ⟨ha1, hb1⟩
  obtain ⟨r1, t1, y1, rfl, ho1, hn1, hm1⟩ := ha1.ok LD.out
  have SQ : Hid (Num v1 r1 t1 t1 y1 (D * D)) := Num.of ho1 hn1 hm1
  clear ha1 ho1 hn1
  have hBsy : B ≤ v1.heap.size := Nat.le_trans hBs hb1.size
  clear hBs
  have hBs := hBsy
  clear hBsy
  replace HO : Hid (Own B v1 p n xs) := HO.out.below hb1
  replace H : Hid _ := H.out.below hb1
  replace K : Hid _ := K.out.below hb1
  have hbw := hb1
  clear hb1
  clear TT
  go_wp2_with fail
  refine (cmp_nf K.out SQ.out).mono ?_
  rintro e v2 ⟨rfl, hb2⟩
  have hBsy : B ≤ v2.heap.size := Nat.le_trans hBs hb2.size
  clear hBs
  have hBs := hBsy
  clear hBsy
  replace HO : Hid (Own B v2 p n xs) := HO.out.below hb2
  replace H : Hid _ := H.out.below hb2
  replace K : Hid _ := K.out.below hb2
  replace SQ : Hid _ := SQ.out.below hb2
  have hbwy := Below.on hbw hb2
  clear hbw
  have hbw := hbwy
  clear hbwy
  clear hb2
  by_cases hlt : Lft < D * D
  · have hc : cmpN Lft (D * D) = -1 := cmpN_lt hlt
    rw [hc]
    have HL : Hid (1 ≤ R ∧ D * D ≤ Lft + 2 * R - 1) := HLOW.out hlt
    have ES : Hid (S = R - 1) := by have := HS.out; rw [if_pos hlt] at this; exact this
    have ET : Hid (T = Lft + 2 * R - 1 - D * D) := by have := HT.out; rw [if_pos hlt] at this; exact this
    clear hc hlt HS HT
    go_wp2_with fail
    rw [show Value.int IntKind.i64 1 = .int .i64 ((1 : Nat) : Int) from rfl]
    go_wp2_with fail
    refine (shl_nf H.out.at_ H.out.nf H.out.le 1 (by omega)).mono ?_
    rintro e v3 ⟨ha3, hb3⟩
    rw [Nat.pow_one] at ha3
    obtain ⟨r3, t3, y3, rfl, ho3, hn3, hm3⟩ := ha3.ok LR.out
    have TW : Hid (Num v3 r3 t3 t3 y3 (2 * R)) := Num.of ho3 hn3 hm3
    clear ha3 ho3 hn3
    have hBsy : B ≤ v3.heap.size := Nat.le_trans hBs hb3.size
    clear hBs
    have hBs := hBsy
    clear hBsy
    replace HO : Hid (Own B v3 p n xs) := HO.out.below hb3
    replace H : Hid _ := H.out.below hb3
    replace K : Hid _ := K.out.below hb3
    replace SQ : Hid _ := SQ.out.below hb3
    have hbwy := Below.on hbw hb3
    clear hbw
    have hbw := hbwy
    clear hbwy
    clear hb3
    go_wp2_with fail
    rw [show Value.int IntKind.u64 1 = U 1 from rfl]
    refine (word_any 1 v3 (by decide)).mono ?_
    rintro e v4 ⟨r4, t4, y4, rfl, ho4, hn4, hm4, hb4⟩
    have ONE : Hid (Num v4 r4 t4 t4 y4 1) := Num.of ho4 hn4 (by omega)
    clear ho4 hn4
    have hBsy : B ≤ v4.heap.size := Nat.le_trans hBs hb4.size
    clear hBs
    have hBs := hBsy
    clear hBsy
    replace HO : Hid (Own B v4 p n xs) := HO.out.below hb4
    replace H : Hid _ := H.out.below hb4
    replace K : Hid _ := K.out.below hb4
    replace SQ : Hid _ := SQ.out.below hb4
    replace TW : Hid _ := TW.out.below hb4
    have hbwy := Below.on hbw hb4
    clear hbw
    have hbw := hbwy
    clear hbwy
    clear hb4
    go_wp2_with fail
    refine (sub_ok H.out ONE.out HL.out.1).mono ?_
    rintro e v5 ⟨⟨r5, t5, y5, rfl, ho5, hn5, hm5⟩, hb5⟩
    have RM : Hid (Num v5 r5 t5 t5 y5 (R - 1)) := Num.of ho5 hn5 hm5
    have RMo : Hid (Own B v5 r5 t5 y5) := ho5.mono hBs
    clear ho5 hn5
    have hBsy : B ≤ v5.heap.size := Nat.le_trans hBs hb5.size
    clear hBs
    have hBs := hBsy
    clear hBsy
    replace HO : Hid (Own B v5 p n xs) := HO.out.below hb5
    replace H : Hid _ := H.out.below hb5
    replace K : Hid _ := K.out.below hb5
    replace SQ : Hid _ := SQ.out.below hb5
    replace TW : Hid _ := TW.out.below hb5
    replace ONE : Hid _ := ONE.out.below hb5
    have hbwy := Below.on hbw hb5
    clear hbw
    have hbw := hbwy
    clear hbwy
    clear hb5
    clear ONE
    clear H
    clear HO
    go_wp2_with fail
    refine (add_ord K.out.at_ TW.out.at_ K.out.nf TW.out.nf K.out.le TW.out.le).mono ?_
    rintro e v6 ⟨ha6, hb6⟩
    obtain ⟨r6, t6, y6, rfl, ho6, hn6, hm6⟩ := ha6.ok LL.out
    have LT : Hid (Num v6 r6 t6 t6 y6 (Lft + 2 * R)) := Num.of ho6 hn6 hm6
    clear ha6 ho6 hn6
    have hBsy : B ≤ v6.heap.size := Nat.le_trans hBs hb6.size
    clear hBs
    have hBs := hBsy
    clear hBsy
    replace K : Hid _ := K.out.below hb6
    replace SQ : Hid _ := SQ.out.below hb6
    replace TW : Hid _ := TW.out.below hb6
    replace RM : Hid _ := RM.out.below hb6
    replace RMo : Hid (Own B v6 r5 t5 y5) := RMo.out.below hb6
    have hbwy := Below.on hbw hb6
    clear hbw
    have hbw := hbwy
    clear hbwy
    clear hb6
    clear K
    clear TW
    go_wp2_with fail
    rw [show Value.int IntKind.u64 1 = U 1 from rfl]
    refine (word_any 1 v6 (by decide)).mono ?_
    rintro e v7 ⟨r7, t7, y7, rfl, ho7, hn7, hm7, hb7⟩
    have ONE : Hid (Num v7 r7 t7 t7 y7 1) := Num.of ho7 hn7 (by omega)
    clear ho7 hn7
    have hBsy : B ≤ v7.heap.size := Nat.le_trans hBs hb7.size
    clear hBs
    have hBs := hBsy
    clear hBsy
    replace SQ : Hid _ := SQ.out.below hb7
    replace RM : Hid _ := RM.out.below hb7
    replace RMo : Hid (Own B v7 r5 t5 y5) := RMo.out.below hb7
    replace LT : Hid _ := LT.out.below hb7
    have hbwy := Below.on hbw hb7
    clear hbw
    have hbw := hbwy
    clear hbwy
    clear hb7
    go_wp2_with fail
    refine (sub_ok LT.out ONE.out (by have := HL.out.1; omega)).mono ?_
    rintro e v8 ⟨⟨r8, t8, y8, rfl, ho8, hn8, hm8⟩, hb8⟩
    have LM : Hid (Num v8 r8 t8 t8 y8 (Lft + 2 * R - 1)) := Num.of ho8 hn8 hm8
    clear ho8 hn8
    have hBsy : B ≤ v8.heap.size := Nat.le_trans hBs hb8.size
    clear hBs
    have hBs := hBsy
    clear hBsy
    replace SQ : Hid _ := SQ.out.below hb8
    replace RM : Hid _ := RM.out.below hb8
    replace RMo : Hid (Own B v8 r5 t5 y5) := RMo.out.below hb8
    replace LT : Hid _ := LT.out.below hb8
    replace ONE : Hid _ := ONE.out.below hb8
    have hbwy := Below.on hbw hb8
    clear hbw
    have hbw := hbwy
    clear hbwy
    clear hb8
    clear ONE
    clear LT
    go_wp2_with fail
    refine (sub_ok LM.out SQ.out HL.out.2).mono ?_
    rintro e v9 ⟨⟨r9, t9, y9, rfl, ho9, hn9, hm9⟩, hb9⟩
    have RE : Hid (Num v9 r9 t9 t9 y9 (Lft + 2 * R - 1 - D * D)) := Num.of ho9 hn9 hm9
    have REo : Hid (Own B v9 r9 t9 y9) := ho9.mono hBs
    clear ho9 hn9
    have hBsy : B ≤ v9.heap.size := Nat.le_trans hBs hb9.size
    clear hBs
    have hBs := hBsy
    clear hBsy
    replace SQ : Hid _ := SQ.out.below hb9
    replace RM : Hid _ := RM.out.below hb9
    replace RMo : Hid (Own B v9 r5 t5 y5) := RMo.out.below hb9
    replace LM : Hid _ := LM.out.below hb9
    have hbwy := Below.on hbw hb9
    clear hbw
    have hbw := hbwy
    clear hbwy
    clear hb9
    clear LM
    clear SQ
    go_wp2_with fail
    go_ret2
    refine ⟨_, _, rfl, ⟨_, _, _, rfl, RMo.out, ?_, RM.out.le⟩, ⟨_, _, _, rfl, REo.out, ?_, RE.out.le⟩, hbw⟩
    · rw [ES.out]; exact RM.out.nf
    · rw [ET.out]; exact RE.out.nf
  · have ES : Hid (S = R) := by have := HS.out; rw [if_neg hlt] at this; exact this
    have ET : Hid (T = Lft - D * D) := by have := HT.out; rw [if_neg hlt] at this; exact this
    have HGE : Hid (D * D ≤ Lft) := by show _ ≤ _; omega
    obtain ⟨cc, hcc⟩ : ∃ cc, cc = cmpN Lft (D * D) := ⟨_, rfl⟩
    have hcn : decide (cc < 0) = false := decide_eq_false (by rw [hcc, cmpN_neg]; exact hlt)
    rw [← hcc]
    clear hcc hlt HS HT
    go_wp2_with fail
    refine (sub_ok K.out SQ.out HGE.out).mono ?_
    rintro e v3 ⟨⟨r3, t3, y3, rfl, ho3, hn3, hm3⟩, hb3⟩
    have RE : Hid (Num v3 r3 t3 t3 y3 (Lft - D * D)) := Num.of ho3 hn3 hm3
    have REo : Hid (Own B v3 r3 t3 y3) := ho3.mono hBs
    clear ho3 hn3
    have hBsy : B ≤ v3.heap.size := Nat.le_trans hBs hb3.size
    clear hBs
    have hBs := hBsy
    clear hBsy
    replace HO : Hid (Own B v3 p n xs) := HO.out.below hb3
    replace H : Hid _ := H.out.below hb3
    replace K : Hid _ := K.out.below hb3
    replace SQ : Hid _ := SQ.out.below hb3
    have hbwy := Below.on hbw hb3
    clear hbw
    have hbw := hbwy
    clear hbwy
    clear hb3
    clear K
    clear SQ
    go_wp2_with fail
    go_ret2
    refine ⟨_, _, rfl, ⟨_, _, _, rfl, HO.out, ?_, H.out.le⟩, ⟨_, _, _, rfl, REo.out, ?_, RE.out.le⟩, hbw⟩
    · rw [ES.out]; exact H.out.nf
    · rw [ET.out]; exact RE.out.nf
theorem wordroot_nil (p : Option Addr) (c : Nat) (w : World) :
    Calls Tryz.prog 116 #[.slice p 0 c] w fun e w' => e = .returned (.tuple #[.slice none 0 0, .slice none 0 0]) ∧ w' = w := by
  go_enter Tryz.func116, Tryz.ntmps116
  go_wp2_with fail
  go_ret2
  exact ⟨rfl, rfl⟩
theorem rootto_zero (w : World) : RootTo w 0 (.slice none 0 0) (.slice none 0 0) w :=
  ⟨⟨0, none, 0, [], none, 0, [], by omega, by omega, rfl, ⟨rfl, Dig.nil _, .inl rfl⟩, Nf.nil _, by omega, rfl, ⟨rfl, Dig.nil _, .inl rfl⟩, Nf.nil _, by omega⟩, Below.refl _ _⟩
theorem wrap_two (k : Nat) (h : k ≤ 1000000) : IntKind.i64.wrap ((2 : Int) * (k : Int)) = ((2 * k : Nat) : Int) := by
  have : ((2 : Int) * (k : Int)) = ((2 * k : Nat) : Int) := by simp
  rw [this]
  simp [IntKind.wrap, IntKind.signed, IntKind.bits]
  omega

theorem rootof_any : ∀ (N a : Nat), a ≤ N → ∀ {p : Option Addr} {n c : Nat} {xs : List Nat} {w : World}, At w p n c xs → Nf B64 xs a → n ≤ 8192 →
    Calls Tryz.prog 75 #[.slice p n c] w fun e w' => ∃ v1 v2, e = .returned (.tuple #[v1, v2]) ∧ RootTo w a v1 v2 w' := by
  intro N
  induction N with
  | zero =>
    intro a ha p n c xs w h hx hn
    obtain rfl : a = 0 := by omega
    have hn0 : n = 0 := by
      have := (hx.zero_iff B64_one).2 rfl
      rw [← h.len, this]; rfl
    subst hn0
    clear h hx
    go_enter Tryz.func75, Tryz.ntmps75
    go_wp2_with fail
    refine (wordroot_nil p c w).mono ?_
    rintro e w' ⟨rfl, hw⟩
    obtain rfl := hw.symm
    clear hw
    go_wp2_with fail
    go_ret2
    exact ⟨_, _, rfl, rootto_zero w⟩
  | succ N ih =>
    intro a ha p n c xs w h hx hn
    by_cases hn0 : n = 0
    · subst hn0
      have ha0 : a = 0 := (hx.zero_iff B64_one).1 (List.eq_nil_of_length_eq_zero h.len)
      have HA0 : Hid (a = 0) := ha0
      clear h hx ih ha ha0
      go_enter Tryz.func75, Tryz.ntmps75
      go_wp2_with fail
      refine (wordroot_nil p c w).mono ?_
      rintro e w' ⟨rfl, hw⟩
      obtain rfl := hw.symm
      clear hw
      go_wp2_with fail
      go_ret2
      rw [HA0.out]
      exact ⟨_, _, rfl, rootto_zero w⟩
    · obtain ⟨g, off, rfl, _⟩ := h.cells.resolve_left hn0
      by_cases hn1 : n = 1
      · subst hn1
        have e1 := hx.one h.len
        subst e1
        have ha0 : a ≠ 0 := hx.top a (by simp)
        clear ih ha hx
        go_enter Tryz.func75, Tryz.ntmps75
        go_wp2_with fail
        refine (wordroot_any h ha0).mono ?_
        rintro e w1 ⟨v1, v2, rfl, hR⟩
        have HR : Hid (RootTo w a v1 v2 w1) := hR
        clear hR
        go_wp2_with fail
        go_ret2
        exact ⟨_, _, rfl, HR.out⟩
      · have hbig := hx.big h.len (by omega)
        have h64 : 2 ^ 64 ≤ a := by
          refine Nat.le_trans ?_ hbig
          rw [show (2 : Nat) ^ 64 = B64 ^ 1 from rfl]
          exact Nat.pow_le_pow_right B64_pos (by omega)
        have hal : a < LIM := hx.lim.1 (by rw [h.len]; exact hn)
        obtain ⟨nb, hnb⟩ : ∃ nb, nb = bitsN a := ⟨_, rfl⟩
        have hnb65 : 65 ≤ nb := by
          rcases Nat.lt_or_ge nb 65 with e | e
          · have := (lt_pow_bits a 64).2 (by omega); omega
          · exact e
        have hnbt : nb ≤ 524288 := by rw [hnb, ← lim_bits]; exact hal
        obtain ⟨k, hk⟩ : ∃ k, k = nb / 4 := ⟨_, rfl⟩
        have hkb : k ≤ 131072 := by omega
        have hup : a / 2 ^ (2 * k) ≤ N := by
          have : a / 2 ^ (2 * k) < a := Nat.div_lt_self (by omega) (Nat.one_lt_two_pow (by omega))
          omega
        have HUP : Hid (a / 2 ^ (2 * k) ≤ N) := hup
        have HAL : Hid (a < LIM) := hal
        have HNB : Hid (nb = bitsN a) := hnb
        have HKE : Hid (k = nb / 4) := hk
        have HIH : Hid (∀ a, a ≤ N → ∀ {p : Option Addr} {n c : Nat} {xs : List Nat} {w : World}, At w p n c xs → Nf B64 xs a → n ≤ 8192 → Calls Tryz.prog 75 #[.slice p n c] w fun e w' => ∃ v1 v2, e = .returned (.tuple #[v1, v2]) ∧ RootTo w a v1 v2 w') := ih
        have hkt : (nb : Int).tdiv 4 = (k : Int) := by rw [Int.tdiv_eq_ediv_of_nonneg (by omega)]; omega
        have hw2 : IntKind.i64.wrap ((2 : Int) * (k : Int)) = ((2 * k : Nat) : Int) := wrap_two k (by omega)
        have A : Hid (Num w (some ⟨g, off, none⟩) n c xs a) := ⟨h, hx, hn⟩
        have hBs : w.heap.size ≤ w.heap.size := Nat.le_refl _
        have hn2 : decide ((n : Int) < 2) = false := decide_eq_false (by omega)
        clear h hx hbig h64 hal hnb hk hup ih ha
        go_enter Tryz.func75, Tryz.ntmps75
        go_wp2_with fail
        refine (bits_any A.out.at_ (by omega)).mono ?_
        rintro e w' ⟨rfl, hw⟩
        obtain rfl := hw.symm
        clear hw
        rw [A.out.nf.val, ← HNB.out]
        go_wp2_with fail
        rw [show ((2 : Int) * (k : Int)) = ((2 * k : Nat) : Int) by omega]
        go_wp2_with fail
        refine (shr_nf A.out.at_ A.out.nf A.out.le (2 * k) (by omega)).mono ?_
        rintro e v1 ⟨⟨r1, t1, y1, rfl, ho1, hn1, hm1⟩, hb1⟩
        have UP : Hid (Num v1 r1 t1 t1 y1 (a / 2 ^ (2 * k))) := Num.of ho1 hn1 hm1
        clear ho1 hn1
        have hBsy : w.heap.size ≤ v1.heap.size := Nat.le_trans hBs hb1.size
        clear hBs
        have hBs := hBsy
        clear hBsy
        replace A : Hid _ := A.out.below hb1
        have hbw := hb1
        clear hb1
        go_wp2_with fail
        refine (HIH.out _ HUP.out UP.out.at_ UP.out.nf UP.out.le).mono ?_
        rintro e v2 ⟨u1, u2, rfl, hR2⟩
        obtain ⟨hf, ph, mh, zh, pl, ml, zl, hh1, hh2, rfl, oh, nh, lh, rfl, ol, nl, ll⟩ := hR2.val
        have hb2 := hR2.bel
        have HF : Hid (Num v2 ph mh mh zh hf) := Num.of oh nh lh
        have LE : Hid (Num v2 pl ml ml zl (a / 2 ^ (2 * k) - hf * hf)) := Num.of ol nl ll
        have HH : Hid (hf * hf ≤ a / 2 ^ (2 * k) ∧ a / 2 ^ (2 * k) ≤ hf * hf + 2 * hf) := ⟨hh1, hh2⟩
        clear hR2 hh1 hh2 oh nh ol nl
        clear UP
        have hBsy : w.heap.size ≤ v2.heap.size := Nat.le_trans hBs hb2.size
        clear hBs
        have hBs := hBsy
        clear hBsy
        replace A : Hid _ := A.out.below hb2
        have hbwy := Below.on hbw hb2
        clear hbw
        have hbw := hbwy
        clear hbwy
        clear hb2
        go_wp2_with fail
        rw [show ((2 : Int) * (k : Int)) = ((2 * k : Nat) : Int) by omega]
        go_wp2_with fail
        refine (low_nf A.out.at_ A.out.nf A.out.le (2 * k) (by omega)).mono ?_
        rintro e v3 ⟨⟨r3, t3, y3, rfl, ho3, hn3, hm3⟩, hb3⟩
        have LOW : Hid (Num v3 r3 t3 t3 y3 (a % 2 ^ (2 * k))) := Num.of ho3 hn3 hm3
        clear ho3 hn3
        have hBsy : w.heap.size ≤ v3.heap.size := Nat.le_trans hBs hb3.size
        clear hBs
        have hBs := hBsy
        clear hBsy
        replace A : Hid _ := A.out.below hb3
        replace HF : Hid _ := HF.out.below hb3
        replace LE : Hid _ := LE.out.below hb3
        have hbwy := Below.on hbw hb3
        clear hbw
        have hbw := hbwy
        clear hbwy
        clear hb3
        clear A
        go_wp2_with fail
        refine (shr_nf LOW.out.at_ LOW.out.nf LOW.out.le k (by omega)).mono ?_
        rintro e v4 ⟨⟨r4, t4, y4, rfl, ho4, hn4, hm4⟩, hb4⟩
        have NX : Hid (Num v4 r4 t4 t4 y4 (a % 2 ^ (2 * k) / 2 ^ k)) := Num.of ho4 hn4 hm4
        clear ho4 hn4
        have hBsy : w.heap.size ≤ v4.heap.size := Nat.le_trans hBs hb4.size
        clear hBs
        have hBs := hBsy
        clear hBsy
        replace HF : Hid _ := HF.out.below hb4
        replace LE : Hid _ := LE.out.below hb4
        replace LOW : Hid _ := LOW.out.below hb4
        have hbwy := Below.on hbw hb4
        clear hbw
        have hbw := hbwy
        clear hbwy
        clear hb4
        go_wp2_with fail
        refine (low_nf LOW.out.at_ LOW.out.nf LOW.out.le k (by omega)).mono ?_
        rintro e v5 ⟨⟨r5, t5, y5, rfl, ho5, hn5, hm5⟩, hb5⟩
        have LA : Hid (Num v5 r5 t5 t5 y5 (a % 2 ^ (2 * k) % 2 ^ k)) := Num.of ho5 hn5 hm5
        clear ho5 hn5
        have hBsy : w.heap.size ≤ v5.heap.size := Nat.le_trans hBs hb5.size
        clear hBs
        have hBs := hBsy
        clear hBsy
        replace HF : Hid _ := HF.out.below hb5
        replace LE : Hid _ := LE.out.below hb5
        replace LOW : Hid _ := LOW.out.below hb5
        replace NX : Hid _ := NX.out.below hb5
        have hbwy := Below.on hbw hb5
        clear hbw
        have hbw := hbwy
        clear hbwy
        clear hb5
        clear LOW
        obtain ⟨l, hl⟩ : ∃ l, l = a / 2 ^ (2 * k) - hf * hf := ⟨_, rfl⟩
        obtain ⟨nx, hnx⟩ : ∃ nx, nx = a % 2 ^ (2 * k) / 2 ^ k := ⟨_, rfl⟩
        obtain ⟨la, hla⟩ : ∃ la, la = a % 2 ^ (2 * k) % 2 ^ k := ⟨_, rfl⟩
        rw [← hl] at LE
        rw [← hnx] at NX
        rw [← hla] at LA
        have hhb := half_big HNB.out HKE.out hnb65 HH.out.2
        have hC : RootC a hf (2 ^ k) ((2 ^ k * l + nx) / (2 * hf)) ((2 ^ k * l + nx) % (2 * hf)) la := by
          have hs := split_low a k
          rw [← hnx, ← hla] at hs
          refine root_core (l := l) (next := nx) ?_ ?_ ?_ ?_ ?_ ?_ hhb.1 hhb.2
          · have h1 := HH.out.1
            have h2 : hf * hf + l = a / 2 ^ (2 * k) := by omega
            rw [h2]; exact hs
          · have := HH.out; omega
          · rw [hnx]; refine Nat.div_lt_of_lt_mul ?_
            rw [← Nat.pow_add, show k + k = 2 * k by omega]; exact Nat.mod_lt _ (Nat.two_pow_pos _)
          · rw [hla]; exact Nat.mod_lt _ (Nat.two_pow_pos _)
          · have h9 := Nat.div_add_mod (2 ^ k * l + nx) (2 * hf)
            rw [Nat.mul_comm (2 * hf) ((2 ^ k * l + nx) / (2 * hf))] at h9
            exact h9.symm
          · exact Nat.mod_lt _ (by omega)
        have hX : 2 ^ k * l + nx < LIM := by
          have h1 := Nat.div_add_mod (2 ^ k * l + nx) (2 * hf)
          have h2 := Nat.mod_lt (2 ^ k * l + nx) (show 2 * hf > 0 by omega)
          have h3 := hC.le; have h4 := HAL.out; have h5 := hC.dP
          have h6 : 2 * hf * ((2 ^ k * l + nx) / (2 * hf)) ≤ 2 * hf * 2 ^ k := Nat.mul_le_mul_left _ h5
          have h7 : 2 * hf * 2 ^ k = 2 * (2 ^ k * hf) := by rw [Nat.mul_assoc, Nat.mul_comm hf]
          generalize 2 * hf * ((2 ^ k * l + nx) / (2 * hf)) = Y at *
          omega
        have HX : Hid (2 ^ k * l + nx < LIM) := hX
        have H2 : Hid (2 * hf < LIM) := by have := hC.le; have := HAL.out; show _ < _; omega
        have HF0 : Hid (2 * hf ≠ 0) := by have := hhb.2; show _ ≠ _; omega
        clear hX
        obtain ⟨X, eX⟩ : ∃ X, X = 2 ^ k * l + nx := ⟨_, rfl⟩
        obtain ⟨D, eD⟩ : ∃ D, D = (2 ^ k * l + nx) / (2 * hf) := ⟨_, rfl⟩
        obtain ⟨O, eO⟩ : ∃ O, O = (2 ^ k * l + nx) % (2 * hf) := ⟨_, rfl⟩
        rw [← eD, ← eO] at hC
        have ED : Hid (D = (2 ^ k * l + nx) / (2 * hf)) := eD
        have EO : Hid (O = (2 ^ k * l + nx) % (2 * hf)) := eO
        have HC : Hid (RootC a hf (2 ^ k) D O la) := hC
        have hlm := HAL.out
        have hle := hC.le; have hdp := hC.dP; have hlf := hC.lf; have hdd := hC.dd
        have L1 : Hid (2 ^ k * hf + D < LIM) := by show _ < _; omega
        have L2 : Hid (2 ^ k * O + la < LIM) := by show _ < _; omega
        have L3 : Hid (D * D < LIM) := by show _ < _; omega
        have L4 : Hid (2 * (2 ^ k * hf + D) < LIM) := by show _ < _; omega
        have L5 : Hid (2 ^ k * O + la + 2 * (2 ^ k * hf + D) < LIM) := by show _ < _; omega
        have FIN := hC.fin
        have F1 : Hid (2 ^ k * O + la < D * D → 1 ≤ 2 ^ k * hf + D ∧ D * D ≤ 2 ^ k * O + la + 2 * (2 ^ k * hf + D) - 1) := FIN.1
        have F2 : Hid ((if 2 ^ k * O + la < D * D then 2 ^ k * hf + D - 1 else 2 ^ k * hf + D) * (if 2 ^ k * O + la < D * D then 2 ^ k * hf + D - 1 else 2 ^ k * hf + D) ≤ a ∧
          a ≤ (if 2 ^ k * O + la < D * D then 2 ^ k * hf + D - 1 else 2 ^ k * hf + D) * (if 2 ^ k * O + la < D * D then 2 ^ k * hf + D - 1 else 2 ^ k * hf + D) + 2 * (if 2 ^ k * O + la < D * D then 2 ^ k * hf + D - 1 else 2 ^ k * hf + D) ∧
          (if 2 ^ k * O + la < D * D then 2 ^ k * O + la + 2 * (2 ^ k * hf + D) - 1 - D * D else 2 ^ k * O + la - D * D) = a - (if 2 ^ k * O + la < D * D then 2 ^ k * hf + D - 1 else 2 ^ k * hf + D) * (if 2 ^ k * O + la < D * D then 2 ^ k * hf + D - 1 else 2 ^ k * hf + D)) := FIN.2
        clear FIN hC hlm hle hdp hlf hdd hhb eD eO eX hl hnx hla
        go_wp2_with fail
        rw [show Value.int IntKind.i64 1 = .int .i64 ((1 : Nat) : Int) from rfl]
        go_wp2_with fail
        refine (shl_nf HF.out.at_ HF.out.nf HF.out.le 1 (by omega)).mono ?_
        rintro e v6 ⟨ha6, hb6⟩
        rw [Nat.pow_one] at ha6
        obtain ⟨r6, t6, y6, rfl, ho6, hn6, hm6⟩ := ha6.ok H2.out
        have TW : Hid (Num v6 r6 t6 t6 y6 (2 * hf)) := Num.of ho6 hn6 hm6
        clear ha6 ho6 hn6
        have hBsy : w.heap.size ≤ v6.heap.size := Nat.le_trans hBs hb6.size
        clear hBs
        have hBs := hBsy
        clear hBsy
        replace HF : Hid _ := HF.out.below hb6
        replace LE : Hid _ := LE.out.below hb6
        replace NX : Hid _ := NX.out.below hb6
        replace LA : Hid _ := LA.out.below hb6
        have hbwy := Below.on hbw hb6
        clear hbw
        have hbw := hbwy
        clear hbwy
        clear hb6
        go_wp2_with fail
        refine (join_any LE.out NX.out k (by omega) HX.out).mono ?_
        rintro e v7 ⟨r7, t7, y7, rfl, ho7, hn7, hm7, hb7⟩
        have JX : Hid (Num v7 r7 t7 t7 y7 (2 ^ k * l + nx)) := Num.of ho7 hn7 hm7
        clear ho7 hn7
        have hBsy : w.heap.size ≤ v7.heap.size := Nat.le_trans hBs hb7.size
        clear hBs
        have hBs := hBsy
        clear hBsy
        replace HF : Hid _ := HF.out.below hb7
        replace LE : Hid _ := LE.out.below hb7
        replace NX : Hid _ := NX.out.below hb7
        replace LA : Hid _ := LA.out.below hb7
        replace TW : Hid _ := TW.out.below hb7
        have hbwy := Below.on hbw hb7
        clear hbw
        have hbw := hbwy
        clear hbwy
        clear hb7
        clear LE
        clear NX
        go_wp2_with fail
        refine (quorem_any JX.out.at_ TW.out.at_ JX.out.nf TW.out.nf JX.out.le TW.out.le HF0.out).mono ?_
        rintro e v8 ⟨x1, x2, rfl, hD8⟩
        obtain ⟨pd, md, zd, rfl, od, nd, ld⟩ := hD8.quo
        obtain ⟨po, mo, zo, rfl, oo, no, lo⟩ := hD8.rem
        have hb8 := hD8.bel
        rw [← ED.out] at nd
        rw [← EO.out] at no
        have DG : Hid (Num v8 pd md md zd D) := Num.of od nd ld
        have OV : Hid (Num v8 po mo mo zo O) := Num.of oo no lo
        clear hD8 od nd oo no
        clear JX
        clear TW
        have hBsy : w.heap.size ≤ v8.heap.size := Nat.le_trans hBs hb8.size
        clear hBs
        have hBs := hBsy
        clear hBsy
        replace HF : Hid _ := HF.out.below hb8
        replace LA : Hid _ := LA.out.below hb8
        have hbwy := Below.on hbw hb8
        clear hbw
        have hbw := hbwy
        clear hbwy
        clear hb8
        go_wp2_with fail
        refine (join_any HF.out DG.out k (by omega) L1.out).mono ?_
        rintro e v9 ⟨r9, t9, y9, rfl, ho9, hn9, hm9, hb9⟩
        have RT : Hid (Num v9 r9 t9 t9 y9 (2 ^ k * hf + D)) := Num.of ho9 hn9 hm9
        have RTo : Hid (Own w.heap.size v9 r9 t9 y9) := ho9.mono hBs
        clear ho9 hn9
        have hBsy : w.heap.size ≤ v9.heap.size := Nat.le_trans hBs hb9.size
        clear hBs
        have hBs := hBsy
        clear hBsy
        replace HF : Hid _ := HF.out.below hb9
        replace LA : Hid _ := LA.out.below hb9
        replace DG : Hid _ := DG.out.below hb9
        replace OV : Hid _ := OV.out.below hb9
        have hbwy := Below.on hbw hb9
        clear hbw
        have hbw := hbwy
        clear hbwy
        clear hb9
        clear HF
        go_wp2_with fail
        refine (join_any OV.out LA.out k (by omega) L2.out).mono ?_
        rintro e v10 ⟨r10, t10, y10, rfl, ho10, hn10, hm10, hb10⟩
        have LF : Hid (Num v10 r10 t10 t10 y10 (2 ^ k * O + la)) := Num.of ho10 hn10 hm10
        clear ho10 hn10
        have hBsy : w.heap.size ≤ v10.heap.size := Nat.le_trans hBs hb10.size
        clear hBs
        have hBs := hBsy
        clear hBsy
        replace LA : Hid _ := LA.out.below hb10
        replace DG : Hid _ := DG.out.below hb10
        replace OV : Hid _ := OV.out.below hb10
        replace RT : Hid _ := RT.out.below hb10
        replace RTo : Hid (Own w.heap.size v10 r9 t9 y9) := RTo.out.below hb10
        have hbwy := Below.on hbw hb10
        clear hbw
        have hbw := hbwy
        clear hbwy
        clear hb10
        clear OV
        clear LA
        go_wp2_with fail
        refine (settle_any RTo.out hBs RT.out LF.out DG.out L3.out L4.out L5.out F1.out).mono ?_
        rintro e v11 ⟨x1, x2, rfl, hS⟩
        obtain ⟨q1, l1, s1, rfl, o1, n1, g1⟩ := hS.v1
        obtain ⟨q2, l2, s2, rfl, o2, n2, g2⟩ := hS.v2
        have hbz := Below.on hbw hS.bel
        have N1 : Hid (Nf B64 s1 (if 2 ^ k * O + la < D * D then 2 ^ k * hf + D - 1 else 2 ^ k * hf + D)) := n1
        have N2 : Hid (Nf B64 s2 (if 2 ^ k * O + la < D * D then 2 ^ k * O + la + 2 * (2 ^ k * hf + D) - 1 - D * D else 2 ^ k * O + la - D * D)) := n2
        clear n1 n2 hS hbw RT RTo LF DG hBs
        go_wp2_with fail
        go_ret2
        refine ⟨_, _, rfl, ⟨_, q1, l1, s1, q2, l2, s2, F2.out.1, F2.out.2.1, rfl, o1, N1.out, g1, rfl, o2, ?_, g2⟩, hbz⟩
        rw [← F2.out.2.2]; exact N2.out
theorem root_any {p : Option Addr} {n c : Nat} {xs : List Nat} {a : Nat} {w : World} (h : Num w p n c xs a) :
    Calls Tryz.prog 38 #[.slice p n c] w fun e w' => ∃ v1 v2, e = .returned (.tuple #[v1, v2, .int .i64 0]) ∧ RootTo w a v1 v2 w' := by
  have fx := h.nf.form (by rw [h.at_.len]; exact h.le)
  have H : Hid (Num w p n c xs a) := h
  clear h
  go_enter Tryz.func38, Tryz.ntmps38
  go_wp2_with fail
  refine (form_true H.out.at_ fx).mono ?_
  rintro e w' ⟨rfl, hw⟩
  obtain rfl := hw.symm
  clear hw fx
  go_wp2_with fail
  refine (rootof_any a a (Nat.le_refl _) H.out.at_ H.out.nf H.out.le).mono ?_
  rintro e w1 ⟨v1, v2, rfl, hR⟩
  have HR : Hid (RootTo w a v1 v2 w1) := hR
  clear hR
  go_wp2_with fail
  go_ret3
  exact ⟨_, _, rfl, HR.out⟩
theorem toolong {p : Option Addr} {m c : Nat} {w : World} {e : Int} {s : Bool} (hm : m ≤ 4096) :
    Calls Tryz.prog 32 #[DV s p m c e] w fun en w' => en = .returned (.bool false) ∧ Below w.heap.size w w' := by
  have d1 : decide ((4096 : Int) < (m : Int)) = false := decide_eq_false (by omega)
  clear hm
  go_enter Tryz.func32, Tryz.ntmps32
  go_wp2_with fail
  go_ret
  exact ⟨rfl, below1 w _⟩
theorem enough_ok {p m l : Int} {w : World} (hm : 0 ≤ m ∧ m ≤ 1000) :
    Calls Tryz.prog 33 #[WV p m l] w fun en w' => en = .returned (.int .i64 (m + 1)) ∧ Below w.heap.size w w' := by
  have d1 : wrap64 (m + 1) = m + 1 := by simp only [wrap64]; omega
  have d2 : IntKind.i64.wrap (m + 1) = m + 1 := by simp [IntKind.wrap, IntKind.signed, IntKind.bits]; omega
  clear hm
  go_enter Tryz.func33, Tryz.ntmps33
  go_wp2_with fail
  go_ret
  exact ⟨rfl, below1 w _⟩
theorem withmark_z {p q : Option Addr} {n c k d : Nat} {xs ys : List Nat} {F r : Nat} {w : World} (s : Bool) (h : Num w p n c xs F) (g : Num w q k d ys r) (hl : 2 * F + 1 < LIM) (hr : r = 0) :
    Calls Tryz.prog 37 #[.bool s, .slice p n c, .slice q k d] w fun en w' => ∃ p1 m1 zs, en = .returned (ZV s p1 m1 m1) ∧ Own w.heap.size w' p1 m1 zs ∧ Nf B64 zs (2 * F + (if r = 0 then 0 else 1)) ∧ m1 ≤ 8192 ∧ Below w.heap.size w w' := by
  have A : Hid (Num w p n c xs F) := h
  have B : Hid (Num w q k d ys r) := g
  have HL : Hid (2 * F + 1 < LIM ∧ 2 ^ 1 * F < LIM) := ⟨hl, by omega⟩
  obtain ⟨L, hL⟩ : ∃ L, L = bitsN r := ⟨_, rfl⟩
  have HLB : Hid (bitsN (valB B64 ys) = L) := by rw [hL, g.nf.val]; rfl
  have HK : Hid (k ≤ 17592186044416) := Nat.le_trans g.le (by decide)
  have d1 : decide ((0 : Int) < (L : Int)) = false := by
    rw [hL, hr]; rfl
  have d2 : ¬ 0 < L := by have := of_decide_eq_false d1; omega
  rw [if_pos hr]
  clear h g hl hr hL
  go_enter Tryz.func37, Tryz.ntmps37
  go_wp2_with fail
  obtain ⟨W0, hW0⟩ : ∃ W0, W0 = (w.alloc (.cells #[.bool false, .slice none 0 0] 31)) := ⟨_, rfl⟩
  have Xr : Hid (Box W0 (w.heap.size) (.bool false) (.slice none 0 0)) := by rw [hW0]; exact ⟨by go_simp, by go_simp, by go_simp, by go_simp⟩
  have hb0 : Below w.heap.size w W0 := by rw [hW0]; exact below1 w _
  rw [← hW0]
  clear hW0
  have hbw : Below w.heap.size w w := Below.refl _ _
  obtain ⟨gr, hgr⟩ : ∃ g, g = w.heap.size := ⟨_, rfl⟩
  have HGr : Hid (w.heap.size ≤ gr) := by rw [hgr]; show _ ≤ _; omega
  rw [← hgr] at Xr
  try rw [← hgr]
  clear hgr
  replace hbw := Below.on hbw hb0
  clear hb0
  have HRL : Hid (gr < W0.heap.size ∧ w.heap.size ≤ W0.heap.size) := ⟨Xr.out.lt, hbw.size⟩
  refine (shl_nf (A.out.at_.below hbw) A.out.nf A.out.le 1 (by decide)).mono ?_
  rintro e2 v1 ⟨ha, hb1⟩
  obtain ⟨p1, m1, z1, rfl, ho1, hn1, hm1⟩ := ha.ok HL.out.2
  clear ha
  replace Xr : Hid _ := Xr.out.below hb1
  replace hbw := Below.on hbw hb1
  clear hb1
  have O1 : Hid (Own W0.heap.size v1 p1 m1 z1) := ho1
  have N1 : Hid (Nf B64 z1 (2 ^ 1 * F) ∧ m1 ≤ 8192) := ⟨hn1, hm1⟩
  clear ho1 hn1 hm1
  go_wp2_with fail
  refine (bits_any (B.out.at_.below hbw) HK.out).mono ?_
  rintro e v2 ⟨rfl, hw⟩
  obtain rfl := hw.symm
  clear hw
  rw [HLB.out]
  have N9 : Hid (Nf B64 z1 (2 * F + 0) ∧ m1 ≤ 8192) := by have := N1.out; rw [Nat.pow_one] at this; exact this
  clear N1
  have N1 := N9
  obtain ⟨cr0, cr1, fr0, fr1⟩ := Xr.out
  have hner := Xr.out.lt
  go_wp2_with fail
  refine bodyPost_ret (v := ZV s p1 m1 m1) (by rw [results_cell1 rfl]; go_simp) rfl ⟨p1, m1, z1, rfl, ?_, N1.out.1, N1.out.2, ?_⟩
  · exact own_set2 O1.out HRL.out.1 HRL.out.2 _ _
  · exact bSet (bSet hbw _ _ _ HGr.out) _ _ _ HGr.out
theorem withmark_n {p q : Option Addr} {n c k d : Nat} {xs ys : List Nat} {F r : Nat} {w : World} (s : Bool) (h : Num w p n c xs F) (g : Num w q k d ys r) (hl : 2 * F + 1 < LIM) (hr : r ≠ 0) :
    Calls Tryz.prog 37 #[.bool s, .slice p n c, .slice q k d] w fun en w' => ∃ p1 m1 zs, en = .returned (ZV s p1 m1 m1) ∧ Own w.heap.size w' p1 m1 zs ∧ Nf B64 zs (2 * F + (if r = 0 then 0 else 1)) ∧ m1 ≤ 8192 ∧ Below w.heap.size w w' := by
  have A : Hid (Num w p n c xs F) := h
  have B : Hid (Num w q k d ys r) := g
  have HL : Hid (2 * F + 1 < LIM ∧ 2 ^ 1 * F < LIM) := ⟨hl, by omega⟩
  obtain ⟨L, hL⟩ : ∃ L, L = bitsN r := ⟨_, rfl⟩
  have HLB : Hid (bitsN (valB B64 ys) = L) := by rw [hL, g.nf.val]; rfl
  have HK : Hid (k ≤ 17592186044416) := Nat.le_trans g.le (by decide)
  have d1 : decide ((0 : Int) < (L : Int)) = true := by
    have := bitsN_pos hr; rw [hL]; exact decide_eq_true (by omega)
  have d2 : 0 < L := by have := of_decide_eq_true d1; omega
  rw [if_neg hr]
  clear h g hl hr hL
  go_enter Tryz.func37, Tryz.ntmps37
  go_wp2_with fail
  obtain ⟨W0, hW0⟩ : ∃ W0, W0 = (w.alloc (.cells #[.bool false, .slice none 0 0] 31)) := ⟨_, rfl⟩
  have Xr : Hid (Box W0 (w.heap.size) (.bool false) (.slice none 0 0)) := by rw [hW0]; exact ⟨by go_simp, by go_simp, by go_simp, by go_simp⟩
  have hb0 : Below w.heap.size w W0 := by rw [hW0]; exact below1 w _
  rw [← hW0]
  clear hW0
  have hbw : Below w.heap.size w w := Below.refl _ _
  obtain ⟨gr, hgr⟩ : ∃ g, g = w.heap.size := ⟨_, rfl⟩
  have HGr : Hid (w.heap.size ≤ gr) := by rw [hgr]; show _ ≤ _; omega
  rw [← hgr] at Xr
  try rw [← hgr]
  clear hgr
  replace hbw := Below.on hbw hb0
  clear hb0
  have HRL : Hid (gr < W0.heap.size ∧ w.heap.size ≤ W0.heap.size) := ⟨Xr.out.lt, hbw.size⟩
  refine (shl_nf (A.out.at_.below hbw) A.out.nf A.out.le 1 (by decide)).mono ?_
  rintro e2 v1 ⟨ha, hb1⟩
  obtain ⟨p1, m1, z1, rfl, ho1, hn1, hm1⟩ := ha.ok HL.out.2
  clear ha
  replace Xr : Hid _ := Xr.out.below hb1
  replace hbw := Below.on hbw hb1
  clear hb1
  have O1 : Hid (Own W0.heap.size v1 p1 m1 z1) := ho1
  have N1 : Hid (Nf B64 z1 (2 ^ 1 * F) ∧ m1 ≤ 8192) := ⟨hn1, hm1⟩
  clear ho1 hn1 hm1
  go_wp2_with fail
  refine (bits_any (B.out.at_.below hbw) HK.out).mono ?_
  rintro e v2 ⟨rfl, hw⟩
  obtain rfl := hw.symm
  clear hw
  rw [HLB.out]
  go_wp2_with fail
  refine (word_any 1 _ (by decide)).mono ?_
  rintro e2 v3 ⟨p3, m3, z3, rfl, ho3, hn3, hm3, hb3⟩
  replace Xr : Hid _ := Xr.out.below hb3
  replace O1 : Hid (Own W0.heap.size v3 p1 m1 z1) := O1.out.below hb3
  replace hbw := Below.on hbw hb3
  clear hb3
  have O3 : Hid (Own v1.heap.size v3 p3 m3 z3) := ho3
  have N3 : Hid (Nf B64 z3 1 ∧ m3 ≤ 8192) := ⟨hn3, Nat.le_trans hm3 (by decide)⟩
  clear ho3 hn3 hm3
  go_wp2_with fail
  refine (add_ord (Num.of O1.out N1.out.1 N1.out.2).at_ (Num.of O3.out N3.out.1 N3.out.2).at_ N1.out.1 N3.out.1 N1.out.2 N3.out.2).mono ?_
  rintro e2 v4 ⟨ha, hb4⟩
  obtain ⟨p4, m4, z4, rfl, ho4, hn4, hm4⟩ := ha.ok (by have := HL.out.1; omega)
  clear ha
  have HQ : Hid (gr < v3.heap.size ∧ w.heap.size ≤ v3.heap.size) := ⟨Xr.out.lt, hbw.size⟩
  replace Xr : Hid _ := Xr.out.below hb4
  replace O1 : Hid (Own W0.heap.size v4 p1 m1 z1) := O1.out.below hb4
  replace O3 : Hid (Own v1.heap.size v4 p3 m3 z3) := O3.out.below hb4
  replace hbw := Below.on hbw hb4
  clear hb4
  have O4 : Hid (Own v3.heap.size v4 p4 m4 z4) := ho4
  have N4 : Hid (Nf B64 z4 (2 * F + 1) ∧ m4 ≤ 8192) := ⟨by rw [Nat.pow_one] at hn4; exact hn4, hm4⟩
  clear ho4 hn4 hm4 HRL
  have HRL := HQ
  obtain ⟨cr0, cr1, fr0, fr1⟩ := Xr.out
  have hner := Xr.out.lt
  go_wp2_with fail
  refine bodyPost_ret (v := ZV s p4 m4 m4) (by rw [results_cell1 rfl]; go_simp) rfl ⟨p4, m4, z4, rfl, ?_, N4.out.1, N4.out.2, ?_⟩
  · exact own_set2 O4.out HRL.out.1 HRL.out.2 _ _
  · exact bSet (bSet hbw _ _ _ HGr.out) _ _ _ HGr.out
theorem withmark {p q : Option Addr} {n c k d : Nat} {xs ys : List Nat} {F r : Nat} {w : World} (s : Bool) (h : Num w p n c xs F) (g : Num w q k d ys r) (hl : 2 * F + 1 < LIM) :
    Calls Tryz.prog 37 #[.bool s, .slice p n c, .slice q k d] w fun en w' => ∃ p1 m1 zs, en = .returned (ZV s p1 m1 m1) ∧ Own w.heap.size w' p1 m1 zs ∧ Nf B64 zs (2 * F + (if r = 0 then 0 else 1)) ∧ m1 ≤ 8192 ∧ Below w.heap.size w w' := by
  by_cases hr : r = 0
  · exact withmark_z s h g hl hr
  · exact withmark_n s h g hl hr
def qI (up : Bool) (X Y : Int) : Int := if up then ce (decide (X < 0) != decide (Y < 0)) X.natAbs Y.natAbs else fl (decide (X < 0) != decide (Y < 0)) X.natAbs Y.natAbs
theorem half_bits {w : World} {s : Bool} {p : Option Addr} {m c : Nat} {z : Int} (h : ZN w s p m c z) (hm : m ≤ 4096) : bitsN z.natAbs ≤ 262144 := by
  obtain ⟨ys, hY⟩ := h.ex
  have h1 := (hY.nf.len_le B64_one (k := 4096)).1 (by rw [hY.at_.len]; exact hm)
  obtain ⟨k, hk⟩ : ∃ k, k = 4096 := ⟨_, rfl⟩
  rw [← hk, B64_pow] at h1
  by_cases h0 : z.natAbs = 0
  · rw [h0, bitsN_zero]; omega
  have h2 := bitsN_le z.natAbs h0
  have h3 := (Nat.pow_lt_pow_iff_right (by omega : 1 < 2)).1 (Nat.lt_of_le_of_lt h2 h1)
  omega
structure WB (x y : Int) (P : Nat) (X Y L : Int) : Prop where
  l : L = P + bitsN y.natAbs - bitsN x.natAbs
  xv : X = x * 2 ^ L.toNat
  yv : Y = y * 2 ^ (-L).toNat
end Go.Proofs.YtfmbifocgljieaaGreatDoor
