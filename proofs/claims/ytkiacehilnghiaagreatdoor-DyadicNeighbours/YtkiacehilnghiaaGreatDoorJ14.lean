import Derived.Test.YtkiacehilnghiaaGreatDoorJ13
import Derived.Test.YtkiacehilnghiaaGreatDoorJ12
namespace Go.Proofs.YtkiacehilnghiaaGreatDoor
open Go.RowKit Go.Shelf

set_option maxRecDepth 20000 in
set_option maxHeartbeats 8000000 in
theorem bits_d {q : Option Addr} {m c : Nat} {w : World} {z e : Int} {P K : Nat} {s : Bool} (h : DN w s q m c e z) (hP : 1 ≤ P ∧ P ≤ 70000) (hK : K = bitsN z.natAbs - P) (hT : Tab w) :
    Calls Tryz.prog 18 #[DV s q m c e, .int .i64 P] w fun en w' => MakeP w.heap.size w' en (rd false z (2 ^ K)) (e + K) ∧ Below w.heap.size w w' := by
  have H : Hid (DN w s q m c e z) := h
  have TB : Hid (Tab w) := hT
  have HP : Hid ((1 ≤ P ∧ P ≤ 70000) ∧ K = bitsN z.natAbs - P) := ⟨hP, hK⟩
  clear h hT hP hK
  go_enter Tryz.func18, Tryz.ntmps18
  go_wp2_with fail
  obtain ⟨W0, hW0⟩ : ∃ W0, W0 = ((w.alloc (.cells #[.bool s, .slice q m c, .int .i64 e] 26)).alloc (.cells #[.bool false, .slice none 0 0, .int .i64 0] 26)) := ⟨_, rfl⟩
  have Xd : Hid (B3q W0 (w.heap.size) (.bool s) (.slice q m c) (.int .i64 e)) := by rw [hW0]; exact ⟨by go_simp, by go_simp, by go_simp, by go_simp, by go_simp, by go_simp⟩
  have Xr : Hid (B3q W0 (w.heap.size + 1) (.bool false) (.slice none 0 0) (.int .i64 0)) := by rw [hW0]; exact ⟨by go_simp, by go_simp, by go_simp, by go_simp, by go_simp, by go_simp⟩
  have hb0 : Below w.heap.size w W0 := by rw [hW0]; exact below2 w _ _
  rw [← hW0]
  clear hW0
  have hbw : Below w.heap.size w w := Below.refl _ _
  obtain ⟨gr, hgr⟩ : ∃ g, g = w.heap.size + 1 := ⟨_, rfl⟩
  have HGr : Hid (w.heap.size ≤ gr) := by rw [hgr]; show _ ≤ _; omega
  rw [← hgr] at Xr
  try rw [← hgr]
  obtain ⟨gd, hgd⟩ : ∃ g, g = w.heap.size := ⟨_, rfl⟩
  have HGd : Hid (w.heap.size ≤ gd) := by rw [hgd]; show _ ≤ _; omega
  rw [← hgd] at Xd
  try rw [← hgd]
  have HGD : Hid (gd ≠ gr ∧ gr ≠ gd) := by rw [hgd, hgr]; exact ⟨by omega, by omega⟩
  clear hgd hgr
  replace hbw := Below.on hbw hb0
  clear hb0
  obtain ⟨W1, hW1⟩ : ∃ W1, W1 = W0.drew := ⟨_, rfl⟩
  have hbd : Below W0.heap.size W0 W1 := by rw [hW1]; exact bDrew1 (Below.refl _ _)
  replace Xd : Hid _ := Xd.out.below hbd
  replace Xr : Hid _ := Xr.out.below hbd
  replace hbw := Below.on hbw hbd
  clear hbd
  have HJ : Hid ((fun W' : World => W'.cell? ⟨gd, 0, none⟩ = some (.bool s) ∧ W'.cell? ⟨gd, 1, none⟩ = some (.slice q m c) ∧ W'.cell? ⟨gd, 2, none⟩ = some (.int .i64 e)) W1) := ⟨Xd.out.c0, Xd.out.c1, Xd.out.c2⟩
  refine wp_region_J (fun W' => W'.cell? ⟨gd, 0, none⟩ = some (.bool s) ∧ W'.cell? ⟨gd, 1, none⟩ = some (.slice q m c) ∧ W'.cell? ⟨gd, 2, none⟩ = some (.int .i64 e)) (by kernel_rfl) ?_
  rw [← hW1]
  clear hW1
  refine wpJ_take (i := 1) (v := ?v1x1) rfl (by kernel_rfl) (by kernel_rfl) (by kernel_rfl) (fun _ _ _ h => h) (by kernel_rfl) ?hy1x1 HJ.out ?rest1x1
  case hy1x1 => (intro W' hJ; obtain ⟨j0, j1, j2⟩ := hJ; go_simp; first | done | with_reducible rfl)
  refine wpJ_take (i := 2) (v := ?v2x2) rfl (by kernel_rfl) (by kernel_rfl) (by kernel_rfl) (fun _ _ _ h => h) (by kernel_rfl) ?hy2x2 HJ.out ?rest2x2
  case hy2x2 => (intro W' hJ; obtain ⟨j0, j1, j2⟩ := hJ; go_simp; first | done | with_reducible rfl)
  refine wpJ_one (i := 0) (by kernel_rfl) rfl (by kernel_rfl) (fun KJ hK => ?_)
  go_simp
  refine (way_d _).mono ?_
  rintro e v1 ⟨rfl, hb1⟩
  replace Xd : Hid _ := Xd.out.below hb1
  replace Xr : Hid _ := Xr.out.below hb1
  replace hbw := Below.on hbw hb1
  clear hb1
  refine hK _ _ ⟨Xd.out.c0, Xd.out.c1, Xd.out.c2⟩ ?_
  clear hK
  refine wpJ_one (i := 3) (by kernel_rfl) rfl (by kernel_rfl) (fun KJ hK => ?_)
  go_simp
  have HRL : Hid (gr < v1.heap.size ∧ w.heap.size ≤ v1.heap.size) := ⟨Xr.out.lt, hbw.size⟩
  refine (tb_d (H.out.below hbw) HP.out.1 HP.out.2 (TB.out.below hbw)).mono ?_
  rintro e2 v6 ⟨hv, hb6⟩
  obtain ⟨s6, p6, m6, eo, er, rfl, hmp⟩ := hv.open
  clear hv
  replace Xd : Hid _ := Xd.out.below hb6
  replace Xr : Hid _ := Xr.out.below hb6
  replace hbw := Below.on hbw hb6
  clear hb6
  have M6 : Hid (MP v1.heap.size v6 s6 p6 m6 eo er (rd false z (2 ^ K)) (e + K)) := hmp
  clear hmp
  clear HJ
  have HJ : Hid ((fun W' : World => W'.cell? ⟨gd, 0, none⟩ = some (.bool s) ∧ W'.cell? ⟨gd, 1, none⟩ = some (.slice q m c) ∧ W'.cell? ⟨gd, 2, none⟩ = some (.int .i64 e)) v6) := ⟨Xd.out.c0, Xd.out.c1, Xd.out.c2⟩
  refine hK _ _ HJ.out ?_
  clear hK
  refine wpJ_take (i := 4) (v := ?v3x4) rfl (by kernel_rfl) (by kernel_rfl) (by kernel_rfl) (fun _ _ _ h => h) (by kernel_rfl) ?hy3x4 HJ.out ?rest3x4
  case hy3x4 => (intro W' hJ; obtain ⟨j0, j1, j2⟩ := hJ; go_simp; first | done | with_reducible rfl)
  refine wpJ_take (i := 5) (v := ?v4x5) rfl (by kernel_rfl) (by kernel_rfl) (by kernel_rfl) (fun _ _ _ h => h) (by kernel_rfl) ?hy4x5 HJ.out ?rest4x5
  case hy4x5 => (intro W' hJ; obtain ⟨j0, j1, j2⟩ := hJ; go_simp; first | done | with_reducible rfl)
  obtain ⟨cr0, cr1, cr2, fr0, fr1, fr2⟩ := Xr.out
  have hner : gr < v6.heap.size := World.block_lt_of_cell? v6 _ cr0
  obtain ⟨cd0, cd1, cd2, fd0, fd1, fd2⟩ := Xd.out
  have hned : gd < v6.heap.size := World.block_lt_of_cell? v6 _ cd0
  obtain ⟨hgd0, hgd1⟩ := HGD.out
  refine wpJ_one (i := 6) (by kernel_rfl) rfl (by kernel_rfl) (fun KJ hK => ?_)
  go_simp
  have HJ2 : Hid ((fun W' : World => W'.cell? ⟨gd, 0, none⟩ = some (.bool s) ∧ W'.cell? ⟨gd, 1, none⟩ = some (.slice q m c) ∧ W'.cell? ⟨gd, 2, none⟩ = some (.int .i64 e)) (((v6.setCell ⟨gr, 0, none⟩ (.bool s6)).setCell ⟨gr, 1, none⟩ (.slice p6 m6 m6)).setCell ⟨gr, 2, none⟩ (.int .i64 eo))) := ⟨by go_simp, by go_simp, by go_simp⟩
  refine hK _ _ HJ2.out ?_
  clear hK HJ
  have HJ := HJ2
  clear HJ2
  refine wpJ_take (i := 7) (v := ?v5x7) rfl (by kernel_rfl) (by kernel_rfl) (by kernel_rfl) (fun _ _ _ h => h) (by kernel_rfl) ?hy5x7 HJ.out ?rest5x7
  case hy5x7 => (intro W' hJ; obtain ⟨j0, j1, j2⟩ := hJ; go_simp; first | done | with_reducible rfl)
  refine wpJ_done (by kernel_rfl) ?_ _
  clear HJ
  go_wp2_with fail
  refine bodyPost_ret (v := .tuple #[DV s6 p6 m6 m6 eo, .int .i64 er]) (by rw [results_cell_tmp rfl]; go_simp) rfl ⟨(M6.out.set HRL.out.1 HRL.out.2 _ _ _).close, ?_⟩
  exact bSet (bSet (bSet hbw _ _ _ HGr.out) _ _ _ HGr.out) _ _ _ HGr.out
set_option maxRecDepth 20000 in
set_option maxHeartbeats 8000000 in
theorem bits_fd {q : Option Addr} {m c : Nat} {xs : List Nat} {w : World} {e P : Int} {s : Bool} (h : At w q m c xs) (hf : formD s xs e = false) (hP : 1 ≤ P ∧ P ≤ 70000) :
    Calls Tryz.prog 18 #[DV s q m c e, .int .i64 P] w fun en w' => en = .returned (.tuple #[DV false none 0 0 0, .int .i64 2]) ∧ Below w.heap.size w w' := by
  have H : Hid (At w q m c xs) := h
  have HF : Hid (formD s xs e = false ∧ 1 ≤ P ∧ P ≤ 70000) := ⟨hf, hP⟩
  clear h hf hP
  go_enter Tryz.func18, Tryz.ntmps18
  go_wp2_with fail
  obtain ⟨W0, hW0⟩ : ∃ W0, W0 = ((w.alloc (.cells #[.bool s, .slice q m c, .int .i64 e] 26)).alloc (.cells #[.bool false, .slice none 0 0, .int .i64 0] 26)) := ⟨_, rfl⟩
  have Xd : Hid (B3q W0 (w.heap.size) (.bool s) (.slice q m c) (.int .i64 e)) := by rw [hW0]; exact ⟨by go_simp, by go_simp, by go_simp, by go_simp, by go_simp, by go_simp⟩
  have Xr : Hid (B3q W0 (w.heap.size + 1) (.bool false) (.slice none 0 0) (.int .i64 0)) := by rw [hW0]; exact ⟨by go_simp, by go_simp, by go_simp, by go_simp, by go_simp, by go_simp⟩
  have hb0 : Below w.heap.size w W0 := by rw [hW0]; exact below2 w _ _
  rw [← hW0]
  clear hW0
  have hbw : Below w.heap.size w w := Below.refl _ _
  obtain ⟨gr, hgr⟩ : ∃ g, g = w.heap.size + 1 := ⟨_, rfl⟩
  have HGr : Hid (w.heap.size ≤ gr) := by rw [hgr]; show _ ≤ _; omega
  rw [← hgr] at Xr
  try rw [← hgr]
  obtain ⟨gd, hgd⟩ : ∃ g, g = w.heap.size := ⟨_, rfl⟩
  have HGd : Hid (w.heap.size ≤ gd) := by rw [hgd]; show _ ≤ _; omega
  rw [← hgd] at Xd
  try rw [← hgd]
  have HGD : Hid (gd ≠ gr ∧ gr ≠ gd) := by rw [hgd, hgr]; exact ⟨by omega, by omega⟩
  clear hgd hgr
  replace hbw := Below.on hbw hb0
  clear hb0
  obtain ⟨W1, hW1⟩ : ∃ W1, W1 = W0.drew := ⟨_, rfl⟩
  have hbd : Below W0.heap.size W0 W1 := by rw [hW1]; exact bDrew1 (Below.refl _ _)
  replace Xd : Hid _ := Xd.out.below hbd
  replace Xr : Hid _ := Xr.out.below hbd
  replace hbw := Below.on hbw hbd
  clear hbd
  have HJ : Hid ((fun W' : World => W'.cell? ⟨gd, 0, none⟩ = some (.bool s) ∧ W'.cell? ⟨gd, 1, none⟩ = some (.slice q m c) ∧ W'.cell? ⟨gd, 2, none⟩ = some (.int .i64 e)) W1) := ⟨Xd.out.c0, Xd.out.c1, Xd.out.c2⟩
  refine wp_region_J (fun W' => W'.cell? ⟨gd, 0, none⟩ = some (.bool s) ∧ W'.cell? ⟨gd, 1, none⟩ = some (.slice q m c) ∧ W'.cell? ⟨gd, 2, none⟩ = some (.int .i64 e)) (by kernel_rfl) ?_
  rw [← hW1]
  clear hW1
  refine wpJ_take (i := 1) (v := ?v6x1) rfl (by kernel_rfl) (by kernel_rfl) (by kernel_rfl) (fun _ _ _ h => h) (by kernel_rfl) ?hy6x1 HJ.out ?rest6x1
  case hy6x1 => (intro W' hJ; obtain ⟨j0, j1, j2⟩ := hJ; go_simp; first | done | with_reducible rfl)
  refine wpJ_take (i := 2) (v := ?v7x2) rfl (by kernel_rfl) (by kernel_rfl) (by kernel_rfl) (fun _ _ _ h => h) (by kernel_rfl) ?hy7x2 HJ.out ?rest7x2
  case hy7x2 => (intro W' hJ; obtain ⟨j0, j1, j2⟩ := hJ; go_simp; first | done | with_reducible rfl)
  refine wpJ_one (i := 0) (by kernel_rfl) rfl (by kernel_rfl) (fun KJ hK => ?_)
  go_simp
  refine (way_d _).mono ?_
  rintro e v1 ⟨rfl, hb1⟩
  replace Xd : Hid _ := Xd.out.below hb1
  replace Xr : Hid _ := Xr.out.below hb1
  replace hbw := Below.on hbw hb1
  clear hb1
  refine hK _ _ ⟨Xd.out.c0, Xd.out.c1, Xd.out.c2⟩ ?_
  clear hK
  refine wpJ_one (i := 3) (by kernel_rfl) rfl (by kernel_rfl) (fun KJ hK => ?_)
  go_simp
  refine (tb_fd (H.out.below hbw) HF.out.1 HF.out.2).mono ?_
  rintro e v6 ⟨rfl, hb6⟩
  replace Xd : Hid _ := Xd.out.below hb6
  replace Xr : Hid _ := Xr.out.below hb6
  replace hbw := Below.on hbw hb6
  clear hb6
  clear HJ
  have HJ : Hid ((fun W' : World => W'.cell? ⟨gd, 0, none⟩ = some (.bool s) ∧ W'.cell? ⟨gd, 1, none⟩ = some (.slice q m c) ∧ W'.cell? ⟨gd, 2, none⟩ = some (.int .i64 e)) v6) := ⟨Xd.out.c0, Xd.out.c1, Xd.out.c2⟩
  refine hK _ _ HJ.out ?_
  clear hK
  refine wpJ_take (i := 4) (v := ?v8x4) rfl (by kernel_rfl) (by kernel_rfl) (by kernel_rfl) (fun _ _ _ h => h) (by kernel_rfl) ?hy8x4 HJ.out ?rest8x4
  case hy8x4 => (intro W' hJ; obtain ⟨j0, j1, j2⟩ := hJ; go_simp; first | done | with_reducible rfl)
  refine wpJ_take (i := 5) (v := ?v9x5) rfl (by kernel_rfl) (by kernel_rfl) (by kernel_rfl) (fun _ _ _ h => h) (by kernel_rfl) ?hy9x5 HJ.out ?rest9x5
  case hy9x5 => (intro W' hJ; obtain ⟨j0, j1, j2⟩ := hJ; go_simp; first | done | with_reducible rfl)
  obtain ⟨cr0, cr1, cr2, fr0, fr1, fr2⟩ := Xr.out
  have hner : gr < v6.heap.size := World.block_lt_of_cell? v6 _ cr0
  obtain ⟨cd0, cd1, cd2, fd0, fd1, fd2⟩ := Xd.out
  have hned : gd < v6.heap.size := World.block_lt_of_cell? v6 _ cd0
  obtain ⟨hgd0, hgd1⟩ := HGD.out
  refine wpJ_one (i := 6) (by kernel_rfl) rfl (by kernel_rfl) (fun KJ hK => ?_)
  go_simp
  have HJ2 : Hid ((fun W' : World => W'.cell? ⟨gd, 0, none⟩ = some (.bool s) ∧ W'.cell? ⟨gd, 1, none⟩ = some (.slice q m c) ∧ W'.cell? ⟨gd, 2, none⟩ = some (.int .i64 e)) (((v6.setCell ⟨gr, 0, none⟩ (.bool false)).setCell ⟨gr, 1, none⟩ (.slice none 0 0)).setCell ⟨gr, 2, none⟩ (.int .i64 0))) := ⟨by go_simp, by go_simp, by go_simp⟩
  refine hK _ _ HJ2.out ?_
  clear hK HJ
  have HJ := HJ2
  clear HJ2
  refine wpJ_take (i := 7) (v := ?v10x7) rfl (by kernel_rfl) (by kernel_rfl) (by kernel_rfl) (fun _ _ _ h => h) (by kernel_rfl) ?hy10x7 HJ.out ?rest10x7
  case hy10x7 => (intro W' hJ; obtain ⟨j0, j1, j2⟩ := hJ; go_simp; first | done | with_reducible rfl)
  refine wpJ_done (by kernel_rfl) ?_ _
  clear HJ
  go_wp2_with fail
  refine bodyPost_ret (v := .tuple #[DV false none 0 0 0, .int .i64 2]) (by rw [results_cell_tmp rfl]; go_simp) rfl ⟨rfl, ?_⟩
  first | exact hbw | exact bSet (bSet (bSet hbw _ _ _ HGr.out) _ _ _ HGr.out) _ _ _ HGr.out
set_option maxRecDepth 20000 in
set_option maxHeartbeats 8000000 in
theorem bits_ld {q : Option Addr} {m c : Nat} {w : World} {e P : Int} {s : Bool} (hP : P < 1) :
    Calls Tryz.prog 18 #[DV s q m c e, .int .i64 P] w fun en w' => en = .returned (.tuple #[DV false none 0 0 0, .int .i64 1]) ∧ Below w.heap.size w w' := by
  have HP : Hid (P < 1) := hP
  clear hP
  go_enter Tryz.func18, Tryz.ntmps18
  go_wp2_with fail
  obtain ⟨W0, hW0⟩ : ∃ W0, W0 = ((w.alloc (.cells #[.bool s, .slice q m c, .int .i64 e] 26)).alloc (.cells #[.bool false, .slice none 0 0, .int .i64 0] 26)) := ⟨_, rfl⟩
  have Xd : Hid (B3q W0 (w.heap.size) (.bool s) (.slice q m c) (.int .i64 e)) := by rw [hW0]; exact ⟨by go_simp, by go_simp, by go_simp, by go_simp, by go_simp, by go_simp⟩
  have Xr : Hid (B3q W0 (w.heap.size + 1) (.bool false) (.slice none 0 0) (.int .i64 0)) := by rw [hW0]; exact ⟨by go_simp, by go_simp, by go_simp, by go_simp, by go_simp, by go_simp⟩
  have hb0 : Below w.heap.size w W0 := by rw [hW0]; exact below2 w _ _
  rw [← hW0]
  clear hW0
  have hbw : Below w.heap.size w w := Below.refl _ _
  obtain ⟨gr, hgr⟩ : ∃ g, g = w.heap.size + 1 := ⟨_, rfl⟩
  have HGr : Hid (w.heap.size ≤ gr) := by rw [hgr]; show _ ≤ _; omega
  rw [← hgr] at Xr
  try rw [← hgr]
  obtain ⟨gd, hgd⟩ : ∃ g, g = w.heap.size := ⟨_, rfl⟩
  have HGd : Hid (w.heap.size ≤ gd) := by rw [hgd]; show _ ≤ _; omega
  rw [← hgd] at Xd
  try rw [← hgd]
  have HGD : Hid (gd ≠ gr ∧ gr ≠ gd) := by rw [hgd, hgr]; exact ⟨by omega, by omega⟩
  clear hgd hgr
  replace hbw := Below.on hbw hb0
  clear hb0
  obtain ⟨W1, hW1⟩ : ∃ W1, W1 = W0.drew := ⟨_, rfl⟩
  have hbd : Below W0.heap.size W0 W1 := by rw [hW1]; exact bDrew1 (Below.refl _ _)
  replace Xd : Hid _ := Xd.out.below hbd
  replace Xr : Hid _ := Xr.out.below hbd
  replace hbw := Below.on hbw hbd
  clear hbd
  have HJ : Hid ((fun W' : World => W'.cell? ⟨gd, 0, none⟩ = some (.bool s) ∧ W'.cell? ⟨gd, 1, none⟩ = some (.slice q m c) ∧ W'.cell? ⟨gd, 2, none⟩ = some (.int .i64 e)) W1) := ⟨Xd.out.c0, Xd.out.c1, Xd.out.c2⟩
  refine wp_region_J (fun W' => W'.cell? ⟨gd, 0, none⟩ = some (.bool s) ∧ W'.cell? ⟨gd, 1, none⟩ = some (.slice q m c) ∧ W'.cell? ⟨gd, 2, none⟩ = some (.int .i64 e)) (by kernel_rfl) ?_
  rw [← hW1]
  clear hW1
  refine wpJ_take (i := 1) (v := ?v11x1) rfl (by kernel_rfl) (by kernel_rfl) (by kernel_rfl) (fun _ _ _ h => h) (by kernel_rfl) ?hy11x1 HJ.out ?rest11x1
  case hy11x1 => (intro W' hJ; obtain ⟨j0, j1, j2⟩ := hJ; go_simp; first | done | with_reducible rfl)
  refine wpJ_take (i := 2) (v := ?v12x2) rfl (by kernel_rfl) (by kernel_rfl) (by kernel_rfl) (fun _ _ _ h => h) (by kernel_rfl) ?hy12x2 HJ.out ?rest12x2
  case hy12x2 => (intro W' hJ; obtain ⟨j0, j1, j2⟩ := hJ; go_simp; first | done | with_reducible rfl)
  refine wpJ_one (i := 0) (by kernel_rfl) rfl (by kernel_rfl) (fun KJ hK => ?_)
  go_simp
  refine (way_d _).mono ?_
  rintro e v1 ⟨rfl, hb1⟩
  replace Xd : Hid _ := Xd.out.below hb1
  replace Xr : Hid _ := Xr.out.below hb1
  replace hbw := Below.on hbw hb1
  clear hb1
  refine hK _ _ ⟨Xd.out.c0, Xd.out.c1, Xd.out.c2⟩ ?_
  clear hK
  refine wpJ_one (i := 3) (by kernel_rfl) rfl (by kernel_rfl) (fun KJ hK => ?_)
  go_simp
  refine (tb_ld HP.out).mono ?_
  rintro e v6 ⟨rfl, hb6⟩
  replace Xd : Hid _ := Xd.out.below hb6
  replace Xr : Hid _ := Xr.out.below hb6
  replace hbw := Below.on hbw hb6
  clear hb6
  clear HJ
  have HJ : Hid ((fun W' : World => W'.cell? ⟨gd, 0, none⟩ = some (.bool s) ∧ W'.cell? ⟨gd, 1, none⟩ = some (.slice q m c) ∧ W'.cell? ⟨gd, 2, none⟩ = some (.int .i64 e)) v6) := ⟨Xd.out.c0, Xd.out.c1, Xd.out.c2⟩
  refine hK _ _ HJ.out ?_
  clear hK
  refine wpJ_take (i := 4) (v := ?v13x4) rfl (by kernel_rfl) (by kernel_rfl) (by kernel_rfl) (fun _ _ _ h => h) (by kernel_rfl) ?hy13x4 HJ.out ?rest13x4
  case hy13x4 => (intro W' hJ; obtain ⟨j0, j1, j2⟩ := hJ; go_simp; first | done | with_reducible rfl)
  refine wpJ_take (i := 5) (v := ?v14x5) rfl (by kernel_rfl) (by kernel_rfl) (by kernel_rfl) (fun _ _ _ h => h) (by kernel_rfl) ?hy14x5 HJ.out ?rest14x5
  case hy14x5 => (intro W' hJ; obtain ⟨j0, j1, j2⟩ := hJ; go_simp; first | done | with_reducible rfl)
  obtain ⟨cr0, cr1, cr2, fr0, fr1, fr2⟩ := Xr.out
  have hner : gr < v6.heap.size := World.block_lt_of_cell? v6 _ cr0
  obtain ⟨cd0, cd1, cd2, fd0, fd1, fd2⟩ := Xd.out
  have hned : gd < v6.heap.size := World.block_lt_of_cell? v6 _ cd0
  obtain ⟨hgd0, hgd1⟩ := HGD.out
  refine wpJ_one (i := 6) (by kernel_rfl) rfl (by kernel_rfl) (fun KJ hK => ?_)
  go_simp
  have HJ2 : Hid ((fun W' : World => W'.cell? ⟨gd, 0, none⟩ = some (.bool s) ∧ W'.cell? ⟨gd, 1, none⟩ = some (.slice q m c) ∧ W'.cell? ⟨gd, 2, none⟩ = some (.int .i64 e)) (((v6.setCell ⟨gr, 0, none⟩ (.bool false)).setCell ⟨gr, 1, none⟩ (.slice none 0 0)).setCell ⟨gr, 2, none⟩ (.int .i64 0))) := ⟨by go_simp, by go_simp, by go_simp⟩
  refine hK _ _ HJ2.out ?_
  clear hK HJ
  have HJ := HJ2
  clear HJ2
  refine wpJ_take (i := 7) (v := ?v15x7) rfl (by kernel_rfl) (by kernel_rfl) (by kernel_rfl) (fun _ _ _ h => h) (by kernel_rfl) ?hy15x7 HJ.out ?rest15x7
  case hy15x7 => (intro W' hJ; obtain ⟨j0, j1, j2⟩ := hJ; go_simp; first | done | with_reducible rfl)
  refine wpJ_done (by kernel_rfl) ?_ _
  clear HJ
  go_wp2_with fail
  refine bodyPost_ret (v := .tuple #[DV false none 0 0 0, .int .i64 1]) (by rw [results_cell_tmp rfl]; go_simp) rfl ⟨rfl, ?_⟩
  first | exact hbw | exact bSet (bSet (bSet hbw _ _ _ HGr.out) _ _ _ HGr.out) _ _ _ HGr.out
set_option maxRecDepth 20000 in
set_option maxHeartbeats 8000000 in
theorem bits_gd {q : Option Addr} {m c : Nat} {w : World} {e P : Int} {s : Bool} (hP : 70000 < P) :
    Calls Tryz.prog 18 #[DV s q m c e, .int .i64 P] w fun en w' => en = .returned (.tuple #[DV false none 0 0 0, .int .i64 1]) ∧ Below w.heap.size w w' := by
  have HP : Hid (70000 < P) := hP
  clear hP
  go_enter Tryz.func18, Tryz.ntmps18
  go_wp2_with fail
  obtain ⟨W0, hW0⟩ : ∃ W0, W0 = ((w.alloc (.cells #[.bool s, .slice q m c, .int .i64 e] 26)).alloc (.cells #[.bool false, .slice none 0 0, .int .i64 0] 26)) := ⟨_, rfl⟩
  have Xd : Hid (B3q W0 (w.heap.size) (.bool s) (.slice q m c) (.int .i64 e)) := by rw [hW0]; exact ⟨by go_simp, by go_simp, by go_simp, by go_simp, by go_simp, by go_simp⟩
  have Xr : Hid (B3q W0 (w.heap.size + 1) (.bool false) (.slice none 0 0) (.int .i64 0)) := by rw [hW0]; exact ⟨by go_simp, by go_simp, by go_simp, by go_simp, by go_simp, by go_simp⟩
  have hb0 : Below w.heap.size w W0 := by rw [hW0]; exact below2 w _ _
  rw [← hW0]
  clear hW0
  have hbw : Below w.heap.size w w := Below.refl _ _
  obtain ⟨gr, hgr⟩ : ∃ g, g = w.heap.size + 1 := ⟨_, rfl⟩
  have HGr : Hid (w.heap.size ≤ gr) := by rw [hgr]; show _ ≤ _; omega
  rw [← hgr] at Xr
  try rw [← hgr]
  obtain ⟨gd, hgd⟩ : ∃ g, g = w.heap.size := ⟨_, rfl⟩
  have HGd : Hid (w.heap.size ≤ gd) := by rw [hgd]; show _ ≤ _; omega
  rw [← hgd] at Xd
  try rw [← hgd]
  have HGD : Hid (gd ≠ gr ∧ gr ≠ gd) := by rw [hgd, hgr]; exact ⟨by omega, by omega⟩
  clear hgd hgr
  replace hbw := Below.on hbw hb0
  clear hb0
  obtain ⟨W1, hW1⟩ : ∃ W1, W1 = W0.drew := ⟨_, rfl⟩
  have hbd : Below W0.heap.size W0 W1 := by rw [hW1]; exact bDrew1 (Below.refl _ _)
  replace Xd : Hid _ := Xd.out.below hbd
  replace Xr : Hid _ := Xr.out.below hbd
  replace hbw := Below.on hbw hbd
  clear hbd
  have HJ : Hid ((fun W' : World => W'.cell? ⟨gd, 0, none⟩ = some (.bool s) ∧ W'.cell? ⟨gd, 1, none⟩ = some (.slice q m c) ∧ W'.cell? ⟨gd, 2, none⟩ = some (.int .i64 e)) W1) := ⟨Xd.out.c0, Xd.out.c1, Xd.out.c2⟩
  refine wp_region_J (fun W' => W'.cell? ⟨gd, 0, none⟩ = some (.bool s) ∧ W'.cell? ⟨gd, 1, none⟩ = some (.slice q m c) ∧ W'.cell? ⟨gd, 2, none⟩ = some (.int .i64 e)) (by kernel_rfl) ?_
  rw [← hW1]
  clear hW1
  refine wpJ_take (i := 1) (v := ?v16x1) rfl (by kernel_rfl) (by kernel_rfl) (by kernel_rfl) (fun _ _ _ h => h) (by kernel_rfl) ?hy16x1 HJ.out ?rest16x1
  case hy16x1 => (intro W' hJ; obtain ⟨j0, j1, j2⟩ := hJ; go_simp; first | done | with_reducible rfl)
  refine wpJ_take (i := 2) (v := ?v17x2) rfl (by kernel_rfl) (by kernel_rfl) (by kernel_rfl) (fun _ _ _ h => h) (by kernel_rfl) ?hy17x2 HJ.out ?rest17x2
  case hy17x2 => (intro W' hJ; obtain ⟨j0, j1, j2⟩ := hJ; go_simp; first | done | with_reducible rfl)
  refine wpJ_one (i := 0) (by kernel_rfl) rfl (by kernel_rfl) (fun KJ hK => ?_)
  go_simp
  refine (way_d _).mono ?_
  rintro e v1 ⟨rfl, hb1⟩
  replace Xd : Hid _ := Xd.out.below hb1
  replace Xr : Hid _ := Xr.out.below hb1
  replace hbw := Below.on hbw hb1
  clear hb1
  refine hK _ _ ⟨Xd.out.c0, Xd.out.c1, Xd.out.c2⟩ ?_
  clear hK
  refine wpJ_one (i := 3) (by kernel_rfl) rfl (by kernel_rfl) (fun KJ hK => ?_)
  go_simp
  refine (tb_gd HP.out).mono ?_
  rintro e v6 ⟨rfl, hb6⟩
  replace Xd : Hid _ := Xd.out.below hb6
  replace Xr : Hid _ := Xr.out.below hb6
  replace hbw := Below.on hbw hb6
  clear hb6
  clear HJ
  have HJ : Hid ((fun W' : World => W'.cell? ⟨gd, 0, none⟩ = some (.bool s) ∧ W'.cell? ⟨gd, 1, none⟩ = some (.slice q m c) ∧ W'.cell? ⟨gd, 2, none⟩ = some (.int .i64 e)) v6) := ⟨Xd.out.c0, Xd.out.c1, Xd.out.c2⟩
  refine hK _ _ HJ.out ?_
  clear hK
  refine wpJ_take (i := 4) (v := ?v18x4) rfl (by kernel_rfl) (by kernel_rfl) (by kernel_rfl) (fun _ _ _ h => h) (by kernel_rfl) ?hy18x4 HJ.out ?rest18x4
  case hy18x4 => (intro W' hJ; obtain ⟨j0, j1, j2⟩ := hJ; go_simp; first | done | with_reducible rfl)
  refine wpJ_take (i := 5) (v := ?v19x5) rfl (by kernel_rfl) (by kernel_rfl) (by kernel_rfl) (fun _ _ _ h => h) (by kernel_rfl) ?hy19x5 HJ.out ?rest19x5
  case hy19x5 => (intro W' hJ; obtain ⟨j0, j1, j2⟩ := hJ; go_simp; first | done | with_reducible rfl)
  obtain ⟨cr0, cr1, cr2, fr0, fr1, fr2⟩ := Xr.out
  have hner : gr < v6.heap.size := World.block_lt_of_cell? v6 _ cr0
  obtain ⟨cd0, cd1, cd2, fd0, fd1, fd2⟩ := Xd.out
  have hned : gd < v6.heap.size := World.block_lt_of_cell? v6 _ cd0
  obtain ⟨hgd0, hgd1⟩ := HGD.out
  refine wpJ_one (i := 6) (by kernel_rfl) rfl (by kernel_rfl) (fun KJ hK => ?_)
  go_simp
  have HJ2 : Hid ((fun W' : World => W'.cell? ⟨gd, 0, none⟩ = some (.bool s) ∧ W'.cell? ⟨gd, 1, none⟩ = some (.slice q m c) ∧ W'.cell? ⟨gd, 2, none⟩ = some (.int .i64 e)) (((v6.setCell ⟨gr, 0, none⟩ (.bool false)).setCell ⟨gr, 1, none⟩ (.slice none 0 0)).setCell ⟨gr, 2, none⟩ (.int .i64 0))) := ⟨by go_simp, by go_simp, by go_simp⟩
  refine hK _ _ HJ2.out ?_
  clear hK HJ
  have HJ := HJ2
  clear HJ2
  refine wpJ_take (i := 7) (v := ?v20x7) rfl (by kernel_rfl) (by kernel_rfl) (by kernel_rfl) (fun _ _ _ h => h) (by kernel_rfl) ?hy20x7 HJ.out ?rest20x7
  case hy20x7 => (intro W' hJ; obtain ⟨j0, j1, j2⟩ := hJ; go_simp; first | done | with_reducible rfl)
  refine wpJ_done (by kernel_rfl) ?_ _
  clear HJ
  go_wp2_with fail
  refine bodyPost_ret (v := .tuple #[DV false none 0 0 0, .int .i64 1]) (by rw [results_cell_tmp rfl]; go_simp) rfl ⟨rfl, ?_⟩
  first | exact hbw | exact bSet (bSet (bSet hbw _ _ _ HGr.out) _ _ _ HGr.out) _ _ _ HGr.out
set_option maxRecDepth 20000 in
set_option maxHeartbeats 8000000 in
theorem bits_u {q : Option Addr} {m c : Nat} {w : World} {z e : Int} {P K : Nat} {s : Bool} (h : DN w s q m c e z) (hP : 1 ≤ P ∧ P ≤ 70000) (hK : K = bitsN z.natAbs - P) (hT : Tab w) :
    Calls Tryz.prog 19 #[DV s q m c e, .int .i64 P] w fun en w' => MakeP w.heap.size w' en (rd true z (2 ^ K)) (e + K) ∧ Below w.heap.size w w' := by
  have H : Hid (DN w s q m c e z) := h
  have TB : Hid (Tab w) := hT
  have HP : Hid ((1 ≤ P ∧ P ≤ 70000) ∧ K = bitsN z.natAbs - P) := ⟨hP, hK⟩
  clear h hT hP hK
  go_enter Tryz.func19, Tryz.ntmps19
  go_wp2_with fail
  obtain ⟨W0, hW0⟩ : ∃ W0, W0 = ((w.alloc (.cells #[.bool s, .slice q m c, .int .i64 e] 26)).alloc (.cells #[.bool false, .slice none 0 0, .int .i64 0] 26)) := ⟨_, rfl⟩
  have Xd : Hid (B3q W0 (w.heap.size) (.bool s) (.slice q m c) (.int .i64 e)) := by rw [hW0]; exact ⟨by go_simp, by go_simp, by go_simp, by go_simp, by go_simp, by go_simp⟩
  have Xr : Hid (B3q W0 (w.heap.size + 1) (.bool false) (.slice none 0 0) (.int .i64 0)) := by rw [hW0]; exact ⟨by go_simp, by go_simp, by go_simp, by go_simp, by go_simp, by go_simp⟩
  have hb0 : Below w.heap.size w W0 := by rw [hW0]; exact below2 w _ _
  rw [← hW0]
  clear hW0
  have hbw : Below w.heap.size w w := Below.refl _ _
  obtain ⟨gr, hgr⟩ : ∃ g, g = w.heap.size + 1 := ⟨_, rfl⟩
  have HGr : Hid (w.heap.size ≤ gr) := by rw [hgr]; show _ ≤ _; omega
  rw [← hgr] at Xr
  try rw [← hgr]
  obtain ⟨gd, hgd⟩ : ∃ g, g = w.heap.size := ⟨_, rfl⟩
  have HGd : Hid (w.heap.size ≤ gd) := by rw [hgd]; show _ ≤ _; omega
  rw [← hgd] at Xd
  try rw [← hgd]
  have HGD : Hid (gd ≠ gr ∧ gr ≠ gd) := by rw [hgd, hgr]; exact ⟨by omega, by omega⟩
  clear hgd hgr
  replace hbw := Below.on hbw hb0
  clear hb0
  obtain ⟨W1, hW1⟩ : ∃ W1, W1 = W0.drew := ⟨_, rfl⟩
  have hbd : Below W0.heap.size W0 W1 := by rw [hW1]; exact bDrew1 (Below.refl _ _)
  replace Xd : Hid _ := Xd.out.below hbd
  replace Xr : Hid _ := Xr.out.below hbd
  replace hbw := Below.on hbw hbd
  clear hbd
  have HJ : Hid ((fun W' : World => W'.cell? ⟨gd, 0, none⟩ = some (.bool s) ∧ W'.cell? ⟨gd, 1, none⟩ = some (.slice q m c) ∧ W'.cell? ⟨gd, 2, none⟩ = some (.int .i64 e)) W1) := ⟨Xd.out.c0, Xd.out.c1, Xd.out.c2⟩
  refine wp_region_J (fun W' => W'.cell? ⟨gd, 0, none⟩ = some (.bool s) ∧ W'.cell? ⟨gd, 1, none⟩ = some (.slice q m c) ∧ W'.cell? ⟨gd, 2, none⟩ = some (.int .i64 e)) (by kernel_rfl) ?_
  rw [← hW1]
  clear hW1
  refine wpJ_take (i := 1) (v := ?v21x1) rfl (by kernel_rfl) (by kernel_rfl) (by kernel_rfl) (fun _ _ _ h => h) (by kernel_rfl) ?hy21x1 HJ.out ?rest21x1
  case hy21x1 => (intro W' hJ; obtain ⟨j0, j1, j2⟩ := hJ; go_simp; first | done | with_reducible rfl)
  refine wpJ_take (i := 2) (v := ?v22x2) rfl (by kernel_rfl) (by kernel_rfl) (by kernel_rfl) (fun _ _ _ h => h) (by kernel_rfl) ?hy22x2 HJ.out ?rest22x2
  case hy22x2 => (intro W' hJ; obtain ⟨j0, j1, j2⟩ := hJ; go_simp; first | done | with_reducible rfl)
  refine wpJ_one (i := 0) (by kernel_rfl) rfl (by kernel_rfl) (fun KJ hK => ?_)
  go_simp
  refine (way_u _).mono ?_
  rintro e v1 ⟨rfl, hb1⟩
  replace Xd : Hid _ := Xd.out.below hb1
  replace Xr : Hid _ := Xr.out.below hb1
  replace hbw := Below.on hbw hb1
  clear hb1
  refine hK _ _ ⟨Xd.out.c0, Xd.out.c1, Xd.out.c2⟩ ?_
  clear hK
  refine wpJ_one (i := 3) (by kernel_rfl) rfl (by kernel_rfl) (fun KJ hK => ?_)
  go_simp
  have HRL : Hid (gr < v1.heap.size ∧ w.heap.size ≤ v1.heap.size) := ⟨Xr.out.lt, hbw.size⟩
  refine (tb_u (H.out.below hbw) HP.out.1 HP.out.2 (TB.out.below hbw)).mono ?_
  rintro e2 v6 ⟨hv, hb6⟩
  obtain ⟨s6, p6, m6, eo, er, rfl, hmp⟩ := hv.open
  clear hv
  replace Xd : Hid _ := Xd.out.below hb6
  replace Xr : Hid _ := Xr.out.below hb6
  replace hbw := Below.on hbw hb6
  clear hb6
  have M6 : Hid (MP v1.heap.size v6 s6 p6 m6 eo er (rd true z (2 ^ K)) (e + K)) := hmp
  clear hmp
  clear HJ
  have HJ : Hid ((fun W' : World => W'.cell? ⟨gd, 0, none⟩ = some (.bool s) ∧ W'.cell? ⟨gd, 1, none⟩ = some (.slice q m c) ∧ W'.cell? ⟨gd, 2, none⟩ = some (.int .i64 e)) v6) := ⟨Xd.out.c0, Xd.out.c1, Xd.out.c2⟩
  refine hK _ _ HJ.out ?_
  clear hK
  refine wpJ_take (i := 4) (v := ?v23x4) rfl (by kernel_rfl) (by kernel_rfl) (by kernel_rfl) (fun _ _ _ h => h) (by kernel_rfl) ?hy23x4 HJ.out ?rest23x4
  case hy23x4 => (intro W' hJ; obtain ⟨j0, j1, j2⟩ := hJ; go_simp; first | done | with_reducible rfl)
  refine wpJ_take (i := 5) (v := ?v24x5) rfl (by kernel_rfl) (by kernel_rfl) (by kernel_rfl) (fun _ _ _ h => h) (by kernel_rfl) ?hy24x5 HJ.out ?rest24x5
  case hy24x5 => (intro W' hJ; obtain ⟨j0, j1, j2⟩ := hJ; go_simp; first | done | with_reducible rfl)
  obtain ⟨cr0, cr1, cr2, fr0, fr1, fr2⟩ := Xr.out
  have hner : gr < v6.heap.size := World.block_lt_of_cell? v6 _ cr0
  obtain ⟨cd0, cd1, cd2, fd0, fd1, fd2⟩ := Xd.out
  have hned : gd < v6.heap.size := World.block_lt_of_cell? v6 _ cd0
  obtain ⟨hgd0, hgd1⟩ := HGD.out
  refine wpJ_one (i := 6) (by kernel_rfl) rfl (by kernel_rfl) (fun KJ hK => ?_)
  go_simp
  have HJ2 : Hid ((fun W' : World => W'.cell? ⟨gd, 0, none⟩ = some (.bool s) ∧ W'.cell? ⟨gd, 1, none⟩ = some (.slice q m c) ∧ W'.cell? ⟨gd, 2, none⟩ = some (.int .i64 e)) (((v6.setCell ⟨gr, 0, none⟩ (.bool s6)).setCell ⟨gr, 1, none⟩ (.slice p6 m6 m6)).setCell ⟨gr, 2, none⟩ (.int .i64 eo))) := ⟨by go_simp, by go_simp, by go_simp⟩
  refine hK _ _ HJ2.out ?_
  clear hK HJ
  have HJ := HJ2
  clear HJ2
  refine wpJ_take (i := 7) (v := ?v25x7) rfl (by kernel_rfl) (by kernel_rfl) (by kernel_rfl) (fun _ _ _ h => h) (by kernel_rfl) ?hy25x7 HJ.out ?rest25x7
  case hy25x7 => (intro W' hJ; obtain ⟨j0, j1, j2⟩ := hJ; go_simp; first | done | with_reducible rfl)
  refine wpJ_done (by kernel_rfl) ?_ _
  clear HJ
  go_wp2_with fail
  refine bodyPost_ret (v := .tuple #[DV s6 p6 m6 m6 eo, .int .i64 er]) (by rw [results_cell_tmp rfl]; go_simp) rfl ⟨(M6.out.set HRL.out.1 HRL.out.2 _ _ _).close, ?_⟩
  exact bSet (bSet (bSet hbw _ _ _ HGr.out) _ _ _ HGr.out) _ _ _ HGr.out
set_option maxRecDepth 20000 in
set_option maxHeartbeats 8000000 in
theorem bits_fu {q : Option Addr} {m c : Nat} {xs : List Nat} {w : World} {e P : Int} {s : Bool} (h : At w q m c xs) (hf : formD s xs e = false) (hP : 1 ≤ P ∧ P ≤ 70000) :
    Calls Tryz.prog 19 #[DV s q m c e, .int .i64 P] w fun en w' => en = .returned (.tuple #[DV false none 0 0 0, .int .i64 2]) ∧ Below w.heap.size w w' := by
  have H : Hid (At w q m c xs) := h
  have HF : Hid (formD s xs e = false ∧ 1 ≤ P ∧ P ≤ 70000) := ⟨hf, hP⟩
  clear h hf hP
  go_enter Tryz.func19, Tryz.ntmps19
  go_wp2_with fail
  obtain ⟨W0, hW0⟩ : ∃ W0, W0 = ((w.alloc (.cells #[.bool s, .slice q m c, .int .i64 e] 26)).alloc (.cells #[.bool false, .slice none 0 0, .int .i64 0] 26)) := ⟨_, rfl⟩
  have Xd : Hid (B3q W0 (w.heap.size) (.bool s) (.slice q m c) (.int .i64 e)) := by rw [hW0]; exact ⟨by go_simp, by go_simp, by go_simp, by go_simp, by go_simp, by go_simp⟩
  have Xr : Hid (B3q W0 (w.heap.size + 1) (.bool false) (.slice none 0 0) (.int .i64 0)) := by rw [hW0]; exact ⟨by go_simp, by go_simp, by go_simp, by go_simp, by go_simp, by go_simp⟩
  have hb0 : Below w.heap.size w W0 := by rw [hW0]; exact below2 w _ _
  rw [← hW0]
  clear hW0
  have hbw : Below w.heap.size w w := Below.refl _ _
  obtain ⟨gr, hgr⟩ : ∃ g, g = w.heap.size + 1 := ⟨_, rfl⟩
  have HGr : Hid (w.heap.size ≤ gr) := by rw [hgr]; show _ ≤ _; omega
  rw [← hgr] at Xr
  try rw [← hgr]
  obtain ⟨gd, hgd⟩ : ∃ g, g = w.heap.size := ⟨_, rfl⟩
  have HGd : Hid (w.heap.size ≤ gd) := by rw [hgd]; show _ ≤ _; omega
  rw [← hgd] at Xd
  try rw [← hgd]
  have HGD : Hid (gd ≠ gr ∧ gr ≠ gd) := by rw [hgd, hgr]; exact ⟨by omega, by omega⟩
  clear hgd hgr
  replace hbw := Below.on hbw hb0
  clear hb0
  obtain ⟨W1, hW1⟩ : ∃ W1, W1 = W0.drew := ⟨_, rfl⟩
  have hbd : Below W0.heap.size W0 W1 := by rw [hW1]; exact bDrew1 (Below.refl _ _)
  replace Xd : Hid _ := Xd.out.below hbd
  replace Xr : Hid _ := Xr.out.below hbd
  replace hbw := Below.on hbw hbd
  clear hbd
  have HJ : Hid ((fun W' : World => W'.cell? ⟨gd, 0, none⟩ = some (.bool s) ∧ W'.cell? ⟨gd, 1, none⟩ = some (.slice q m c) ∧ W'.cell? ⟨gd, 2, none⟩ = some (.int .i64 e)) W1) := ⟨Xd.out.c0, Xd.out.c1, Xd.out.c2⟩
  refine wp_region_J (fun W' => W'.cell? ⟨gd, 0, none⟩ = some (.bool s) ∧ W'.cell? ⟨gd, 1, none⟩ = some (.slice q m c) ∧ W'.cell? ⟨gd, 2, none⟩ = some (.int .i64 e)) (by kernel_rfl) ?_
  rw [← hW1]
  clear hW1
  refine wpJ_take (i := 1) (v := ?v26x1) rfl (by kernel_rfl) (by kernel_rfl) (by kernel_rfl) (fun _ _ _ h => h) (by kernel_rfl) ?hy26x1 HJ.out ?rest26x1
  case hy26x1 => (intro W' hJ; obtain ⟨j0, j1, j2⟩ := hJ; go_simp; first | done | with_reducible rfl)
  refine wpJ_take (i := 2) (v := ?v27x2) rfl (by kernel_rfl) (by kernel_rfl) (by kernel_rfl) (fun _ _ _ h => h) (by kernel_rfl) ?hy27x2 HJ.out ?rest27x2
  case hy27x2 => (intro W' hJ; obtain ⟨j0, j1, j2⟩ := hJ; go_simp; first | done | with_reducible rfl)
  refine wpJ_one (i := 0) (by kernel_rfl) rfl (by kernel_rfl) (fun KJ hK => ?_)
  go_simp
  refine (way_u _).mono ?_
  rintro e v1 ⟨rfl, hb1⟩
  replace Xd : Hid _ := Xd.out.below hb1
  replace Xr : Hid _ := Xr.out.below hb1
  replace hbw := Below.on hbw hb1
  clear hb1
  refine hK _ _ ⟨Xd.out.c0, Xd.out.c1, Xd.out.c2⟩ ?_
  clear hK
  refine wpJ_one (i := 3) (by kernel_rfl) rfl (by kernel_rfl) (fun KJ hK => ?_)
  go_simp
  refine (tb_fu (H.out.below hbw) HF.out.1 HF.out.2).mono ?_
  rintro e v6 ⟨rfl, hb6⟩
  replace Xd : Hid _ := Xd.out.below hb6
  replace Xr : Hid _ := Xr.out.below hb6
  replace hbw := Below.on hbw hb6
  clear hb6
  clear HJ
  have HJ : Hid ((fun W' : World => W'.cell? ⟨gd, 0, none⟩ = some (.bool s) ∧ W'.cell? ⟨gd, 1, none⟩ = some (.slice q m c) ∧ W'.cell? ⟨gd, 2, none⟩ = some (.int .i64 e)) v6) := ⟨Xd.out.c0, Xd.out.c1, Xd.out.c2⟩
  refine hK _ _ HJ.out ?_
  clear hK
  refine wpJ_take (i := 4) (v := ?v28x4) rfl (by kernel_rfl) (by kernel_rfl) (by kernel_rfl) (fun _ _ _ h => h) (by kernel_rfl) ?hy28x4 HJ.out ?rest28x4
  case hy28x4 => (intro W' hJ; obtain ⟨j0, j1, j2⟩ := hJ; go_simp; first | done | with_reducible rfl)
  refine wpJ_take (i := 5) (v := ?v29x5) rfl (by kernel_rfl) (by kernel_rfl) (by kernel_rfl) (fun _ _ _ h => h) (by kernel_rfl) ?hy29x5 HJ.out ?rest29x5
  case hy29x5 => (intro W' hJ; obtain ⟨j0, j1, j2⟩ := hJ; go_simp; first | done | with_reducible rfl)
  obtain ⟨cr0, cr1, cr2, fr0, fr1, fr2⟩ := Xr.out
  have hner : gr < v6.heap.size := World.block_lt_of_cell? v6 _ cr0
  obtain ⟨cd0, cd1, cd2, fd0, fd1, fd2⟩ := Xd.out
  have hned : gd < v6.heap.size := World.block_lt_of_cell? v6 _ cd0
  obtain ⟨hgd0, hgd1⟩ := HGD.out
  refine wpJ_one (i := 6) (by kernel_rfl) rfl (by kernel_rfl) (fun KJ hK => ?_)
  go_simp
  have HJ2 : Hid ((fun W' : World => W'.cell? ⟨gd, 0, none⟩ = some (.bool s) ∧ W'.cell? ⟨gd, 1, none⟩ = some (.slice q m c) ∧ W'.cell? ⟨gd, 2, none⟩ = some (.int .i64 e)) (((v6.setCell ⟨gr, 0, none⟩ (.bool false)).setCell ⟨gr, 1, none⟩ (.slice none 0 0)).setCell ⟨gr, 2, none⟩ (.int .i64 0))) := ⟨by go_simp, by go_simp, by go_simp⟩
  refine hK _ _ HJ2.out ?_
  clear hK HJ
  have HJ := HJ2
  clear HJ2
  refine wpJ_take (i := 7) (v := ?v30x7) rfl (by kernel_rfl) (by kernel_rfl) (by kernel_rfl) (fun _ _ _ h => h) (by kernel_rfl) ?hy30x7 HJ.out ?rest30x7
  case hy30x7 => (intro W' hJ; obtain ⟨j0, j1, j2⟩ := hJ; go_simp; first | done | with_reducible rfl)
  refine wpJ_done (by kernel_rfl) ?_ _
  clear HJ
  go_wp2_with fail
  refine bodyPost_ret (v := .tuple #[DV false none 0 0 0, .int .i64 2]) (by rw [results_cell_tmp rfl]; go_simp) rfl ⟨rfl, ?_⟩
  first | exact hbw | exact bSet (bSet (bSet hbw _ _ _ HGr.out) _ _ _ HGr.out) _ _ _ HGr.out
set_option maxRecDepth 20000 in
set_option maxHeartbeats 8000000 in
theorem bits_lu {q : Option Addr} {m c : Nat} {w : World} {e P : Int} {s : Bool} (hP : P < 1) :
    Calls Tryz.prog 19 #[DV s q m c e, .int .i64 P] w fun en w' => en = .returned (.tuple #[DV false none 0 0 0, .int .i64 1]) ∧ Below w.heap.size w w' := by
  have HP : Hid (P < 1) := hP
  clear hP
  go_enter Tryz.func19, Tryz.ntmps19
  go_wp2_with fail
  obtain ⟨W0, hW0⟩ : ∃ W0, W0 = ((w.alloc (.cells #[.bool s, .slice q m c, .int .i64 e] 26)).alloc (.cells #[.bool false, .slice none 0 0, .int .i64 0] 26)) := ⟨_, rfl⟩
  have Xd : Hid (B3q W0 (w.heap.size) (.bool s) (.slice q m c) (.int .i64 e)) := by rw [hW0]; exact ⟨by go_simp, by go_simp, by go_simp, by go_simp, by go_simp, by go_simp⟩
  have Xr : Hid (B3q W0 (w.heap.size + 1) (.bool false) (.slice none 0 0) (.int .i64 0)) := by rw [hW0]; exact ⟨by go_simp, by go_simp, by go_simp, by go_simp, by go_simp, by go_simp⟩
  have hb0 : Below w.heap.size w W0 := by rw [hW0]; exact below2 w _ _
  rw [← hW0]
  clear hW0
  have hbw : Below w.heap.size w w := Below.refl _ _
  obtain ⟨gr, hgr⟩ : ∃ g, g = w.heap.size + 1 := ⟨_, rfl⟩
  have HGr : Hid (w.heap.size ≤ gr) := by rw [hgr]; show _ ≤ _; omega
  rw [← hgr] at Xr
  try rw [← hgr]
  obtain ⟨gd, hgd⟩ : ∃ g, g = w.heap.size := ⟨_, rfl⟩
  have HGd : Hid (w.heap.size ≤ gd) := by rw [hgd]; show _ ≤ _; omega
  rw [← hgd] at Xd
  try rw [← hgd]
  have HGD : Hid (gd ≠ gr ∧ gr ≠ gd) := by rw [hgd, hgr]; exact ⟨by omega, by omega⟩
  clear hgd hgr
  replace hbw := Below.on hbw hb0
  clear hb0
  obtain ⟨W1, hW1⟩ : ∃ W1, W1 = W0.drew := ⟨_, rfl⟩
  have hbd : Below W0.heap.size W0 W1 := by rw [hW1]; exact bDrew1 (Below.refl _ _)
  replace Xd : Hid _ := Xd.out.below hbd
  replace Xr : Hid _ := Xr.out.below hbd
  replace hbw := Below.on hbw hbd
  clear hbd
  have HJ : Hid ((fun W' : World => W'.cell? ⟨gd, 0, none⟩ = some (.bool s) ∧ W'.cell? ⟨gd, 1, none⟩ = some (.slice q m c) ∧ W'.cell? ⟨gd, 2, none⟩ = some (.int .i64 e)) W1) := ⟨Xd.out.c0, Xd.out.c1, Xd.out.c2⟩
  refine wp_region_J (fun W' => W'.cell? ⟨gd, 0, none⟩ = some (.bool s) ∧ W'.cell? ⟨gd, 1, none⟩ = some (.slice q m c) ∧ W'.cell? ⟨gd, 2, none⟩ = some (.int .i64 e)) (by kernel_rfl) ?_
  rw [← hW1]
  clear hW1
  refine wpJ_take (i := 1) (v := ?v31x1) rfl (by kernel_rfl) (by kernel_rfl) (by kernel_rfl) (fun _ _ _ h => h) (by kernel_rfl) ?hy31x1 HJ.out ?rest31x1
  case hy31x1 => (intro W' hJ; obtain ⟨j0, j1, j2⟩ := hJ; go_simp; first | done | with_reducible rfl)
  refine wpJ_take (i := 2) (v := ?v32x2) rfl (by kernel_rfl) (by kernel_rfl) (by kernel_rfl) (fun _ _ _ h => h) (by kernel_rfl) ?hy32x2 HJ.out ?rest32x2
  case hy32x2 => (intro W' hJ; obtain ⟨j0, j1, j2⟩ := hJ; go_simp; first | done | with_reducible rfl)
  refine wpJ_one (i := 0) (by kernel_rfl) rfl (by kernel_rfl) (fun KJ hK => ?_)
  go_simp
  refine (way_u _).mono ?_
  rintro e v1 ⟨rfl, hb1⟩
  replace Xd : Hid _ := Xd.out.below hb1
  replace Xr : Hid _ := Xr.out.below hb1
  replace hbw := Below.on hbw hb1
  clear hb1
  refine hK _ _ ⟨Xd.out.c0, Xd.out.c1, Xd.out.c2⟩ ?_
  clear hK
  refine wpJ_one (i := 3) (by kernel_rfl) rfl (by kernel_rfl) (fun KJ hK => ?_)
  go_simp
  refine (tb_lu HP.out).mono ?_
  rintro e v6 ⟨rfl, hb6⟩
  replace Xd : Hid _ := Xd.out.below hb6
  replace Xr : Hid _ := Xr.out.below hb6
  replace hbw := Below.on hbw hb6
  clear hb6
  clear HJ
  have HJ : Hid ((fun W' : World => W'.cell? ⟨gd, 0, none⟩ = some (.bool s) ∧ W'.cell? ⟨gd, 1, none⟩ = some (.slice q m c) ∧ W'.cell? ⟨gd, 2, none⟩ = some (.int .i64 e)) v6) := ⟨Xd.out.c0, Xd.out.c1, Xd.out.c2⟩
  refine hK _ _ HJ.out ?_
  clear hK
  refine wpJ_take (i := 4) (v := ?v33x4) rfl (by kernel_rfl) (by kernel_rfl) (by kernel_rfl) (fun _ _ _ h => h) (by kernel_rfl) ?hy33x4 HJ.out ?rest33x4
  case hy33x4 => (intro W' hJ; obtain ⟨j0, j1, j2⟩ := hJ; go_simp; first | done | with_reducible rfl)
  refine wpJ_take (i := 5) (v := ?v34x5) rfl (by kernel_rfl) (by kernel_rfl) (by kernel_rfl) (fun _ _ _ h => h) (by kernel_rfl) ?hy34x5 HJ.out ?rest34x5
  case hy34x5 => (intro W' hJ; obtain ⟨j0, j1, j2⟩ := hJ; go_simp; first | done | with_reducible rfl)
  obtain ⟨cr0, cr1, cr2, fr0, fr1, fr2⟩ := Xr.out
  have hner : gr < v6.heap.size := World.block_lt_of_cell? v6 _ cr0
  obtain ⟨cd0, cd1, cd2, fd0, fd1, fd2⟩ := Xd.out
  have hned : gd < v6.heap.size := World.block_lt_of_cell? v6 _ cd0
  obtain ⟨hgd0, hgd1⟩ := HGD.out
  refine wpJ_one (i := 6) (by kernel_rfl) rfl (by kernel_rfl) (fun KJ hK => ?_)
  go_simp
  have HJ2 : Hid ((fun W' : World => W'.cell? ⟨gd, 0, none⟩ = some (.bool s) ∧ W'.cell? ⟨gd, 1, none⟩ = some (.slice q m c) ∧ W'.cell? ⟨gd, 2, none⟩ = some (.int .i64 e)) (((v6.setCell ⟨gr, 0, none⟩ (.bool false)).setCell ⟨gr, 1, none⟩ (.slice none 0 0)).setCell ⟨gr, 2, none⟩ (.int .i64 0))) := ⟨by go_simp, by go_simp, by go_simp⟩
  refine hK _ _ HJ2.out ?_
  clear hK HJ
  have HJ := HJ2
  clear HJ2
  refine wpJ_take (i := 7) (v := ?v35x7) rfl (by kernel_rfl) (by kernel_rfl) (by kernel_rfl) (fun _ _ _ h => h) (by kernel_rfl) ?hy35x7 HJ.out ?rest35x7
  case hy35x7 => (intro W' hJ; obtain ⟨j0, j1, j2⟩ := hJ; go_simp; first | done | with_reducible rfl)
  refine wpJ_done (by kernel_rfl) ?_ _
  clear HJ
  go_wp2_with fail
  refine bodyPost_ret (v := .tuple #[DV false none 0 0 0, .int .i64 1]) (by rw [results_cell_tmp rfl]; go_simp) rfl ⟨rfl, ?_⟩
  first | exact hbw | exact bSet (bSet (bSet hbw _ _ _ HGr.out) _ _ _ HGr.out) _ _ _ HGr.out
set_option maxRecDepth 20000 in
set_option maxHeartbeats 8000000 in
theorem bits_gu {q : Option Addr} {m c : Nat} {w : World} {e P : Int} {s : Bool} (hP : 70000 < P) :
    Calls Tryz.prog 19 #[DV s q m c e, .int .i64 P] w fun en w' => en = .returned (.tuple #[DV false none 0 0 0, .int .i64 1]) ∧ Below w.heap.size w w' := by
  have HP : Hid (70000 < P) := hP
  clear hP
  go_enter Tryz.func19, Tryz.ntmps19
  go_wp2_with fail
  obtain ⟨W0, hW0⟩ : ∃ W0, W0 = ((w.alloc (.cells #[.bool s, .slice q m c, .int .i64 e] 26)).alloc (.cells #[.bool false, .slice none 0 0, .int .i64 0] 26)) := ⟨_, rfl⟩
  have Xd : Hid (B3q W0 (w.heap.size) (.bool s) (.slice q m c) (.int .i64 e)) := by rw [hW0]; exact ⟨by go_simp, by go_simp, by go_simp, by go_simp, by go_simp, by go_simp⟩
  have Xr : Hid (B3q W0 (w.heap.size + 1) (.bool false) (.slice none 0 0) (.int .i64 0)) := by rw [hW0]; exact ⟨by go_simp, by go_simp, by go_simp, by go_simp, by go_simp, by go_simp⟩
  have hb0 : Below w.heap.size w W0 := by rw [hW0]; exact below2 w _ _
  rw [← hW0]
  clear hW0
  have hbw : Below w.heap.size w w := Below.refl _ _
  obtain ⟨gr, hgr⟩ : ∃ g, g = w.heap.size + 1 := ⟨_, rfl⟩
  have HGr : Hid (w.heap.size ≤ gr) := by rw [hgr]; show _ ≤ _; omega
  rw [← hgr] at Xr
  try rw [← hgr]
  obtain ⟨gd, hgd⟩ : ∃ g, g = w.heap.size := ⟨_, rfl⟩
  have HGd : Hid (w.heap.size ≤ gd) := by rw [hgd]; show _ ≤ _; omega
  rw [← hgd] at Xd
  try rw [← hgd]
  have HGD : Hid (gd ≠ gr ∧ gr ≠ gd) := by rw [hgd, hgr]; exact ⟨by omega, by omega⟩
  clear hgd hgr
  replace hbw := Below.on hbw hb0
  clear hb0
  obtain ⟨W1, hW1⟩ : ∃ W1, W1 = W0.drew := ⟨_, rfl⟩
  have hbd : Below W0.heap.size W0 W1 := by rw [hW1]; exact bDrew1 (Below.refl _ _)
  replace Xd : Hid _ := Xd.out.below hbd
  replace Xr : Hid _ := Xr.out.below hbd
  replace hbw := Below.on hbw hbd
  clear hbd
  have HJ : Hid ((fun W' : World => W'.cell? ⟨gd, 0, none⟩ = some (.bool s) ∧ W'.cell? ⟨gd, 1, none⟩ = some (.slice q m c) ∧ W'.cell? ⟨gd, 2, none⟩ = some (.int .i64 e)) W1) := ⟨Xd.out.c0, Xd.out.c1, Xd.out.c2⟩
  refine wp_region_J (fun W' => W'.cell? ⟨gd, 0, none⟩ = some (.bool s) ∧ W'.cell? ⟨gd, 1, none⟩ = some (.slice q m c) ∧ W'.cell? ⟨gd, 2, none⟩ = some (.int .i64 e)) (by kernel_rfl) ?_
  rw [← hW1]
  clear hW1
  refine wpJ_take (i := 1) (v := ?v36x1) rfl (by kernel_rfl) (by kernel_rfl) (by kernel_rfl) (fun _ _ _ h => h) (by kernel_rfl) ?hy36x1 HJ.out ?rest36x1
  case hy36x1 => (intro W' hJ; obtain ⟨j0, j1, j2⟩ := hJ; go_simp; first | done | with_reducible rfl)
  refine wpJ_take (i := 2) (v := ?v37x2) rfl (by kernel_rfl) (by kernel_rfl) (by kernel_rfl) (fun _ _ _ h => h) (by kernel_rfl) ?hy37x2 HJ.out ?rest37x2
  case hy37x2 => (intro W' hJ; obtain ⟨j0, j1, j2⟩ := hJ; go_simp; first | done | with_reducible rfl)
  refine wpJ_one (i := 0) (by kernel_rfl) rfl (by kernel_rfl) (fun KJ hK => ?_)
  go_simp
  refine (way_u _).mono ?_
  rintro e v1 ⟨rfl, hb1⟩
  replace Xd : Hid _ := Xd.out.below hb1
  replace Xr : Hid _ := Xr.out.below hb1
  replace hbw := Below.on hbw hb1
  clear hb1
  refine hK _ _ ⟨Xd.out.c0, Xd.out.c1, Xd.out.c2⟩ ?_
  clear hK
  refine wpJ_one (i := 3) (by kernel_rfl) rfl (by kernel_rfl) (fun KJ hK => ?_)
  go_simp
  refine (tb_gu HP.out).mono ?_
  rintro e v6 ⟨rfl, hb6⟩
  replace Xd : Hid _ := Xd.out.below hb6
  replace Xr : Hid _ := Xr.out.below hb6
  replace hbw := Below.on hbw hb6
  clear hb6
  clear HJ
  have HJ : Hid ((fun W' : World => W'.cell? ⟨gd, 0, none⟩ = some (.bool s) ∧ W'.cell? ⟨gd, 1, none⟩ = some (.slice q m c) ∧ W'.cell? ⟨gd, 2, none⟩ = some (.int .i64 e)) v6) := ⟨Xd.out.c0, Xd.out.c1, Xd.out.c2⟩
  refine hK _ _ HJ.out ?_
  clear hK
  refine wpJ_take (i := 4) (v := ?v38x4) rfl (by kernel_rfl) (by kernel_rfl) (by kernel_rfl) (fun _ _ _ h => h) (by kernel_rfl) ?hy38x4 HJ.out ?rest38x4
  case hy38x4 => (intro W' hJ; obtain ⟨j0, j1, j2⟩ := hJ; go_simp; first | done | with_reducible rfl)
  refine wpJ_take (i := 5) (v := ?v39x5) rfl (by kernel_rfl) (by kernel_rfl) (by kernel_rfl) (fun _ _ _ h => h) (by kernel_rfl) ?hy39x5 HJ.out ?rest39x5
  case hy39x5 => (intro W' hJ; obtain ⟨j0, j1, j2⟩ := hJ; go_simp; first | done | with_reducible rfl)
  obtain ⟨cr0, cr1, cr2, fr0, fr1, fr2⟩ := Xr.out
  have hner : gr < v6.heap.size := World.block_lt_of_cell? v6 _ cr0
  obtain ⟨cd0, cd1, cd2, fd0, fd1, fd2⟩ := Xd.out
  have hned : gd < v6.heap.size := World.block_lt_of_cell? v6 _ cd0
  obtain ⟨hgd0, hgd1⟩ := HGD.out
  refine wpJ_one (i := 6) (by kernel_rfl) rfl (by kernel_rfl) (fun KJ hK => ?_)
  go_simp
  have HJ2 : Hid ((fun W' : World => W'.cell? ⟨gd, 0, none⟩ = some (.bool s) ∧ W'.cell? ⟨gd, 1, none⟩ = some (.slice q m c) ∧ W'.cell? ⟨gd, 2, none⟩ = some (.int .i64 e)) (((v6.setCell ⟨gr, 0, none⟩ (.bool false)).setCell ⟨gr, 1, none⟩ (.slice none 0 0)).setCell ⟨gr, 2, none⟩ (.int .i64 0))) := ⟨by go_simp, by go_simp, by go_simp⟩
  refine hK _ _ HJ2.out ?_
  clear hK HJ
  have HJ := HJ2
  clear HJ2
  refine wpJ_take (i := 7) (v := ?v40x7) rfl (by kernel_rfl) (by kernel_rfl) (by kernel_rfl) (fun _ _ _ h => h) (by kernel_rfl) ?hy40x7 HJ.out ?rest40x7
  case hy40x7 => (intro W' hJ; obtain ⟨j0, j1, j2⟩ := hJ; go_simp; first | done | with_reducible rfl)
  refine wpJ_done (by kernel_rfl) ?_ _
  clear HJ
  go_wp2_with fail
  refine bodyPost_ret (v := .tuple #[DV false none 0 0 0, .int .i64 1]) (by rw [results_cell_tmp rfl]; go_simp) rfl ⟨rfl, ?_⟩
  first | exact hbw | exact bSet (bSet (bSet hbw _ _ _ HGr.out) _ _ _ HGr.out) _ _ _ HGr.out
set_option maxRecDepth 20000 in
set_option maxHeartbeats 8000000 in
theorem dscale {p : Option Addr} {m c : Nat} {w : World} {z e N : Int} {s : Bool} (h : DN w s p m c e z) (hz : z ≠ 0) (hN : -1048576 ≤ e + N ∧ e + N ≤ 1048576) :
    Calls Tryz.prog 43 #[DV s p m c e, .int .i64 N] w fun en w' => ∃ v, en = .returned (.tuple #[v, .int .i64 0]) ∧ AnsD w.heap.size w' v z (e + N) ∧ Below w.heap.size w w' := by
  have H : Hid (DN w s p m c e z) := h
  have HZ : Hid (z ≠ 0) := hz
  have HE : Hid ((-1048576 ≤ e ∧ e ≤ 2097152) ∧ -1048576 ≤ e + N ∧ e + N ≤ 1048576) := ⟨by rcases h.fm with ⟨h0, _⟩ | ⟨_, h5⟩; (exact absurd h0 hz); omega, hN⟩
  clear h hz hN
  go_enter Tryz.func43, Tryz.ntmps43
  go_wp2_with fail
  obtain ⟨W0, hW0⟩ : ∃ W0, W0 = ((w.alloc (.cells #[.bool s, .slice p m c, .int .i64 e] 26)).alloc (.cells #[.bool false, .slice none 0 0, .int .i64 0] 26)) := ⟨_, rfl⟩
  have Xd : Hid (B3q W0 (w.heap.size) (.bool s) (.slice p m c) (.int .i64 e)) := by rw [hW0]; exact ⟨by go_simp, by go_simp, by go_simp, by go_simp, by go_simp, by go_simp⟩
  have Xr : Hid (B3q W0 (w.heap.size + 1) (.bool false) (.slice none 0 0) (.int .i64 0)) := by rw [hW0]; exact ⟨by go_simp, by go_simp, by go_simp, by go_simp, by go_simp, by go_simp⟩
  have hb0 : Below w.heap.size w W0 := by rw [hW0]; exact below2 w _ _
  rw [← hW0]
  clear hW0
  have hbw : Below w.heap.size w w := Below.refl _ _
  obtain ⟨gr, hgr⟩ : ∃ g, g = w.heap.size + 1 := ⟨_, rfl⟩
  have HGr : Hid (w.heap.size ≤ gr) := by rw [hgr]; show _ ≤ _; omega
  rw [← hgr] at Xr
  try rw [← hgr]
  obtain ⟨gd, hgd⟩ : ∃ g, g = w.heap.size := ⟨_, rfl⟩
  have HGd : Hid (w.heap.size ≤ gd) := by rw [hgd]; show _ ≤ _; omega
  rw [← hgd] at Xd
  try rw [← hgd]
  have HGD : Hid (gd ≠ gr ∧ gr ≠ gd) := by rw [hgd, hgr]; exact ⟨by omega, by omega⟩
  clear hgd hgr
  replace hbw := Below.on hbw hb0
  clear hb0
  refine (dform_t (H.out.below hbw)).mono ?_
  rintro e v1 ⟨rfl, hb1⟩
  replace Xd : Hid _ := Xd.out.below hb1
  replace Xr : Hid _ := Xr.out.below hb1
  replace hbw := Below.on hbw hb1
  clear hb1
  obtain ⟨cd0, cd1, cd2, fd0, fd1, fd2⟩ := Xd.out
  have hned : gd < v1.heap.size := World.block_lt_of_cell? v1 _ cd0
  go_wp2_with fail
  clear cd0 cd1 cd2 fd0 fd1 fd2 hned
  refine (zsign (H.out.zn.below hbw)).mono ?_
  rintro e v2 ⟨rfl, hb2⟩
  obtain ⟨sg, hsg⟩ : ∃ sg, sg = sgnI (z) := ⟨_, rfl⟩
  rw [← hsg]
  have hs0 : (sg == 0) = false := by rw [hsg]; have := HZ.out; unfold sgnI; split <;> (try split) <;> simp <;> omega
  clear hsg
  replace Xd : Hid _ := Xd.out.below hb2
  replace Xr : Hid _ := Xr.out.below hb2
  replace hbw := Below.on hbw hb2
  clear hb2
  obtain ⟨cd0, cd1, cd2, fd0, fd1, fd2⟩ := Xd.out
  have hned : gd < v2.heap.size := World.block_lt_of_cell? v2 _ cd0
  go_wp2_with fail
  clear cd0 cd1 cd2 fd0 fd1 fd2 hned
  clear hs0
  refine (moved_ok e N _ HE.out.1 HE.out.2).mono ?_
  rintro e2 v4 ⟨rfl, hw⟩
  obtain rfl := hw.symm
  clear hw
  obtain ⟨cd0, cd1, cd2, fd0, fd1, fd2⟩ := Xd.out
  have hned : gd < v2.heap.size := World.block_lt_of_cell? v2 _ cd0
  go_wp2_with fail
  clear cd0 cd1 cd2 fd0 fd1 fd2 hned
  have HRL : Hid (gr < v2.heap.size ∧ gd < v2.heap.size ∧ w.heap.size ≤ v2.heap.size) := ⟨Xr.out.lt, Xd.out.lt, hbw.size⟩
  obtain ⟨xs, hX⟩ := (H.out.zn.below hbw).ex
  have N6 : Hid (Nf B64 xs z.natAbs ∧ m ≤ 8192 ∧ s = decide (z < 0)) := ⟨hX.nf, hX.le, H.out.zn.sg⟩
  refine (dcopied s hX.at_ hX.le).mono ?_
  rintro e2 v5 ⟨p5, rfl, ho5, hb5⟩
  clear hX
  replace Xd : Hid _ := Xd.out.below hb5
  replace Xr : Hid _ := Xr.out.below hb5
  replace hbw := Below.on hbw hb5
  clear hb5
  have O5 : Hid (Own v2.heap.size v5 p5 m xs) := ho5
  clear ho5
  obtain ⟨hgd0, hgd1⟩ := HGD.out
  obtain ⟨cd0, cd1, cd2, fd0, fd1, fd2⟩ := Xd.out
  have hned : gd < v5.heap.size := World.block_lt_of_cell? v5 _ cd0
  obtain ⟨cr0, cr1, cr2, fr0, fr1, fr2⟩ := Xr.out
  have hner : gr < v5.heap.size := World.block_lt_of_cell? v5 _ cr0
  have q2 : (((v5.setCell ⟨gd, 0, none⟩ (.bool s)).setCell ⟨gd, 1, none⟩ (.slice p5 m m)).setCell ⟨gd, 2, none⟩ (.int .i64 e)).cell? ⟨gd, 2, none⟩ = some (.int .i64 e) := by go_simp
  have q3 : ((((v5.setCell ⟨gd, 0, none⟩ (.bool s)).setCell ⟨gd, 1, none⟩ (.slice p5 m m)).setCell ⟨gd, 2, none⟩ (.int .i64 e)).setCell ⟨gd, 2, none⟩ (.int .i64 (e + N))).cell? ⟨gd, 2, none⟩ = some (.int .i64 (e + N)) := World.cell?_setCell_same _ _ _ q2
  go_wp2_with fail
  refine bodyPost_ret (v := .tuple #[DV s p5 m m (e + N), .int .i64 0]) (by rw [results_cell_tmp rfl]; go_simp) rfl ⟨_, rfl, ⟨p5, m, xs, by rw [N6.out.2.2], ?_, N6.out.1, N6.out.2.1⟩, ?_⟩
  · exact own_set3 ((own_set3 O5.out HRL.out.2.1 (Nat.le_refl _) _ _ _).setOld _ _ _ HRL.out.2.1) HRL.out.1 HRL.out.2.2 _ _ _
  · exact bSet (bSet (bSet (bSet (bSet (bSet (bSet hbw _ _ _ HGd.out) _ _ _ HGd.out) _ _ _ HGd.out) _ _ _ HGd.out) _ _ _ HGr.out) _ _ _ HGr.out) _ _ _ HGr.out
end Go.Proofs.YtkiacehilnghiaaGreatDoor

namespace Go.Proofs.YtkiacehilnghiaaGreatDoor
open Go.RowKit Go.Shelf

theorem cmpI_le {a b : Int} (h : a ≤ b) : cmpI a b ≤ 0 := by
  unfold cmpI
  split
  · omega
  · rw [if_pos (by omega)]; omega
set_option maxRecDepth 20000 in
set_option maxHeartbeats 8000000 in
theorem between5 {p1 p2 p3 : Option Addr} {m1 c1 m2 c2 m3 c3 : Nat} {w : World} {z1 e1 z2 e2 z3 e3 : Int} {s1 s2 s3 : Bool} (h1 : DN w s1 p1 m1 c1 e1 z1) (h2 : DN w s2 p2 m2 c2 e2 z2) (h3 : DN w s3 p3 m3 c3 e3 z3) (hl : dv z1 e1 ≤ dv z2 e2) (hh : dv z2 e2 ≤ dv z3 e3) :
    Calls Tryz.prog 14 #[DV s1 p1 m1 c1 e1, DV s2 p2 m2 c2 e2, DV s3 p3 m3 c3 e3] w fun en w' => en = .returned (.bool true) ∧ Below w.heap.size w w' := by
  have H1 : Hid (DN w s1 p1 m1 c1 e1 z1) := h1
  have H2 : Hid (DN w s2 p2 m2 c2 e2 z2) := h2
  have H3 : Hid (DN w s3 p3 m3 c3 e3 z3) := h3
  obtain ⟨r1, hr1⟩ : ∃ r, r = cmpI (dv z1 e1) (dv z2 e2) := ⟨_, rfl⟩
  obtain ⟨r2, hr2⟩ : ∃ r, r = cmpI (dv z2 e2) (dv z3 e3) := ⟨_, rfl⟩
  have HR : Hid (cmpI (dv z1 e1) (dv z2 e2) = r1 ∧ cmpI (dv z2 e2) (dv z3 e3) = r2) := ⟨hr1.symm, hr2.symm⟩
  have f1 : r1 ≤ 0 := by rw [hr1]; exact cmpI_le hl
  have f2 : r2 ≤ 0 := by rw [hr2]; exact cmpI_le hh
  clear h1 h2 h3 hl hh hr1 hr2
  go_enter Tryz.func14, Tryz.ntmps14
  go_wp2_with fail
  obtain ⟨W0, hW0⟩ : ∃ W0, W0 = (((w.alloc (.cells #[.bool s1, .slice p1 m1 c1, .int .i64 e1] 26)).alloc (.cells #[.bool s2, .slice p2 m2 c2, .int .i64 e2] 26)).alloc (.cells #[.bool s3, .slice p3 m3 c3, .int .i64 e3] 26)) := ⟨_, rfl⟩
  have Xa : Hid (B3q W0 (w.heap.size) (.bool s1) (.slice p1 m1 c1) (.int .i64 e1)) := by rw [hW0]; exact ⟨by go_simp, by go_simp, by go_simp, by go_simp, by go_simp, by go_simp⟩
  have Xb : Hid (B3q W0 (w.heap.size + 1) (.bool s2) (.slice p2 m2 c2) (.int .i64 e2)) := by rw [hW0]; exact ⟨by go_simp, by go_simp, by go_simp, by go_simp, by go_simp, by go_simp⟩
  have Xc : Hid (B3q W0 (w.heap.size + 1 + 1) (.bool s3) (.slice p3 m3 c3) (.int .i64 e3)) := by rw [hW0]; exact ⟨by go_simp, by go_simp, by go_simp, by go_simp, by go_simp, by go_simp⟩
  have hb0 : Below w.heap.size w W0 := by rw [hW0]; exact below3 w _ _ _
  rw [← hW0]
  clear hW0
  have hbw : Below w.heap.size w w := Below.refl _ _
  obtain ⟨gc, hgc⟩ : ∃ g, g = w.heap.size + 1 + 1 := ⟨_, rfl⟩
  have HGc : Hid (w.heap.size ≤ gc) := by rw [hgc]; show _ ≤ _; omega
  rw [← hgc] at Xc
  try rw [← hgc]
  obtain ⟨gb, hgb⟩ : ∃ g, g = w.heap.size + 1 := ⟨_, rfl⟩
  have HGb : Hid (w.heap.size ≤ gb) := by rw [hgb]; show _ ≤ _; omega
  rw [← hgb] at Xb
  try rw [← hgb]
  obtain ⟨ga, hga⟩ : ∃ g, g = w.heap.size := ⟨_, rfl⟩
  have HGa : Hid (w.heap.size ≤ ga) := by rw [hga]; show _ ≤ _; omega
  rw [← hga] at Xa
  try rw [← hga]
  have HGD : Hid (ga ≠ gb ∧ ga ≠ gc ∧ gb ≠ ga ∧ gb ≠ gc ∧ gc ≠ ga ∧ gc ≠ gb) := by rw [hga, hgb, hgc]; exact ⟨by omega, by omega, by omega, by omega, by omega, by omega⟩
  clear hga hgb hgc
  replace hbw := Below.on hbw hb0
  clear hb0
  refine (dcmp (H1.out.below hbw) (H2.out.below hbw)).mono ?_
  rintro e v1 ⟨rfl, hb1⟩
  rw [HR.out.1]
  replace Xa : Hid _ := Xa.out.below hb1
  replace Xb : Hid _ := Xb.out.below hb1
  replace Xc : Hid _ := Xc.out.below hb1
  replace hbw := Below.on hbw hb1
  clear hb1
  obtain ⟨cb0, cb1, cb2, fb0, fb1, fb2⟩ := Xb.out
  have hneb : gb < v1.heap.size := World.block_lt_of_cell? v1 _ cb0
  obtain ⟨cc0, cc1, cc2, fc0, fc1, fc2⟩ := Xc.out
  have hnec : gc < v1.heap.size := World.block_lt_of_cell? v1 _ cc0
  go_wp2_with fail
  clear cb0 cb1 cb2 fb0 fb1 fb2 hneb
  clear cc0 cc1 cc2 fc0 fc1 fc2 hnec
  refine (dcmp (H2.out.below hbw) (H3.out.below hbw)).mono ?_
  rintro e v2 ⟨rfl, hb2⟩
  rw [HR.out.2]
  replace Xa : Hid _ := Xa.out.below hb2
  replace Xb : Hid _ := Xb.out.below hb2
  replace Xc : Hid _ := Xc.out.below hb2
  replace hbw := Below.on hbw hb2
  clear hb2
  go_wp2_with fail
  go_ret
  exact ⟨rfl, hbw⟩
set_option maxRecDepth 20000 in
set_option maxHeartbeats 8000000 in
theorem short5 {p : Option Addr} {m c : Nat} {w : World} {z e : Int} {P : Nat} {s : Bool} (h : DN w s p m c e z) (hP : 1 ≤ P ∧ P ≤ 70000) (hb : bitsN z.natAbs ≤ P) (hT : Tab w) :
    Calls Tryz.prog 20 #[DV s p m c e, .int .i64 P] w fun en w' => en = .returned (.bool true) ∧ Below w.heap.size w w' := by
  have H : Hid (DN w s p m c e z) := h
  have TB : Hid (Tab w) := hT
  have HP : Hid ((1 ≤ P ∧ P ≤ 70000) ∧ 0 = bitsN z.natAbs - P) := ⟨hP, by omega⟩
  have HV : Hid (∀ up, dv z e = dv (rd up z (2 ^ 0)) (e + ((0 : Nat) : Int))) := by
    intro up
    rw [Nat.pow_zero, rd_one, show e + ((0 : Nat) : Int) = e from by omega]
  clear h hT hP hb
  go_enter Tryz.func20, Tryz.ntmps20
  go_wp2_with fail
  obtain ⟨W0, hW0⟩ : ∃ W0, W0 = (w.alloc (.cells #[.bool s, .slice p m c, .int .i64 e] 26)) := ⟨_, rfl⟩
  have Xd : Hid (B3q W0 (w.heap.size) (.bool s) (.slice p m c) (.int .i64 e)) := by rw [hW0]; exact ⟨by go_simp, by go_simp, by go_simp, by go_simp, by go_simp, by go_simp⟩
  have hb0 : Below w.heap.size w W0 := by rw [hW0]; exact below1 w _
  rw [← hW0]
  clear hW0
  have hbw : Below w.heap.size w w := Below.refl _ _
  obtain ⟨gd, hgd⟩ : ∃ g, g = w.heap.size := ⟨_, rfl⟩
  have HGd : Hid (w.heap.size ≤ gd) := by rw [hgd]; show _ ≤ _; omega
  rw [← hgd] at Xd
  try rw [← hgd]
  clear hgd
  replace hbw := Below.on hbw hb0
  clear hb0
  refine (bits_d (H.out.below hbw) HP.out.1 HP.out.2 (TB.out.below hbw)).mono ?_
  rintro e2 v1 ⟨hv, hb1⟩
  obtain ⟨v, rfl, hv2⟩ := hv.form H.out.fm (HV.out false)
  obtain ⟨s1, p1, m1, rfl, hd⟩ := hv2.dn H.out.fm
  clear hv hv2
  replace Xd : Hid _ := Xd.out.below hb1
  replace hbw := Below.on hbw hb1
  clear hb1
  have D1 : Hid (DN v1 s1 p1 m1 m1 (e) (z)) := hd
  clear hd
  obtain ⟨cd0, cd1, cd2, fd0, fd1, fd2⟩ := Xd.out
  have hned : gd < v1.heap.size := World.block_lt_of_cell? v1 _ cd0
  go_wp2_with fail
  clear cd0 cd1 cd2 fd0 fd1 fd2 hned
  have Xa0 : Hid (B3q (v1.alloc (.cells #[.bool s1, .slice p1 m1 m1, .int .i64 e] 26)) v1.heap.size (.bool s1) (.slice p1 m1 m1) (.int .i64 e)) := B3q.new v1 _ _ _ _
  have hbn : Below v1.heap.size v1 (v1.alloc (.cells #[.bool s1, .slice p1 m1 m1, .int .i64 e] 26)) := below1 v1 _
  generalize v1.alloc (.cells #[.bool s1, .slice p1 m1 m1, .int .i64 e] 26) = Wa at *
  have HGa : Hid (w.heap.size ≤ v1.heap.size) := hbw.size
  replace Xd : Hid _ := Xd.out.below hbn
  replace D1 : Hid _ := D1.out.below hbn
  replace hbw := Below.on hbw hbn
  clear hbn
  generalize v1.heap.size = ga at *
  have Xa := Xa0
  clear Xa0
  refine (bits_u (H.out.below hbw) HP.out.1 HP.out.2 (TB.out.below hbw)).mono ?_
  rintro e2 v2 ⟨hv, hb2⟩
  obtain ⟨v, rfl, hv2⟩ := hv.form H.out.fm (HV.out true)
  obtain ⟨s2, p2, m2, rfl, hd⟩ := hv2.dn H.out.fm
  clear hv hv2
  replace Xd : Hid _ := Xd.out.below hb2
  replace Xa : Hid _ := Xa.out.below hb2
  replace D1 : Hid _ := D1.out.below hb2
  replace hbw := Below.on hbw hb2
  clear hb2
  have D2 : Hid (DN v2 s2 p2 m2 m2 (e) (z)) := hd
  clear hd
  obtain ⟨ca0, ca1, ca2, fa0, fa1, fa2⟩ := Xa.out
  have hnea : ga < v2.heap.size := World.block_lt_of_cell? v2 _ ca0
  obtain ⟨cd0, cd1, cd2, fd0, fd1, fd2⟩ := Xd.out
  have hned : gd < v2.heap.size := World.block_lt_of_cell? v2 _ cd0
  go_wp2_with fail
  clear ca0 ca1 ca2 fa0 fa1 fa2 hnea
  clear cd0 cd1 cd2 fd0 fd1 fd2 hned
  have Xb0 : Hid (B3q (v2.alloc (.cells #[.bool s2, .slice p2 m2 m2, .int .i64 e] 26)) v2.heap.size (.bool s2) (.slice p2 m2 m2) (.int .i64 e)) := B3q.new v2 _ _ _ _
  have hbn : Below v2.heap.size v2 (v2.alloc (.cells #[.bool s2, .slice p2 m2 m2, .int .i64 e] 26)) := below1 v2 _
  generalize v2.alloc (.cells #[.bool s2, .slice p2 m2 m2, .int .i64 e] 26) = Wb at *
  have HGb : Hid (w.heap.size ≤ v2.heap.size) := hbw.size
  replace Xd : Hid _ := Xd.out.below hbn
  replace Xa : Hid _ := Xa.out.below hbn
  replace D1 : Hid _ := D1.out.below hbn
  replace D2 : Hid _ := D2.out.below hbn
  replace hbw := Below.on hbw hbn
  clear hbn
  generalize v2.heap.size = gb at *
  have Xb := Xb0
  clear Xb0
  refine (same5 D1.out (H.out.below hbw)).mono ?_
  rintro e v3 ⟨rfl, hb3⟩
  replace Xd : Hid _ := Xd.out.below hb3
  replace Xa : Hid _ := Xa.out.below hb3
  replace Xb : Hid _ := Xb.out.below hb3
  replace D1 : Hid _ := D1.out.below hb3
  replace D2 : Hid _ := D2.out.below hb3
  replace hbw := Below.on hbw hb3
  clear hb3
  obtain ⟨cb0, cb1, cb2, fb0, fb1, fb2⟩ := Xb.out
  have hneb : gb < v3.heap.size := World.block_lt_of_cell? v3 _ cb0
  obtain ⟨cd0, cd1, cd2, fd0, fd1, fd2⟩ := Xd.out
  have hned : gd < v3.heap.size := World.block_lt_of_cell? v3 _ cd0
  go_wp2_with fail
  clear cb0 cb1 cb2 fb0 fb1 fb2 hneb
  clear cd0 cd1 cd2 fd0 fd1 fd2 hned
  refine (same5 D2.out (H.out.below hbw)).mono ?_
  rintro e v4 ⟨rfl, hb4⟩
  replace Xd : Hid _ := Xd.out.below hb4
  replace Xa : Hid _ := Xa.out.below hb4
  replace Xb : Hid _ := Xb.out.below hb4
  replace D1 : Hid _ := D1.out.below hb4
  replace D2 : Hid _ := D2.out.below hb4
  replace hbw := Below.on hbw hb4
  clear hb4
  go_wp2_with fail
  go_ret
  exact ⟨rfl, hbw⟩
set_option maxRecDepth 20000 in
set_option maxHeartbeats 8000000 in
theorem step5 {w : World} {N : Int} (hN : -1048576 ≤ N ∧ N ≤ 1048576) (hT : Tab w) :
    Calls Tryz.prog 22 #[.int .i64 N] w fun en w' => ∃ v, en = .returned (.tuple #[v, .int .i64 0]) ∧ AnsD w.heap.size w' v 1 N ∧ Below w.heap.size w w' := by
  have TB : Hid (Tab w) := hT
  have HN : Hid (-1048576 ≤ 0 + N ∧ 0 + N ≤ 1048576) := by rw [Int.zero_add]; exact hN
  clear hN hT
  go_enter Tryz.func22, Tryz.ntmps22
  go_wp2_with fail
  obtain ⟨W0, hW0⟩ : ∃ W0, W0 = (w.alloc (.cells #[.bool false, .slice none 0 0, .int .i64 0] 26)) := ⟨_, rfl⟩
  have Xr : Hid (B3q W0 (w.heap.size) (.bool false) (.slice none 0 0) (.int .i64 0)) := by rw [hW0]; exact ⟨by go_simp, by go_simp, by go_simp, by go_simp, by go_simp, by go_simp⟩
  have hb0 : Below w.heap.size w W0 := by rw [hW0]; exact below1 w _
  rw [← hW0]
  clear hW0
  have hbw : Below w.heap.size w w := Below.refl _ _
  obtain ⟨gr, hgr⟩ : ∃ g, g = w.heap.size := ⟨_, rfl⟩
  have HGr : Hid (w.heap.size ≤ gr) := by rw [hgr]; show _ ≤ _; omega
  rw [← hgr] at Xr
  try rw [← hgr]
  clear hgr
  replace hbw := Below.on hbw hb0
  clear hb0
  refine (dof1 (TB.out.below hbw)).mono ?_
  rintro e2 v1 ⟨s1, p1, m1, rfl, hd, hb1⟩
  replace Xr : Hid _ := Xr.out.below hb1
  replace hbw := Below.on hbw hb1
  clear hb1
  have D1 : Hid (DN v1 s1 p1 m1 m1 (0) (1)) := hd
  clear hd
  go_wp2_with fail
  have HRL : Hid (gr < v1.heap.size ∧ w.heap.size ≤ v1.heap.size) := ⟨Xr.out.lt, hbw.size⟩
  refine (dscale D1.out (by decide) HN.out).mono ?_
  rintro e2 v6 ⟨v, rfl, hv, hb6⟩
  rw [Int.zero_add] at hv
  obtain ⟨p6, m6, z6, rfl, ho6, hn6, hm6⟩ := hv
  replace Xr : Hid _ := Xr.out.below hb6
  replace D1 : Hid _ := D1.out.below hb6
  replace hbw := Below.on hbw hb6
  clear hb6
  have O6 : Hid (Own v1.heap.size v6 p6 m6 z6) := ho6
  have N6 : Hid (Nf B64 z6 (1 : Int).natAbs ∧ m6 ≤ 8192) := ⟨hn6, hm6⟩
  clear ho6 hn6 hm6
  obtain ⟨cr0, cr1, cr2, fr0, fr1, fr2⟩ := Xr.out
  have hner : gr < v6.heap.size := World.block_lt_of_cell? v6 _ cr0
  go_wp2_with fail
  refine bodyPost_ret (v := .tuple #[DV false p6 m6 m6 N, .int .i64 0]) (by rw [results_cell_tmp rfl]; go_simp) rfl ⟨_, rfl, ⟨p6, m6, z6, rfl, own_set3 O6.out HRL.out.1 HRL.out.2 _ _ _, N6.out.1, N6.out.2⟩, ?_⟩
  exact bSet (bSet (bSet hbw _ _ _ HGr.out) _ _ _ HGr.out) _ _ _ HGr.out
end Go.Proofs.YtkiacehilnghiaaGreatDoor

namespace Go.Proofs.YtkiacehilnghiaaGreatDoor
open Go.RowKit Go.Shelf

def GP (up : Bool) (z e E zo eo : Int) : Prop := DFm zo eo ∧ ((E ≤ e ∧ zo = z ∧ eo = e) ∨ (e < E ∧ dv zo eo = dv (rd up z (2 ^ (E - e).toNat)) E ∧ (zo = 0 ∨ E ≤ eo)))
theorem dv_grid {F e E : Int} (h : e < E) (he : -4194304 ≤ e) : dv F E = dv (F * ((2 ^ (E - e).toNat : Nat) : Int)) e := dv_shift (by omega) he
theorem GP.lo {z e E zo eo : Int} (h : GP false z e E zo eo) (he : -4194304 ≤ e) : dv zo eo ≤ dv z e := by
  rcases h.2 with ⟨_, rfl, rfl⟩ | ⟨h1, h2, _⟩
  · exact Int.le_refl _
  · rw [h2, dv_grid h1 he]
    exact dv_le _ (rd_down z (Nat.pow_pos (by omega))).1
theorem GP.hi {z e E zo eo : Int} (h : GP true z e E zo eo) (he : -4194304 ≤ e) : dv z e ≤ dv zo eo := by
  rcases h.2 with ⟨_, rfl, rfl⟩ | ⟨h1, h2, _⟩
  · exact Int.le_refl _
  · rw [h2, dv_grid h1 he]
    exact dv_le _ (rd_up z (Nat.pow_pos (by omega))).1
theorem GP.gap {z e E zl el zh eh : Int} (hl : GP false z e E zl el) (hh : GP true z e E zh eh) (he : -1048576 ≤ e) (hb : bitsN z.natAbs ≤ 524288) (hne : ¬ (zl = zh ∧ el = eh)) :
    e < E ∧ (zl = 0 ∨ E ≤ el) ∧ (zh = 0 ∨ E ≤ eh) ∧ dv zl el = dv zh eh - dv 1 E ∧ (zh ≠ 0 → (zh * 2 ^ (eh - min eh E).toNat).natAbs < LIM ∧ ((1 : Int) * 2 ^ (E - min eh E).toNat).natAbs < LIM ∧ (zh * 2 ^ (eh - min eh E).toNat - 1 * 2 ^ (E - min eh E).toNat).natAbs < LIM) := by
  rcases hl.2 with ⟨h1, h2, h3⟩ | ⟨h1, h2, h3⟩
  · rcases hh.2 with ⟨_, g2, g3⟩ | ⟨g1, _⟩
    · exact absurd ⟨by rw [h2, g2], by rw [h3, g3]⟩ hne
    · omega
  · rcases hh.2 with ⟨g1, _⟩ | ⟨_, g2, g3⟩
    · omega
    · have hs := rd_step z (d := 2 ^ (E - e).toNat) (Nat.pow_pos (by omega))
      have hsz := rd_size true (n := (E - e).toNat) (bitsN_lt z.natAbs)
      have hC : rd true z (2 ^ (E - e).toNat) = rd false z (2 ^ (E - e).toNat) + 1 := by
        rcases hs with ⟨h4, _⟩ | h4
        · rw [h4, ← h2] at g2
          obtain ⟨a1, a2⟩ := dv_inj hl.1 hh.1 g2.symm
          exact absurd ⟨a1, a2⟩ hne
        · exact h4
      generalize rd true z (2 ^ (E - e).toNat) = C at *
      generalize rd false z (2 ^ (E - e).toNat) = F at *
      refine ⟨h1, h3, g3, by rw [h2, g2, hC, dv_add]; omega, ?_⟩
      intro h0
      have h5 : E ≤ eh := by rcases g3 with g3 | g3; (exact absurd g3 h0); exact g3
      have h6 := form_len (h := E) g2 (by omega) h5 (by omega)
      rw [show min eh E = E from by omega, show (E - E).toNat = 0 from by omega]
      generalize zh * 2 ^ (eh - E).toNat = X at *
      obtain ⟨L, hL⟩ : ∃ L, L = bitsN z.natAbs - (E - e).toNat := ⟨_, rfl⟩
      rw [← hL] at hsz
      have h7 : 2 ^ (L + 1) = 2 * 2 ^ L := by rw [Nat.pow_succ]; omega
      have h8 : 0 < 2 ^ L := Nat.pow_pos (by omega)
      refine ⟨lt_LIM (L := L + 1) (by omega) (by omega), lt_LIM (L := 1) (by decide) (by omega), ?_⟩
      refine Nat.lt_of_le_of_lt (m := 2 ^ L + 1) (by omega) ?_
      rcases Nat.eq_zero_or_pos L with h9 | h9
      · subst h9; exact lt_LIM (L := 2) (by decide) (by omega)
      · exact lt_LIM (L := L + 1) (by have : 2 ≤ 2 ^ L := by { have := Nat.pow_le_pow_right (show 0 < 2 by omega) h9; omega }; omega) (by omega)
end Go.Proofs.YtkiacehilnghiaaGreatDoor

namespace Go.Proofs.YtkiacehilnghiaaGreatDoor
open Go.RowKit Go.Shelf

set_option maxRecDepth 20000 in
set_option maxHeartbeats 8000000 in
theorem told5l {p q : Option Addr} {m c n d : Nat} {w : World} {z e : Int} {s t : Bool} (h : DN w s p m c e z) (k : DN w t q n d e z) :
    Calls Tryz.prog 33 #[DV s p m c e, .int .i64 0, DV t q n d e, .int .i64 0] w fun en w' => en = .returned (.bool true) ∧ Below w.heap.size w w' := by
  have H : Hid (DN w s p m c e z) := h
  have K : Hid (DN w t q n d e z) := k
  clear h k
  go_enter Tryz.func33, Tryz.ntmps33
  go_wp2_with fail
  obtain ⟨W0, hW0⟩ : ∃ W0, W0 = ((w.alloc (.cells #[.bool s, .slice p m c, .int .i64 e] 26)).alloc (.cells #[.bool t, .slice q n d, .int .i64 e] 26)) := ⟨_, rfl⟩
  have Xa : Hid (B3q W0 (w.heap.size) (.bool s) (.slice p m c) (.int .i64 e)) := by rw [hW0]; exact ⟨by go_simp, by go_simp, by go_simp, by go_simp, by go_simp, by go_simp⟩
  have Xb : Hid (B3q W0 (w.heap.size + 1) (.bool t) (.slice q n d) (.int .i64 e)) := by rw [hW0]; exact ⟨by go_simp, by go_simp, by go_simp, by go_simp, by go_simp, by go_simp⟩
  have hb0 : Below w.heap.size w W0 := by rw [hW0]; exact below2 w _ _
  rw [← hW0]
  clear hW0
  have hbw : Below w.heap.size w w := Below.refl _ _
  obtain ⟨gb, hgb⟩ : ∃ g, g = w.heap.size + 1 := ⟨_, rfl⟩
  have HGb : Hid (w.heap.size ≤ gb) := by rw [hgb]; show _ ≤ _; omega
  rw [← hgb] at Xb
  try rw [← hgb]
  obtain ⟨ga, hga⟩ : ∃ g, g = w.heap.size := ⟨_, rfl⟩
  have HGa : Hid (w.heap.size ≤ ga) := by rw [hga]; show _ ≤ _; omega
  rw [← hga] at Xa
  try rw [← hga]
  have HGD : Hid (ga ≠ gb ∧ gb ≠ ga) := by rw [hga, hgb]; exact ⟨by omega, by omega⟩
  clear hga hgb
  replace hbw := Below.on hbw hb0
  clear hb0
  refine (sameD_t (H.out.below hbw) (K.out.below hbw)).mono ?_
  rintro e v1 ⟨rfl, hb1⟩
  replace Xa : Hid _ := Xa.out.below hb1
  replace Xb : Hid _ := Xb.out.below hb1
  replace hbw := Below.on hbw hb1
  clear hb1
  go_wp2_with fail
  go_ret
  exact ⟨rfl, hbw⟩
set_option maxRecDepth 20000 in
set_option maxHeartbeats 8000000 in
theorem awake5 (w : World) (hT : Tab w) :
    Calls Tryz.prog 9 #[] w fun en w' => en = .returned (.bool true) ∧ Below w.heap.size w w' := by
  have TB : Hid (Tab w) := hT
  have hbw : Below w.heap.size w w := Below.refl _ _
  clear hT
  go_enter Tryz.func9, Tryz.ntmps9
  go_wp2_with fail
  refine (num5 (3) (0) (by decide) (by decide) (by decide)).mono ?_
  rintro e2 v1 ⟨s1, g1, m1, c1, rfl, _, hd1, hb1⟩
  replace hbw := Below.on hbw hb1
  clear hb1
  have D1 : Hid (DN v1 s1 (some ⟨g1, 0, none⟩) m1 c1 (0) (3)) := hd1
  clear hd1
  go_wp2_with fail
  refine (num5 (1) (-2) (by decide) (by decide) (by decide)).mono ?_
  rintro e2 v2 ⟨s2, g2, m2, c2, rfl, _, hd2, hb2⟩
  replace D1 : Hid _ := D1.out.below hb2
  replace hbw := Below.on hbw hb2
  clear hb2
  have D2 : Hid (DN v2 s2 (some ⟨g2, 0, none⟩) m2 c2 (-2) (1)) := hd2
  clear hd2
  go_wp2_with fail
  have HBX : Hid (DB 3 0 10 10 ∧ DB 1 (-2) 10 10) := ⟨⟨.inr ⟨by decide, by decide, by decide⟩, by decide, by decide, by decide⟩, ⟨.inr ⟨by decide, by decide, by decide⟩, by decide, by decide, by decide⟩⟩
  refine (dadd_b D1.out D2.out HBX.out.1 HBX.out.2 (by decide) (TB.out.below hbw)).mono ?_
  rintro e2 v3 ⟨v, z3, e3, rfl, hv, hdb, hdv, hb3⟩
  have h9 : z3 = 13 ∧ e3 = -2 := dv_inj hdb.fm (.inr ⟨by decide, by decide, by decide⟩) (by rw [hdv, dv_shift (z := 3) (e := 0) (f := -2) (by decide) (by decide), ← dv_add]; rfl)
  obtain ⟨rfl, rfl⟩ := h9
  obtain ⟨s3, p3, m3, rfl, hd3⟩ := hv.dn hdb.fm
  clear hv hdb hdv
  replace D1 : Hid _ := D1.out.below hb3
  replace D2 : Hid _ := D2.out.below hb3
  replace hbw := Below.on hbw hb3
  clear hb3
  have D3 : Hid (DN v3 s3 p3 m3 m3 (-2) 13) := hd3
  clear hd3
  clear D1
  clear D2
  go_wp2_with fail
  have Xa0 : Hid (B3q (v3.alloc (.cells #[.bool s3, .slice p3 m3 m3, .int .i64 (-2)] 26)) v3.heap.size (.bool s3) (.slice p3 m3 m3) (.int .i64 (-2))) := B3q.new v3 _ _ _ _
  have hbn : Below v3.heap.size v3 (v3.alloc (.cells #[.bool s3, .slice p3 m3 m3, .int .i64 (-2)] 26)) := below1 v3 _
  generalize v3.alloc (.cells #[.bool s3, .slice p3 m3 m3, .int .i64 (-2)] 26) = Wa at *
  have HGa : Hid (w.heap.size ≤ v3.heap.size) := hbw.size
  replace D3 : Hid _ := D3.out.below hbn
  replace hbw := Below.on hbw hbn
  clear hbn
  generalize v3.heap.size = ga at *
  have Xa := Xa0
  clear Xa0
  refine (num5 (-1) (4) (by decide) (by decide) (by decide)).mono ?_
  rintro e2 v4 ⟨s4, g4, m4, c4, rfl, _, hd4, hb4⟩
  replace Xa : Hid _ := Xa.out.below hb4
  replace D3 : Hid _ := D3.out.below hb4
  replace hbw := Below.on hbw hb4
  clear hb4
  have D4 : Hid (DN v4 s4 (some ⟨g4, 0, none⟩) m4 c4 (4) (-1)) := hd4
  clear hd4
  go_wp2_with fail
  refine (num5 (1) (-9) (by decide) (by decide) (by decide)).mono ?_
  rintro e2 v5 ⟨s5, g5, m5, c5, rfl, _, hd5, hb5⟩
  replace Xa : Hid _ := Xa.out.below hb5
  replace D3 : Hid _ := D3.out.below hb5
  replace D4 : Hid _ := D4.out.below hb5
  replace hbw := Below.on hbw hb5
  clear hb5
  have D5 : Hid (DN v5 s5 (some ⟨g5, 0, none⟩) m5 c5 (-9) (1)) := hd5
  clear hd5
  go_wp2_with fail
  refine (dcmp_s D4.out D5.out (by decide) (by decide)).mono ?_
  rintro e v6 ⟨rfl, hb6⟩
  replace Xa : Hid _ := Xa.out.below hb6
  replace D3 : Hid _ := D3.out.below hb6
  replace D4 : Hid _ := D4.out.below hb6
  replace D5 : Hid _ := D5.out.below hb6
  replace hbw := Below.on hbw hb6
  clear hb6
  clear D4
  clear D5
  obtain ⟨ca0, ca1, ca2, fa0, fa1, fa2⟩ := Xa.out
  have hnea : ga < v6.heap.size := World.block_lt_of_cell? v6 _ ca0
  go_wp2_with fail
  clear ca0 ca1 ca2 fa0 fa1 fa2 hnea
  obtain ⟨Wz, hWz⟩ : ∃ W1, W1 = v6.drew := ⟨_, rfl⟩
  have hbd : Below v6.heap.size v6 Wz := by rw [hWz]; exact bDrew1 (Below.refl _ _)
  replace Xa : Hid _ := Xa.out.below hbd
  replace D3 : Hid _ := D3.out.below hbd
  replace hbw := Below.on hbw hbd
  clear hbd
  have HJ : Hid ((fun W' : World => W'.cell? ⟨ga, 0, none⟩ = some (.bool s3) ∧ W'.cell? ⟨ga, 1, none⟩ = some (.slice p3 m3 m3) ∧ W'.cell? ⟨ga, 2, none⟩ = some (.int .i64 (-2))) Wz) := ⟨Xa.out.c0, Xa.out.c1, Xa.out.c2⟩
  refine wp_region_J (fun W' => W'.cell? ⟨ga, 0, none⟩ = some (.bool s3) ∧ W'.cell? ⟨ga, 1, none⟩ = some (.slice p3 m3 m3) ∧ W'.cell? ⟨ga, 2, none⟩ = some (.int .i64 (-2))) (by kernel_rfl) ?_
  rw [← hWz]
  clear hWz
  refine wpJ_take (i := 0) (v := ?v1x0) rfl (by kernel_rfl) (by kernel_rfl) (by kernel_rfl) (fun _ _ _ h => h) (by kernel_rfl) ?hy1x0 HJ.out ?rest1x0
  case hy1x0 => (intro W' hJ; obtain ⟨j0, j1, j2⟩ := hJ; go_simp; first | done | with_reducible rfl)
  refine wpJ_take (i := 1) (v := ?v2x1) rfl (by kernel_rfl) (by kernel_rfl) (by kernel_rfl) (fun _ _ _ h => h) (by kernel_rfl) ?hy2x1 HJ.out ?rest2x1
  case hy2x1 => (intro W' hJ; obtain ⟨j0, j1, j2⟩ := hJ; go_simp; first | done | with_reducible rfl)
  refine wpJ_one (i := 2) (by kernel_rfl) rfl (by kernel_rfl) (fun KJ hK => ?_)
  go_simp
  refine (num5 (13) (-2) (by decide) (by decide) (by decide)).mono ?_
  rintro e2 v7 ⟨s7, g7, m7, c7, rfl, _, hd7, hb7⟩
  replace Xa : Hid _ := Xa.out.below hb7
  replace D3 : Hid _ := D3.out.below hb7
  replace hbw := Below.on hbw hb7
  clear hb7
  have D7 : Hid (DN v7 s7 (some ⟨g7, 0, none⟩) m7 c7 (-2) (13)) := hd7
  clear hd7
  refine hK _ _ ⟨Xa.out.c0, Xa.out.c1, Xa.out.c2⟩ ?_
  clear hK
  refine wpJ_one (i := 3) (by kernel_rfl) rfl (by kernel_rfl) (fun KJ hK => ?_)
  go_simp
  refine (told5l D3.out D7.out).mono ?_
  rintro e v8 ⟨rfl, hb8⟩
  replace Xa : Hid _ := Xa.out.below hb8
  replace D3 : Hid _ := D3.out.below hb8
  replace D7 : Hid _ := D7.out.below hb8
  replace hbw := Below.on hbw hb8
  clear hb8
  clear HJ
  have HJ : Hid ((fun W' : World => W'.cell? ⟨ga, 0, none⟩ = some (.bool s3) ∧ W'.cell? ⟨ga, 1, none⟩ = some (.slice p3 m3 m3) ∧ W'.cell? ⟨ga, 2, none⟩ = some (.int .i64 (-2))) v8) := ⟨Xa.out.c0, Xa.out.c1, Xa.out.c2⟩
  refine hK _ _ HJ.out ?_
  clear hK
  refine wpJ_take (i := 4) (v := ?v3x4) rfl (by kernel_rfl) (by kernel_rfl) (by kernel_rfl) (fun _ _ _ h => h) (by kernel_rfl) ?hy3x4 HJ.out ?rest3x4
  case hy3x4 => (intro W' hJ; obtain ⟨j0, j1, j2⟩ := hJ; go_simp; first | done | with_reducible rfl)
  refine wpJ_take (i := 5) (v := ?v4x5) rfl (by kernel_rfl) (by kernel_rfl) (by kernel_rfl) (fun _ _ _ h => h) (by kernel_rfl) ?hy4x5 HJ.out ?rest4x5
  case hy4x5 => (intro W' hJ; obtain ⟨j0, j1, j2⟩ := hJ; go_simp; first | done | with_reducible rfl)
  refine wpJ_take (i := 6) (v := ?v5x6) rfl (by kernel_rfl) (by kernel_rfl) (by kernel_rfl) (fun _ _ _ h => h) (by kernel_rfl) ?hy5x6 HJ.out ?rest5x6
  case hy5x6 => (intro W' hJ; obtain ⟨j0, j1, j2⟩ := hJ; go_simp; first | done | with_reducible rfl)
  refine wpJ_take (i := 7) (v := ?v6x7) rfl (by kernel_rfl) (by kernel_rfl) (by kernel_rfl) (fun _ _ _ h => h) (by kernel_rfl) ?hy6x7 HJ.out ?rest6x7
  case hy6x7 => (intro W' hJ; obtain ⟨j0, j1, j2⟩ := hJ; go_simp; first | done | with_reducible rfl)
  refine wpJ_take (i := 8) (v := ?v7x8) rfl (by kernel_rfl) (by kernel_rfl) (by kernel_rfl) (fun _ _ _ h => h) (by kernel_rfl) ?hy7x8 HJ.out ?rest7x8
  case hy7x8 => (intro W' hJ; obtain ⟨j0, j1, j2⟩ := hJ; go_simp; first | done | with_reducible rfl)
  refine wpJ_take (i := 9) (v := ?v8x9) rfl (by kernel_rfl) (by kernel_rfl) (by kernel_rfl) (fun _ _ _ h => h) (by kernel_rfl) ?hy8x9 HJ.out ?rest8x9
  case hy8x9 => (intro W' hJ; obtain ⟨j0, j1, j2⟩ := hJ; go_simp; first | done | with_reducible rfl)
  refine wpJ_take (i := 10) (v := ?v9x10) rfl (by kernel_rfl) (by kernel_rfl) (by kernel_rfl) (fun _ _ _ h => h) (by kernel_rfl) ?hy9x10 HJ.out ?rest9x10
  case hy9x10 => (intro W' hJ; obtain ⟨j0, j1, j2⟩ := hJ; go_simp; first | done | with_reducible rfl)
  refine wpJ_take (i := 11) (v := ?v10x11) rfl (by kernel_rfl) (by kernel_rfl) (by kernel_rfl) (fun _ _ _ h => h) (by kernel_rfl) ?hy10x11 HJ.out ?rest10x11
  case hy10x11 => (intro W' hJ; obtain ⟨j0, j1, j2⟩ := hJ; go_simp; first | done | with_reducible rfl)
  refine wpJ_take (i := 12) (v := ?v11x12) rfl (by kernel_rfl) (by kernel_rfl) (by kernel_rfl) (fun _ _ _ h => h) (by kernel_rfl) ?hy11x12 HJ.out ?rest11x12
  case hy11x12 => (intro W' hJ; obtain ⟨j0, j1, j2⟩ := hJ; go_simp; first | done | with_reducible rfl)
  refine wpJ_one (i := 13) (by kernel_rfl) rfl (by kernel_rfl) (fun KJ hK => ?_)
  go_simp
  refine (dof12 (TB.out.below hbw)).mono ?_
  rintro e2 v9 ⟨s9, p9, m9, rfl, hd9, hb9⟩
  replace Xa : Hid _ := Xa.out.below hb9
  replace D3 : Hid _ := D3.out.below hb9
  replace D7 : Hid _ := D7.out.below hb9
  replace hbw := Below.on hbw hb9
  clear hb9
  have D9 : Hid (DN v9 s9 p9 m9 m9 2 3) := hd9
  clear hd9
  refine hK _ _ ⟨Xa.out.c0, Xa.out.c1, Xa.out.c2⟩ ?_
  clear hK
  refine wpJ_one (i := 14) (by kernel_rfl) rfl (by kernel_rfl) (fun KJ hK => ?_)
  go_simp
  refine (num5 (3) (2) (by decide) (by decide) (by decide)).mono ?_
  rintro e2 v10 ⟨s10, g10, m10, c10, rfl, _, hd10, hb10⟩
  replace Xa : Hid _ := Xa.out.below hb10
  replace D3 : Hid _ := D3.out.below hb10
  replace D7 : Hid _ := D7.out.below hb10
  replace D9 : Hid _ := D9.out.below hb10
  replace hbw := Below.on hbw hb10
  clear hb10
  have D10 : Hid (DN v10 s10 (some ⟨g10, 0, none⟩) m10 c10 (2) (3)) := hd10
  clear hd10
  refine hK _ _ ⟨Xa.out.c0, Xa.out.c1, Xa.out.c2⟩ ?_
  clear hK
  refine wpJ_one (i := 15) (by kernel_rfl) rfl (by kernel_rfl) (fun KJ hK => ?_)
  go_simp
  refine (sameD_t D9.out D10.out).mono ?_
  rintro e v11 ⟨rfl, hb11⟩
  replace Xa : Hid _ := Xa.out.below hb11
  replace D3 : Hid _ := D3.out.below hb11
  replace D7 : Hid _ := D7.out.below hb11
  replace D9 : Hid _ := D9.out.below hb11
  replace D10 : Hid _ := D10.out.below hb11
  replace hbw := Below.on hbw hb11
  clear hb11
  clear HJ
  have HJ : Hid ((fun W' : World => W'.cell? ⟨ga, 0, none⟩ = some (.bool s3) ∧ W'.cell? ⟨ga, 1, none⟩ = some (.slice p3 m3 m3) ∧ W'.cell? ⟨ga, 2, none⟩ = some (.int .i64 (-2))) v11) := ⟨Xa.out.c0, Xa.out.c1, Xa.out.c2⟩
  refine hK _ _ HJ.out ?_
  clear hK
  refine wpJ_take (i := 16) (v := ?v12x16) rfl (by kernel_rfl) (by kernel_rfl) (by kernel_rfl) (fun _ _ _ h => h) (by kernel_rfl) ?hy12x16 HJ.out ?rest12x16
  case hy12x16 => (intro W' hJ; obtain ⟨j0, j1, j2⟩ := hJ; go_simp; first | done | with_reducible rfl)
  refine wpJ_take (i := 17) (v := ?v13x17) rfl (by kernel_rfl) (by kernel_rfl) (by kernel_rfl) (fun _ _ _ h => h) (by kernel_rfl) ?hy13x17 HJ.out ?rest13x17
  case hy13x17 => (intro W' hJ; obtain ⟨j0, j1, j2⟩ := hJ; go_simp; first | done | with_reducible rfl)
  refine wpJ_done (by kernel_rfl) ?_ _
  clear HJ
  go_wp2_with fail
  go_ret
  exact ⟨rfl, hbw⟩
end Go.Proofs.YtkiacehilnghiaaGreatDoor

