import Derived.Test.YteoccegpbonfpaaDoorJ11
namespace Go.Proofs.YteoccegpbonfpaaDoor
open Go.RowKit Go.Shelf
set_option maxRecDepth 20000
set_option maxHeartbeats 0
theorem halved_52 (w : World) :
    Calls Tryd.prog 37 #[.agg #[.int .u64 11743562013128004905, .int .u64 18169587780923219392, .int .u64 15808362127397457985, .int .u64 18325537948574664033], .int .i64 52] w fun en w' => en = .returned (.agg #[.int .u64 2607, .int .u64 10968205611507032002, .int .u64 8465957317175414198, .int .u64 2979575099461738469]) ∧ Below w.heap.size w w' := by
  have wf0_ : IntKind.i64.wrap (12) = 12 := by kernel_rfl
  have wf1_ : IntKind.i64.wrap (2) = 2 := by kernel_rfl
  have wf2_ : IntKind.i64.wrap (1) = 1 := by kernel_rfl
  have wf3_ : IntKind.i64.wrap (0) = 0 := by kernel_rfl
  have wr1 : IntKind.u64.wrap (64751051273819987906560) = 2979575099461734400 := by kernel_rfl
  have br2 : bits BinOp.or IntKind.u64 (4069) (2979575099461734400) = 2979575099461738469 := by kernel_rfl
  have wr3 : IntKind.u64.wrap (74422631550661506629632) = 8465957317175410688 := by kernel_rfl
  have br4 : bits BinOp.or IntKind.u64 (3510) (8465957317175410688) = 8465957317175414198 := by kernel_rfl
  have wr5 : IntKind.u64.wrap (48101630005772308090880) = 10968205611507027968 := by kernel_rfl
  have br6 : bits BinOp.or IntKind.u64 (4034) (10968205611507027968) = 10968205611507032002 := by kernel_rfl
  go_enter Tryd.func37, Tryd.ntmps37
  go_wp2_with fail
  obtain ⟨W0, hW0⟩ : ∃ W0, W0 = ((w.alloc (.cells #[.int .u64 11743562013128004905, .int .u64 18169587780923219392, .int .u64 15808362127397457985, .int .u64 18325537948574664033] 56)).alloc (.cells #[.int .u64 0, .int .u64 0, .int .u64 0, .int .u64 0] 56)) := ⟨_, rfl⟩
  have Xq : Hid (B4q W0 (w.heap.size) (.int .u64 11743562013128004905) (.int .u64 18169587780923219392) (.int .u64 15808362127397457985) (.int .u64 18325537948574664033)) := by rw [hW0]; exact ⟨by go_simp, by go_simp, by go_simp, by go_simp, by go_simp, by go_simp, by go_simp, by go_simp⟩
  have Xr : Hid (B4q W0 (w.heap.size + 1) (.int .u64 0) (.int .u64 0) (.int .u64 0) (.int .u64 0)) := by rw [hW0]; exact ⟨by go_simp, by go_simp, by go_simp, by go_simp, by go_simp, by go_simp, by go_simp, by go_simp⟩
  have hb0 : Below w.heap.size w W0 := by rw [hW0]; exact below2 w _ _
  rw [← hW0]
  clear hW0
  have hbw : Below w.heap.size w w := Below.refl _ _
  obtain ⟨gr, hgr⟩ : ∃ g, g = w.heap.size + 1 := ⟨_, rfl⟩
  have HGr : Hid (w.heap.size ≤ gr) := by rw [hgr]; show _ ≤ _; omega
  rw [← hgr] at Xr
  try rw [← hgr]
  obtain ⟨gq, hgq⟩ : ∃ g, g = w.heap.size := ⟨_, rfl⟩
  have HGq : Hid (w.heap.size ≤ gq) := by rw [hgq]; show _ ≤ _; omega
  rw [← hgq] at Xq
  try rw [← hgq]
  have HGD : Hid (gq ≠ gr ∧ gr ≠ gq) := by rw [hgq, hgr]; exact ⟨by omega, by omega⟩
  clear hgq hgr
  replace hbw := Below.on hbw hb0
  clear hb0
  obtain ⟨hgd0, hgd1⟩ := HGD.out
  obtain ⟨cq0, cq1, cq2, cq3, fq0, fq1, fq2, fq3⟩ := Xq.out
  have hneq : gq < W0.heap.size := World.block_lt_of_cell? W0 _ cq0
  go_wp2_with fail
  clear cq0 cq1 cq2 cq3 fq0 fq1 fq2 fq3 hneq
  refine wp_loop_rounds 4 ?_
  rw [rounds_succ]
  obtain ⟨cq0, cq1, cq2, cq3, fq0, fq1, fq2, fq3⟩ := Xq.out
  have hneq : gq < W0.heap.size := World.block_lt_of_cell? W0 _ cq0
  go_wp2_with fail
  clear cq0 cq1 cq2 cq3 fq0 fq1 fq2 fq3 hneq
  obtain ⟨Va3, hVa3⟩ : ∃ W9, W9 = W0.drew := ⟨_, rfl⟩
  have hbd : Below W0.heap.size W0 Va3 := by rw [hVa3]; exact bDrew1 (Below.refl _ _)
  replace Xq : Hid _ := Xq.out.below hbd
  replace Xr : Hid _ := Xr.out.below hbd
  replace hbw := Below.on hbw hbd
  clear hbd
  have HJ : Hid ((fun W' : World => W'.cell? ⟨gq, 3, none⟩ = some (.int .u64 18325537948574664033) ∧ W'.cell? ⟨gq, 2, none⟩ = some (.int .u64 15808362127397457985)) Va3) := ⟨Xq.out.c3, Xq.out.c2⟩
  refine wp_region_L (fun W' => W'.cell? ⟨gq, 3, none⟩ = some (.int .u64 18325537948574664033) ∧ W'.cell? ⟨gq, 2, none⟩ = some (.int .u64 15808362127397457985)) 15 (by kernel_rfl) ?_
  rw [← hVa3]
  clear hVa3
  refine wpL_take (i := 0) (v := ?v1x0) rfl (by kernel_rfl) (by kernel_rfl) (by kernel_rfl) (fun _ _ _ h => h) (by kernel_rfl) ?hy1x0 HJ.out ?rest1x0
  case hy1x0 => (intro W' hJ; obtain ⟨j0, j1⟩ := hJ; go_simp; first | done | with_reducible rfl)
  refine wpL_take (i := 1) (v := ?v2x1) rfl (by kernel_rfl) (by kernel_rfl) (by kernel_rfl) (fun _ _ _ h => h) (by kernel_rfl) ?hy2x1 HJ.out ?rest2x1
  case hy2x1 => (intro W' hJ; obtain ⟨j0, j1⟩ := hJ; go_simp; first | done | with_reducible rfl)
  refine wpL_take (i := 2) (v := ?v3x2) rfl (by kernel_rfl) (by kernel_rfl) (by kernel_rfl) (fun _ _ _ h => h) (by kernel_rfl) ?hy3x2 HJ.out ?rest3x2
  case hy3x2 => (intro W' hJ; obtain ⟨j0, j1⟩ := hJ; go_simp; first | done | with_reducible rfl)
  refine wpL_take (i := 3) (v := ?v4x3) rfl (by kernel_rfl) (by kernel_rfl) (by kernel_rfl) (fun _ _ _ h => h) (by kernel_rfl) ?hy4x3 HJ.out ?rest4x3
  case hy4x3 => (intro W' hJ; obtain ⟨j0, j1⟩ := hJ; go_simp; first | done | with_reducible rfl)
  refine wpL_take (i := 4) (v := ?v5x4) rfl (by kernel_rfl) (by kernel_rfl) (by kernel_rfl) (fun _ _ _ h => h) (by kernel_rfl) ?hy5x4 HJ.out ?rest5x4
  case hy5x4 => (intro W' hJ; obtain ⟨j0, j1⟩ := hJ; go_simp; first | done | with_reducible rfl)
  go_simp
  refine wpL_take (i := 5) (v := ?v6x5) rfl (by kernel_rfl) (by kernel_rfl) (by kernel_rfl) (fun _ _ _ h => h) (by kernel_rfl) ?hy6x5 HJ.out ?rest6x5
  case hy6x5 => (intro W' hJ; obtain ⟨j0, j1⟩ := hJ; go_simp; first | done | with_reducible rfl)
  refine wpL_take (i := 6) (v := ?v7x6) rfl (by kernel_rfl) (by kernel_rfl) (by kernel_rfl) (fun _ _ _ h => h) (by kernel_rfl) ?hy7x6 HJ.out ?rest7x6
  case hy7x6 => (intro W' hJ; obtain ⟨j0, j1⟩ := hJ; go_simp; first | done | with_reducible rfl)
  refine wpL_take (i := 7) (v := ?v8x7) rfl (by kernel_rfl) (by kernel_rfl) (by kernel_rfl) (fun _ _ _ h => h) (by kernel_rfl) ?hy8x7 HJ.out ?rest8x7
  case hy8x7 => (intro W' hJ; obtain ⟨j0, j1⟩ := hJ; go_simp; first | done | with_reducible rfl)
  refine wpL_take (i := 8) (v := ?v9x8) rfl (by kernel_rfl) (by kernel_rfl) (by kernel_rfl) (fun _ _ _ h => h) (by kernel_rfl) ?hy9x8 HJ.out ?rest9x8
  case hy9x8 => (intro W' hJ; obtain ⟨j0, j1⟩ := hJ; go_simp; first | done | with_reducible rfl)
  refine wpL_take (i := 9) (v := ?v10x9) rfl (by kernel_rfl) (by kernel_rfl) (by kernel_rfl) (fun _ _ _ h => h) (by kernel_rfl) ?hy10x9 HJ.out ?rest10x9
  case hy10x9 => (intro W' hJ; obtain ⟨j0, j1⟩ := hJ; go_simp; first | done | with_reducible rfl)
  go_simp
  refine wpL_take (i := 10) (v := ?v11x10) rfl (by kernel_rfl) (by kernel_rfl) (by kernel_rfl) (fun _ _ _ h => h) (by kernel_rfl) ?hy11x10 HJ.out ?rest11x10
  case hy11x10 => (intro W' hJ; obtain ⟨j0, j1⟩ := hJ; go_simp; first | done | with_reducible rfl)
  refine wpL_take (i := 11) (v := ?v12x11) rfl (by kernel_rfl) (by kernel_rfl) (by kernel_rfl) (fun _ _ _ h => h) (by kernel_rfl) ?hy12x11 HJ.out ?rest12x11
  case hy12x11 => (intro W' hJ; obtain ⟨j0, j1⟩ := hJ; go_simp; first | done | with_reducible rfl)
  refine wpL_take (i := 12) (v := ?v13x12) rfl (by kernel_rfl) (by kernel_rfl) (by kernel_rfl) (fun _ _ _ h => h) (by kernel_rfl) ?hy13x12 HJ.out ?rest13x12
  case hy13x12 => (intro W' hJ; obtain ⟨j0, j1⟩ := hJ; go_simp; first | done | with_reducible rfl)
  refine wpL_take (i := 13) (v := ?v14x13) rfl (by kernel_rfl) (by kernel_rfl) (by kernel_rfl) (fun _ _ _ h => h) (by kernel_rfl) ?hy14x13 HJ.out ?rest14x13
  case hy14x13 => (intro W' hJ; obtain ⟨j0, j1⟩ := hJ; go_simp; first | done | with_reducible rfl)
  refine wpL_take (i := 14) (v := ?v15x14) rfl (by kernel_rfl) (by kernel_rfl) (by kernel_rfl) (fun _ _ _ h => h) (by kernel_rfl) ?hy15x14 HJ.out ?rest15x14
  case hy15x14 => (intro W' hJ; obtain ⟨j0, j1⟩ := hJ; go_simp; first | done | with_reducible rfl)
  go_simp
  obtain ⟨cq0, cq1, cq2, cq3, fq0, fq1, fq2, fq3⟩ := Xq.out
  have hneq : gq < Va3.heap.size := World.block_lt_of_cell? Va3 _ cq0
  refine wpL_last (by kernel_rfl) rfl (by kernel_rfl) (fun KJ hK => ?_)
  go_simp
  refine hK _ _ ?_
  clear hK HJ
  refine wpL_done (by kernel_rfl) ?_ _
  obtain ⟨Vb3, hVb3⟩ : ∃ W9, W9 = (Va3.setCell ⟨gq, 3, none⟩ (.int .u64 2979575099461738469)) := ⟨_, rfl⟩
  have Yq : Hid (B4q Vb3 gq (.int .u64 11743562013128004905) (.int .u64 18169587780923219392) (.int .u64 15808362127397457985) (.int .u64 2979575099461738469)) := by rw [hVb3]; exact ⟨by go_simp, by go_simp, by go_simp, by go_simp, by go_simp, by go_simp, by go_simp, by go_simp⟩
  obtain ⟨cr0, cr1, cr2, cr3, fr0, fr1, fr2, fr3⟩ := Xr.out
  have hner : gr < Va3.heap.size := World.block_lt_of_cell? Va3 _ cr0
  have Yr : Hid (B4q Vb3 gr (.int .u64 0) (.int .u64 0) (.int .u64 0) (.int .u64 0)) := by rw [hVb3]; exact ⟨by go_simp, by go_simp, by go_simp, by go_simp, by go_simp, by go_simp, by go_simp, by go_simp⟩
  clear cr0 cr1 cr2 cr3 fr0 fr1 fr2 fr3 hner
  have hbw2 : Below w.heap.size w Vb3 := by rw [hVb3]; exact bSet (hbw) _ _ _ HGq.out
  clear cq0 cq1 cq2 cq3 fq0 fq1 fq2 fq3 hneq
  rw [← hVb3]
  clear hVb3 hbw Xq Xr
  have hbw := hbw2
  clear hbw2
  have Xq := Yq
  clear Yq
  have Xr := Yr
  clear Yr
  obtain ⟨cq0, cq1, cq2, cq3, fq0, fq1, fq2, fq3⟩ := Xq.out
  have hneq : gq < Vb3.heap.size := World.block_lt_of_cell? Vb3 _ cq0
  go_wp2_with fail
  clear cq0 cq1 cq2 cq3 fq0 fq1 fq2 fq3 hneq
  rw [rounds_succ]
  obtain ⟨cq0, cq1, cq2, cq3, fq0, fq1, fq2, fq3⟩ := Xq.out
  have hneq : gq < Vb3.heap.size := World.block_lt_of_cell? Vb3 _ cq0
  go_wp2_with fail
  clear cq0 cq1 cq2 cq3 fq0 fq1 fq2 fq3 hneq
  obtain ⟨Va2, hVa2⟩ : ∃ W9, W9 = Vb3.drew := ⟨_, rfl⟩
  have hbd : Below Vb3.heap.size Vb3 Va2 := by rw [hVa2]; exact bDrew1 (Below.refl _ _)
  replace Xq : Hid _ := Xq.out.below hbd
  replace Xr : Hid _ := Xr.out.below hbd
  replace hbw := Below.on hbw hbd
  clear hbd
  have HJ : Hid ((fun W' : World => W'.cell? ⟨gq, 2, none⟩ = some (.int .u64 15808362127397457985) ∧ W'.cell? ⟨gq, 1, none⟩ = some (.int .u64 18169587780923219392)) Va2) := ⟨Xq.out.c2, Xq.out.c1⟩
  refine wp_region_L (fun W' => W'.cell? ⟨gq, 2, none⟩ = some (.int .u64 15808362127397457985) ∧ W'.cell? ⟨gq, 1, none⟩ = some (.int .u64 18169587780923219392)) 15 (by kernel_rfl) ?_
  rw [← hVa2]
  clear hVa2
  refine wpL_take (i := 0) (v := ?v16x0) rfl (by kernel_rfl) (by kernel_rfl) (by kernel_rfl) (fun _ _ _ h => h) (by kernel_rfl) ?hy16x0 HJ.out ?rest16x0
  case hy16x0 => (intro W' hJ; obtain ⟨j0, j1⟩ := hJ; go_simp; first | done | with_reducible rfl)
  refine wpL_take (i := 1) (v := ?v17x1) rfl (by kernel_rfl) (by kernel_rfl) (by kernel_rfl) (fun _ _ _ h => h) (by kernel_rfl) ?hy17x1 HJ.out ?rest17x1
  case hy17x1 => (intro W' hJ; obtain ⟨j0, j1⟩ := hJ; go_simp; first | done | with_reducible rfl)
  refine wpL_take (i := 2) (v := ?v18x2) rfl (by kernel_rfl) (by kernel_rfl) (by kernel_rfl) (fun _ _ _ h => h) (by kernel_rfl) ?hy18x2 HJ.out ?rest18x2
  case hy18x2 => (intro W' hJ; obtain ⟨j0, j1⟩ := hJ; go_simp; first | done | with_reducible rfl)
  refine wpL_take (i := 3) (v := ?v19x3) rfl (by kernel_rfl) (by kernel_rfl) (by kernel_rfl) (fun _ _ _ h => h) (by kernel_rfl) ?hy19x3 HJ.out ?rest19x3
  case hy19x3 => (intro W' hJ; obtain ⟨j0, j1⟩ := hJ; go_simp; first | done | with_reducible rfl)
  refine wpL_take (i := 4) (v := ?v20x4) rfl (by kernel_rfl) (by kernel_rfl) (by kernel_rfl) (fun _ _ _ h => h) (by kernel_rfl) ?hy20x4 HJ.out ?rest20x4
  case hy20x4 => (intro W' hJ; obtain ⟨j0, j1⟩ := hJ; go_simp; first | done | with_reducible rfl)
  go_simp
  refine wpL_take (i := 5) (v := ?v21x5) rfl (by kernel_rfl) (by kernel_rfl) (by kernel_rfl) (fun _ _ _ h => h) (by kernel_rfl) ?hy21x5 HJ.out ?rest21x5
  case hy21x5 => (intro W' hJ; obtain ⟨j0, j1⟩ := hJ; go_simp; first | done | with_reducible rfl)
  refine wpL_take (i := 6) (v := ?v22x6) rfl (by kernel_rfl) (by kernel_rfl) (by kernel_rfl) (fun _ _ _ h => h) (by kernel_rfl) ?hy22x6 HJ.out ?rest22x6
  case hy22x6 => (intro W' hJ; obtain ⟨j0, j1⟩ := hJ; go_simp; first | done | with_reducible rfl)
  refine wpL_take (i := 7) (v := ?v23x7) rfl (by kernel_rfl) (by kernel_rfl) (by kernel_rfl) (fun _ _ _ h => h) (by kernel_rfl) ?hy23x7 HJ.out ?rest23x7
  case hy23x7 => (intro W' hJ; obtain ⟨j0, j1⟩ := hJ; go_simp; first | done | with_reducible rfl)
  refine wpL_take (i := 8) (v := ?v24x8) rfl (by kernel_rfl) (by kernel_rfl) (by kernel_rfl) (fun _ _ _ h => h) (by kernel_rfl) ?hy24x8 HJ.out ?rest24x8
  case hy24x8 => (intro W' hJ; obtain ⟨j0, j1⟩ := hJ; go_simp; first | done | with_reducible rfl)
  refine wpL_take (i := 9) (v := ?v25x9) rfl (by kernel_rfl) (by kernel_rfl) (by kernel_rfl) (fun _ _ _ h => h) (by kernel_rfl) ?hy25x9 HJ.out ?rest25x9
  case hy25x9 => (intro W' hJ; obtain ⟨j0, j1⟩ := hJ; go_simp; first | done | with_reducible rfl)
  go_simp
  refine wpL_take (i := 10) (v := ?v26x10) rfl (by kernel_rfl) (by kernel_rfl) (by kernel_rfl) (fun _ _ _ h => h) (by kernel_rfl) ?hy26x10 HJ.out ?rest26x10
  case hy26x10 => (intro W' hJ; obtain ⟨j0, j1⟩ := hJ; go_simp; first | done | with_reducible rfl)
  refine wpL_take (i := 11) (v := ?v27x11) rfl (by kernel_rfl) (by kernel_rfl) (by kernel_rfl) (fun _ _ _ h => h) (by kernel_rfl) ?hy27x11 HJ.out ?rest27x11
  case hy27x11 => (intro W' hJ; obtain ⟨j0, j1⟩ := hJ; go_simp; first | done | with_reducible rfl)
  refine wpL_take (i := 12) (v := ?v28x12) rfl (by kernel_rfl) (by kernel_rfl) (by kernel_rfl) (fun _ _ _ h => h) (by kernel_rfl) ?hy28x12 HJ.out ?rest28x12
  case hy28x12 => (intro W' hJ; obtain ⟨j0, j1⟩ := hJ; go_simp; first | done | with_reducible rfl)
  refine wpL_take (i := 13) (v := ?v29x13) rfl (by kernel_rfl) (by kernel_rfl) (by kernel_rfl) (fun _ _ _ h => h) (by kernel_rfl) ?hy29x13 HJ.out ?rest29x13
  case hy29x13 => (intro W' hJ; obtain ⟨j0, j1⟩ := hJ; go_simp; first | done | with_reducible rfl)
  refine wpL_take (i := 14) (v := ?v30x14) rfl (by kernel_rfl) (by kernel_rfl) (by kernel_rfl) (fun _ _ _ h => h) (by kernel_rfl) ?hy30x14 HJ.out ?rest30x14
  case hy30x14 => (intro W' hJ; obtain ⟨j0, j1⟩ := hJ; go_simp; first | done | with_reducible rfl)
  go_simp
  obtain ⟨cq0, cq1, cq2, cq3, fq0, fq1, fq2, fq3⟩ := Xq.out
  have hneq : gq < Va2.heap.size := World.block_lt_of_cell? Va2 _ cq0
  refine wpL_last (by kernel_rfl) rfl (by kernel_rfl) (fun KJ hK => ?_)
  go_simp
  refine hK _ _ ?_
  clear hK HJ
  refine wpL_done (by kernel_rfl) ?_ _
  obtain ⟨Vb2, hVb2⟩ : ∃ W9, W9 = (Va2.setCell ⟨gq, 2, none⟩ (.int .u64 8465957317175414198)) := ⟨_, rfl⟩
  have Yq : Hid (B4q Vb2 gq (.int .u64 11743562013128004905) (.int .u64 18169587780923219392) (.int .u64 8465957317175414198) (.int .u64 2979575099461738469)) := by rw [hVb2]; exact ⟨by go_simp, by go_simp, by go_simp, by go_simp, by go_simp, by go_simp, by go_simp, by go_simp⟩
  obtain ⟨cr0, cr1, cr2, cr3, fr0, fr1, fr2, fr3⟩ := Xr.out
  have hner : gr < Va2.heap.size := World.block_lt_of_cell? Va2 _ cr0
  have Yr : Hid (B4q Vb2 gr (.int .u64 0) (.int .u64 0) (.int .u64 0) (.int .u64 0)) := by rw [hVb2]; exact ⟨by go_simp, by go_simp, by go_simp, by go_simp, by go_simp, by go_simp, by go_simp, by go_simp⟩
  clear cr0 cr1 cr2 cr3 fr0 fr1 fr2 fr3 hner
  have hbw2 : Below w.heap.size w Vb2 := by rw [hVb2]; exact bSet (hbw) _ _ _ HGq.out
  clear cq0 cq1 cq2 cq3 fq0 fq1 fq2 fq3 hneq
  rw [← hVb2]
  clear hVb2 hbw Xq Xr
  have hbw := hbw2
  clear hbw2
  have Xq := Yq
  clear Yq
  have Xr := Yr
  clear Yr
  obtain ⟨cq0, cq1, cq2, cq3, fq0, fq1, fq2, fq3⟩ := Xq.out
  have hneq : gq < Vb2.heap.size := World.block_lt_of_cell? Vb2 _ cq0
  go_wp2_with fail
  clear cq0 cq1 cq2 cq3 fq0 fq1 fq2 fq3 hneq
  rw [rounds_succ]
  obtain ⟨cq0, cq1, cq2, cq3, fq0, fq1, fq2, fq3⟩ := Xq.out
  have hneq : gq < Vb2.heap.size := World.block_lt_of_cell? Vb2 _ cq0
  go_wp2_with fail
  clear cq0 cq1 cq2 cq3 fq0 fq1 fq2 fq3 hneq
  obtain ⟨Va1, hVa1⟩ : ∃ W9, W9 = Vb2.drew := ⟨_, rfl⟩
  have hbd : Below Vb2.heap.size Vb2 Va1 := by rw [hVa1]; exact bDrew1 (Below.refl _ _)
  replace Xq : Hid _ := Xq.out.below hbd
  replace Xr : Hid _ := Xr.out.below hbd
  replace hbw := Below.on hbw hbd
  clear hbd
  have HJ : Hid ((fun W' : World => W'.cell? ⟨gq, 1, none⟩ = some (.int .u64 18169587780923219392) ∧ W'.cell? ⟨gq, 0, none⟩ = some (.int .u64 11743562013128004905)) Va1) := ⟨Xq.out.c1, Xq.out.c0⟩
  refine wp_region_L (fun W' => W'.cell? ⟨gq, 1, none⟩ = some (.int .u64 18169587780923219392) ∧ W'.cell? ⟨gq, 0, none⟩ = some (.int .u64 11743562013128004905)) 15 (by kernel_rfl) ?_
  rw [← hVa1]
  clear hVa1
  refine wpL_take (i := 0) (v := ?v31x0) rfl (by kernel_rfl) (by kernel_rfl) (by kernel_rfl) (fun _ _ _ h => h) (by kernel_rfl) ?hy31x0 HJ.out ?rest31x0
  case hy31x0 => (intro W' hJ; obtain ⟨j0, j1⟩ := hJ; go_simp; first | done | with_reducible rfl)
  refine wpL_take (i := 1) (v := ?v32x1) rfl (by kernel_rfl) (by kernel_rfl) (by kernel_rfl) (fun _ _ _ h => h) (by kernel_rfl) ?hy32x1 HJ.out ?rest32x1
  case hy32x1 => (intro W' hJ; obtain ⟨j0, j1⟩ := hJ; go_simp; first | done | with_reducible rfl)
  refine wpL_take (i := 2) (v := ?v33x2) rfl (by kernel_rfl) (by kernel_rfl) (by kernel_rfl) (fun _ _ _ h => h) (by kernel_rfl) ?hy33x2 HJ.out ?rest33x2
  case hy33x2 => (intro W' hJ; obtain ⟨j0, j1⟩ := hJ; go_simp; first | done | with_reducible rfl)
  refine wpL_take (i := 3) (v := ?v34x3) rfl (by kernel_rfl) (by kernel_rfl) (by kernel_rfl) (fun _ _ _ h => h) (by kernel_rfl) ?hy34x3 HJ.out ?rest34x3
  case hy34x3 => (intro W' hJ; obtain ⟨j0, j1⟩ := hJ; go_simp; first | done | with_reducible rfl)
  refine wpL_take (i := 4) (v := ?v35x4) rfl (by kernel_rfl) (by kernel_rfl) (by kernel_rfl) (fun _ _ _ h => h) (by kernel_rfl) ?hy35x4 HJ.out ?rest35x4
  case hy35x4 => (intro W' hJ; obtain ⟨j0, j1⟩ := hJ; go_simp; first | done | with_reducible rfl)
  go_simp
  refine wpL_take (i := 5) (v := ?v36x5) rfl (by kernel_rfl) (by kernel_rfl) (by kernel_rfl) (fun _ _ _ h => h) (by kernel_rfl) ?hy36x5 HJ.out ?rest36x5
  case hy36x5 => (intro W' hJ; obtain ⟨j0, j1⟩ := hJ; go_simp; first | done | with_reducible rfl)
  refine wpL_take (i := 6) (v := ?v37x6) rfl (by kernel_rfl) (by kernel_rfl) (by kernel_rfl) (fun _ _ _ h => h) (by kernel_rfl) ?hy37x6 HJ.out ?rest37x6
  case hy37x6 => (intro W' hJ; obtain ⟨j0, j1⟩ := hJ; go_simp; first | done | with_reducible rfl)
  refine wpL_take (i := 7) (v := ?v38x7) rfl (by kernel_rfl) (by kernel_rfl) (by kernel_rfl) (fun _ _ _ h => h) (by kernel_rfl) ?hy38x7 HJ.out ?rest38x7
  case hy38x7 => (intro W' hJ; obtain ⟨j0, j1⟩ := hJ; go_simp; first | done | with_reducible rfl)
  refine wpL_take (i := 8) (v := ?v39x8) rfl (by kernel_rfl) (by kernel_rfl) (by kernel_rfl) (fun _ _ _ h => h) (by kernel_rfl) ?hy39x8 HJ.out ?rest39x8
  case hy39x8 => (intro W' hJ; obtain ⟨j0, j1⟩ := hJ; go_simp; first | done | with_reducible rfl)
  refine wpL_take (i := 9) (v := ?v40x9) rfl (by kernel_rfl) (by kernel_rfl) (by kernel_rfl) (fun _ _ _ h => h) (by kernel_rfl) ?hy40x9 HJ.out ?rest40x9
  case hy40x9 => (intro W' hJ; obtain ⟨j0, j1⟩ := hJ; go_simp; first | done | with_reducible rfl)
  go_simp
  refine wpL_take (i := 10) (v := ?v41x10) rfl (by kernel_rfl) (by kernel_rfl) (by kernel_rfl) (fun _ _ _ h => h) (by kernel_rfl) ?hy41x10 HJ.out ?rest41x10
  case hy41x10 => (intro W' hJ; obtain ⟨j0, j1⟩ := hJ; go_simp; first | done | with_reducible rfl)
  refine wpL_take (i := 11) (v := ?v42x11) rfl (by kernel_rfl) (by kernel_rfl) (by kernel_rfl) (fun _ _ _ h => h) (by kernel_rfl) ?hy42x11 HJ.out ?rest42x11
  case hy42x11 => (intro W' hJ; obtain ⟨j0, j1⟩ := hJ; go_simp; first | done | with_reducible rfl)
  refine wpL_take (i := 12) (v := ?v43x12) rfl (by kernel_rfl) (by kernel_rfl) (by kernel_rfl) (fun _ _ _ h => h) (by kernel_rfl) ?hy43x12 HJ.out ?rest43x12
  case hy43x12 => (intro W' hJ; obtain ⟨j0, j1⟩ := hJ; go_simp; first | done | with_reducible rfl)
  refine wpL_take (i := 13) (v := ?v44x13) rfl (by kernel_rfl) (by kernel_rfl) (by kernel_rfl) (fun _ _ _ h => h) (by kernel_rfl) ?hy44x13 HJ.out ?rest44x13
  case hy44x13 => (intro W' hJ; obtain ⟨j0, j1⟩ := hJ; go_simp; first | done | with_reducible rfl)
  refine wpL_take (i := 14) (v := ?v45x14) rfl (by kernel_rfl) (by kernel_rfl) (by kernel_rfl) (fun _ _ _ h => h) (by kernel_rfl) ?hy45x14 HJ.out ?rest45x14
  case hy45x14 => (intro W' hJ; obtain ⟨j0, j1⟩ := hJ; go_simp; first | done | with_reducible rfl)
  go_simp
  obtain ⟨cq0, cq1, cq2, cq3, fq0, fq1, fq2, fq3⟩ := Xq.out
  have hneq : gq < Va1.heap.size := World.block_lt_of_cell? Va1 _ cq0
  refine wpL_last (by kernel_rfl) rfl (by kernel_rfl) (fun KJ hK => ?_)
  go_simp
  refine hK _ _ ?_
  clear hK HJ
  refine wpL_done (by kernel_rfl) ?_ _
  obtain ⟨Vb1, hVb1⟩ : ∃ W9, W9 = (Va1.setCell ⟨gq, 1, none⟩ (.int .u64 10968205611507032002)) := ⟨_, rfl⟩
  have Yq : Hid (B4q Vb1 gq (.int .u64 11743562013128004905) (.int .u64 10968205611507032002) (.int .u64 8465957317175414198) (.int .u64 2979575099461738469)) := by rw [hVb1]; exact ⟨by go_simp, by go_simp, by go_simp, by go_simp, by go_simp, by go_simp, by go_simp, by go_simp⟩
  obtain ⟨cr0, cr1, cr2, cr3, fr0, fr1, fr2, fr3⟩ := Xr.out
  have hner : gr < Va1.heap.size := World.block_lt_of_cell? Va1 _ cr0
  have Yr : Hid (B4q Vb1 gr (.int .u64 0) (.int .u64 0) (.int .u64 0) (.int .u64 0)) := by rw [hVb1]; exact ⟨by go_simp, by go_simp, by go_simp, by go_simp, by go_simp, by go_simp, by go_simp, by go_simp⟩
  clear cr0 cr1 cr2 cr3 fr0 fr1 fr2 fr3 hner
  have hbw2 : Below w.heap.size w Vb1 := by rw [hVb1]; exact bSet (hbw) _ _ _ HGq.out
  clear cq0 cq1 cq2 cq3 fq0 fq1 fq2 fq3 hneq
  rw [← hVb1]
  clear hVb1 hbw Xq Xr
  have hbw := hbw2
  clear hbw2
  have Xq := Yq
  clear Yq
  have Xr := Yr
  clear Yr
  obtain ⟨cq0, cq1, cq2, cq3, fq0, fq1, fq2, fq3⟩ := Xq.out
  have hneq : gq < Vb1.heap.size := World.block_lt_of_cell? Vb1 _ cq0
  go_wp2_with fail
  clear cq0 cq1 cq2 cq3 fq0 fq1 fq2 fq3 hneq
  rw [rounds_succ]
  obtain ⟨cq0, cq1, cq2, cq3, fq0, fq1, fq2, fq3⟩ := Xq.out
  have hneq : gq < Vb1.heap.size := World.block_lt_of_cell? Vb1 _ cq0
  obtain ⟨cr0, cr1, cr2, cr3, fr0, fr1, fr2, fr3⟩ := Xr.out
  have hner : gr < Vb1.heap.size := World.block_lt_of_cell? Vb1 _ cr0
  go_wp2_with fail
  refine bodyPost_ret (v := .agg #[.int .u64 2607, .int .u64 10968205611507032002, .int .u64 8465957317175414198, .int .u64 2979575099461738469]) (by rw [results_cell1 rfl]; go_simp) rfl ⟨rfl, ?_⟩
  exact bSet (bSet (bSet (bSet (bSet (hbw) _ _ _ HGq.out) _ _ _ HGr.out) _ _ _ HGr.out) _ _ _ HGr.out) _ _ _ HGr.out
theorem doubled_2 (w : World) :
    Calls Tryd.prog 40 #[.agg #[.int .u64 11743562013128004905, .int .u64 18169587780923219392, .int .u64 15808362127397457985, .int .u64 18325146883770548224], .int .i64 2] w fun en w' => en = .returned (.agg #[.int .u64 10080759905092916391, .int .u64 17338118902564222723, .int .u64 7893216288461177095, .int .u64 17960355313953538048]) ∧ Below w.heap.size w w' := by
  have wf0_ : IntKind.i64.wrap (62) = 62 := by kernel_rfl
  have wf1_ : IntKind.i64.wrap (2) = 2 := by kernel_rfl
  have wf2_ : IntKind.i64.wrap (1) = 1 := by kernel_rfl
  have wf3_ : IntKind.i64.wrap (3) = 3 := by kernel_rfl
  have wr7 : IntKind.u64.wrap (46974248052512019620) = 10080759905092916388 := by kernel_rfl
  have br8 : bits BinOp.or IntKind.u64 (10080759905092916388) (3) = 10080759905092916391 := by kernel_rfl
  have wr9 : IntKind.u64.wrap (72678351123692877568) = 17338118902564222720 := by kernel_rfl
  have br10 : bits BinOp.or IntKind.u64 (17338118902564222720) (3) = 17338118902564222723 := by kernel_rfl
  have wr11 : IntKind.u64.wrap (63233448509589831940) = 7893216288461177092 := by kernel_rfl
  have br12 : bits BinOp.or IntKind.u64 (7893216288461177092) (3) = 7893216288461177095 := by kernel_rfl
  have wr13 : IntKind.u64.wrap (73300587535082192896) = 17960355313953538048 := by kernel_rfl
  go_enter Tryd.func40, Tryd.ntmps40
  go_wp2_with fail
  obtain ⟨W0, hW0⟩ : ∃ W0, W0 = ((w.alloc (.cells #[.int .u64 11743562013128004905, .int .u64 18169587780923219392, .int .u64 15808362127397457985, .int .u64 18325146883770548224] 56)).alloc (.cells #[.int .u64 0, .int .u64 0, .int .u64 0, .int .u64 0] 56)) := ⟨_, rfl⟩
  have Xq : Hid (B4q W0 (w.heap.size) (.int .u64 11743562013128004905) (.int .u64 18169587780923219392) (.int .u64 15808362127397457985) (.int .u64 18325146883770548224)) := by rw [hW0]; exact ⟨by go_simp, by go_simp, by go_simp, by go_simp, by go_simp, by go_simp, by go_simp, by go_simp⟩
  have Xr : Hid (B4q W0 (w.heap.size + 1) (.int .u64 0) (.int .u64 0) (.int .u64 0) (.int .u64 0)) := by rw [hW0]; exact ⟨by go_simp, by go_simp, by go_simp, by go_simp, by go_simp, by go_simp, by go_simp, by go_simp⟩
  have hb0 : Below w.heap.size w W0 := by rw [hW0]; exact below2 w _ _
  rw [← hW0]
  clear hW0
  have hbw : Below w.heap.size w w := Below.refl _ _
  obtain ⟨gr, hgr⟩ : ∃ g, g = w.heap.size + 1 := ⟨_, rfl⟩
  have HGr : Hid (w.heap.size ≤ gr) := by rw [hgr]; show _ ≤ _; omega
  rw [← hgr] at Xr
  try rw [← hgr]
  obtain ⟨gq, hgq⟩ : ∃ g, g = w.heap.size := ⟨_, rfl⟩
  have HGq : Hid (w.heap.size ≤ gq) := by rw [hgq]; show _ ≤ _; omega
  rw [← hgq] at Xq
  try rw [← hgq]
  have HGD : Hid (gq ≠ gr ∧ gr ≠ gq) := by rw [hgq, hgr]; exact ⟨by omega, by omega⟩
  clear hgq hgr
  replace hbw := Below.on hbw hb0
  clear hb0
  obtain ⟨hgd0, hgd1⟩ := HGD.out
  obtain ⟨cq0, cq1, cq2, cq3, fq0, fq1, fq2, fq3⟩ := Xq.out
  have hneq : gq < W0.heap.size := World.block_lt_of_cell? W0 _ cq0
  go_wp2_with fail
  clear cq0 cq1 cq2 cq3 fq0 fq1 fq2 fq3 hneq
  refine wp_loop_rounds 4 ?_
  rw [rounds_succ]
  obtain ⟨cq0, cq1, cq2, cq3, fq0, fq1, fq2, fq3⟩ := Xq.out
  have hneq : gq < W0.heap.size := World.block_lt_of_cell? W0 _ cq0
  go_wp2_with fail
  clear cq0 cq1 cq2 cq3 fq0 fq1 fq2 fq3 hneq
  obtain ⟨Va0, hVa0⟩ : ∃ W9, W9 = W0.drew := ⟨_, rfl⟩
  have hbd : Below W0.heap.size W0 Va0 := by rw [hVa0]; exact bDrew1 (Below.refl _ _)
  replace Xq : Hid _ := Xq.out.below hbd
  replace Xr : Hid _ := Xr.out.below hbd
  replace hbw := Below.on hbw hbd
  clear hbd
  have HJ : Hid ((fun W' : World => W'.cell? ⟨gq, 0, none⟩ = some (.int .u64 11743562013128004905) ∧ W'.cell? ⟨gq, 1, none⟩ = some (.int .u64 18169587780923219392)) Va0) := ⟨Xq.out.c0, Xq.out.c1⟩
  refine wp_region_L (fun W' => W'.cell? ⟨gq, 0, none⟩ = some (.int .u64 11743562013128004905) ∧ W'.cell? ⟨gq, 1, none⟩ = some (.int .u64 18169587780923219392)) 15 (by kernel_rfl) ?_
  rw [← hVa0]
  clear hVa0
  refine wpL_take (i := 0) (v := ?v46x0) rfl (by kernel_rfl) (by kernel_rfl) (by kernel_rfl) (fun _ _ _ h => h) (by kernel_rfl) ?hy46x0 HJ.out ?rest46x0
  case hy46x0 => (intro W' hJ; obtain ⟨j0, j1⟩ := hJ; go_simp; first | done | with_reducible rfl)
  refine wpL_take (i := 1) (v := ?v47x1) rfl (by kernel_rfl) (by kernel_rfl) (by kernel_rfl) (fun _ _ _ h => h) (by kernel_rfl) ?hy47x1 HJ.out ?rest47x1
  case hy47x1 => (intro W' hJ; obtain ⟨j0, j1⟩ := hJ; go_simp; first | done | with_reducible rfl)
  refine wpL_take (i := 2) (v := ?v48x2) rfl (by kernel_rfl) (by kernel_rfl) (by kernel_rfl) (fun _ _ _ h => h) (by kernel_rfl) ?hy48x2 HJ.out ?rest48x2
  case hy48x2 => (intro W' hJ; obtain ⟨j0, j1⟩ := hJ; go_simp; first | done | with_reducible rfl)
  refine wpL_take (i := 3) (v := ?v49x3) rfl (by kernel_rfl) (by kernel_rfl) (by kernel_rfl) (fun _ _ _ h => h) (by kernel_rfl) ?hy49x3 HJ.out ?rest49x3
  case hy49x3 => (intro W' hJ; obtain ⟨j0, j1⟩ := hJ; go_simp; first | done | with_reducible rfl)
  refine wpL_take (i := 4) (v := ?v50x4) rfl (by kernel_rfl) (by kernel_rfl) (by kernel_rfl) (fun _ _ _ h => h) (by kernel_rfl) ?hy50x4 HJ.out ?rest50x4
  case hy50x4 => (intro W' hJ; obtain ⟨j0, j1⟩ := hJ; go_simp; first | done | with_reducible rfl)
  go_simp
  refine wpL_take (i := 5) (v := ?v51x5) rfl (by kernel_rfl) (by kernel_rfl) (by kernel_rfl) (fun _ _ _ h => h) (by kernel_rfl) ?hy51x5 HJ.out ?rest51x5
  case hy51x5 => (intro W' hJ; obtain ⟨j0, j1⟩ := hJ; go_simp; first | done | with_reducible rfl)
  refine wpL_take (i := 6) (v := ?v52x6) rfl (by kernel_rfl) (by kernel_rfl) (by kernel_rfl) (fun _ _ _ h => h) (by kernel_rfl) ?hy52x6 HJ.out ?rest52x6
  case hy52x6 => (intro W' hJ; obtain ⟨j0, j1⟩ := hJ; go_simp; first | done | with_reducible rfl)
  refine wpL_take (i := 7) (v := ?v53x7) rfl (by kernel_rfl) (by kernel_rfl) (by kernel_rfl) (fun _ _ _ h => h) (by kernel_rfl) ?hy53x7 HJ.out ?rest53x7
  case hy53x7 => (intro W' hJ; obtain ⟨j0, j1⟩ := hJ; go_simp; first | done | with_reducible rfl)
  refine wpL_take (i := 8) (v := ?v54x8) rfl (by kernel_rfl) (by kernel_rfl) (by kernel_rfl) (fun _ _ _ h => h) (by kernel_rfl) ?hy54x8 HJ.out ?rest54x8
  case hy54x8 => (intro W' hJ; obtain ⟨j0, j1⟩ := hJ; go_simp; first | done | with_reducible rfl)
  refine wpL_take (i := 9) (v := ?v55x9) rfl (by kernel_rfl) (by kernel_rfl) (by kernel_rfl) (fun _ _ _ h => h) (by kernel_rfl) ?hy55x9 HJ.out ?rest55x9
  case hy55x9 => (intro W' hJ; obtain ⟨j0, j1⟩ := hJ; go_simp; first | done | with_reducible rfl)
  go_simp
  refine wpL_take (i := 10) (v := ?v56x10) rfl (by kernel_rfl) (by kernel_rfl) (by kernel_rfl) (fun _ _ _ h => h) (by kernel_rfl) ?hy56x10 HJ.out ?rest56x10
  case hy56x10 => (intro W' hJ; obtain ⟨j0, j1⟩ := hJ; go_simp; first | done | with_reducible rfl)
  refine wpL_take (i := 11) (v := ?v57x11) rfl (by kernel_rfl) (by kernel_rfl) (by kernel_rfl) (fun _ _ _ h => h) (by kernel_rfl) ?hy57x11 HJ.out ?rest57x11
  case hy57x11 => (intro W' hJ; obtain ⟨j0, j1⟩ := hJ; go_simp; first | done | with_reducible rfl)
  refine wpL_take (i := 12) (v := ?v58x12) rfl (by kernel_rfl) (by kernel_rfl) (by kernel_rfl) (fun _ _ _ h => h) (by kernel_rfl) ?hy58x12 HJ.out ?rest58x12
  case hy58x12 => (intro W' hJ; obtain ⟨j0, j1⟩ := hJ; go_simp; first | done | with_reducible rfl)
  refine wpL_take (i := 13) (v := ?v59x13) rfl (by kernel_rfl) (by kernel_rfl) (by kernel_rfl) (fun _ _ _ h => h) (by kernel_rfl) ?hy59x13 HJ.out ?rest59x13
  case hy59x13 => (intro W' hJ; obtain ⟨j0, j1⟩ := hJ; go_simp; first | done | with_reducible rfl)
  refine wpL_take (i := 14) (v := ?v60x14) rfl (by kernel_rfl) (by kernel_rfl) (by kernel_rfl) (fun _ _ _ h => h) (by kernel_rfl) ?hy60x14 HJ.out ?rest60x14
  case hy60x14 => (intro W' hJ; obtain ⟨j0, j1⟩ := hJ; go_simp; first | done | with_reducible rfl)
  go_simp
  obtain ⟨cq0, cq1, cq2, cq3, fq0, fq1, fq2, fq3⟩ := Xq.out
  have hneq : gq < Va0.heap.size := World.block_lt_of_cell? Va0 _ cq0
  refine wpL_last (by kernel_rfl) rfl (by kernel_rfl) (fun KJ hK => ?_)
  go_simp
  refine hK _ _ ?_
  clear hK HJ
  refine wpL_done (by kernel_rfl) ?_ _
  obtain ⟨Vb0, hVb0⟩ : ∃ W9, W9 = (Va0.setCell ⟨gq, 0, none⟩ (.int .u64 10080759905092916391)) := ⟨_, rfl⟩
  have Yq : Hid (B4q Vb0 gq (.int .u64 10080759905092916391) (.int .u64 18169587780923219392) (.int .u64 15808362127397457985) (.int .u64 18325146883770548224)) := by rw [hVb0]; exact ⟨by go_simp, by go_simp, by go_simp, by go_simp, by go_simp, by go_simp, by go_simp, by go_simp⟩
  obtain ⟨cr0, cr1, cr2, cr3, fr0, fr1, fr2, fr3⟩ := Xr.out
  have hner : gr < Va0.heap.size := World.block_lt_of_cell? Va0 _ cr0
  have Yr : Hid (B4q Vb0 gr (.int .u64 0) (.int .u64 0) (.int .u64 0) (.int .u64 0)) := by rw [hVb0]; exact ⟨by go_simp, by go_simp, by go_simp, by go_simp, by go_simp, by go_simp, by go_simp, by go_simp⟩
  clear cr0 cr1 cr2 cr3 fr0 fr1 fr2 fr3 hner
  have hbw2 : Below w.heap.size w Vb0 := by rw [hVb0]; exact bSet (hbw) _ _ _ HGq.out
  clear cq0 cq1 cq2 cq3 fq0 fq1 fq2 fq3 hneq
  rw [← hVb0]
  clear hVb0 hbw Xq Xr
  have hbw := hbw2
  clear hbw2
  have Xq := Yq
  clear Yq
  have Xr := Yr
  clear Yr
  obtain ⟨cq0, cq1, cq2, cq3, fq0, fq1, fq2, fq3⟩ := Xq.out
  have hneq : gq < Vb0.heap.size := World.block_lt_of_cell? Vb0 _ cq0
  go_wp2_with fail
  clear cq0 cq1 cq2 cq3 fq0 fq1 fq2 fq3 hneq
  rw [rounds_succ]
  obtain ⟨cq0, cq1, cq2, cq3, fq0, fq1, fq2, fq3⟩ := Xq.out
  have hneq : gq < Vb0.heap.size := World.block_lt_of_cell? Vb0 _ cq0
  go_wp2_with fail
  clear cq0 cq1 cq2 cq3 fq0 fq1 fq2 fq3 hneq
  obtain ⟨Va1, hVa1⟩ : ∃ W9, W9 = Vb0.drew := ⟨_, rfl⟩
  have hbd : Below Vb0.heap.size Vb0 Va1 := by rw [hVa1]; exact bDrew1 (Below.refl _ _)
  replace Xq : Hid _ := Xq.out.below hbd
  replace Xr : Hid _ := Xr.out.below hbd
  replace hbw := Below.on hbw hbd
  clear hbd
  have HJ : Hid ((fun W' : World => W'.cell? ⟨gq, 1, none⟩ = some (.int .u64 18169587780923219392) ∧ W'.cell? ⟨gq, 2, none⟩ = some (.int .u64 15808362127397457985)) Va1) := ⟨Xq.out.c1, Xq.out.c2⟩
  refine wp_region_L (fun W' => W'.cell? ⟨gq, 1, none⟩ = some (.int .u64 18169587780923219392) ∧ W'.cell? ⟨gq, 2, none⟩ = some (.int .u64 15808362127397457985)) 15 (by kernel_rfl) ?_
  rw [← hVa1]
  clear hVa1
  refine wpL_take (i := 0) (v := ?v61x0) rfl (by kernel_rfl) (by kernel_rfl) (by kernel_rfl) (fun _ _ _ h => h) (by kernel_rfl) ?hy61x0 HJ.out ?rest61x0
  case hy61x0 => (intro W' hJ; obtain ⟨j0, j1⟩ := hJ; go_simp; first | done | with_reducible rfl)
  refine wpL_take (i := 1) (v := ?v62x1) rfl (by kernel_rfl) (by kernel_rfl) (by kernel_rfl) (fun _ _ _ h => h) (by kernel_rfl) ?hy62x1 HJ.out ?rest62x1
  case hy62x1 => (intro W' hJ; obtain ⟨j0, j1⟩ := hJ; go_simp; first | done | with_reducible rfl)
  refine wpL_take (i := 2) (v := ?v63x2) rfl (by kernel_rfl) (by kernel_rfl) (by kernel_rfl) (fun _ _ _ h => h) (by kernel_rfl) ?hy63x2 HJ.out ?rest63x2
  case hy63x2 => (intro W' hJ; obtain ⟨j0, j1⟩ := hJ; go_simp; first | done | with_reducible rfl)
  refine wpL_take (i := 3) (v := ?v64x3) rfl (by kernel_rfl) (by kernel_rfl) (by kernel_rfl) (fun _ _ _ h => h) (by kernel_rfl) ?hy64x3 HJ.out ?rest64x3
  case hy64x3 => (intro W' hJ; obtain ⟨j0, j1⟩ := hJ; go_simp; first | done | with_reducible rfl)
  refine wpL_take (i := 4) (v := ?v65x4) rfl (by kernel_rfl) (by kernel_rfl) (by kernel_rfl) (fun _ _ _ h => h) (by kernel_rfl) ?hy65x4 HJ.out ?rest65x4
  case hy65x4 => (intro W' hJ; obtain ⟨j0, j1⟩ := hJ; go_simp; first | done | with_reducible rfl)
  go_simp
  refine wpL_take (i := 5) (v := ?v66x5) rfl (by kernel_rfl) (by kernel_rfl) (by kernel_rfl) (fun _ _ _ h => h) (by kernel_rfl) ?hy66x5 HJ.out ?rest66x5
  case hy66x5 => (intro W' hJ; obtain ⟨j0, j1⟩ := hJ; go_simp; first | done | with_reducible rfl)
  refine wpL_take (i := 6) (v := ?v67x6) rfl (by kernel_rfl) (by kernel_rfl) (by kernel_rfl) (fun _ _ _ h => h) (by kernel_rfl) ?hy67x6 HJ.out ?rest67x6
  case hy67x6 => (intro W' hJ; obtain ⟨j0, j1⟩ := hJ; go_simp; first | done | with_reducible rfl)
  refine wpL_take (i := 7) (v := ?v68x7) rfl (by kernel_rfl) (by kernel_rfl) (by kernel_rfl) (fun _ _ _ h => h) (by kernel_rfl) ?hy68x7 HJ.out ?rest68x7
  case hy68x7 => (intro W' hJ; obtain ⟨j0, j1⟩ := hJ; go_simp; first | done | with_reducible rfl)
  refine wpL_take (i := 8) (v := ?v69x8) rfl (by kernel_rfl) (by kernel_rfl) (by kernel_rfl) (fun _ _ _ h => h) (by kernel_rfl) ?hy69x8 HJ.out ?rest69x8
  case hy69x8 => (intro W' hJ; obtain ⟨j0, j1⟩ := hJ; go_simp; first | done | with_reducible rfl)
  refine wpL_take (i := 9) (v := ?v70x9) rfl (by kernel_rfl) (by kernel_rfl) (by kernel_rfl) (fun _ _ _ h => h) (by kernel_rfl) ?hy70x9 HJ.out ?rest70x9
  case hy70x9 => (intro W' hJ; obtain ⟨j0, j1⟩ := hJ; go_simp; first | done | with_reducible rfl)
  go_simp
  refine wpL_take (i := 10) (v := ?v71x10) rfl (by kernel_rfl) (by kernel_rfl) (by kernel_rfl) (fun _ _ _ h => h) (by kernel_rfl) ?hy71x10 HJ.out ?rest71x10
  case hy71x10 => (intro W' hJ; obtain ⟨j0, j1⟩ := hJ; go_simp; first | done | with_reducible rfl)
  refine wpL_take (i := 11) (v := ?v72x11) rfl (by kernel_rfl) (by kernel_rfl) (by kernel_rfl) (fun _ _ _ h => h) (by kernel_rfl) ?hy72x11 HJ.out ?rest72x11
  case hy72x11 => (intro W' hJ; obtain ⟨j0, j1⟩ := hJ; go_simp; first | done | with_reducible rfl)
  refine wpL_take (i := 12) (v := ?v73x12) rfl (by kernel_rfl) (by kernel_rfl) (by kernel_rfl) (fun _ _ _ h => h) (by kernel_rfl) ?hy73x12 HJ.out ?rest73x12
  case hy73x12 => (intro W' hJ; obtain ⟨j0, j1⟩ := hJ; go_simp; first | done | with_reducible rfl)
  refine wpL_take (i := 13) (v := ?v74x13) rfl (by kernel_rfl) (by kernel_rfl) (by kernel_rfl) (fun _ _ _ h => h) (by kernel_rfl) ?hy74x13 HJ.out ?rest74x13
  case hy74x13 => (intro W' hJ; obtain ⟨j0, j1⟩ := hJ; go_simp; first | done | with_reducible rfl)
  refine wpL_take (i := 14) (v := ?v75x14) rfl (by kernel_rfl) (by kernel_rfl) (by kernel_rfl) (fun _ _ _ h => h) (by kernel_rfl) ?hy75x14 HJ.out ?rest75x14
  case hy75x14 => (intro W' hJ; obtain ⟨j0, j1⟩ := hJ; go_simp; first | done | with_reducible rfl)
  go_simp
  obtain ⟨cq0, cq1, cq2, cq3, fq0, fq1, fq2, fq3⟩ := Xq.out
  have hneq : gq < Va1.heap.size := World.block_lt_of_cell? Va1 _ cq0
  refine wpL_last (by kernel_rfl) rfl (by kernel_rfl) (fun KJ hK => ?_)
  go_simp
  refine hK _ _ ?_
  clear hK HJ
  refine wpL_done (by kernel_rfl) ?_ _
  obtain ⟨Vb1, hVb1⟩ : ∃ W9, W9 = (Va1.setCell ⟨gq, 1, none⟩ (.int .u64 17338118902564222723)) := ⟨_, rfl⟩
  have Yq : Hid (B4q Vb1 gq (.int .u64 10080759905092916391) (.int .u64 17338118902564222723) (.int .u64 15808362127397457985) (.int .u64 18325146883770548224)) := by rw [hVb1]; exact ⟨by go_simp, by go_simp, by go_simp, by go_simp, by go_simp, by go_simp, by go_simp, by go_simp⟩
  obtain ⟨cr0, cr1, cr2, cr3, fr0, fr1, fr2, fr3⟩ := Xr.out
  have hner : gr < Va1.heap.size := World.block_lt_of_cell? Va1 _ cr0
  have Yr : Hid (B4q Vb1 gr (.int .u64 0) (.int .u64 0) (.int .u64 0) (.int .u64 0)) := by rw [hVb1]; exact ⟨by go_simp, by go_simp, by go_simp, by go_simp, by go_simp, by go_simp, by go_simp, by go_simp⟩
  clear cr0 cr1 cr2 cr3 fr0 fr1 fr2 fr3 hner
  have hbw2 : Below w.heap.size w Vb1 := by rw [hVb1]; exact bSet (hbw) _ _ _ HGq.out
  clear cq0 cq1 cq2 cq3 fq0 fq1 fq2 fq3 hneq
  rw [← hVb1]
  clear hVb1 hbw Xq Xr
  have hbw := hbw2
  clear hbw2
  have Xq := Yq
  clear Yq
  have Xr := Yr
  clear Yr
  obtain ⟨cq0, cq1, cq2, cq3, fq0, fq1, fq2, fq3⟩ := Xq.out
  have hneq : gq < Vb1.heap.size := World.block_lt_of_cell? Vb1 _ cq0
  go_wp2_with fail
  clear cq0 cq1 cq2 cq3 fq0 fq1 fq2 fq3 hneq
  rw [rounds_succ]
  obtain ⟨cq0, cq1, cq2, cq3, fq0, fq1, fq2, fq3⟩ := Xq.out
  have hneq : gq < Vb1.heap.size := World.block_lt_of_cell? Vb1 _ cq0
  go_wp2_with fail
  clear cq0 cq1 cq2 cq3 fq0 fq1 fq2 fq3 hneq
  obtain ⟨Va2, hVa2⟩ : ∃ W9, W9 = Vb1.drew := ⟨_, rfl⟩
  have hbd : Below Vb1.heap.size Vb1 Va2 := by rw [hVa2]; exact bDrew1 (Below.refl _ _)
  replace Xq : Hid _ := Xq.out.below hbd
  replace Xr : Hid _ := Xr.out.below hbd
  replace hbw := Below.on hbw hbd
  clear hbd
  have HJ : Hid ((fun W' : World => W'.cell? ⟨gq, 2, none⟩ = some (.int .u64 15808362127397457985) ∧ W'.cell? ⟨gq, 3, none⟩ = some (.int .u64 18325146883770548224)) Va2) := ⟨Xq.out.c2, Xq.out.c3⟩
  refine wp_region_L (fun W' => W'.cell? ⟨gq, 2, none⟩ = some (.int .u64 15808362127397457985) ∧ W'.cell? ⟨gq, 3, none⟩ = some (.int .u64 18325146883770548224)) 15 (by kernel_rfl) ?_
  rw [← hVa2]
  clear hVa2
  refine wpL_take (i := 0) (v := ?v76x0) rfl (by kernel_rfl) (by kernel_rfl) (by kernel_rfl) (fun _ _ _ h => h) (by kernel_rfl) ?hy76x0 HJ.out ?rest76x0
  case hy76x0 => (intro W' hJ; obtain ⟨j0, j1⟩ := hJ; go_simp; first | done | with_reducible rfl)
  refine wpL_take (i := 1) (v := ?v77x1) rfl (by kernel_rfl) (by kernel_rfl) (by kernel_rfl) (fun _ _ _ h => h) (by kernel_rfl) ?hy77x1 HJ.out ?rest77x1
  case hy77x1 => (intro W' hJ; obtain ⟨j0, j1⟩ := hJ; go_simp; first | done | with_reducible rfl)
  refine wpL_take (i := 2) (v := ?v78x2) rfl (by kernel_rfl) (by kernel_rfl) (by kernel_rfl) (fun _ _ _ h => h) (by kernel_rfl) ?hy78x2 HJ.out ?rest78x2
  case hy78x2 => (intro W' hJ; obtain ⟨j0, j1⟩ := hJ; go_simp; first | done | with_reducible rfl)
  refine wpL_take (i := 3) (v := ?v79x3) rfl (by kernel_rfl) (by kernel_rfl) (by kernel_rfl) (fun _ _ _ h => h) (by kernel_rfl) ?hy79x3 HJ.out ?rest79x3
  case hy79x3 => (intro W' hJ; obtain ⟨j0, j1⟩ := hJ; go_simp; first | done | with_reducible rfl)
  refine wpL_take (i := 4) (v := ?v80x4) rfl (by kernel_rfl) (by kernel_rfl) (by kernel_rfl) (fun _ _ _ h => h) (by kernel_rfl) ?hy80x4 HJ.out ?rest80x4
  case hy80x4 => (intro W' hJ; obtain ⟨j0, j1⟩ := hJ; go_simp; first | done | with_reducible rfl)
  go_simp
  refine wpL_take (i := 5) (v := ?v81x5) rfl (by kernel_rfl) (by kernel_rfl) (by kernel_rfl) (fun _ _ _ h => h) (by kernel_rfl) ?hy81x5 HJ.out ?rest81x5
  case hy81x5 => (intro W' hJ; obtain ⟨j0, j1⟩ := hJ; go_simp; first | done | with_reducible rfl)
  refine wpL_take (i := 6) (v := ?v82x6) rfl (by kernel_rfl) (by kernel_rfl) (by kernel_rfl) (fun _ _ _ h => h) (by kernel_rfl) ?hy82x6 HJ.out ?rest82x6
  case hy82x6 => (intro W' hJ; obtain ⟨j0, j1⟩ := hJ; go_simp; first | done | with_reducible rfl)
  refine wpL_take (i := 7) (v := ?v83x7) rfl (by kernel_rfl) (by kernel_rfl) (by kernel_rfl) (fun _ _ _ h => h) (by kernel_rfl) ?hy83x7 HJ.out ?rest83x7
  case hy83x7 => (intro W' hJ; obtain ⟨j0, j1⟩ := hJ; go_simp; first | done | with_reducible rfl)
  refine wpL_take (i := 8) (v := ?v84x8) rfl (by kernel_rfl) (by kernel_rfl) (by kernel_rfl) (fun _ _ _ h => h) (by kernel_rfl) ?hy84x8 HJ.out ?rest84x8
  case hy84x8 => (intro W' hJ; obtain ⟨j0, j1⟩ := hJ; go_simp; first | done | with_reducible rfl)
  refine wpL_take (i := 9) (v := ?v85x9) rfl (by kernel_rfl) (by kernel_rfl) (by kernel_rfl) (fun _ _ _ h => h) (by kernel_rfl) ?hy85x9 HJ.out ?rest85x9
  case hy85x9 => (intro W' hJ; obtain ⟨j0, j1⟩ := hJ; go_simp; first | done | with_reducible rfl)
  go_simp
  refine wpL_take (i := 10) (v := ?v86x10) rfl (by kernel_rfl) (by kernel_rfl) (by kernel_rfl) (fun _ _ _ h => h) (by kernel_rfl) ?hy86x10 HJ.out ?rest86x10
  case hy86x10 => (intro W' hJ; obtain ⟨j0, j1⟩ := hJ; go_simp; first | done | with_reducible rfl)
  refine wpL_take (i := 11) (v := ?v87x11) rfl (by kernel_rfl) (by kernel_rfl) (by kernel_rfl) (fun _ _ _ h => h) (by kernel_rfl) ?hy87x11 HJ.out ?rest87x11
  case hy87x11 => (intro W' hJ; obtain ⟨j0, j1⟩ := hJ; go_simp; first | done | with_reducible rfl)
  refine wpL_take (i := 12) (v := ?v88x12) rfl (by kernel_rfl) (by kernel_rfl) (by kernel_rfl) (fun _ _ _ h => h) (by kernel_rfl) ?hy88x12 HJ.out ?rest88x12
  case hy88x12 => (intro W' hJ; obtain ⟨j0, j1⟩ := hJ; go_simp; first | done | with_reducible rfl)
  refine wpL_take (i := 13) (v := ?v89x13) rfl (by kernel_rfl) (by kernel_rfl) (by kernel_rfl) (fun _ _ _ h => h) (by kernel_rfl) ?hy89x13 HJ.out ?rest89x13
  case hy89x13 => (intro W' hJ; obtain ⟨j0, j1⟩ := hJ; go_simp; first | done | with_reducible rfl)
  refine wpL_take (i := 14) (v := ?v90x14) rfl (by kernel_rfl) (by kernel_rfl) (by kernel_rfl) (fun _ _ _ h => h) (by kernel_rfl) ?hy90x14 HJ.out ?rest90x14
  case hy90x14 => (intro W' hJ; obtain ⟨j0, j1⟩ := hJ; go_simp; first | done | with_reducible rfl)
  go_simp
  obtain ⟨cq0, cq1, cq2, cq3, fq0, fq1, fq2, fq3⟩ := Xq.out
  have hneq : gq < Va2.heap.size := World.block_lt_of_cell? Va2 _ cq0
  refine wpL_last (by kernel_rfl) rfl (by kernel_rfl) (fun KJ hK => ?_)
  go_simp
  refine hK _ _ ?_
  clear hK HJ
  refine wpL_done (by kernel_rfl) ?_ _
  obtain ⟨Vb2, hVb2⟩ : ∃ W9, W9 = (Va2.setCell ⟨gq, 2, none⟩ (.int .u64 7893216288461177095)) := ⟨_, rfl⟩
  have Yq : Hid (B4q Vb2 gq (.int .u64 10080759905092916391) (.int .u64 17338118902564222723) (.int .u64 7893216288461177095) (.int .u64 18325146883770548224)) := by rw [hVb2]; exact ⟨by go_simp, by go_simp, by go_simp, by go_simp, by go_simp, by go_simp, by go_simp, by go_simp⟩
  obtain ⟨cr0, cr1, cr2, cr3, fr0, fr1, fr2, fr3⟩ := Xr.out
  have hner : gr < Va2.heap.size := World.block_lt_of_cell? Va2 _ cr0
  have Yr : Hid (B4q Vb2 gr (.int .u64 0) (.int .u64 0) (.int .u64 0) (.int .u64 0)) := by rw [hVb2]; exact ⟨by go_simp, by go_simp, by go_simp, by go_simp, by go_simp, by go_simp, by go_simp, by go_simp⟩
  clear cr0 cr1 cr2 cr3 fr0 fr1 fr2 fr3 hner
  have hbw2 : Below w.heap.size w Vb2 := by rw [hVb2]; exact bSet (hbw) _ _ _ HGq.out
  clear cq0 cq1 cq2 cq3 fq0 fq1 fq2 fq3 hneq
  rw [← hVb2]
  clear hVb2 hbw Xq Xr
  have hbw := hbw2
  clear hbw2
  have Xq := Yq
  clear Yq
  have Xr := Yr
  clear Yr
  obtain ⟨cq0, cq1, cq2, cq3, fq0, fq1, fq2, fq3⟩ := Xq.out
  have hneq : gq < Vb2.heap.size := World.block_lt_of_cell? Vb2 _ cq0
  go_wp2_with fail
  clear cq0 cq1 cq2 cq3 fq0 fq1 fq2 fq3 hneq
  rw [rounds_succ]
  obtain ⟨cq0, cq1, cq2, cq3, fq0, fq1, fq2, fq3⟩ := Xq.out
  have hneq : gq < Vb2.heap.size := World.block_lt_of_cell? Vb2 _ cq0
  obtain ⟨cr0, cr1, cr2, cr3, fr0, fr1, fr2, fr3⟩ := Xr.out
  have hner : gr < Vb2.heap.size := World.block_lt_of_cell? Vb2 _ cr0
  go_wp2_with fail
  refine bodyPost_ret (v := .agg #[.int .u64 10080759905092916391, .int .u64 17338118902564222723, .int .u64 7893216288461177095, .int .u64 17960355313953538048]) (by rw [results_cell1 rfl]; go_simp) rfl ⟨rfl, ?_⟩
  exact bSet (bSet (bSet (bSet (bSet (hbw) _ _ _ HGq.out) _ _ _ HGr.out) _ _ _ HGr.out) _ _ _ HGr.out) _ _ _ HGr.out
theorem doubled_1 (w : World) :
    Calls Tryd.prog 40 #[.agg #[.int .u64 8365984168616635224, .int .u64 1108625171145328892, .int .u64 10553527785248374520, .int .u64 486388759756013568], .int .i64 1] w fun en w' => en = .returned (.agg #[.int .u64 16731968337233270448, .int .u64 2217250342290657785, .int .u64 2660311496787197424, .int .u64 972777519512027136]) ∧ Below w.heap.size w w' := by
  have wf0_ : IntKind.i64.wrap (63) = 63 := by kernel_rfl
  have wf1_ : IntKind.i64.wrap (2) = 2 := by kernel_rfl
  have wf2_ : IntKind.i64.wrap (1) = 1 := by kernel_rfl
  have wf3_ : IntKind.i64.wrap (3) = 3 := by kernel_rfl
  have wr14 : IntKind.u64.wrap (16731968337233270448) = 16731968337233270448 := by kernel_rfl
  have br15 : bits BinOp.or IntKind.u64 (16731968337233270448) (0) = 16731968337233270448 := by kernel_rfl
  have wr16 : IntKind.u64.wrap (2217250342290657784) = 2217250342290657784 := by kernel_rfl
  have br17 : bits BinOp.or IntKind.u64 (2217250342290657784) (1) = 2217250342290657785 := by kernel_rfl
  have wr18 : IntKind.u64.wrap (21107055570496749040) = 2660311496787197424 := by kernel_rfl
  have br19 : bits BinOp.or IntKind.u64 (2660311496787197424) (0) = 2660311496787197424 := by kernel_rfl
  have wr20 : IntKind.u64.wrap (972777519512027136) = 972777519512027136 := by kernel_rfl
  go_enter Tryd.func40, Tryd.ntmps40
  go_wp2_with fail
  obtain ⟨W0, hW0⟩ : ∃ W0, W0 = ((w.alloc (.cells #[.int .u64 8365984168616635224, .int .u64 1108625171145328892, .int .u64 10553527785248374520, .int .u64 486388759756013568] 56)).alloc (.cells #[.int .u64 0, .int .u64 0, .int .u64 0, .int .u64 0] 56)) := ⟨_, rfl⟩
  have Xq : Hid (B4q W0 (w.heap.size) (.int .u64 8365984168616635224) (.int .u64 1108625171145328892) (.int .u64 10553527785248374520) (.int .u64 486388759756013568)) := by rw [hW0]; exact ⟨by go_simp, by go_simp, by go_simp, by go_simp, by go_simp, by go_simp, by go_simp, by go_simp⟩
  have Xr : Hid (B4q W0 (w.heap.size + 1) (.int .u64 0) (.int .u64 0) (.int .u64 0) (.int .u64 0)) := by rw [hW0]; exact ⟨by go_simp, by go_simp, by go_simp, by go_simp, by go_simp, by go_simp, by go_simp, by go_simp⟩
  have hb0 : Below w.heap.size w W0 := by rw [hW0]; exact below2 w _ _
  rw [← hW0]
  clear hW0
  have hbw : Below w.heap.size w w := Below.refl _ _
  obtain ⟨gr, hgr⟩ : ∃ g, g = w.heap.size + 1 := ⟨_, rfl⟩
  have HGr : Hid (w.heap.size ≤ gr) := by rw [hgr]; show _ ≤ _; omega
  rw [← hgr] at Xr
  try rw [← hgr]
  obtain ⟨gq, hgq⟩ : ∃ g, g = w.heap.size := ⟨_, rfl⟩
  have HGq : Hid (w.heap.size ≤ gq) := by rw [hgq]; show _ ≤ _; omega
  rw [← hgq] at Xq
  try rw [← hgq]
  have HGD : Hid (gq ≠ gr ∧ gr ≠ gq) := by rw [hgq, hgr]; exact ⟨by omega, by omega⟩
  clear hgq hgr
  replace hbw := Below.on hbw hb0
  clear hb0
  obtain ⟨hgd0, hgd1⟩ := HGD.out
  obtain ⟨cq0, cq1, cq2, cq3, fq0, fq1, fq2, fq3⟩ := Xq.out
  have hneq : gq < W0.heap.size := World.block_lt_of_cell? W0 _ cq0
  go_wp2_with fail
  clear cq0 cq1 cq2 cq3 fq0 fq1 fq2 fq3 hneq
  refine wp_loop_rounds 4 ?_
  rw [rounds_succ]
  obtain ⟨cq0, cq1, cq2, cq3, fq0, fq1, fq2, fq3⟩ := Xq.out
  have hneq : gq < W0.heap.size := World.block_lt_of_cell? W0 _ cq0
  go_wp2_with fail
  clear cq0 cq1 cq2 cq3 fq0 fq1 fq2 fq3 hneq
  obtain ⟨Va0, hVa0⟩ : ∃ W9, W9 = W0.drew := ⟨_, rfl⟩
  have hbd : Below W0.heap.size W0 Va0 := by rw [hVa0]; exact bDrew1 (Below.refl _ _)
  replace Xq : Hid _ := Xq.out.below hbd
  replace Xr : Hid _ := Xr.out.below hbd
  replace hbw := Below.on hbw hbd
  clear hbd
  have HJ : Hid ((fun W' : World => W'.cell? ⟨gq, 0, none⟩ = some (.int .u64 8365984168616635224) ∧ W'.cell? ⟨gq, 1, none⟩ = some (.int .u64 1108625171145328892)) Va0) := ⟨Xq.out.c0, Xq.out.c1⟩
  refine wp_region_L (fun W' => W'.cell? ⟨gq, 0, none⟩ = some (.int .u64 8365984168616635224) ∧ W'.cell? ⟨gq, 1, none⟩ = some (.int .u64 1108625171145328892)) 15 (by kernel_rfl) ?_
  rw [← hVa0]
  clear hVa0
  refine wpL_take (i := 0) (v := ?v91x0) rfl (by kernel_rfl) (by kernel_rfl) (by kernel_rfl) (fun _ _ _ h => h) (by kernel_rfl) ?hy91x0 HJ.out ?rest91x0
  case hy91x0 => (intro W' hJ; obtain ⟨j0, j1⟩ := hJ; go_simp; first | done | with_reducible rfl)
  refine wpL_take (i := 1) (v := ?v92x1) rfl (by kernel_rfl) (by kernel_rfl) (by kernel_rfl) (fun _ _ _ h => h) (by kernel_rfl) ?hy92x1 HJ.out ?rest92x1
  case hy92x1 => (intro W' hJ; obtain ⟨j0, j1⟩ := hJ; go_simp; first | done | with_reducible rfl)
  refine wpL_take (i := 2) (v := ?v93x2) rfl (by kernel_rfl) (by kernel_rfl) (by kernel_rfl) (fun _ _ _ h => h) (by kernel_rfl) ?hy93x2 HJ.out ?rest93x2
  case hy93x2 => (intro W' hJ; obtain ⟨j0, j1⟩ := hJ; go_simp; first | done | with_reducible rfl)
  refine wpL_take (i := 3) (v := ?v94x3) rfl (by kernel_rfl) (by kernel_rfl) (by kernel_rfl) (fun _ _ _ h => h) (by kernel_rfl) ?hy94x3 HJ.out ?rest94x3
  case hy94x3 => (intro W' hJ; obtain ⟨j0, j1⟩ := hJ; go_simp; first | done | with_reducible rfl)
  refine wpL_take (i := 4) (v := ?v95x4) rfl (by kernel_rfl) (by kernel_rfl) (by kernel_rfl) (fun _ _ _ h => h) (by kernel_rfl) ?hy95x4 HJ.out ?rest95x4
  case hy95x4 => (intro W' hJ; obtain ⟨j0, j1⟩ := hJ; go_simp; first | done | with_reducible rfl)
  go_simp
  refine wpL_take (i := 5) (v := ?v96x5) rfl (by kernel_rfl) (by kernel_rfl) (by kernel_rfl) (fun _ _ _ h => h) (by kernel_rfl) ?hy96x5 HJ.out ?rest96x5
  case hy96x5 => (intro W' hJ; obtain ⟨j0, j1⟩ := hJ; go_simp; first | done | with_reducible rfl)
  refine wpL_take (i := 6) (v := ?v97x6) rfl (by kernel_rfl) (by kernel_rfl) (by kernel_rfl) (fun _ _ _ h => h) (by kernel_rfl) ?hy97x6 HJ.out ?rest97x6
  case hy97x6 => (intro W' hJ; obtain ⟨j0, j1⟩ := hJ; go_simp; first | done | with_reducible rfl)
  refine wpL_take (i := 7) (v := ?v98x7) rfl (by kernel_rfl) (by kernel_rfl) (by kernel_rfl) (fun _ _ _ h => h) (by kernel_rfl) ?hy98x7 HJ.out ?rest98x7
  case hy98x7 => (intro W' hJ; obtain ⟨j0, j1⟩ := hJ; go_simp; first | done | with_reducible rfl)
  refine wpL_take (i := 8) (v := ?v99x8) rfl (by kernel_rfl) (by kernel_rfl) (by kernel_rfl) (fun _ _ _ h => h) (by kernel_rfl) ?hy99x8 HJ.out ?rest99x8
  case hy99x8 => (intro W' hJ; obtain ⟨j0, j1⟩ := hJ; go_simp; first | done | with_reducible rfl)
  refine wpL_take (i := 9) (v := ?v100x9) rfl (by kernel_rfl) (by kernel_rfl) (by kernel_rfl) (fun _ _ _ h => h) (by kernel_rfl) ?hy100x9 HJ.out ?rest100x9
  case hy100x9 => (intro W' hJ; obtain ⟨j0, j1⟩ := hJ; go_simp; first | done | with_reducible rfl)
  go_simp
  refine wpL_take (i := 10) (v := ?v101x10) rfl (by kernel_rfl) (by kernel_rfl) (by kernel_rfl) (fun _ _ _ h => h) (by kernel_rfl) ?hy101x10 HJ.out ?rest101x10
  case hy101x10 => (intro W' hJ; obtain ⟨j0, j1⟩ := hJ; go_simp; first | done | with_reducible rfl)
  refine wpL_take (i := 11) (v := ?v102x11) rfl (by kernel_rfl) (by kernel_rfl) (by kernel_rfl) (fun _ _ _ h => h) (by kernel_rfl) ?hy102x11 HJ.out ?rest102x11
  case hy102x11 => (intro W' hJ; obtain ⟨j0, j1⟩ := hJ; go_simp; first | done | with_reducible rfl)
  refine wpL_take (i := 12) (v := ?v103x12) rfl (by kernel_rfl) (by kernel_rfl) (by kernel_rfl) (fun _ _ _ h => h) (by kernel_rfl) ?hy103x12 HJ.out ?rest103x12
  case hy103x12 => (intro W' hJ; obtain ⟨j0, j1⟩ := hJ; go_simp; first | done | with_reducible rfl)
  refine wpL_take (i := 13) (v := ?v104x13) rfl (by kernel_rfl) (by kernel_rfl) (by kernel_rfl) (fun _ _ _ h => h) (by kernel_rfl) ?hy104x13 HJ.out ?rest104x13
  case hy104x13 => (intro W' hJ; obtain ⟨j0, j1⟩ := hJ; go_simp; first | done | with_reducible rfl)
  refine wpL_take (i := 14) (v := ?v105x14) rfl (by kernel_rfl) (by kernel_rfl) (by kernel_rfl) (fun _ _ _ h => h) (by kernel_rfl) ?hy105x14 HJ.out ?rest105x14
  case hy105x14 => (intro W' hJ; obtain ⟨j0, j1⟩ := hJ; go_simp; first | done | with_reducible rfl)
  go_simp
  obtain ⟨cq0, cq1, cq2, cq3, fq0, fq1, fq2, fq3⟩ := Xq.out
  have hneq : gq < Va0.heap.size := World.block_lt_of_cell? Va0 _ cq0
  refine wpL_last (by kernel_rfl) rfl (by kernel_rfl) (fun KJ hK => ?_)
  go_simp
  refine hK _ _ ?_
  clear hK HJ
  refine wpL_done (by kernel_rfl) ?_ _
  obtain ⟨Vb0, hVb0⟩ : ∃ W9, W9 = (Va0.setCell ⟨gq, 0, none⟩ (.int .u64 16731968337233270448)) := ⟨_, rfl⟩
  have Yq : Hid (B4q Vb0 gq (.int .u64 16731968337233270448) (.int .u64 1108625171145328892) (.int .u64 10553527785248374520) (.int .u64 486388759756013568)) := by rw [hVb0]; exact ⟨by go_simp, by go_simp, by go_simp, by go_simp, by go_simp, by go_simp, by go_simp, by go_simp⟩
  obtain ⟨cr0, cr1, cr2, cr3, fr0, fr1, fr2, fr3⟩ := Xr.out
  have hner : gr < Va0.heap.size := World.block_lt_of_cell? Va0 _ cr0
  have Yr : Hid (B4q Vb0 gr (.int .u64 0) (.int .u64 0) (.int .u64 0) (.int .u64 0)) := by rw [hVb0]; exact ⟨by go_simp, by go_simp, by go_simp, by go_simp, by go_simp, by go_simp, by go_simp, by go_simp⟩
  clear cr0 cr1 cr2 cr3 fr0 fr1 fr2 fr3 hner
  have hbw2 : Below w.heap.size w Vb0 := by rw [hVb0]; exact bSet (hbw) _ _ _ HGq.out
  clear cq0 cq1 cq2 cq3 fq0 fq1 fq2 fq3 hneq
  rw [← hVb0]
  clear hVb0 hbw Xq Xr
  have hbw := hbw2
  clear hbw2
  have Xq := Yq
  clear Yq
  have Xr := Yr
  clear Yr
  obtain ⟨cq0, cq1, cq2, cq3, fq0, fq1, fq2, fq3⟩ := Xq.out
  have hneq : gq < Vb0.heap.size := World.block_lt_of_cell? Vb0 _ cq0
  go_wp2_with fail
  clear cq0 cq1 cq2 cq3 fq0 fq1 fq2 fq3 hneq
  rw [rounds_succ]
  obtain ⟨cq0, cq1, cq2, cq3, fq0, fq1, fq2, fq3⟩ := Xq.out
  have hneq : gq < Vb0.heap.size := World.block_lt_of_cell? Vb0 _ cq0
  go_wp2_with fail
  clear cq0 cq1 cq2 cq3 fq0 fq1 fq2 fq3 hneq
  obtain ⟨Va1, hVa1⟩ : ∃ W9, W9 = Vb0.drew := ⟨_, rfl⟩
  have hbd : Below Vb0.heap.size Vb0 Va1 := by rw [hVa1]; exact bDrew1 (Below.refl _ _)
  replace Xq : Hid _ := Xq.out.below hbd
  replace Xr : Hid _ := Xr.out.below hbd
  replace hbw := Below.on hbw hbd
  clear hbd
  have HJ : Hid ((fun W' : World => W'.cell? ⟨gq, 1, none⟩ = some (.int .u64 1108625171145328892) ∧ W'.cell? ⟨gq, 2, none⟩ = some (.int .u64 10553527785248374520)) Va1) := ⟨Xq.out.c1, Xq.out.c2⟩
  refine wp_region_L (fun W' => W'.cell? ⟨gq, 1, none⟩ = some (.int .u64 1108625171145328892) ∧ W'.cell? ⟨gq, 2, none⟩ = some (.int .u64 10553527785248374520)) 15 (by kernel_rfl) ?_
  rw [← hVa1]
  clear hVa1
  refine wpL_take (i := 0) (v := ?v106x0) rfl (by kernel_rfl) (by kernel_rfl) (by kernel_rfl) (fun _ _ _ h => h) (by kernel_rfl) ?hy106x0 HJ.out ?rest106x0
  case hy106x0 => (intro W' hJ; obtain ⟨j0, j1⟩ := hJ; go_simp; first | done | with_reducible rfl)
  refine wpL_take (i := 1) (v := ?v107x1) rfl (by kernel_rfl) (by kernel_rfl) (by kernel_rfl) (fun _ _ _ h => h) (by kernel_rfl) ?hy107x1 HJ.out ?rest107x1
  case hy107x1 => (intro W' hJ; obtain ⟨j0, j1⟩ := hJ; go_simp; first | done | with_reducible rfl)
  refine wpL_take (i := 2) (v := ?v108x2) rfl (by kernel_rfl) (by kernel_rfl) (by kernel_rfl) (fun _ _ _ h => h) (by kernel_rfl) ?hy108x2 HJ.out ?rest108x2
  case hy108x2 => (intro W' hJ; obtain ⟨j0, j1⟩ := hJ; go_simp; first | done | with_reducible rfl)
  refine wpL_take (i := 3) (v := ?v109x3) rfl (by kernel_rfl) (by kernel_rfl) (by kernel_rfl) (fun _ _ _ h => h) (by kernel_rfl) ?hy109x3 HJ.out ?rest109x3
  case hy109x3 => (intro W' hJ; obtain ⟨j0, j1⟩ := hJ; go_simp; first | done | with_reducible rfl)
  refine wpL_take (i := 4) (v := ?v110x4) rfl (by kernel_rfl) (by kernel_rfl) (by kernel_rfl) (fun _ _ _ h => h) (by kernel_rfl) ?hy110x4 HJ.out ?rest110x4
  case hy110x4 => (intro W' hJ; obtain ⟨j0, j1⟩ := hJ; go_simp; first | done | with_reducible rfl)
  go_simp
  refine wpL_take (i := 5) (v := ?v111x5) rfl (by kernel_rfl) (by kernel_rfl) (by kernel_rfl) (fun _ _ _ h => h) (by kernel_rfl) ?hy111x5 HJ.out ?rest111x5
  case hy111x5 => (intro W' hJ; obtain ⟨j0, j1⟩ := hJ; go_simp; first | done | with_reducible rfl)
  refine wpL_take (i := 6) (v := ?v112x6) rfl (by kernel_rfl) (by kernel_rfl) (by kernel_rfl) (fun _ _ _ h => h) (by kernel_rfl) ?hy112x6 HJ.out ?rest112x6
  case hy112x6 => (intro W' hJ; obtain ⟨j0, j1⟩ := hJ; go_simp; first | done | with_reducible rfl)
  refine wpL_take (i := 7) (v := ?v113x7) rfl (by kernel_rfl) (by kernel_rfl) (by kernel_rfl) (fun _ _ _ h => h) (by kernel_rfl) ?hy113x7 HJ.out ?rest113x7
  case hy113x7 => (intro W' hJ; obtain ⟨j0, j1⟩ := hJ; go_simp; first | done | with_reducible rfl)
  refine wpL_take (i := 8) (v := ?v114x8) rfl (by kernel_rfl) (by kernel_rfl) (by kernel_rfl) (fun _ _ _ h => h) (by kernel_rfl) ?hy114x8 HJ.out ?rest114x8
  case hy114x8 => (intro W' hJ; obtain ⟨j0, j1⟩ := hJ; go_simp; first | done | with_reducible rfl)
  refine wpL_take (i := 9) (v := ?v115x9) rfl (by kernel_rfl) (by kernel_rfl) (by kernel_rfl) (fun _ _ _ h => h) (by kernel_rfl) ?hy115x9 HJ.out ?rest115x9
  case hy115x9 => (intro W' hJ; obtain ⟨j0, j1⟩ := hJ; go_simp; first | done | with_reducible rfl)
  go_simp
  refine wpL_take (i := 10) (v := ?v116x10) rfl (by kernel_rfl) (by kernel_rfl) (by kernel_rfl) (fun _ _ _ h => h) (by kernel_rfl) ?hy116x10 HJ.out ?rest116x10
  case hy116x10 => (intro W' hJ; obtain ⟨j0, j1⟩ := hJ; go_simp; first | done | with_reducible rfl)
  refine wpL_take (i := 11) (v := ?v117x11) rfl (by kernel_rfl) (by kernel_rfl) (by kernel_rfl) (fun _ _ _ h => h) (by kernel_rfl) ?hy117x11 HJ.out ?rest117x11
  case hy117x11 => (intro W' hJ; obtain ⟨j0, j1⟩ := hJ; go_simp; first | done | with_reducible rfl)
  refine wpL_take (i := 12) (v := ?v118x12) rfl (by kernel_rfl) (by kernel_rfl) (by kernel_rfl) (fun _ _ _ h => h) (by kernel_rfl) ?hy118x12 HJ.out ?rest118x12
  case hy118x12 => (intro W' hJ; obtain ⟨j0, j1⟩ := hJ; go_simp; first | done | with_reducible rfl)
  refine wpL_take (i := 13) (v := ?v119x13) rfl (by kernel_rfl) (by kernel_rfl) (by kernel_rfl) (fun _ _ _ h => h) (by kernel_rfl) ?hy119x13 HJ.out ?rest119x13
  case hy119x13 => (intro W' hJ; obtain ⟨j0, j1⟩ := hJ; go_simp; first | done | with_reducible rfl)
  refine wpL_take (i := 14) (v := ?v120x14) rfl (by kernel_rfl) (by kernel_rfl) (by kernel_rfl) (fun _ _ _ h => h) (by kernel_rfl) ?hy120x14 HJ.out ?rest120x14
  case hy120x14 => (intro W' hJ; obtain ⟨j0, j1⟩ := hJ; go_simp; first | done | with_reducible rfl)
  go_simp
  obtain ⟨cq0, cq1, cq2, cq3, fq0, fq1, fq2, fq3⟩ := Xq.out
  have hneq : gq < Va1.heap.size := World.block_lt_of_cell? Va1 _ cq0
  refine wpL_last (by kernel_rfl) rfl (by kernel_rfl) (fun KJ hK => ?_)
  go_simp
  refine hK _ _ ?_
  clear hK HJ
  refine wpL_done (by kernel_rfl) ?_ _
  obtain ⟨Vb1, hVb1⟩ : ∃ W9, W9 = (Va1.setCell ⟨gq, 1, none⟩ (.int .u64 2217250342290657785)) := ⟨_, rfl⟩
  have Yq : Hid (B4q Vb1 gq (.int .u64 16731968337233270448) (.int .u64 2217250342290657785) (.int .u64 10553527785248374520) (.int .u64 486388759756013568)) := by rw [hVb1]; exact ⟨by go_simp, by go_simp, by go_simp, by go_simp, by go_simp, by go_simp, by go_simp, by go_simp⟩
  obtain ⟨cr0, cr1, cr2, cr3, fr0, fr1, fr2, fr3⟩ := Xr.out
  have hner : gr < Va1.heap.size := World.block_lt_of_cell? Va1 _ cr0
  have Yr : Hid (B4q Vb1 gr (.int .u64 0) (.int .u64 0) (.int .u64 0) (.int .u64 0)) := by rw [hVb1]; exact ⟨by go_simp, by go_simp, by go_simp, by go_simp, by go_simp, by go_simp, by go_simp, by go_simp⟩
  clear cr0 cr1 cr2 cr3 fr0 fr1 fr2 fr3 hner
  have hbw2 : Below w.heap.size w Vb1 := by rw [hVb1]; exact bSet (hbw) _ _ _ HGq.out
  clear cq0 cq1 cq2 cq3 fq0 fq1 fq2 fq3 hneq
  rw [← hVb1]
  clear hVb1 hbw Xq Xr
  have hbw := hbw2
  clear hbw2
  have Xq := Yq
  clear Yq
  have Xr := Yr
  clear Yr
  obtain ⟨cq0, cq1, cq2, cq3, fq0, fq1, fq2, fq3⟩ := Xq.out
  have hneq : gq < Vb1.heap.size := World.block_lt_of_cell? Vb1 _ cq0
  go_wp2_with fail
  clear cq0 cq1 cq2 cq3 fq0 fq1 fq2 fq3 hneq
  rw [rounds_succ]
  obtain ⟨cq0, cq1, cq2, cq3, fq0, fq1, fq2, fq3⟩ := Xq.out
  have hneq : gq < Vb1.heap.size := World.block_lt_of_cell? Vb1 _ cq0
  go_wp2_with fail
  clear cq0 cq1 cq2 cq3 fq0 fq1 fq2 fq3 hneq
  obtain ⟨Va2, hVa2⟩ : ∃ W9, W9 = Vb1.drew := ⟨_, rfl⟩
  have hbd : Below Vb1.heap.size Vb1 Va2 := by rw [hVa2]; exact bDrew1 (Below.refl _ _)
  replace Xq : Hid _ := Xq.out.below hbd
  replace Xr : Hid _ := Xr.out.below hbd
  replace hbw := Below.on hbw hbd
  clear hbd
  have HJ : Hid ((fun W' : World => W'.cell? ⟨gq, 2, none⟩ = some (.int .u64 10553527785248374520) ∧ W'.cell? ⟨gq, 3, none⟩ = some (.int .u64 486388759756013568)) Va2) := ⟨Xq.out.c2, Xq.out.c3⟩
  refine wp_region_L (fun W' => W'.cell? ⟨gq, 2, none⟩ = some (.int .u64 10553527785248374520) ∧ W'.cell? ⟨gq, 3, none⟩ = some (.int .u64 486388759756013568)) 15 (by kernel_rfl) ?_
  rw [← hVa2]
  clear hVa2
  refine wpL_take (i := 0) (v := ?v121x0) rfl (by kernel_rfl) (by kernel_rfl) (by kernel_rfl) (fun _ _ _ h => h) (by kernel_rfl) ?hy121x0 HJ.out ?rest121x0
  case hy121x0 => (intro W' hJ; obtain ⟨j0, j1⟩ := hJ; go_simp; first | done | with_reducible rfl)
  refine wpL_take (i := 1) (v := ?v122x1) rfl (by kernel_rfl) (by kernel_rfl) (by kernel_rfl) (fun _ _ _ h => h) (by kernel_rfl) ?hy122x1 HJ.out ?rest122x1
  case hy122x1 => (intro W' hJ; obtain ⟨j0, j1⟩ := hJ; go_simp; first | done | with_reducible rfl)
  refine wpL_take (i := 2) (v := ?v123x2) rfl (by kernel_rfl) (by kernel_rfl) (by kernel_rfl) (fun _ _ _ h => h) (by kernel_rfl) ?hy123x2 HJ.out ?rest123x2
  case hy123x2 => (intro W' hJ; obtain ⟨j0, j1⟩ := hJ; go_simp; first | done | with_reducible rfl)
  refine wpL_take (i := 3) (v := ?v124x3) rfl (by kernel_rfl) (by kernel_rfl) (by kernel_rfl) (fun _ _ _ h => h) (by kernel_rfl) ?hy124x3 HJ.out ?rest124x3
  case hy124x3 => (intro W' hJ; obtain ⟨j0, j1⟩ := hJ; go_simp; first | done | with_reducible rfl)
  refine wpL_take (i := 4) (v := ?v125x4) rfl (by kernel_rfl) (by kernel_rfl) (by kernel_rfl) (fun _ _ _ h => h) (by kernel_rfl) ?hy125x4 HJ.out ?rest125x4
  case hy125x4 => (intro W' hJ; obtain ⟨j0, j1⟩ := hJ; go_simp; first | done | with_reducible rfl)
  go_simp
  refine wpL_take (i := 5) (v := ?v126x5) rfl (by kernel_rfl) (by kernel_rfl) (by kernel_rfl) (fun _ _ _ h => h) (by kernel_rfl) ?hy126x5 HJ.out ?rest126x5
  case hy126x5 => (intro W' hJ; obtain ⟨j0, j1⟩ := hJ; go_simp; first | done | with_reducible rfl)
  refine wpL_take (i := 6) (v := ?v127x6) rfl (by kernel_rfl) (by kernel_rfl) (by kernel_rfl) (fun _ _ _ h => h) (by kernel_rfl) ?hy127x6 HJ.out ?rest127x6
  case hy127x6 => (intro W' hJ; obtain ⟨j0, j1⟩ := hJ; go_simp; first | done | with_reducible rfl)
  refine wpL_take (i := 7) (v := ?v128x7) rfl (by kernel_rfl) (by kernel_rfl) (by kernel_rfl) (fun _ _ _ h => h) (by kernel_rfl) ?hy128x7 HJ.out ?rest128x7
  case hy128x7 => (intro W' hJ; obtain ⟨j0, j1⟩ := hJ; go_simp; first | done | with_reducible rfl)
  refine wpL_take (i := 8) (v := ?v129x8) rfl (by kernel_rfl) (by kernel_rfl) (by kernel_rfl) (fun _ _ _ h => h) (by kernel_rfl) ?hy129x8 HJ.out ?rest129x8
  case hy129x8 => (intro W' hJ; obtain ⟨j0, j1⟩ := hJ; go_simp; first | done | with_reducible rfl)
  refine wpL_take (i := 9) (v := ?v130x9) rfl (by kernel_rfl) (by kernel_rfl) (by kernel_rfl) (fun _ _ _ h => h) (by kernel_rfl) ?hy130x9 HJ.out ?rest130x9
  case hy130x9 => (intro W' hJ; obtain ⟨j0, j1⟩ := hJ; go_simp; first | done | with_reducible rfl)
  go_simp
  refine wpL_take (i := 10) (v := ?v131x10) rfl (by kernel_rfl) (by kernel_rfl) (by kernel_rfl) (fun _ _ _ h => h) (by kernel_rfl) ?hy131x10 HJ.out ?rest131x10
  case hy131x10 => (intro W' hJ; obtain ⟨j0, j1⟩ := hJ; go_simp; first | done | with_reducible rfl)
  refine wpL_take (i := 11) (v := ?v132x11) rfl (by kernel_rfl) (by kernel_rfl) (by kernel_rfl) (fun _ _ _ h => h) (by kernel_rfl) ?hy132x11 HJ.out ?rest132x11
  case hy132x11 => (intro W' hJ; obtain ⟨j0, j1⟩ := hJ; go_simp; first | done | with_reducible rfl)
  refine wpL_take (i := 12) (v := ?v133x12) rfl (by kernel_rfl) (by kernel_rfl) (by kernel_rfl) (fun _ _ _ h => h) (by kernel_rfl) ?hy133x12 HJ.out ?rest133x12
  case hy133x12 => (intro W' hJ; obtain ⟨j0, j1⟩ := hJ; go_simp; first | done | with_reducible rfl)
  refine wpL_take (i := 13) (v := ?v134x13) rfl (by kernel_rfl) (by kernel_rfl) (by kernel_rfl) (fun _ _ _ h => h) (by kernel_rfl) ?hy134x13 HJ.out ?rest134x13
  case hy134x13 => (intro W' hJ; obtain ⟨j0, j1⟩ := hJ; go_simp; first | done | with_reducible rfl)
  refine wpL_take (i := 14) (v := ?v135x14) rfl (by kernel_rfl) (by kernel_rfl) (by kernel_rfl) (fun _ _ _ h => h) (by kernel_rfl) ?hy135x14 HJ.out ?rest135x14
  case hy135x14 => (intro W' hJ; obtain ⟨j0, j1⟩ := hJ; go_simp; first | done | with_reducible rfl)
  go_simp
  obtain ⟨cq0, cq1, cq2, cq3, fq0, fq1, fq2, fq3⟩ := Xq.out
  have hneq : gq < Va2.heap.size := World.block_lt_of_cell? Va2 _ cq0
  refine wpL_last (by kernel_rfl) rfl (by kernel_rfl) (fun KJ hK => ?_)
  go_simp
  refine hK _ _ ?_
  clear hK HJ
  refine wpL_done (by kernel_rfl) ?_ _
  obtain ⟨Vb2, hVb2⟩ : ∃ W9, W9 = (Va2.setCell ⟨gq, 2, none⟩ (.int .u64 2660311496787197424)) := ⟨_, rfl⟩
  have Yq : Hid (B4q Vb2 gq (.int .u64 16731968337233270448) (.int .u64 2217250342290657785) (.int .u64 2660311496787197424) (.int .u64 486388759756013568)) := by rw [hVb2]; exact ⟨by go_simp, by go_simp, by go_simp, by go_simp, by go_simp, by go_simp, by go_simp, by go_simp⟩
  obtain ⟨cr0, cr1, cr2, cr3, fr0, fr1, fr2, fr3⟩ := Xr.out
  have hner : gr < Va2.heap.size := World.block_lt_of_cell? Va2 _ cr0
  have Yr : Hid (B4q Vb2 gr (.int .u64 0) (.int .u64 0) (.int .u64 0) (.int .u64 0)) := by rw [hVb2]; exact ⟨by go_simp, by go_simp, by go_simp, by go_simp, by go_simp, by go_simp, by go_simp, by go_simp⟩
  clear cr0 cr1 cr2 cr3 fr0 fr1 fr2 fr3 hner
  have hbw2 : Below w.heap.size w Vb2 := by rw [hVb2]; exact bSet (hbw) _ _ _ HGq.out
  clear cq0 cq1 cq2 cq3 fq0 fq1 fq2 fq3 hneq
  rw [← hVb2]
  clear hVb2 hbw Xq Xr
  have hbw := hbw2
  clear hbw2
  have Xq := Yq
  clear Yq
  have Xr := Yr
  clear Yr
  obtain ⟨cq0, cq1, cq2, cq3, fq0, fq1, fq2, fq3⟩ := Xq.out
  have hneq : gq < Vb2.heap.size := World.block_lt_of_cell? Vb2 _ cq0
  go_wp2_with fail
  clear cq0 cq1 cq2 cq3 fq0 fq1 fq2 fq3 hneq
  rw [rounds_succ]
  obtain ⟨cq0, cq1, cq2, cq3, fq0, fq1, fq2, fq3⟩ := Xq.out
  have hneq : gq < Vb2.heap.size := World.block_lt_of_cell? Vb2 _ cq0
  obtain ⟨cr0, cr1, cr2, cr3, fr0, fr1, fr2, fr3⟩ := Xr.out
  have hner : gr < Vb2.heap.size := World.block_lt_of_cell? Vb2 _ cr0
  go_wp2_with fail
  refine bodyPost_ret (v := .agg #[.int .u64 16731968337233270448, .int .u64 2217250342290657785, .int .u64 2660311496787197424, .int .u64 972777519512027136]) (by rw [results_cell1 rfl]; go_simp) rfl ⟨rfl, ?_⟩
  exact bSet (bSet (bSet (bSet (bSet (hbw) _ _ _ HGq.out) _ _ _ HGr.out) _ _ _ HGr.out) _ _ _ HGr.out) _ _ _ HGr.out
theorem times_52 (w : World) :
    Calls Tryd.prog 22 #[.agg #[.int .u64 2607, .int .u64 10968205611507032002, .int .u64 8465957317175414198, .int .u64 2979575099461738469], .int .u64 4503599627370496] w fun en w' => en = .returned (.agg #[.int .u64 11743562013128004905, .int .u64 18169587780923219392, .int .u64 15808362127397457985, .int .u64 18325146883770548224]) ∧ Below w.heap.size w w' := by
  have wf0_ : IntKind.i64.wrap (2) = 2 := by kernel_rfl
  have wf1_ : IntKind.i64.wrap (1) = 1 := by kernel_rfl
  have wf2_ : IntKind.i64.wrap (0) = 0 := by kernel_rfl
  have hA3 : ∀ w, (callFunc 39 #[.int .u64 18325146883770548224, .int .u64 0, .int .u64 0]).run Tryd.prog w = .ok (.value (.tuple #[.int .u64 18325146883770548224, .int .u64 0])) w := fun w => add_3 w
  have wr21 : IntKind.u64.wrap (727435327017025) = 727435327017025 := by kernel_rfl
  have hA2 : ∀ w, (callFunc 39 #[.int .u64 15807634692070440960, .int .u64 727435327017025, .int .u64 0]).run Tryd.prog w = .ok (.value (.tuple #[.int .u64 15808362127397457985, .int .u64 0])) w := fun w => add_2 w
  have wr22 : IntKind.u64.wrap (2066884110638528) = 2066884110638528 := by kernel_rfl
  have hA1 : ∀ w, (callFunc 39 #[.int .u64 18167520896812580864, .int .u64 2066884110638528, .int .u64 0]).run Tryd.prog w = .ok (.value (.tuple #[.int .u64 18169587780923219392, .int .u64 0])) w := fun w => add_1 w
  have wr23 : IntKind.u64.wrap (2677784573121833) = 2677784573121833 := by kernel_rfl
  have hA0 : ∀ w, (callFunc 39 #[.int .u64 11740884228554883072, .int .u64 2677784573121833, .int .u64 0]).run Tryd.prog w = .ok (.value (.tuple #[.int .u64 11743562013128004905, .int .u64 0])) w := fun w => add_0 w
  have wr24 : IntKind.u64.wrap (0) = 0 := by kernel_rfl
  go_enter Tryd.func22, Tryd.ntmps22
  go_wp2_with fail
  obtain ⟨W0, hW0⟩ : ∃ W0, W0 = ((w.alloc (.cells #[.int .u64 2607, .int .u64 10968205611507032002, .int .u64 8465957317175414198, .int .u64 2979575099461738469] 56)).alloc (.cells #[.int .u64 0, .int .u64 0, .int .u64 0, .int .u64 0] 56)) := ⟨_, rfl⟩
  have Xq : Hid (B4q W0 (w.heap.size) (.int .u64 2607) (.int .u64 10968205611507032002) (.int .u64 8465957317175414198) (.int .u64 2979575099461738469)) := by rw [hW0]; exact ⟨by go_simp, by go_simp, by go_simp, by go_simp, by go_simp, by go_simp, by go_simp, by go_simp⟩
  have Xr : Hid (B4q W0 (w.heap.size + 1) (.int .u64 0) (.int .u64 0) (.int .u64 0) (.int .u64 0)) := by rw [hW0]; exact ⟨by go_simp, by go_simp, by go_simp, by go_simp, by go_simp, by go_simp, by go_simp, by go_simp⟩
  have hb0 : Below w.heap.size w W0 := by rw [hW0]; exact below2 w _ _
  rw [← hW0]
  clear hW0
  have hbw : Below w.heap.size w w := Below.refl _ _
  obtain ⟨gr, hgr⟩ : ∃ g, g = w.heap.size + 1 := ⟨_, rfl⟩
  have HGr : Hid (w.heap.size ≤ gr) := by rw [hgr]; show _ ≤ _; omega
  rw [← hgr] at Xr
  try rw [← hgr]
  obtain ⟨gq, hgq⟩ : ∃ g, g = w.heap.size := ⟨_, rfl⟩
  have HGq : Hid (w.heap.size ≤ gq) := by rw [hgq]; show _ ≤ _; omega
  rw [← hgq] at Xq
  try rw [← hgq]
  have HGD : Hid (gq ≠ gr ∧ gr ≠ gq) := by rw [hgq, hgr]; exact ⟨by omega, by omega⟩
  clear hgq hgr
  replace hbw := Below.on hbw hb0
  clear hb0
  obtain ⟨hgd0, hgd1⟩ := HGD.out
  obtain ⟨cq0, cq1, cq2, cq3, fq0, fq1, fq2, fq3⟩ := Xq.out
  have hneq : gq < W0.heap.size := World.block_lt_of_cell? W0 _ cq0
  go_wp2_with fail
  clear cq0 cq1 cq2 cq3 fq0 fq1 fq2 fq3 hneq
  refine wp_loop_rounds 5 ?_
  rw [rounds_succ]
  obtain ⟨cq0, cq1, cq2, cq3, fq0, fq1, fq2, fq3⟩ := Xq.out
  have hneq : gq < W0.heap.size := World.block_lt_of_cell? W0 _ cq0
  go_wp2_with fail
  clear cq0 cq1 cq2 cq3 fq0 fq1 fq2 fq3 hneq
  refine (mul_3 _).mono ?_
  rintro e v9 ⟨rfl, hw⟩
  obtain rfl := hw.symm
  clear hw
  obtain ⟨cq0, cq1, cq2, cq3, fq0, fq1, fq2, fq3⟩ := Xq.out
  have hneq : gq < W0.heap.size := World.block_lt_of_cell? W0 _ cq0
  go_wp2_with fail
  obtain ⟨Vb3, hVb3⟩ : ∃ W9, W9 = (W0.setCell ⟨gq, 3, none⟩ (.int .u64 18325146883770548224)) := ⟨_, rfl⟩
  have Yq : Hid (B4q Vb3 gq (.int .u64 2607) (.int .u64 10968205611507032002) (.int .u64 8465957317175414198) (.int .u64 18325146883770548224)) := by rw [hVb3]; exact ⟨by go_simp, by go_simp, by go_simp, by go_simp, by go_simp, by go_simp, by go_simp, by go_simp⟩
  obtain ⟨cr0, cr1, cr2, cr3, fr0, fr1, fr2, fr3⟩ := Xr.out
  have hner : gr < W0.heap.size := World.block_lt_of_cell? W0 _ cr0
  have Yr : Hid (B4q Vb3 gr (.int .u64 0) (.int .u64 0) (.int .u64 0) (.int .u64 0)) := by rw [hVb3]; exact ⟨by go_simp, by go_simp, by go_simp, by go_simp, by go_simp, by go_simp, by go_simp, by go_simp⟩
  clear cr0 cr1 cr2 cr3 fr0 fr1 fr2 fr3 hner
  have hbw2 : Below w.heap.size w Vb3 := by rw [hVb3]; exact bSet (hbw) _ _ _ HGq.out
  clear cq0 cq1 cq2 cq3 fq0 fq1 fq2 fq3 hneq
  rw [← hVb3]
  clear hVb3 hbw Xq Xr
  have hbw := hbw2
  clear hbw2
  have Xq := Yq
  clear Yq
  have Xr := Yr
  clear Yr
  rw [rounds_succ]
  obtain ⟨cq0, cq1, cq2, cq3, fq0, fq1, fq2, fq3⟩ := Xq.out
  have hneq : gq < Vb3.heap.size := World.block_lt_of_cell? Vb3 _ cq0
  go_wp2_with fail
  clear cq0 cq1 cq2 cq3 fq0 fq1 fq2 fq3 hneq
  refine (mul_2 _).mono ?_
  rintro e v9 ⟨rfl, hw⟩
  obtain rfl := hw.symm
  clear hw
  obtain ⟨cq0, cq1, cq2, cq3, fq0, fq1, fq2, fq3⟩ := Xq.out
  have hneq : gq < Vb3.heap.size := World.block_lt_of_cell? Vb3 _ cq0
  go_wp2_with fail
  obtain ⟨Vb2, hVb2⟩ : ∃ W9, W9 = (Vb3.setCell ⟨gq, 2, none⟩ (.int .u64 15808362127397457985)) := ⟨_, rfl⟩
  have Yq : Hid (B4q Vb2 gq (.int .u64 2607) (.int .u64 10968205611507032002) (.int .u64 15808362127397457985) (.int .u64 18325146883770548224)) := by rw [hVb2]; exact ⟨by go_simp, by go_simp, by go_simp, by go_simp, by go_simp, by go_simp, by go_simp, by go_simp⟩
  obtain ⟨cr0, cr1, cr2, cr3, fr0, fr1, fr2, fr3⟩ := Xr.out
  have hner : gr < Vb3.heap.size := World.block_lt_of_cell? Vb3 _ cr0
  have Yr : Hid (B4q Vb2 gr (.int .u64 0) (.int .u64 0) (.int .u64 0) (.int .u64 0)) := by rw [hVb2]; exact ⟨by go_simp, by go_simp, by go_simp, by go_simp, by go_simp, by go_simp, by go_simp, by go_simp⟩
  clear cr0 cr1 cr2 cr3 fr0 fr1 fr2 fr3 hner
  have hbw2 : Below w.heap.size w Vb2 := by rw [hVb2]; exact bSet (hbw) _ _ _ HGq.out
  clear cq0 cq1 cq2 cq3 fq0 fq1 fq2 fq3 hneq
  rw [← hVb2]
  clear hVb2 hbw Xq Xr
  have hbw := hbw2
  clear hbw2
  have Xq := Yq
  clear Yq
  have Xr := Yr
  clear Yr
  rw [rounds_succ]
  obtain ⟨cq0, cq1, cq2, cq3, fq0, fq1, fq2, fq3⟩ := Xq.out
  have hneq : gq < Vb2.heap.size := World.block_lt_of_cell? Vb2 _ cq0
  go_wp2_with fail
  clear cq0 cq1 cq2 cq3 fq0 fq1 fq2 fq3 hneq
  refine (mul_1 _).mono ?_
  rintro e v9 ⟨rfl, hw⟩
  obtain rfl := hw.symm
  clear hw
  obtain ⟨cq0, cq1, cq2, cq3, fq0, fq1, fq2, fq3⟩ := Xq.out
  have hneq : gq < Vb2.heap.size := World.block_lt_of_cell? Vb2 _ cq0
  go_wp2_with fail
  obtain ⟨Vb1, hVb1⟩ : ∃ W9, W9 = (Vb2.setCell ⟨gq, 1, none⟩ (.int .u64 18169587780923219392)) := ⟨_, rfl⟩
  have Yq : Hid (B4q Vb1 gq (.int .u64 2607) (.int .u64 18169587780923219392) (.int .u64 15808362127397457985) (.int .u64 18325146883770548224)) := by rw [hVb1]; exact ⟨by go_simp, by go_simp, by go_simp, by go_simp, by go_simp, by go_simp, by go_simp, by go_simp⟩
  obtain ⟨cr0, cr1, cr2, cr3, fr0, fr1, fr2, fr3⟩ := Xr.out
  have hner : gr < Vb2.heap.size := World.block_lt_of_cell? Vb2 _ cr0
  have Yr : Hid (B4q Vb1 gr (.int .u64 0) (.int .u64 0) (.int .u64 0) (.int .u64 0)) := by rw [hVb1]; exact ⟨by go_simp, by go_simp, by go_simp, by go_simp, by go_simp, by go_simp, by go_simp, by go_simp⟩
  clear cr0 cr1 cr2 cr3 fr0 fr1 fr2 fr3 hner
  have hbw2 : Below w.heap.size w Vb1 := by rw [hVb1]; exact bSet (hbw) _ _ _ HGq.out
  clear cq0 cq1 cq2 cq3 fq0 fq1 fq2 fq3 hneq
  rw [← hVb1]
  clear hVb1 hbw Xq Xr
  have hbw := hbw2
  clear hbw2
  have Xq := Yq
  clear Yq
  have Xr := Yr
  clear Yr
  rw [rounds_succ]
  obtain ⟨cq0, cq1, cq2, cq3, fq0, fq1, fq2, fq3⟩ := Xq.out
  have hneq : gq < Vb1.heap.size := World.block_lt_of_cell? Vb1 _ cq0
  go_wp2_with fail
  clear cq0 cq1 cq2 cq3 fq0 fq1 fq2 fq3 hneq
  refine (mul_0 _).mono ?_
  rintro e v9 ⟨rfl, hw⟩
  obtain rfl := hw.symm
  clear hw
  obtain ⟨cq0, cq1, cq2, cq3, fq0, fq1, fq2, fq3⟩ := Xq.out
  have hneq : gq < Vb1.heap.size := World.block_lt_of_cell? Vb1 _ cq0
  go_wp2_with fail
  obtain ⟨Vb0, hVb0⟩ : ∃ W9, W9 = (Vb1.setCell ⟨gq, 0, none⟩ (.int .u64 11743562013128004905)) := ⟨_, rfl⟩
  have Yq : Hid (B4q Vb0 gq (.int .u64 11743562013128004905) (.int .u64 18169587780923219392) (.int .u64 15808362127397457985) (.int .u64 18325146883770548224)) := by rw [hVb0]; exact ⟨by go_simp, by go_simp, by go_simp, by go_simp, by go_simp, by go_simp, by go_simp, by go_simp⟩
  obtain ⟨cr0, cr1, cr2, cr3, fr0, fr1, fr2, fr3⟩ := Xr.out
  have hner : gr < Vb1.heap.size := World.block_lt_of_cell? Vb1 _ cr0
  have Yr : Hid (B4q Vb0 gr (.int .u64 0) (.int .u64 0) (.int .u64 0) (.int .u64 0)) := by rw [hVb0]; exact ⟨by go_simp, by go_simp, by go_simp, by go_simp, by go_simp, by go_simp, by go_simp, by go_simp⟩
  clear cr0 cr1 cr2 cr3 fr0 fr1 fr2 fr3 hner
  have hbw2 : Below w.heap.size w Vb0 := by rw [hVb0]; exact bSet (hbw) _ _ _ HGq.out
  clear cq0 cq1 cq2 cq3 fq0 fq1 fq2 fq3 hneq
  rw [← hVb0]
  clear hVb0 hbw Xq Xr
  have hbw := hbw2
  clear hbw2
  have Xq := Yq
  clear Yq
  have Xr := Yr
  clear Yr
  rw [rounds_succ]
  obtain ⟨cq0, cq1, cq2, cq3, fq0, fq1, fq2, fq3⟩ := Xq.out
  have hneq : gq < Vb0.heap.size := World.block_lt_of_cell? Vb0 _ cq0
  obtain ⟨cr0, cr1, cr2, cr3, fr0, fr1, fr2, fr3⟩ := Xr.out
  have hner : gr < Vb0.heap.size := World.block_lt_of_cell? Vb0 _ cr0
  go_wp2_with fail
  refine bodyPost_ret (v := .agg #[.int .u64 11743562013128004905, .int .u64 18169587780923219392, .int .u64 15808362127397457985, .int .u64 18325146883770548224]) (by rw [results_cell1 rfl]; go_simp) rfl ⟨rfl, ?_⟩
  exact bSet (bSet (bSet (bSet (hbw) _ _ _ HGr.out) _ _ _ HGr.out) _ _ _ HGr.out) _ _ _ HGr.out
theorem opposite_4 (w : World) :
    Calls Tryd.prog 41 #[.agg #[.int .u64 10080759905092916391, .int .u64 17338118902564222723, .int .u64 7893216288461177095, .int .u64 17960355313953538048]] w fun en w' => en = .returned (.agg #[.int .u64 8365984168616635224, .int .u64 1108625171145328892, .int .u64 10553527785248374520, .int .u64 486388759756013568]) ∧ Below w.heap.size w w' := by
  have wf0_ : IntKind.i64.wrap (2) = 2 := by kernel_rfl
  have wf1_ : IntKind.i64.wrap (1) = 1 := by kernel_rfl
  have wf2_ : IntKind.i64.wrap (0) = 0 := by kernel_rfl
  have hA3 : ∀ w, (callFunc 58 #[.int .u64 0, .int .u64 17960355313953538048, .int .u64 0]).run Tryd.prog w = .ok (.value (.tuple #[.int .u64 486388759756013568, .int .u64 1])) w := fun w => sub_3 w
  have hA2 : ∀ w, (callFunc 58 #[.int .u64 0, .int .u64 7893216288461177095, .int .u64 1]).run Tryd.prog w = .ok (.value (.tuple #[.int .u64 10553527785248374520, .int .u64 1])) w := fun w => sub_2 w
  have hA1 : ∀ w, (callFunc 58 #[.int .u64 0, .int .u64 17338118902564222723, .int .u64 1]).run Tryd.prog w = .ok (.value (.tuple #[.int .u64 1108625171145328892, .int .u64 1])) w := fun w => sub_1 w
  have hA0 : ∀ w, (callFunc 58 #[.int .u64 0, .int .u64 10080759905092916391, .int .u64 1]).run Tryd.prog w = .ok (.value (.tuple #[.int .u64 8365984168616635224, .int .u64 1])) w := fun w => sub_0 w
  go_enter Tryd.func41, Tryd.ntmps41
  go_wp2_with fail
  obtain ⟨W0, hW0⟩ : ∃ W0, W0 = ((w.alloc (.cells #[.int .u64 10080759905092916391, .int .u64 17338118902564222723, .int .u64 7893216288461177095, .int .u64 17960355313953538048] 56)).alloc (.cells #[.int .u64 0, .int .u64 0, .int .u64 0, .int .u64 0] 56)) := ⟨_, rfl⟩
  have Xq : Hid (B4q W0 (w.heap.size) (.int .u64 10080759905092916391) (.int .u64 17338118902564222723) (.int .u64 7893216288461177095) (.int .u64 17960355313953538048)) := by rw [hW0]; exact ⟨by go_simp, by go_simp, by go_simp, by go_simp, by go_simp, by go_simp, by go_simp, by go_simp⟩
  have Xr : Hid (B4q W0 (w.heap.size + 1) (.int .u64 0) (.int .u64 0) (.int .u64 0) (.int .u64 0)) := by rw [hW0]; exact ⟨by go_simp, by go_simp, by go_simp, by go_simp, by go_simp, by go_simp, by go_simp, by go_simp⟩
  have hb0 : Below w.heap.size w W0 := by rw [hW0]; exact below2 w _ _
  rw [← hW0]
  clear hW0
  have hbw : Below w.heap.size w w := Below.refl _ _
  obtain ⟨gr, hgr⟩ : ∃ g, g = w.heap.size + 1 := ⟨_, rfl⟩
  have HGr : Hid (w.heap.size ≤ gr) := by rw [hgr]; show _ ≤ _; omega
  rw [← hgr] at Xr
  try rw [← hgr]
  obtain ⟨gq, hgq⟩ : ∃ g, g = w.heap.size := ⟨_, rfl⟩
  have HGq : Hid (w.heap.size ≤ gq) := by rw [hgq]; show _ ≤ _; omega
  rw [← hgq] at Xq
  try rw [← hgq]
  have HGD : Hid (gq ≠ gr ∧ gr ≠ gq) := by rw [hgq, hgr]; exact ⟨by omega, by omega⟩
  clear hgq hgr
  replace hbw := Below.on hbw hb0
  clear hb0
  obtain ⟨hgd0, hgd1⟩ := HGD.out
  obtain ⟨cq0, cq1, cq2, cq3, fq0, fq1, fq2, fq3⟩ := Xq.out
  have hneq : gq < W0.heap.size := World.block_lt_of_cell? W0 _ cq0
  go_wp2_with fail
  clear cq0 cq1 cq2 cq3 fq0 fq1 fq2 fq3 hneq
  refine wp_loop_rounds 5 ?_
  rw [rounds_succ]
  obtain ⟨cq0, cq1, cq2, cq3, fq0, fq1, fq2, fq3⟩ := Xq.out
  have hneq : gq < W0.heap.size := World.block_lt_of_cell? W0 _ cq0
  go_wp2_with fail
  obtain ⟨Vb3, hVb3⟩ : ∃ W9, W9 = (W0.setCell ⟨gq, 3, none⟩ (.int .u64 486388759756013568)) := ⟨_, rfl⟩
  have Yq : Hid (B4q Vb3 gq (.int .u64 10080759905092916391) (.int .u64 17338118902564222723) (.int .u64 7893216288461177095) (.int .u64 486388759756013568)) := by rw [hVb3]; exact ⟨by go_simp, by go_simp, by go_simp, by go_simp, by go_simp, by go_simp, by go_simp, by go_simp⟩
  obtain ⟨cr0, cr1, cr2, cr3, fr0, fr1, fr2, fr3⟩ := Xr.out
  have hner : gr < W0.heap.size := World.block_lt_of_cell? W0 _ cr0
  have Yr : Hid (B4q Vb3 gr (.int .u64 0) (.int .u64 0) (.int .u64 0) (.int .u64 0)) := by rw [hVb3]; exact ⟨by go_simp, by go_simp, by go_simp, by go_simp, by go_simp, by go_simp, by go_simp, by go_simp⟩
  clear cr0 cr1 cr2 cr3 fr0 fr1 fr2 fr3 hner
  have hbw2 : Below w.heap.size w Vb3 := by rw [hVb3]; exact bSet (hbw) _ _ _ HGq.out
  clear cq0 cq1 cq2 cq3 fq0 fq1 fq2 fq3 hneq
  rw [← hVb3]
  clear hVb3 hbw Xq Xr
  have hbw := hbw2
  clear hbw2
  have Xq := Yq
  clear Yq
  have Xr := Yr
  clear Yr
  rw [rounds_succ]
  obtain ⟨cq0, cq1, cq2, cq3, fq0, fq1, fq2, fq3⟩ := Xq.out
  have hneq : gq < Vb3.heap.size := World.block_lt_of_cell? Vb3 _ cq0
  go_wp2_with fail
  obtain ⟨Vb2, hVb2⟩ : ∃ W9, W9 = (Vb3.setCell ⟨gq, 2, none⟩ (.int .u64 10553527785248374520)) := ⟨_, rfl⟩
  have Yq : Hid (B4q Vb2 gq (.int .u64 10080759905092916391) (.int .u64 17338118902564222723) (.int .u64 10553527785248374520) (.int .u64 486388759756013568)) := by rw [hVb2]; exact ⟨by go_simp, by go_simp, by go_simp, by go_simp, by go_simp, by go_simp, by go_simp, by go_simp⟩
  obtain ⟨cr0, cr1, cr2, cr3, fr0, fr1, fr2, fr3⟩ := Xr.out
  have hner : gr < Vb3.heap.size := World.block_lt_of_cell? Vb3 _ cr0
  have Yr : Hid (B4q Vb2 gr (.int .u64 0) (.int .u64 0) (.int .u64 0) (.int .u64 0)) := by rw [hVb2]; exact ⟨by go_simp, by go_simp, by go_simp, by go_simp, by go_simp, by go_simp, by go_simp, by go_simp⟩
  clear cr0 cr1 cr2 cr3 fr0 fr1 fr2 fr3 hner
  have hbw2 : Below w.heap.size w Vb2 := by rw [hVb2]; exact bSet (hbw) _ _ _ HGq.out
  clear cq0 cq1 cq2 cq3 fq0 fq1 fq2 fq3 hneq
  rw [← hVb2]
  clear hVb2 hbw Xq Xr
  have hbw := hbw2
  clear hbw2
  have Xq := Yq
  clear Yq
  have Xr := Yr
  clear Yr
  rw [rounds_succ]
  obtain ⟨cq0, cq1, cq2, cq3, fq0, fq1, fq2, fq3⟩ := Xq.out
  have hneq : gq < Vb2.heap.size := World.block_lt_of_cell? Vb2 _ cq0
  go_wp2_with fail
  obtain ⟨Vb1, hVb1⟩ : ∃ W9, W9 = (Vb2.setCell ⟨gq, 1, none⟩ (.int .u64 1108625171145328892)) := ⟨_, rfl⟩
  have Yq : Hid (B4q Vb1 gq (.int .u64 10080759905092916391) (.int .u64 1108625171145328892) (.int .u64 10553527785248374520) (.int .u64 486388759756013568)) := by rw [hVb1]; exact ⟨by go_simp, by go_simp, by go_simp, by go_simp, by go_simp, by go_simp, by go_simp, by go_simp⟩
  obtain ⟨cr0, cr1, cr2, cr3, fr0, fr1, fr2, fr3⟩ := Xr.out
  have hner : gr < Vb2.heap.size := World.block_lt_of_cell? Vb2 _ cr0
  have Yr : Hid (B4q Vb1 gr (.int .u64 0) (.int .u64 0) (.int .u64 0) (.int .u64 0)) := by rw [hVb1]; exact ⟨by go_simp, by go_simp, by go_simp, by go_simp, by go_simp, by go_simp, by go_simp, by go_simp⟩
  clear cr0 cr1 cr2 cr3 fr0 fr1 fr2 fr3 hner
  have hbw2 : Below w.heap.size w Vb1 := by rw [hVb1]; exact bSet (hbw) _ _ _ HGq.out
  clear cq0 cq1 cq2 cq3 fq0 fq1 fq2 fq3 hneq
  rw [← hVb1]
  clear hVb1 hbw Xq Xr
  have hbw := hbw2
  clear hbw2
  have Xq := Yq
  clear Yq
  have Xr := Yr
  clear Yr
  rw [rounds_succ]
  obtain ⟨cq0, cq1, cq2, cq3, fq0, fq1, fq2, fq3⟩ := Xq.out
  have hneq : gq < Vb1.heap.size := World.block_lt_of_cell? Vb1 _ cq0
  go_wp2_with fail
  obtain ⟨Vb0, hVb0⟩ : ∃ W9, W9 = (Vb1.setCell ⟨gq, 0, none⟩ (.int .u64 8365984168616635224)) := ⟨_, rfl⟩
  have Yq : Hid (B4q Vb0 gq (.int .u64 8365984168616635224) (.int .u64 1108625171145328892) (.int .u64 10553527785248374520) (.int .u64 486388759756013568)) := by rw [hVb0]; exact ⟨by go_simp, by go_simp, by go_simp, by go_simp, by go_simp, by go_simp, by go_simp, by go_simp⟩
  obtain ⟨cr0, cr1, cr2, cr3, fr0, fr1, fr2, fr3⟩ := Xr.out
  have hner : gr < Vb1.heap.size := World.block_lt_of_cell? Vb1 _ cr0
  have Yr : Hid (B4q Vb0 gr (.int .u64 0) (.int .u64 0) (.int .u64 0) (.int .u64 0)) := by rw [hVb0]; exact ⟨by go_simp, by go_simp, by go_simp, by go_simp, by go_simp, by go_simp, by go_simp, by go_simp⟩
  clear cr0 cr1 cr2 cr3 fr0 fr1 fr2 fr3 hner
  have hbw2 : Below w.heap.size w Vb0 := by rw [hVb0]; exact bSet (hbw) _ _ _ HGq.out
  clear cq0 cq1 cq2 cq3 fq0 fq1 fq2 fq3 hneq
  rw [← hVb0]
  clear hVb0 hbw Xq Xr
  have hbw := hbw2
  clear hbw2
  have Xq := Yq
  clear Yq
  have Xr := Yr
  clear Yr
  rw [rounds_succ]
  obtain ⟨cq0, cq1, cq2, cq3, fq0, fq1, fq2, fq3⟩ := Xq.out
  have hneq : gq < Vb0.heap.size := World.block_lt_of_cell? Vb0 _ cq0
  obtain ⟨cr0, cr1, cr2, cr3, fr0, fr1, fr2, fr3⟩ := Xr.out
  have hner : gr < Vb0.heap.size := World.block_lt_of_cell? Vb0 _ cr0
  go_wp2_with fail
  refine bodyPost_ret (v := .agg #[.int .u64 8365984168616635224, .int .u64 1108625171145328892, .int .u64 10553527785248374520, .int .u64 486388759756013568]) (by rw [results_cell1 rfl]; go_simp) rfl ⟨rfl, ?_⟩
  exact bSet (bSet (bSet (bSet (hbw) _ _ _ HGr.out) _ _ _ HGr.out) _ _ _ HGr.out) _ _ _ HGr.out
theorem mabs_a (w : World) : Calls Tryd.prog 19 #[Fv 4845035906210577386] w fun en w' => en = .returned (Fv 4845035906210577386) ∧ w' = w := by
  have bo1 : ∀ w, (callFunc 18 #[Fv 4845035906210577386]).run Tryd.prog w = .ok (.value (.int .u64 4845035906210577386)) w := fun w => bitsOf 4845035906210577386 w
  have fb2 : ∀ w, (callFunc 35 #[.int .u64 4845035906210577386]).run Tryd.prog w = .ok (.value (Fv 4845035906210577386)) w := fun w => frombits 4845035906210577386 w
  have br3 : bits BinOp.andNot IntKind.u64 (4845035906210577386) (9223372036854775808) = 4845035906210577386 := by kernel_rfl
  go_enter Tryd.func19, Tryd.ntmps19
  go_wp2_with fail
  go_ret
  exact ⟨by kernel_rfl, rfl⟩
theorem isinf_a (w : World) : Calls Tryd.prog 56 #[Fv 4845035906210577386, .int .i64 0] w fun en w' => en = .returned (.bool false) ∧ w' = w := by
  have or4 : FloatKind.f64.format.order 4845035906210577386 9218868437227405311 = some Ordering.lt := by decide +kernel
  go_enter Tryd.func56, Tryd.ntmps56
  go_wp2_with fail
  refine (mabs_a _).mono ?_
  rintro e v9 ⟨rfl, hw⟩
  obtain rfl := hw.symm
  clear hw
  go_wp2_with fail
  go_ret
  exact ⟨by kernel_rfl, rfl⟩
theorem isnan_a (w : World) : Calls Tryd.prog 57 #[Fv 4845035906210577386] w fun en w' => en = .returned (.bool false) ∧ w' = w := by
  have or5 : FloatKind.f64.format.order 4845035906210577386 4845035906210577386 = some Ordering.eq := by decide +kernel
  go_enter Tryd.func57, Tryd.ntmps57
  go_wp2_with fail
  go_ret
  exact ⟨by kernel_rfl, rfl⟩
theorem norm_a (w : World) : Calls Tryd.prog 75 #[Fv 4845035906210577386] w fun en w' => en = .returned (.tuple #[Fv 4845035906210577386, .int .i64 0]) ∧ w' = w := by
  have or6 : FloatKind.f64.format.order 4845035906210577386 4503599627370496 = some Ordering.gt := by decide +kernel
  go_enter Tryd.func75, Tryd.ntmps75
  go_wp2_with fail
  refine (mabs_a _).mono ?_
  rintro e v9 ⟨rfl, hw⟩
  obtain rfl := hw.symm
  clear hw
  go_wp2_with fail
  go_ret2
  exact ⟨by kernel_rfl, rfl⟩
theorem ldexp_a (w : World) : Calls Tryd.prog 72 #[Fv 4845035906210577386, .int .i64 (-54)] w fun en w' => en = .returned (Fv 4601841526332570602) ∧ w' = w := by
  have or7 : FloatKind.f64.format.order 4845035906210577386 0 = some Ordering.gt := by decide +kernel
  have bo8 : ∀ w, (callFunc 18 #[Fv 4845035906210577386]).run Tryd.prog w = .ok (.value (.int .u64 4845035906210577386)) w := fun w => bitsOf 4845035906210577386 w
  have fb9 : ∀ w, (callFunc 35 #[.int .u64 4601841526332570602]).run Tryd.prog w = .ok (.value (Fv 4601841526332570602)) w := fun w => frombits 4601841526332570602 w
  have fl10 : ∀ w, (binOp .mul 37 (Fv 4607182418800017408) (Fv 4601841526332570602)).run Tryd.prog w = .ok (Fv 4601841526332570602) w := fun w => run_float_arith w .mul 37 .f64 4607182418800017408 4601841526332570602 4601841526332570602 (by decide +kernel)
  have wr11 : IntKind.i64.wrap (-2) = -2 := by kernel_rfl
  have wr12 : IntKind.i64.wrap (-54) = -54 := by kernel_rfl
  have wr13 : IntKind.i64.wrap (1021) = 1021 := by kernel_rfl
  have wr14 : IntKind.u64.wrap (1021) = 1021 := by kernel_rfl
  have wr15 : IntKind.i64.wrap (52) = 52 := by kernel_rfl
  have wr16 : IntKind.i64.wrap (1075) = 1075 := by kernel_rfl
  have br17 : bits BinOp.and IntKind.i64 (1075) (2047) = 1075 := by kernel_rfl
  have br18 : bits BinOp.andNot IntKind.u64 (4845035906210577386) (9218868437227405312) = 3666306787294186 := by kernel_rfl
  have wr19 : IntKind.u64.wrap (4598175219545276416) = 4598175219545276416 := by kernel_rfl
  have br20 : bits BinOp.or IntKind.u64 (3666306787294186) (4598175219545276416) = 4601841526332570602 := by kernel_rfl
  go_enter Tryd.func72, Tryd.ntmps72
  go_wp2_with fail
  refine (isinf_a _).mono ?_
  rintro e v9 ⟨rfl, hw⟩
  obtain rfl := hw.symm
  clear hw
  go_wp2_with fail
  refine (isnan_a _).mono ?_
  rintro e v9 ⟨rfl, hw⟩
  obtain rfl := hw.symm
  clear hw
  go_wp2_with fail
  refine (norm_a _).mono ?_
  rintro e v9 ⟨rfl, hw⟩
  obtain rfl := hw.symm
  clear hw
  go_wp2_with fail
  go_ret
  exact ⟨by kernel_rfl, rfl⟩
theorem Ldexp_a (w : World) : Calls Tryd.prog 61 #[Fv 4845035906210577386, .int .i64 (-54)] w fun en w' => en = .returned (Fv 4601841526332570602) ∧ w' = w := by
  go_enter Tryd.func61, Tryd.ntmps61
  go_wp2_with fail
  refine (ldexp_a _).mono ?_
  rintro e v9 ⟨rfl, hw⟩
  obtain rfl := hw.symm
  clear hw
  go_wp2_with fail
  go_ret
  exact ⟨by kernel_rfl, rfl⟩
theorem mabs_b (w : World) : Calls Tryd.prog 19 #[Fv 4844395984056598873] w fun en w' => en = .returned (Fv 4844395984056598873) ∧ w' = w := by
  have bo21 : ∀ w, (callFunc 18 #[Fv 4844395984056598873]).run Tryd.prog w = .ok (.value (.int .u64 4844395984056598873)) w := fun w => bitsOf 4844395984056598873 w
  have fb22 : ∀ w, (callFunc 35 #[.int .u64 4844395984056598873]).run Tryd.prog w = .ok (.value (Fv 4844395984056598873)) w := fun w => frombits 4844395984056598873 w
  have br23 : bits BinOp.andNot IntKind.u64 (4844395984056598873) (9223372036854775808) = 4844395984056598873 := by kernel_rfl
  go_enter Tryd.func19, Tryd.ntmps19
  go_wp2_with fail
  go_ret
  exact ⟨by kernel_rfl, rfl⟩
theorem isinf_b (w : World) : Calls Tryd.prog 56 #[Fv 4844395984056598873, .int .i64 0] w fun en w' => en = .returned (.bool false) ∧ w' = w := by
  have or24 : FloatKind.f64.format.order 4844395984056598873 9218868437227405311 = some Ordering.lt := by decide +kernel
  go_enter Tryd.func56, Tryd.ntmps56
  go_wp2_with fail
  refine (mabs_b _).mono ?_
  rintro e v9 ⟨rfl, hw⟩
  obtain rfl := hw.symm
  clear hw
  go_wp2_with fail
  go_ret
  exact ⟨by kernel_rfl, rfl⟩
theorem isnan_b (w : World) : Calls Tryd.prog 57 #[Fv 4844395984056598873] w fun en w' => en = .returned (.bool false) ∧ w' = w := by
  have or25 : FloatKind.f64.format.order 4844395984056598873 4844395984056598873 = some Ordering.eq := by decide +kernel
  go_enter Tryd.func57, Tryd.ntmps57
  go_wp2_with fail
  go_ret
  exact ⟨by kernel_rfl, rfl⟩
theorem norm_b (w : World) : Calls Tryd.prog 75 #[Fv 4844395984056598873] w fun en w' => en = .returned (.tuple #[Fv 4844395984056598873, .int .i64 0]) ∧ w' = w := by
  have or26 : FloatKind.f64.format.order 4844395984056598873 4503599627370496 = some Ordering.gt := by decide +kernel
  go_enter Tryd.func75, Tryd.ntmps75
  go_wp2_with fail
  refine (mabs_b _).mono ?_
  rintro e v9 ⟨rfl, hw⟩
  obtain rfl := hw.symm
  clear hw
  go_wp2_with fail
  go_ret2
  exact ⟨by kernel_rfl, rfl⟩
theorem ldexp_b (w : World) : Calls Tryd.prog 72 #[Fv 4844395984056598873, .int .i64 (-107)] w fun en w' => en = .returned (Fv 4362510823927955801) ∧ w' = w := by
  have or27 : FloatKind.f64.format.order 4844395984056598873 0 = some Ordering.gt := by decide +kernel
  have bo28 : ∀ w, (callFunc 18 #[Fv 4844395984056598873]).run Tryd.prog w = .ok (.value (.int .u64 4844395984056598873)) w := fun w => bitsOf 4844395984056598873 w
  have fb29 : ∀ w, (callFunc 35 #[.int .u64 4362510823927955801]).run Tryd.prog w = .ok (.value (Fv 4362510823927955801)) w := fun w => frombits 4362510823927955801 w
  have fl30 : ∀ w, (binOp .mul 37 (Fv 4607182418800017408) (Fv 4362510823927955801)).run Tryd.prog w = .ok (Fv 4362510823927955801) w := fun w => run_float_arith w .mul 37 .f64 4607182418800017408 4362510823927955801 4362510823927955801 (by decide +kernel)
  have wr31 : IntKind.i64.wrap (-55) = -55 := by kernel_rfl
  have wr32 : IntKind.i64.wrap (-107) = -107 := by kernel_rfl
  have wr33 : IntKind.i64.wrap (968) = 968 := by kernel_rfl
  have wr34 : IntKind.u64.wrap (968) = 968 := by kernel_rfl
  have wr35 : IntKind.i64.wrap (52) = 52 := by kernel_rfl
  have wr36 : IntKind.i64.wrap (1075) = 1075 := by kernel_rfl
  have br37 : bits BinOp.and IntKind.i64 (1075) (2047) = 1075 := by kernel_rfl
  have br38 : bits BinOp.andNot IntKind.u64 (4844395984056598873) (9218868437227405312) = 3026384633315673 := by kernel_rfl
  have wr39 : IntKind.u64.wrap (4359484439294640128) = 4359484439294640128 := by kernel_rfl
  have br40 : bits BinOp.or IntKind.u64 (3026384633315673) (4359484439294640128) = 4362510823927955801 := by kernel_rfl
  go_enter Tryd.func72, Tryd.ntmps72
  go_wp2_with fail
  refine (isinf_b _).mono ?_
  rintro e v9 ⟨rfl, hw⟩
  obtain rfl := hw.symm
  clear hw
  go_wp2_with fail
  refine (isnan_b _).mono ?_
  rintro e v9 ⟨rfl, hw⟩
  obtain rfl := hw.symm
  clear hw
  go_wp2_with fail
  refine (norm_b _).mono ?_
  rintro e v9 ⟨rfl, hw⟩
  obtain rfl := hw.symm
  clear hw
  go_wp2_with fail
  go_ret
  exact ⟨by kernel_rfl, rfl⟩
theorem Ldexp_b (w : World) : Calls Tryd.prog 61 #[Fv 4844395984056598873, .int .i64 (-107)] w fun en w' => en = .returned (Fv 4362510823927955801) ∧ w' = w := by
  go_enter Tryd.func61, Tryd.ntmps61
  go_wp2_with fail
  refine (ldexp_b _).mono ?_
  rintro e v9 ⟨rfl, hw⟩
  obtain rfl := hw.symm
  clear hw
  go_wp2_with fail
  go_ret
  exact ⟨by kernel_rfl, rfl⟩
theorem stF (w : World) (a : Addr) (b : Nat) : (store a (Fv b)).run Tryd.prog w = stored Tryd.prog w a (Fv b) .plain := run_store _ w a (Fv b) _ rfl
theorem ddpair (x y : Nat) (w : World) :
    Calls Tryd.prog 44 #[Fv x, Fv y] w fun en w' => en = .returned (.agg #[Fv x, Fv y]) ∧ Below w.heap.size w w' := by
  have hSF : ∀ (w : World) (a : Addr) (b : Nat), (store a (Fv b)).run Tryd.prog w = stored Tryd.prog w a (Fv b) .plain := stF
  go_enter Tryd.func44, Tryd.ntmps44
  go_wp2_with fail
  refine bodyPost_ret (v := .agg #[Fv x, Fv y]) (by rw [results_cell1 rfl]; go_simp) rfl ⟨rfl, below1 w _⟩
theorem halfPi_ (w : World) :
    Calls Tryd.prog 25 #[] w fun en w' => en = .returned (.agg #[Fv 4609753056924675352, Fv 4364452196894661639]) ∧ Below w.heap.size w w' := by
  have hSF : ∀ (w : World) (a : Addr) (b : Nat), (store a (Fv b)).run Tryd.prog w = stored Tryd.prog w a (Fv b) .plain := stF
  go_enter Tryd.func25, Tryd.ntmps25
  go_wp2_with fail
  refine bodyPost_ret (v := .agg #[Fv 4609753056924675352, Fv 4364452196894661639]) (by rw [results_cell1 rfl]; go_simp) rfl ⟨rfl, below1 w _⟩
theorem ts_f {s r : Nat} (h : TSR 4601841526332570602 4362510823927955801 s r) : s = 4601841526332570603 ∧ r = 13575254537243523740 := by
  obtain ⟨ob, oa, da, db, F1, F2, F3, F4, F5, F6⟩ := h
  obtain rfl : s = 4601841526332570603 := F1.some _ (by decide +kernel)
  obtain rfl : ob = 4363988038922010624 := F2.some _ (by decide +kernel)
  obtain rfl : oa = 4601841526332570602 := F3.some _ (by decide +kernel)
  obtain rfl : da = 0 := F4.some _ (by decide +kernel)
  obtain rfl : db = 13575254537243523740 := F5.some _ (by decide +kernel)
  obtain rfl : r = 13575254537243523740 := F6.some _ (by decide +kernel)
  exact ⟨rfl, rfl⟩
theorem ddSum_f (w : World) :
    Calls Tryd.prog 60 #[Fv 4601841526332570602, Fv 4362510823927955801] w fun en w' => en = .returned (.agg #[Fv 4601841526332570603, Fv 13575254537243523740]) ∧ Below w.heap.size w w' := by
  have hSF : ∀ (w : World) (a : Addr) (b : Nat), (store a (Fv b)).run Tryd.prog w = stored Tryd.prog w a (Fv b) .plain := stF
  go_enter Tryd.func60, Tryd.ntmps60
  go_wp2_with fail
  obtain ⟨W0, hW0⟩ : ∃ W0, W0 = (w.alloc (.cells #[Fv 0, Fv 0] 39)) := ⟨_, rfl⟩
  have Xr : Hid (Box W0 (w.heap.size) (Fv 0) (Fv 0)) := by rw [hW0]; exact ⟨by go_simp, by go_simp, by go_simp, by go_simp⟩
  have hb0 : Below w.heap.size w W0 := by rw [hW0]; exact below1 w _
  rw [← hW0]
  clear hW0
  have hbw : Below w.heap.size w w := Below.refl _ _
  obtain ⟨gr, hgr⟩ : ∃ g, g = w.heap.size := ⟨_, rfl⟩
  have HGr : Hid (w.heap.size ≤ gr) := by rw [hgr]; show _ ≤ _; omega
  rw [← hgr] at Xr
  try rw [← hgr]
  clear hgr
  replace hbw := Below.on hbw hb0
  clear hb0
  refine (twoSum 4601841526332570602 4362510823927955801 _).mono ?_
  rintro e9 v9 ⟨s9, r9, n9, rfl, rfl, hR⟩
  obtain ⟨rfl, rfl⟩ := ts_f hR
  clear hR
  have hbr := bDrewN (Below.refl W0.heap.size W0) n9
  generalize W0.drewN n9 = V1 at *
  replace Xr : Hid _ := Xr.out.below hbr
  replace hbw := Below.on hbw hbr
  clear hbr
  go_wp2_with fail
  refine (ddpair 4601841526332570603 13575254537243523740 _).mono ?_
  rintro e v2 ⟨rfl, hb2⟩
  replace Xr : Hid _ := Xr.out.below hb2
  replace hbw := Below.on hbw hb2
  clear hb2
  obtain ⟨cr0, cr1, fr0, fr1⟩ := Xr.out
  have hner := Xr.out.lt
  go_wp2_with fail
  refine bodyPost_ret (v := .agg #[Fv 4601841526332570603, Fv 13575254537243523740]) (by rw [results_cell1 rfl]; go_simp) rfl ⟨rfl, ?_⟩
  exact bSet (bSet (hbw) _ _ _ HGr.out) _ _ _ HGr.out
theorem ddNeg_f (w : World) :
    Calls Tryd.prog 26 #[.agg #[Fv 4601841526332570603, Fv 13575254537243523740]] w fun en w' => en = .returned (.agg #[Fv 13825213563187346411, Fv 4351882500388747932]) ∧ Below w.heap.size w w' := by
  have hSF : ∀ (w : World) (a : Addr) (b : Nat), (store a (Fv b)).run Tryd.prog w = stored Tryd.prog w a (Fv b) .plain := stF
  have ng1 : ∀ w, (Op.unary UnOp.neg (Fv 4601841526332570603)).run Tryd.prog w = .ok (Fv 13825213563187346411) w := fun w => by kernel_rfl
  have ng2 : ∀ w, (Op.unary UnOp.neg (Fv 13575254537243523740)).run Tryd.prog w = .ok (Fv 4351882500388747932) w := fun w => by kernel_rfl
  go_enter Tryd.func26, Tryd.ntmps26
  go_wp2_with fail
  refine bodyPost_ret (v := .agg #[Fv 13825213563187346411, Fv 4351882500388747932]) (by rw [results_cell1 rfl]; go_simp) rfl ⟨rfl, below2 w _ _⟩
theorem fraction_4 (w : World) :
    Calls Tryd.prog 42 #[.agg #[.int .u64 8365984168616635224, .int .u64 1108625171145328892, .int .u64 10553527785248374520, .int .u64 486388759756013568]] w fun en w' => en = .returned (.agg #[Fv 4601841526332570603, Fv 13575254537243523740]) ∧ Below w.heap.size w w' := by
  have hSF : ∀ (w : World) (a : Addr) (b : Nat), (store a (Fv b)).run Tryd.prog w = stored Tryd.prog w a (Fv b) .plain := stF
  have wr3 : IntKind.u64.wrap (150708172737477388685349001327804416) = 15420325124116578304 := by kernel_rfl
  have br4 : bits BinOp.or IntKind.u64 (15420325124116578304) (1082641768696610) = 15421407765885274914 := by kernel_rfl
  have wr5 : IntKind.i64.wrap (-54) = -54 := by kernel_rfl
  have wr6 : IntKind.i64.wrap (-107) = -107 := by kernel_rfl
  have ci1 : floatOfInt FloatKind.f64 8169906414664682 = 4845035906210577386 := by decide +kernel
  have ci2 : floatOfInt FloatKind.f64 7529984260686169 = 4844395984056598873 := by decide +kernel
  go_enter Tryd.func42, Tryd.ntmps42
  go_wp2_with fail
  obtain ⟨W0, hW0⟩ : ∃ W0, W0 = ((w.alloc (.cells #[.int .u64 8365984168616635224, .int .u64 1108625171145328892, .int .u64 10553527785248374520, .int .u64 486388759756013568] 56)).alloc (.cells #[Fv 0, Fv 0] 39)) := ⟨_, rfl⟩
  have Xq : Hid (B4q W0 (w.heap.size) (.int .u64 8365984168616635224) (.int .u64 1108625171145328892) (.int .u64 10553527785248374520) (.int .u64 486388759756013568)) := by rw [hW0]; exact ⟨by go_simp, by go_simp, by go_simp, by go_simp, by go_simp, by go_simp, by go_simp, by go_simp⟩
  have Xr : Hid (Box W0 (w.heap.size + 1) (Fv 0) (Fv 0)) := by rw [hW0]; exact ⟨by go_simp, by go_simp, by go_simp, by go_simp⟩
  have hb0 : Below w.heap.size w W0 := by rw [hW0]; exact below2 w _ _
  rw [← hW0]
  clear hW0
  have hbw : Below w.heap.size w w := Below.refl _ _
  obtain ⟨gr, hgr⟩ : ∃ g, g = w.heap.size + 1 := ⟨_, rfl⟩
  have HGr : Hid (w.heap.size ≤ gr) := by rw [hgr]; show _ ≤ _; omega
  rw [← hgr] at Xr
  try rw [← hgr]
  obtain ⟨gq, hgq⟩ : ∃ g, g = w.heap.size := ⟨_, rfl⟩
  have HGq : Hid (w.heap.size ≤ gq) := by rw [hgq]; show _ ≤ _; omega
  rw [← hgq] at Xq
  try rw [← hgq]
  have HGD : Hid (gq ≠ gr ∧ gr ≠ gq) := by rw [hgq, hgr]; exact ⟨by omega, by omega⟩
  clear hgq hgr
  replace hbw := Below.on hbw hb0
  clear hb0
  obtain ⟨hgd0, hgd1⟩ := HGD.out
  refine (lead_1 _).mono ?_
  rintro e v9 ⟨rfl, hw⟩
  obtain rfl := hw.symm
  clear hw
  obtain ⟨cq0, cq1, cq2, cq3, fq0, fq1, fq2, fq3⟩ := Xq.out
  have hneq : gq < W0.heap.size := World.block_lt_of_cell? W0 _ cq0
  go_wp2_with fail
  clear cq0 cq1 cq2 cq3 fq0 fq1 fq2 fq3 hneq
  refine (doubled_1 _).mono ?_
  rintro e v1 ⟨rfl, hb1⟩
  replace Xq : Hid _ := Xq.out.below hb1
  replace Xr : Hid _ := Xr.out.below hb1
  replace hbw := Below.on hbw hb1
  clear hb1
  obtain ⟨cq0, cq1, cq2, cq3, fq0, fq1, fq2, fq3⟩ := Xq.out
  have hneq : gq < v1.heap.size := World.block_lt_of_cell? v1 _ cq0
  go_wp2_with fail
  obtain ⟨Vq, hVq⟩ : ∃ W9, W9 = ((((v1.setCell ⟨gq, 0, none⟩ (.int .u64 16731968337233270448)).setCell ⟨gq, 1, none⟩ (.int .u64 2217250342290657785)).setCell ⟨gq, 2, none⟩ (.int .u64 2660311496787197424)).setCell ⟨gq, 3, none⟩ (.int .u64 972777519512027136)) := ⟨_, rfl⟩
  have Yq : Hid (B4q Vq gq (.int .u64 16731968337233270448) (.int .u64 2217250342290657785) (.int .u64 2660311496787197424) (.int .u64 972777519512027136)) := by rw [hVq]; exact ⟨by go_simp, by go_simp, by go_simp, by go_simp, by go_simp, by go_simp, by go_simp, by go_simp⟩
  obtain ⟨cr0, cr1, fr0, fr1⟩ := Xr.out
  have hner := Xr.out.lt
  have Yr : Hid (Box Vq gr (Fv 0) (Fv 0)) := by rw [hVq]; exact ⟨by go_simp, by go_simp, by go_simp, by go_simp⟩
  clear cr0 cr1 fr0 fr1 hner
  have hbw2 : Below w.heap.size w Vq := by rw [hVq]; exact bSet (bSet (bSet (bSet (hbw) _ _ _ HGq.out) _ _ _ HGq.out) _ _ _ HGq.out) _ _ _ HGq.out
  clear cq0 cq1 cq2 cq3 fq0 fq1 fq2 fq3 hneq
  rw [← hVq]
  clear hVq hbw Xq Xr
  have hbw := hbw2
  clear hbw2
  have Xq := Yq
  clear Yq
  have Xr := Yr
  clear Yr
  refine (Ldexp_a _).mono ?_
  rintro e v9 ⟨rfl, hw⟩
  obtain rfl := hw.symm
  clear hw
  obtain ⟨cq0, cq1, cq2, cq3, fq0, fq1, fq2, fq3⟩ := Xq.out
  have hneq : gq < Vq.heap.size := World.block_lt_of_cell? Vq _ cq0
  go_wp2_with fail
  clear cq0 cq1 cq2 cq3 fq0 fq1 fq2 fq3 hneq
  refine (Ldexp_b _).mono ?_
  rintro e v9 ⟨rfl, hw⟩
  obtain rfl := hw.symm
  clear hw
  obtain ⟨cq0, cq1, cq2, cq3, fq0, fq1, fq2, fq3⟩ := Xq.out
  have hneq : gq < Vq.heap.size := World.block_lt_of_cell? Vq _ cq0
  go_wp2_with fail
  clear cq0 cq1 cq2 cq3 fq0 fq1 fq2 fq3 hneq
  refine (ddSum_f _).mono ?_
  rintro e v3 ⟨rfl, hb3⟩
  replace Xq : Hid _ := Xq.out.below hb3
  replace Xr : Hid _ := Xr.out.below hb3
  replace hbw := Below.on hbw hb3
  clear hb3
  obtain ⟨cr0, cr1, fr0, fr1⟩ := Xr.out
  have hner := Xr.out.lt
  go_wp2_with fail
  refine bodyPost_ret (v := .agg #[Fv 4601841526332570603, Fv 13575254537243523740]) (by rw [results_cell1 rfl]; go_simp) rfl ⟨rfl, ?_⟩
  exact bSet (bSet (hbw) _ _ _ HGr.out) _ _ _ HGr.out
end Go.Proofs.YteoccegpbonfpaaDoor
