import Derived.Test.YtkfonlijgoldfaaGreatDoorJ23
import Derived.Test.YtkfonlijgoldfaaGreatDoorJ16
namespace Go.Proofs.YtkfonlijgoldfaaGreatDoor
open Go.RowKit Go.Shelf

theorem results_tc9 {fn : Func} {a p : Tmp} {ty : TypeId} (h : fn.results = #[.tmp a, .cell p ty]) (tmps : Array Value) (P : Program) (w : World) :
    (results fn tmps).run P w = ((asAddr (tmps.getD p undef)).run P w).andThen fun x w₁ => ((loadVar ty x).run P w₁).andThen fun v w₂ => .ok (.tuple #[tmps.getD a undef, v]) w₂ := by
  simp only [results, h]
  simp [Sem.run_bind, Result.andThen]
set_option maxRecDepth 20000 in
set_option maxHeartbeats 8000000 in
theorem form9_64 (w : World) :
    Calls Tryz.prog 11 #[.bool false] w fun en w' => en = .returned (.tuple #[.int .i64 64, FV 9223372036854775808 53 (-1074) 971 9218868437227405312 9221120237041090561]) ∧ Below w.heap.size w w' := by
  go_enter Tryz.func11, Tryz.ntmps11
  go_wp2_with fail
  obtain ⟨W0, hW0⟩ : ∃ W0, W0 = (w.alloc (.cells #[.int .u64 0, .int .i64 0, .int .i64 0, .int .i64 0, .int .u64 0, .int .u64 0] 32)) := ⟨_, rfl⟩
  have Xr : Hid (B6q W0 (w.heap.size) (.int .u64 0) (.int .i64 0) (.int .i64 0) (.int .i64 0) (.int .u64 0) (.int .u64 0)) := by rw [hW0]; exact ⟨by go_simp, by go_simp, by go_simp, by go_simp, by go_simp, by go_simp, by go_simp, by go_simp, by go_simp, by go_simp, by go_simp, by go_simp⟩
  have hb0 : Below w.heap.size w W0 := by rw [hW0]; exact below1 w _
  rw [← hW0]
  clear hW0
  have hbw : Below w.heap.size w w := Below.refl _ _
  obtain ⟨gr, hgr⟩ : ∃ g, g = w.heap.size := ⟨_, rfl⟩
  have HGr : Hid (w.heap.size ≤ gr) := by rw [hgr]; show _ ≤ _; omega
  rw [← hgr] at Xr
  try rw [← hgr]
  clear hgr
  replace hbw := Below.on hbw hb0
  clear hb0
  refine (rf_64.of _).mono ?_
  rintro e v1 ⟨rfl, hb1⟩
  replace Xr : Hid _ := Xr.out.below hb1
  replace hbw := Below.on hbw hb1
  clear hb1
  obtain ⟨cr0, cr1, cr2, cr3, cr4, cr5, fr0, fr1, fr2, fr3, fr4, fr5⟩ := Xr.out
  have hner : gr < v1.heap.size := World.block_lt_of_cell? v1 _ cr0
  go_wp2_with fail
  clear cr0 cr1 cr2 cr3 cr4 cr5 fr0 fr1 fr2 fr3 fr4 fr5 hner
  have HDrk : Hid (gr ≠ v1.heap.size) := Nat.ne_of_lt Xr.out.lt
  have Xk0 : Hid (B6q (v1.alloc (.cells #[U 9223372036854775808, .int .i64 53, .int .i64 (-1074), .int .i64 971, U 9218868437227405312, U 9221120237041090561] 32)) v1.heap.size (U 9223372036854775808) (.int .i64 53) (.int .i64 (-1074)) (.int .i64 971) (U 9218868437227405312) (U 9221120237041090561)) := B6q.new v1 _ _ _ _ _ _ _
  have hbn : Below v1.heap.size v1 (v1.alloc (.cells #[U 9223372036854775808, .int .i64 53, .int .i64 (-1074), .int .i64 971, U 9218868437227405312, U 9221120237041090561] 32)) := below1 v1 _
  generalize v1.alloc (.cells #[U 9223372036854775808, .int .i64 53, .int .i64 (-1074), .int .i64 971, U 9218868437227405312, U 9221120237041090561] 32) = Wk at *
  have HGk : Hid (w.heap.size ≤ v1.heap.size) := hbw.size
  replace Xr : Hid _ := Xr.out.below hbn
  replace hbw := Below.on hbw hbn
  clear hbn
  generalize v1.heap.size = gk at *
  have Xk := Xk0
  clear Xk0
  obtain ⟨W1, hW1⟩ : ∃ W1, W1 = Wk.drew := ⟨_, rfl⟩
  have hbd : Below Wk.heap.size Wk W1 := by rw [hW1]; exact bDrew1 (Below.refl _ _)
  replace Xr : Hid _ := Xr.out.below hbd
  replace Xk : Hid _ := Xk.out.below hbd
  replace hbw := Below.on hbw hbd
  clear hbd
  have HJ : Hid ((fun W' : World => W'.cell? ⟨gk, 0, none⟩ = some (U 9223372036854775808) ∧ W'.cell? ⟨gk, 1, none⟩ = some (.int .i64 53) ∧ W'.cell? ⟨gk, 2, none⟩ = some (.int .i64 (-1074)) ∧ W'.cell? ⟨gk, 3, none⟩ = some (.int .i64 971) ∧ W'.cell? ⟨gk, 4, none⟩ = some (U 9218868437227405312) ∧ W'.cell? ⟨gk, 5, none⟩ = some (U 9221120237041090561)) W1) := ⟨Xk.out.c0, Xk.out.c1, Xk.out.c2, Xk.out.c3, Xk.out.c4, Xk.out.c5⟩
  refine wp_region_J (fun W' => W'.cell? ⟨gk, 0, none⟩ = some (U 9223372036854775808) ∧ W'.cell? ⟨gk, 1, none⟩ = some (.int .i64 53) ∧ W'.cell? ⟨gk, 2, none⟩ = some (.int .i64 (-1074)) ∧ W'.cell? ⟨gk, 3, none⟩ = some (.int .i64 971) ∧ W'.cell? ⟨gk, 4, none⟩ = some (U 9218868437227405312) ∧ W'.cell? ⟨gk, 5, none⟩ = some (U 9221120237041090561)) (by kernel_rfl) ?_
  rw [← hW1]
  clear hW1
  refine wpJ_take (i := 0) (v := ?v1x0) rfl (by kernel_rfl) (by kernel_rfl) (by kernel_rfl) (fun _ _ _ h => h) (by kernel_rfl) ?hy1x0 HJ.out ?rest1x0
  case hy1x0 => (intro W' hJ; obtain ⟨j0, j1, j2, j3, j4, j5⟩ := hJ; go_simp; first | done | with_reducible rfl)
  refine wpJ_take (i := 1) (v := ?v2x1) rfl (by kernel_rfl) (by kernel_rfl) (by kernel_rfl) (fun _ _ _ h => h) (by kernel_rfl) ?hy2x1 HJ.out ?rest2x1
  case hy2x1 => (intro W' hJ; obtain ⟨j0, j1, j2, j3, j4, j5⟩ := hJ; go_simp; first | done | with_reducible rfl)
  refine wpJ_take (i := 2) (v := ?v3x2) rfl (by kernel_rfl) (by kernel_rfl) (by kernel_rfl) (fun _ _ _ h => h) (by kernel_rfl) ?hy3x2 HJ.out ?rest3x2
  case hy3x2 => (intro W' hJ; obtain ⟨j0, j1, j2, j3, j4, j5⟩ := hJ; go_simp; first | done | with_reducible rfl)
  have HGD : Hid (gr ≠ gk ∧ gk ≠ gr) := ⟨HDrk.out, fun h => HDrk.out h.symm⟩
  obtain ⟨cr0, cr1, cr2, cr3, cr4, cr5, fr0, fr1, fr2, fr3, fr4, fr5⟩ := Xr.out
  have hner : gr < W1.heap.size := World.block_lt_of_cell? W1 _ cr0
  obtain ⟨ck0, ck1, ck2, ck3, ck4, ck5, fk0, fk1, fk2, fk3, fk4, fk5⟩ := Xk.out
  have hnek : gk < W1.heap.size := World.block_lt_of_cell? W1 _ ck0
  obtain ⟨hgd0, hgd1⟩ := HGD.out
  refine wpJ_one (i := 3) (by kernel_rfl) rfl (by kernel_rfl) (fun KJ hK => ?_)
  go_simp
  have HJ2 : Hid ((fun W' : World => W'.cell? ⟨gk, 0, none⟩ = some (U 9223372036854775808) ∧ W'.cell? ⟨gk, 1, none⟩ = some (.int .i64 53) ∧ W'.cell? ⟨gk, 2, none⟩ = some (.int .i64 (-1074)) ∧ W'.cell? ⟨gk, 3, none⟩ = some (.int .i64 971) ∧ W'.cell? ⟨gk, 4, none⟩ = some (U 9218868437227405312) ∧ W'.cell? ⟨gk, 5, none⟩ = some (U 9221120237041090561)) ((((((W1.setCell ⟨gr, 0, none⟩ (U 9223372036854775808)).setCell ⟨gr, 1, none⟩ (.int .i64 53)).setCell ⟨gr, 2, none⟩ (.int .i64 (-1074))).setCell ⟨gr, 3, none⟩ (.int .i64 971)).setCell ⟨gr, 4, none⟩ (U 9218868437227405312)).setCell ⟨gr, 5, none⟩ (U 9221120237041090561))) := ⟨by go_simp, by go_simp, by go_simp, by go_simp, by go_simp, by go_simp⟩
  refine hK _ _ HJ2.out ?_
  clear hK HJ
  have HJ := HJ2
  clear HJ2
  refine wpJ_done (by kernel_rfl) ?_ _
  clear HJ
  go_wp2_with fail
  refine bodyPost_ret (v := .tuple #[.int .i64 64, FV 9223372036854775808 53 (-1074) 971 9218868437227405312 9221120237041090561]) (by rw [results_tc9 rfl]; go_simp) rfl ⟨rfl, ?_⟩
  exact bSet (bSet (bSet (bSet (bSet (bSet (hbw) _ _ _ HGr.out) _ _ _ HGr.out) _ _ _ HGr.out) _ _ _ HGr.out) _ _ _ HGr.out) _ _ _ HGr.out
theorem mask9_64 (a : Nat) (ha : a < B64) : bits BinOp.and IntKind.u64 (a : Int) 18446744073709551615 = ((a % 18446744073709551616 : Nat) : Int) := by
  rw [B64_eq] at ha
  have h := bits_and_u64_nat a 18446744073709551615 (by omega) (by decide)
  rw [show 18446744073709551615 = 2 ^ 64 - 1 from by decide, Nat.and_two_pow_sub_one_eq_mod] at h
  exact h
set_option maxRecDepth 20000 in
set_option maxHeartbeats 8000000 in
theorem sizes9_64t (a b : Nat) (ha : a < B64) (hb : b = a % 18446744073709551616) (h : b % 9223372036854775808 < 9218868437227405312) (w : World) :
    Calls Tryz.prog 12 #[FV 9223372036854775808 53 (-1074) 971 9218868437227405312 9221120237041090561, U a] w fun en w' => en = .returned (.tuple #[U b, .bool true]) ∧ Below w.heap.size w w' := by
  have hm := mask9_64 a ha
  rw [← hb] at hm
  obtain ⟨v, hv⟩ : ∃ v, v = b % 9223372036854775808 := ⟨_, rfl⟩
  have h1 : (b : Int) % 9223372036854775808 = (v : Int) := by omega
  have h2 : (b : Int).tmod 9223372036854775808 = (v : Int) := by rw [Int.tmod_eq_emod_of_nonneg (by omega)]; omega
  rw [← hv] at h
  have h3 : decide (v < 9218868437227405312) = true := decide_eq_true h
  have h4 : decide ((v : Int) < 9218868437227405312) = true := decide_eq_true (by omega)
  clear hv h ha hb
  have hw : IntKind.u64.wrap (IntKind.u64.wrap 18446744073709551616 - 1) = 18446744073709551615 := by decide
  go_enter Tryz.func12, Tryz.ntmps12
  go_wp2_with fail
  obtain ⟨W0, hW0⟩ : ∃ W0, W0 = (w.alloc (.cells #[U 9223372036854775808, .int .i64 53, .int .i64 (-1074), .int .i64 971, U 9218868437227405312, U 9221120237041090561] 32)) := ⟨_, rfl⟩
  have Xk : Hid (B6q W0 (w.heap.size) (U 9223372036854775808) (.int .i64 53) (.int .i64 (-1074)) (.int .i64 971) (U 9218868437227405312) (U 9221120237041090561)) := by rw [hW0]; exact ⟨by go_simp, by go_simp, by go_simp, by go_simp, by go_simp, by go_simp, by go_simp, by go_simp, by go_simp, by go_simp, by go_simp, by go_simp⟩
  have hb0 : Below w.heap.size w W0 := by rw [hW0]; exact below1 w _
  rw [← hW0]
  clear hW0
  have hbw : Below w.heap.size w w := Below.refl _ _
  obtain ⟨gk, hgk⟩ : ∃ g, g = w.heap.size := ⟨_, rfl⟩
  have HGk : Hid (w.heap.size ≤ gk) := by rw [hgk]; show _ ≤ _; omega
  rw [← hgk] at Xk
  try rw [← hgk]
  clear hgk
  replace hbw := Below.on hbw hb0
  clear hb0
  obtain ⟨ck0, ck1, ck2, ck3, ck4, ck5, fk0, fk1, fk2, fk3, fk4, fk5⟩ := Xk.out
  have hnek : gk < W0.heap.size := World.block_lt_of_cell? W0 _ ck0
  go_wp2_with fail
  clear ck0 ck1 ck2 ck3 ck4 ck5 fk0 fk1 fk2 fk3 fk4 fk5 hnek
  obtain ⟨W1, hW1⟩ : ∃ W1, W1 = W0.drew := ⟨_, rfl⟩
  have hbd : Below W0.heap.size W0 W1 := by rw [hW1]; exact bDrew1 (Below.refl _ _)
  replace Xk : Hid _ := Xk.out.below hbd
  replace hbw := Below.on hbw hbd
  clear hbd
  have HJ : Hid ((fun W' : World => W'.cell? ⟨gk, 0, none⟩ = some (U 9223372036854775808) ∧ W'.cell? ⟨gk, 1, none⟩ = some (.int .i64 53) ∧ W'.cell? ⟨gk, 2, none⟩ = some (.int .i64 (-1074)) ∧ W'.cell? ⟨gk, 3, none⟩ = some (.int .i64 971) ∧ W'.cell? ⟨gk, 4, none⟩ = some (U 9218868437227405312) ∧ W'.cell? ⟨gk, 5, none⟩ = some (U 9221120237041090561)) W1) := ⟨Xk.out.c0, Xk.out.c1, Xk.out.c2, Xk.out.c3, Xk.out.c4, Xk.out.c5⟩
  refine wp_region_J (fun W' => W'.cell? ⟨gk, 0, none⟩ = some (U 9223372036854775808) ∧ W'.cell? ⟨gk, 1, none⟩ = some (.int .i64 53) ∧ W'.cell? ⟨gk, 2, none⟩ = some (.int .i64 (-1074)) ∧ W'.cell? ⟨gk, 3, none⟩ = some (.int .i64 971) ∧ W'.cell? ⟨gk, 4, none⟩ = some (U 9218868437227405312) ∧ W'.cell? ⟨gk, 5, none⟩ = some (U 9221120237041090561)) (by kernel_rfl) ?_
  rw [← hW1]
  clear hW1
  refine wpJ_take (i := 0) (v := ?v4x0) rfl (by kernel_rfl) (by kernel_rfl) (by kernel_rfl) (fun _ _ _ h => h) (by kernel_rfl) ?hy4x0 HJ.out ?rest4x0
  case hy4x0 => (intro W' hJ; obtain ⟨j0, j1, j2, j3, j4, j5⟩ := hJ; go_simp; first | done | with_reducible rfl)
  refine wpJ_take (i := 1) (v := ?v5x1) rfl (by kernel_rfl) (by kernel_rfl) (by kernel_rfl) (fun _ _ _ h => h) (by kernel_rfl) ?hy5x1 HJ.out ?rest5x1
  case hy5x1 => (intro W' hJ; obtain ⟨j0, j1, j2, j3, j4, j5⟩ := hJ; go_simp; first | done | with_reducible rfl)
  refine wpJ_take (i := 2) (v := ?v6x2) rfl (by kernel_rfl) (by kernel_rfl) (by kernel_rfl) (fun _ _ _ h => h) (by kernel_rfl) ?hy6x2 HJ.out ?rest6x2
  case hy6x2 => (intro W' hJ; obtain ⟨j0, j1, j2, j3, j4, j5⟩ := hJ; go_simp; first | done | with_reducible rfl)
  refine wpJ_take (i := 3) (v := ?v7x3) rfl (by kernel_rfl) (by kernel_rfl) (by kernel_rfl) (fun _ _ _ h => h) (by kernel_rfl) ?hy7x3 HJ.out ?rest7x3
  case hy7x3 => (intro W' hJ; obtain ⟨j0, j1, j2, j3, j4, j5⟩ := hJ; go_simp; first | done | with_reducible rfl)
  refine wpJ_take (i := 4) (v := ?v8x4) rfl (by kernel_rfl) (by kernel_rfl) (by kernel_rfl) (fun _ _ _ h => h) (by kernel_rfl) ?hy8x4 HJ.out ?rest8x4
  case hy8x4 => (intro W' hJ; obtain ⟨j0, j1, j2, j3, j4, j5⟩ := hJ; go_simp; first | done | with_reducible rfl)
  go_simp
  refine wpJ_take (i := 5) (v := ?v9x5) rfl (by kernel_rfl) (by kernel_rfl) (by kernel_rfl) (fun _ _ _ h => h) (by kernel_rfl) ?hy9x5 HJ.out ?rest9x5
  case hy9x5 => (intro W' hJ; obtain ⟨j0, j1, j2, j3, j4, j5⟩ := hJ; go_simp; first | done | with_reducible rfl)
  refine wpJ_take (i := 6) (v := ?v10x6) rfl (by kernel_rfl) (by kernel_rfl) (by kernel_rfl) (fun _ _ _ h => h) (by kernel_rfl) ?hy10x6 HJ.out ?rest10x6
  case hy10x6 => (intro W' hJ; obtain ⟨j0, j1, j2, j3, j4, j5⟩ := hJ; go_simp; first | done | with_reducible rfl)
  refine wpJ_take (i := 7) (v := ?v11x7) rfl (by kernel_rfl) (by kernel_rfl) (by kernel_rfl) (fun _ _ _ h => h) (by kernel_rfl) ?hy11x7 HJ.out ?rest11x7
  case hy11x7 => (intro W' hJ; obtain ⟨j0, j1, j2, j3, j4, j5⟩ := hJ; go_simp; first | done | with_reducible rfl)
  refine wpJ_take (i := 8) (v := ?v12x8) rfl (by kernel_rfl) (by kernel_rfl) (by kernel_rfl) (fun _ _ _ h => h) (by kernel_rfl) ?hy12x8 HJ.out ?rest12x8
  case hy12x8 => (intro W' hJ; obtain ⟨j0, j1, j2, j3, j4, j5⟩ := hJ; go_simp; first | done | with_reducible rfl)
  refine wpJ_take (i := 9) (v := ?v13x9) rfl (by kernel_rfl) (by kernel_rfl) (by kernel_rfl) (fun _ _ _ h => h) (by kernel_rfl) ?hy13x9 HJ.out ?rest13x9
  case hy13x9 => (intro W' hJ; obtain ⟨j0, j1, j2, j3, j4, j5⟩ := hJ; go_simp; first | done | with_reducible rfl)
  refine wpJ_done (by kernel_rfl) ?_ _
  clear HJ
  go_wp2_with fail
  go_ret2
  exact ⟨rfl, hbw⟩
set_option maxRecDepth 20000 in
set_option maxHeartbeats 8000000 in
theorem sizes9_64f (a b : Nat) (ha : a < B64) (hb : b = a % 18446744073709551616) (h : ¬ b % 9223372036854775808 < 9218868437227405312) (w : World) :
    Calls Tryz.prog 12 #[FV 9223372036854775808 53 (-1074) 971 9218868437227405312 9221120237041090561, U a] w fun en w' => en = .returned (.tuple #[U b, .bool false]) ∧ Below w.heap.size w w' := by
  have hm := mask9_64 a ha
  rw [← hb] at hm
  obtain ⟨v, hv⟩ : ∃ v, v = b % 9223372036854775808 := ⟨_, rfl⟩
  have h1 : (b : Int) % 9223372036854775808 = (v : Int) := by omega
  have h2 : (b : Int).tmod 9223372036854775808 = (v : Int) := by rw [Int.tmod_eq_emod_of_nonneg (by omega)]; omega
  rw [← hv] at h
  have h3 : decide (v < 9218868437227405312) = false := decide_eq_false h
  have h4 : decide ((v : Int) < 9218868437227405312) = false := decide_eq_false (by omega)
  clear hv h ha hb
  have hw : IntKind.u64.wrap (IntKind.u64.wrap 18446744073709551616 - 1) = 18446744073709551615 := by decide
  go_enter Tryz.func12, Tryz.ntmps12
  go_wp2_with fail
  obtain ⟨W0, hW0⟩ : ∃ W0, W0 = (w.alloc (.cells #[U 9223372036854775808, .int .i64 53, .int .i64 (-1074), .int .i64 971, U 9218868437227405312, U 9221120237041090561] 32)) := ⟨_, rfl⟩
  have Xk : Hid (B6q W0 (w.heap.size) (U 9223372036854775808) (.int .i64 53) (.int .i64 (-1074)) (.int .i64 971) (U 9218868437227405312) (U 9221120237041090561)) := by rw [hW0]; exact ⟨by go_simp, by go_simp, by go_simp, by go_simp, by go_simp, by go_simp, by go_simp, by go_simp, by go_simp, by go_simp, by go_simp, by go_simp⟩
  have hb0 : Below w.heap.size w W0 := by rw [hW0]; exact below1 w _
  rw [← hW0]
  clear hW0
  have hbw : Below w.heap.size w w := Below.refl _ _
  obtain ⟨gk, hgk⟩ : ∃ g, g = w.heap.size := ⟨_, rfl⟩
  have HGk : Hid (w.heap.size ≤ gk) := by rw [hgk]; show _ ≤ _; omega
  rw [← hgk] at Xk
  try rw [← hgk]
  clear hgk
  replace hbw := Below.on hbw hb0
  clear hb0
  obtain ⟨ck0, ck1, ck2, ck3, ck4, ck5, fk0, fk1, fk2, fk3, fk4, fk5⟩ := Xk.out
  have hnek : gk < W0.heap.size := World.block_lt_of_cell? W0 _ ck0
  go_wp2_with fail
  clear ck0 ck1 ck2 ck3 ck4 ck5 fk0 fk1 fk2 fk3 fk4 fk5 hnek
  obtain ⟨W1, hW1⟩ : ∃ W1, W1 = W0.drew := ⟨_, rfl⟩
  have hbd : Below W0.heap.size W0 W1 := by rw [hW1]; exact bDrew1 (Below.refl _ _)
  replace Xk : Hid _ := Xk.out.below hbd
  replace hbw := Below.on hbw hbd
  clear hbd
  have HJ : Hid ((fun W' : World => W'.cell? ⟨gk, 0, none⟩ = some (U 9223372036854775808) ∧ W'.cell? ⟨gk, 1, none⟩ = some (.int .i64 53) ∧ W'.cell? ⟨gk, 2, none⟩ = some (.int .i64 (-1074)) ∧ W'.cell? ⟨gk, 3, none⟩ = some (.int .i64 971) ∧ W'.cell? ⟨gk, 4, none⟩ = some (U 9218868437227405312) ∧ W'.cell? ⟨gk, 5, none⟩ = some (U 9221120237041090561)) W1) := ⟨Xk.out.c0, Xk.out.c1, Xk.out.c2, Xk.out.c3, Xk.out.c4, Xk.out.c5⟩
  refine wp_region_J (fun W' => W'.cell? ⟨gk, 0, none⟩ = some (U 9223372036854775808) ∧ W'.cell? ⟨gk, 1, none⟩ = some (.int .i64 53) ∧ W'.cell? ⟨gk, 2, none⟩ = some (.int .i64 (-1074)) ∧ W'.cell? ⟨gk, 3, none⟩ = some (.int .i64 971) ∧ W'.cell? ⟨gk, 4, none⟩ = some (U 9218868437227405312) ∧ W'.cell? ⟨gk, 5, none⟩ = some (U 9221120237041090561)) (by kernel_rfl) ?_
  rw [← hW1]
  clear hW1
  refine wpJ_take (i := 0) (v := ?v14x0) rfl (by kernel_rfl) (by kernel_rfl) (by kernel_rfl) (fun _ _ _ h => h) (by kernel_rfl) ?hy14x0 HJ.out ?rest14x0
  case hy14x0 => (intro W' hJ; obtain ⟨j0, j1, j2, j3, j4, j5⟩ := hJ; go_simp; first | done | with_reducible rfl)
  refine wpJ_take (i := 1) (v := ?v15x1) rfl (by kernel_rfl) (by kernel_rfl) (by kernel_rfl) (fun _ _ _ h => h) (by kernel_rfl) ?hy15x1 HJ.out ?rest15x1
  case hy15x1 => (intro W' hJ; obtain ⟨j0, j1, j2, j3, j4, j5⟩ := hJ; go_simp; first | done | with_reducible rfl)
  refine wpJ_take (i := 2) (v := ?v16x2) rfl (by kernel_rfl) (by kernel_rfl) (by kernel_rfl) (fun _ _ _ h => h) (by kernel_rfl) ?hy16x2 HJ.out ?rest16x2
  case hy16x2 => (intro W' hJ; obtain ⟨j0, j1, j2, j3, j4, j5⟩ := hJ; go_simp; first | done | with_reducible rfl)
  refine wpJ_take (i := 3) (v := ?v17x3) rfl (by kernel_rfl) (by kernel_rfl) (by kernel_rfl) (fun _ _ _ h => h) (by kernel_rfl) ?hy17x3 HJ.out ?rest17x3
  case hy17x3 => (intro W' hJ; obtain ⟨j0, j1, j2, j3, j4, j5⟩ := hJ; go_simp; first | done | with_reducible rfl)
  refine wpJ_take (i := 4) (v := ?v18x4) rfl (by kernel_rfl) (by kernel_rfl) (by kernel_rfl) (fun _ _ _ h => h) (by kernel_rfl) ?hy18x4 HJ.out ?rest18x4
  case hy18x4 => (intro W' hJ; obtain ⟨j0, j1, j2, j3, j4, j5⟩ := hJ; go_simp; first | done | with_reducible rfl)
  go_simp
  refine wpJ_take (i := 5) (v := ?v19x5) rfl (by kernel_rfl) (by kernel_rfl) (by kernel_rfl) (fun _ _ _ h => h) (by kernel_rfl) ?hy19x5 HJ.out ?rest19x5
  case hy19x5 => (intro W' hJ; obtain ⟨j0, j1, j2, j3, j4, j5⟩ := hJ; go_simp; first | done | with_reducible rfl)
  refine wpJ_take (i := 6) (v := ?v20x6) rfl (by kernel_rfl) (by kernel_rfl) (by kernel_rfl) (fun _ _ _ h => h) (by kernel_rfl) ?hy20x6 HJ.out ?rest20x6
  case hy20x6 => (intro W' hJ; obtain ⟨j0, j1, j2, j3, j4, j5⟩ := hJ; go_simp; first | done | with_reducible rfl)
  refine wpJ_take (i := 7) (v := ?v21x7) rfl (by kernel_rfl) (by kernel_rfl) (by kernel_rfl) (fun _ _ _ h => h) (by kernel_rfl) ?hy21x7 HJ.out ?rest21x7
  case hy21x7 => (intro W' hJ; obtain ⟨j0, j1, j2, j3, j4, j5⟩ := hJ; go_simp; first | done | with_reducible rfl)
  refine wpJ_take (i := 8) (v := ?v22x8) rfl (by kernel_rfl) (by kernel_rfl) (by kernel_rfl) (fun _ _ _ h => h) (by kernel_rfl) ?hy22x8 HJ.out ?rest22x8
  case hy22x8 => (intro W' hJ; obtain ⟨j0, j1, j2, j3, j4, j5⟩ := hJ; go_simp; first | done | with_reducible rfl)
  refine wpJ_take (i := 9) (v := ?v23x9) rfl (by kernel_rfl) (by kernel_rfl) (by kernel_rfl) (fun _ _ _ h => h) (by kernel_rfl) ?hy23x9 HJ.out ?rest23x9
  case hy23x9 => (intro W' hJ; obtain ⟨j0, j1, j2, j3, j4, j5⟩ := hJ; go_simp; first | done | with_reducible rfl)
  refine wpJ_done (by kernel_rfl) ?_ _
  clear HJ
  go_wp2_with fail
  go_ret2
  exact ⟨rfl, hbw⟩
set_option maxRecDepth 20000 in
set_option maxHeartbeats 8000000 in
theorem form9_32 (w : World) :
    Calls Tryz.prog 11 #[.bool true] w fun en w' => en = .returned (.tuple #[.int .i64 32, FV 2147483648 24 (-149) 104 2139095040 2143289345]) ∧ Below w.heap.size w w' := by
  go_enter Tryz.func11, Tryz.ntmps11
  go_wp2_with fail
  obtain ⟨W0, hW0⟩ : ∃ W0, W0 = (w.alloc (.cells #[.int .u64 0, .int .i64 0, .int .i64 0, .int .i64 0, .int .u64 0, .int .u64 0] 32)) := ⟨_, rfl⟩
  have Xr : Hid (B6q W0 (w.heap.size) (.int .u64 0) (.int .i64 0) (.int .i64 0) (.int .i64 0) (.int .u64 0) (.int .u64 0)) := by rw [hW0]; exact ⟨by go_simp, by go_simp, by go_simp, by go_simp, by go_simp, by go_simp, by go_simp, by go_simp, by go_simp, by go_simp, by go_simp, by go_simp⟩
  have hb0 : Below w.heap.size w W0 := by rw [hW0]; exact below1 w _
  rw [← hW0]
  clear hW0
  have hbw : Below w.heap.size w w := Below.refl _ _
  obtain ⟨gr, hgr⟩ : ∃ g, g = w.heap.size := ⟨_, rfl⟩
  have HGr : Hid (w.heap.size ≤ gr) := by rw [hgr]; show _ ≤ _; omega
  rw [← hgr] at Xr
  try rw [← hgr]
  clear hgr
  replace hbw := Below.on hbw hb0
  clear hb0
  refine (rf_32.of _).mono ?_
  rintro e v1 ⟨rfl, hb1⟩
  replace Xr : Hid _ := Xr.out.below hb1
  replace hbw := Below.on hbw hb1
  clear hb1
  obtain ⟨cr0, cr1, cr2, cr3, cr4, cr5, fr0, fr1, fr2, fr3, fr4, fr5⟩ := Xr.out
  have hner : gr < v1.heap.size := World.block_lt_of_cell? v1 _ cr0
  go_wp2_with fail
  clear cr0 cr1 cr2 cr3 cr4 cr5 fr0 fr1 fr2 fr3 fr4 fr5 hner
  have HDrk : Hid (gr ≠ v1.heap.size) := Nat.ne_of_lt Xr.out.lt
  have Xk0 : Hid (B6q (v1.alloc (.cells #[U 2147483648, .int .i64 24, .int .i64 (-149), .int .i64 104, U 2139095040, U 2143289345] 32)) v1.heap.size (U 2147483648) (.int .i64 24) (.int .i64 (-149)) (.int .i64 104) (U 2139095040) (U 2143289345)) := B6q.new v1 _ _ _ _ _ _ _
  have hbn : Below v1.heap.size v1 (v1.alloc (.cells #[U 2147483648, .int .i64 24, .int .i64 (-149), .int .i64 104, U 2139095040, U 2143289345] 32)) := below1 v1 _
  generalize v1.alloc (.cells #[U 2147483648, .int .i64 24, .int .i64 (-149), .int .i64 104, U 2139095040, U 2143289345] 32) = Wk at *
  have HGk : Hid (w.heap.size ≤ v1.heap.size) := hbw.size
  replace Xr : Hid _ := Xr.out.below hbn
  replace hbw := Below.on hbw hbn
  clear hbn
  generalize v1.heap.size = gk at *
  have Xk := Xk0
  clear Xk0
  obtain ⟨W1, hW1⟩ : ∃ W1, W1 = Wk.drew := ⟨_, rfl⟩
  have hbd : Below Wk.heap.size Wk W1 := by rw [hW1]; exact bDrew1 (Below.refl _ _)
  replace Xr : Hid _ := Xr.out.below hbd
  replace Xk : Hid _ := Xk.out.below hbd
  replace hbw := Below.on hbw hbd
  clear hbd
  have HJ : Hid ((fun W' : World => W'.cell? ⟨gk, 0, none⟩ = some (U 2147483648) ∧ W'.cell? ⟨gk, 1, none⟩ = some (.int .i64 24) ∧ W'.cell? ⟨gk, 2, none⟩ = some (.int .i64 (-149)) ∧ W'.cell? ⟨gk, 3, none⟩ = some (.int .i64 104) ∧ W'.cell? ⟨gk, 4, none⟩ = some (U 2139095040) ∧ W'.cell? ⟨gk, 5, none⟩ = some (U 2143289345)) W1) := ⟨Xk.out.c0, Xk.out.c1, Xk.out.c2, Xk.out.c3, Xk.out.c4, Xk.out.c5⟩
  refine wp_region_J (fun W' => W'.cell? ⟨gk, 0, none⟩ = some (U 2147483648) ∧ W'.cell? ⟨gk, 1, none⟩ = some (.int .i64 24) ∧ W'.cell? ⟨gk, 2, none⟩ = some (.int .i64 (-149)) ∧ W'.cell? ⟨gk, 3, none⟩ = some (.int .i64 104) ∧ W'.cell? ⟨gk, 4, none⟩ = some (U 2139095040) ∧ W'.cell? ⟨gk, 5, none⟩ = some (U 2143289345)) (by kernel_rfl) ?_
  rw [← hW1]
  clear hW1
  refine wpJ_take (i := 0) (v := ?v24x0) rfl (by kernel_rfl) (by kernel_rfl) (by kernel_rfl) (fun _ _ _ h => h) (by kernel_rfl) ?hy24x0 HJ.out ?rest24x0
  case hy24x0 => (intro W' hJ; obtain ⟨j0, j1, j2, j3, j4, j5⟩ := hJ; go_simp; first | done | with_reducible rfl)
  refine wpJ_take (i := 1) (v := ?v25x1) rfl (by kernel_rfl) (by kernel_rfl) (by kernel_rfl) (fun _ _ _ h => h) (by kernel_rfl) ?hy25x1 HJ.out ?rest25x1
  case hy25x1 => (intro W' hJ; obtain ⟨j0, j1, j2, j3, j4, j5⟩ := hJ; go_simp; first | done | with_reducible rfl)
  refine wpJ_take (i := 2) (v := ?v26x2) rfl (by kernel_rfl) (by kernel_rfl) (by kernel_rfl) (fun _ _ _ h => h) (by kernel_rfl) ?hy26x2 HJ.out ?rest26x2
  case hy26x2 => (intro W' hJ; obtain ⟨j0, j1, j2, j3, j4, j5⟩ := hJ; go_simp; first | done | with_reducible rfl)
  have HGD : Hid (gr ≠ gk ∧ gk ≠ gr) := ⟨HDrk.out, fun h => HDrk.out h.symm⟩
  obtain ⟨cr0, cr1, cr2, cr3, cr4, cr5, fr0, fr1, fr2, fr3, fr4, fr5⟩ := Xr.out
  have hner : gr < W1.heap.size := World.block_lt_of_cell? W1 _ cr0
  obtain ⟨ck0, ck1, ck2, ck3, ck4, ck5, fk0, fk1, fk2, fk3, fk4, fk5⟩ := Xk.out
  have hnek : gk < W1.heap.size := World.block_lt_of_cell? W1 _ ck0
  obtain ⟨hgd0, hgd1⟩ := HGD.out
  refine wpJ_one (i := 3) (by kernel_rfl) rfl (by kernel_rfl) (fun KJ hK => ?_)
  go_simp
  have HJ2 : Hid ((fun W' : World => W'.cell? ⟨gk, 0, none⟩ = some (U 2147483648) ∧ W'.cell? ⟨gk, 1, none⟩ = some (.int .i64 24) ∧ W'.cell? ⟨gk, 2, none⟩ = some (.int .i64 (-149)) ∧ W'.cell? ⟨gk, 3, none⟩ = some (.int .i64 104) ∧ W'.cell? ⟨gk, 4, none⟩ = some (U 2139095040) ∧ W'.cell? ⟨gk, 5, none⟩ = some (U 2143289345)) ((((((W1.setCell ⟨gr, 0, none⟩ (U 2147483648)).setCell ⟨gr, 1, none⟩ (.int .i64 24)).setCell ⟨gr, 2, none⟩ (.int .i64 (-149))).setCell ⟨gr, 3, none⟩ (.int .i64 104)).setCell ⟨gr, 4, none⟩ (U 2139095040)).setCell ⟨gr, 5, none⟩ (U 2143289345))) := ⟨by go_simp, by go_simp, by go_simp, by go_simp, by go_simp, by go_simp⟩
  refine hK _ _ HJ2.out ?_
  clear hK HJ
  have HJ := HJ2
  clear HJ2
  refine wpJ_done (by kernel_rfl) ?_ _
  clear HJ
  go_wp2_with fail
  refine bodyPost_ret (v := .tuple #[.int .i64 32, FV 2147483648 24 (-149) 104 2139095040 2143289345]) (by rw [results_tc9 rfl]; go_simp) rfl ⟨rfl, ?_⟩
  exact bSet (bSet (bSet (bSet (bSet (bSet (hbw) _ _ _ HGr.out) _ _ _ HGr.out) _ _ _ HGr.out) _ _ _ HGr.out) _ _ _ HGr.out) _ _ _ HGr.out
theorem mask9_32 (a : Nat) (ha : a < B64) : bits BinOp.and IntKind.u64 (a : Int) 4294967295 = ((a % 4294967296 : Nat) : Int) := by
  rw [B64_eq] at ha
  have h := bits_and_u64_nat a 4294967295 (by omega) (by decide)
  rw [show 4294967295 = 2 ^ 32 - 1 from by decide, Nat.and_two_pow_sub_one_eq_mod] at h
  exact h
set_option maxRecDepth 20000 in
set_option maxHeartbeats 8000000 in
theorem sizes9_32t (a b : Nat) (ha : a < B64) (hb : b = a % 4294967296) (h : b % 2147483648 < 2139095040) (w : World) :
    Calls Tryz.prog 12 #[FV 2147483648 24 (-149) 104 2139095040 2143289345, U a] w fun en w' => en = .returned (.tuple #[U b, .bool true]) ∧ Below w.heap.size w w' := by
  have hm := mask9_32 a ha
  rw [← hb] at hm
  obtain ⟨v, hv⟩ : ∃ v, v = b % 2147483648 := ⟨_, rfl⟩
  have h1 : (b : Int) % 2147483648 = (v : Int) := by omega
  have h2 : (b : Int).tmod 2147483648 = (v : Int) := by rw [Int.tmod_eq_emod_of_nonneg (by omega)]; omega
  rw [← hv] at h
  have h3 : decide (v < 2139095040) = true := decide_eq_true h
  have h4 : decide ((v : Int) < 2139095040) = true := decide_eq_true (by omega)
  clear hv h ha hb
  go_enter Tryz.func12, Tryz.ntmps12
  go_wp2_with fail
  obtain ⟨W0, hW0⟩ : ∃ W0, W0 = (w.alloc (.cells #[U 2147483648, .int .i64 24, .int .i64 (-149), .int .i64 104, U 2139095040, U 2143289345] 32)) := ⟨_, rfl⟩
  have Xk : Hid (B6q W0 (w.heap.size) (U 2147483648) (.int .i64 24) (.int .i64 (-149)) (.int .i64 104) (U 2139095040) (U 2143289345)) := by rw [hW0]; exact ⟨by go_simp, by go_simp, by go_simp, by go_simp, by go_simp, by go_simp, by go_simp, by go_simp, by go_simp, by go_simp, by go_simp, by go_simp⟩
  have hb0 : Below w.heap.size w W0 := by rw [hW0]; exact below1 w _
  rw [← hW0]
  clear hW0
  have hbw : Below w.heap.size w w := Below.refl _ _
  obtain ⟨gk, hgk⟩ : ∃ g, g = w.heap.size := ⟨_, rfl⟩
  have HGk : Hid (w.heap.size ≤ gk) := by rw [hgk]; show _ ≤ _; omega
  rw [← hgk] at Xk
  try rw [← hgk]
  clear hgk
  replace hbw := Below.on hbw hb0
  clear hb0
  obtain ⟨ck0, ck1, ck2, ck3, ck4, ck5, fk0, fk1, fk2, fk3, fk4, fk5⟩ := Xk.out
  have hnek : gk < W0.heap.size := World.block_lt_of_cell? W0 _ ck0
  go_wp2_with fail
  clear ck0 ck1 ck2 ck3 ck4 ck5 fk0 fk1 fk2 fk3 fk4 fk5 hnek
  obtain ⟨W1, hW1⟩ : ∃ W1, W1 = W0.drew := ⟨_, rfl⟩
  have hbd : Below W0.heap.size W0 W1 := by rw [hW1]; exact bDrew1 (Below.refl _ _)
  replace Xk : Hid _ := Xk.out.below hbd
  replace hbw := Below.on hbw hbd
  clear hbd
  have HJ : Hid ((fun W' : World => W'.cell? ⟨gk, 0, none⟩ = some (U 2147483648) ∧ W'.cell? ⟨gk, 1, none⟩ = some (.int .i64 24) ∧ W'.cell? ⟨gk, 2, none⟩ = some (.int .i64 (-149)) ∧ W'.cell? ⟨gk, 3, none⟩ = some (.int .i64 104) ∧ W'.cell? ⟨gk, 4, none⟩ = some (U 2139095040) ∧ W'.cell? ⟨gk, 5, none⟩ = some (U 2143289345)) W1) := ⟨Xk.out.c0, Xk.out.c1, Xk.out.c2, Xk.out.c3, Xk.out.c4, Xk.out.c5⟩
  refine wp_region_J (fun W' => W'.cell? ⟨gk, 0, none⟩ = some (U 2147483648) ∧ W'.cell? ⟨gk, 1, none⟩ = some (.int .i64 24) ∧ W'.cell? ⟨gk, 2, none⟩ = some (.int .i64 (-149)) ∧ W'.cell? ⟨gk, 3, none⟩ = some (.int .i64 104) ∧ W'.cell? ⟨gk, 4, none⟩ = some (U 2139095040) ∧ W'.cell? ⟨gk, 5, none⟩ = some (U 2143289345)) (by kernel_rfl) ?_
  rw [← hW1]
  clear hW1
  refine wpJ_take (i := 0) (v := ?v27x0) rfl (by kernel_rfl) (by kernel_rfl) (by kernel_rfl) (fun _ _ _ h => h) (by kernel_rfl) ?hy27x0 HJ.out ?rest27x0
  case hy27x0 => (intro W' hJ; obtain ⟨j0, j1, j2, j3, j4, j5⟩ := hJ; go_simp; first | done | with_reducible rfl)
  refine wpJ_take (i := 1) (v := ?v28x1) rfl (by kernel_rfl) (by kernel_rfl) (by kernel_rfl) (fun _ _ _ h => h) (by kernel_rfl) ?hy28x1 HJ.out ?rest28x1
  case hy28x1 => (intro W' hJ; obtain ⟨j0, j1, j2, j3, j4, j5⟩ := hJ; go_simp; first | done | with_reducible rfl)
  refine wpJ_take (i := 2) (v := ?v29x2) rfl (by kernel_rfl) (by kernel_rfl) (by kernel_rfl) (fun _ _ _ h => h) (by kernel_rfl) ?hy29x2 HJ.out ?rest29x2
  case hy29x2 => (intro W' hJ; obtain ⟨j0, j1, j2, j3, j4, j5⟩ := hJ; go_simp; first | done | with_reducible rfl)
  refine wpJ_take (i := 3) (v := ?v30x3) rfl (by kernel_rfl) (by kernel_rfl) (by kernel_rfl) (fun _ _ _ h => h) (by kernel_rfl) ?hy30x3 HJ.out ?rest30x3
  case hy30x3 => (intro W' hJ; obtain ⟨j0, j1, j2, j3, j4, j5⟩ := hJ; go_simp; first | done | with_reducible rfl)
  refine wpJ_take (i := 4) (v := ?v31x4) rfl (by kernel_rfl) (by kernel_rfl) (by kernel_rfl) (fun _ _ _ h => h) (by kernel_rfl) ?hy31x4 HJ.out ?rest31x4
  case hy31x4 => (intro W' hJ; obtain ⟨j0, j1, j2, j3, j4, j5⟩ := hJ; go_simp; first | done | with_reducible rfl)
  go_simp
  refine wpJ_take (i := 5) (v := ?v32x5) rfl (by kernel_rfl) (by kernel_rfl) (by kernel_rfl) (fun _ _ _ h => h) (by kernel_rfl) ?hy32x5 HJ.out ?rest32x5
  case hy32x5 => (intro W' hJ; obtain ⟨j0, j1, j2, j3, j4, j5⟩ := hJ; go_simp; first | done | with_reducible rfl)
  refine wpJ_take (i := 6) (v := ?v33x6) rfl (by kernel_rfl) (by kernel_rfl) (by kernel_rfl) (fun _ _ _ h => h) (by kernel_rfl) ?hy33x6 HJ.out ?rest33x6
  case hy33x6 => (intro W' hJ; obtain ⟨j0, j1, j2, j3, j4, j5⟩ := hJ; go_simp; first | done | with_reducible rfl)
  refine wpJ_take (i := 7) (v := ?v34x7) rfl (by kernel_rfl) (by kernel_rfl) (by kernel_rfl) (fun _ _ _ h => h) (by kernel_rfl) ?hy34x7 HJ.out ?rest34x7
  case hy34x7 => (intro W' hJ; obtain ⟨j0, j1, j2, j3, j4, j5⟩ := hJ; go_simp; first | done | with_reducible rfl)
  refine wpJ_take (i := 8) (v := ?v35x8) rfl (by kernel_rfl) (by kernel_rfl) (by kernel_rfl) (fun _ _ _ h => h) (by kernel_rfl) ?hy35x8 HJ.out ?rest35x8
  case hy35x8 => (intro W' hJ; obtain ⟨j0, j1, j2, j3, j4, j5⟩ := hJ; go_simp; first | done | with_reducible rfl)
  refine wpJ_take (i := 9) (v := ?v36x9) rfl (by kernel_rfl) (by kernel_rfl) (by kernel_rfl) (fun _ _ _ h => h) (by kernel_rfl) ?hy36x9 HJ.out ?rest36x9
  case hy36x9 => (intro W' hJ; obtain ⟨j0, j1, j2, j3, j4, j5⟩ := hJ; go_simp; first | done | with_reducible rfl)
  refine wpJ_done (by kernel_rfl) ?_ _
  clear HJ
  go_wp2_with fail
  go_ret2
  exact ⟨rfl, hbw⟩
set_option maxRecDepth 20000 in
set_option maxHeartbeats 8000000 in
theorem sizes9_32f (a b : Nat) (ha : a < B64) (hb : b = a % 4294967296) (h : ¬ b % 2147483648 < 2139095040) (w : World) :
    Calls Tryz.prog 12 #[FV 2147483648 24 (-149) 104 2139095040 2143289345, U a] w fun en w' => en = .returned (.tuple #[U b, .bool false]) ∧ Below w.heap.size w w' := by
  have hm := mask9_32 a ha
  rw [← hb] at hm
  obtain ⟨v, hv⟩ : ∃ v, v = b % 2147483648 := ⟨_, rfl⟩
  have h1 : (b : Int) % 2147483648 = (v : Int) := by omega
  have h2 : (b : Int).tmod 2147483648 = (v : Int) := by rw [Int.tmod_eq_emod_of_nonneg (by omega)]; omega
  rw [← hv] at h
  have h3 : decide (v < 2139095040) = false := decide_eq_false h
  have h4 : decide ((v : Int) < 2139095040) = false := decide_eq_false (by omega)
  clear hv h ha hb
  go_enter Tryz.func12, Tryz.ntmps12
  go_wp2_with fail
  obtain ⟨W0, hW0⟩ : ∃ W0, W0 = (w.alloc (.cells #[U 2147483648, .int .i64 24, .int .i64 (-149), .int .i64 104, U 2139095040, U 2143289345] 32)) := ⟨_, rfl⟩
  have Xk : Hid (B6q W0 (w.heap.size) (U 2147483648) (.int .i64 24) (.int .i64 (-149)) (.int .i64 104) (U 2139095040) (U 2143289345)) := by rw [hW0]; exact ⟨by go_simp, by go_simp, by go_simp, by go_simp, by go_simp, by go_simp, by go_simp, by go_simp, by go_simp, by go_simp, by go_simp, by go_simp⟩
  have hb0 : Below w.heap.size w W0 := by rw [hW0]; exact below1 w _
  rw [← hW0]
  clear hW0
  have hbw : Below w.heap.size w w := Below.refl _ _
  obtain ⟨gk, hgk⟩ : ∃ g, g = w.heap.size := ⟨_, rfl⟩
  have HGk : Hid (w.heap.size ≤ gk) := by rw [hgk]; show _ ≤ _; omega
  rw [← hgk] at Xk
  try rw [← hgk]
  clear hgk
  replace hbw := Below.on hbw hb0
  clear hb0
  obtain ⟨ck0, ck1, ck2, ck3, ck4, ck5, fk0, fk1, fk2, fk3, fk4, fk5⟩ := Xk.out
  have hnek : gk < W0.heap.size := World.block_lt_of_cell? W0 _ ck0
  go_wp2_with fail
  clear ck0 ck1 ck2 ck3 ck4 ck5 fk0 fk1 fk2 fk3 fk4 fk5 hnek
  obtain ⟨W1, hW1⟩ : ∃ W1, W1 = W0.drew := ⟨_, rfl⟩
  have hbd : Below W0.heap.size W0 W1 := by rw [hW1]; exact bDrew1 (Below.refl _ _)
  replace Xk : Hid _ := Xk.out.below hbd
  replace hbw := Below.on hbw hbd
  clear hbd
  have HJ : Hid ((fun W' : World => W'.cell? ⟨gk, 0, none⟩ = some (U 2147483648) ∧ W'.cell? ⟨gk, 1, none⟩ = some (.int .i64 24) ∧ W'.cell? ⟨gk, 2, none⟩ = some (.int .i64 (-149)) ∧ W'.cell? ⟨gk, 3, none⟩ = some (.int .i64 104) ∧ W'.cell? ⟨gk, 4, none⟩ = some (U 2139095040) ∧ W'.cell? ⟨gk, 5, none⟩ = some (U 2143289345)) W1) := ⟨Xk.out.c0, Xk.out.c1, Xk.out.c2, Xk.out.c3, Xk.out.c4, Xk.out.c5⟩
  refine wp_region_J (fun W' => W'.cell? ⟨gk, 0, none⟩ = some (U 2147483648) ∧ W'.cell? ⟨gk, 1, none⟩ = some (.int .i64 24) ∧ W'.cell? ⟨gk, 2, none⟩ = some (.int .i64 (-149)) ∧ W'.cell? ⟨gk, 3, none⟩ = some (.int .i64 104) ∧ W'.cell? ⟨gk, 4, none⟩ = some (U 2139095040) ∧ W'.cell? ⟨gk, 5, none⟩ = some (U 2143289345)) (by kernel_rfl) ?_
  rw [← hW1]
  clear hW1
  refine wpJ_take (i := 0) (v := ?v37x0) rfl (by kernel_rfl) (by kernel_rfl) (by kernel_rfl) (fun _ _ _ h => h) (by kernel_rfl) ?hy37x0 HJ.out ?rest37x0
  case hy37x0 => (intro W' hJ; obtain ⟨j0, j1, j2, j3, j4, j5⟩ := hJ; go_simp; first | done | with_reducible rfl)
  refine wpJ_take (i := 1) (v := ?v38x1) rfl (by kernel_rfl) (by kernel_rfl) (by kernel_rfl) (fun _ _ _ h => h) (by kernel_rfl) ?hy38x1 HJ.out ?rest38x1
  case hy38x1 => (intro W' hJ; obtain ⟨j0, j1, j2, j3, j4, j5⟩ := hJ; go_simp; first | done | with_reducible rfl)
  refine wpJ_take (i := 2) (v := ?v39x2) rfl (by kernel_rfl) (by kernel_rfl) (by kernel_rfl) (fun _ _ _ h => h) (by kernel_rfl) ?hy39x2 HJ.out ?rest39x2
  case hy39x2 => (intro W' hJ; obtain ⟨j0, j1, j2, j3, j4, j5⟩ := hJ; go_simp; first | done | with_reducible rfl)
  refine wpJ_take (i := 3) (v := ?v40x3) rfl (by kernel_rfl) (by kernel_rfl) (by kernel_rfl) (fun _ _ _ h => h) (by kernel_rfl) ?hy40x3 HJ.out ?rest40x3
  case hy40x3 => (intro W' hJ; obtain ⟨j0, j1, j2, j3, j4, j5⟩ := hJ; go_simp; first | done | with_reducible rfl)
  refine wpJ_take (i := 4) (v := ?v41x4) rfl (by kernel_rfl) (by kernel_rfl) (by kernel_rfl) (fun _ _ _ h => h) (by kernel_rfl) ?hy41x4 HJ.out ?rest41x4
  case hy41x4 => (intro W' hJ; obtain ⟨j0, j1, j2, j3, j4, j5⟩ := hJ; go_simp; first | done | with_reducible rfl)
  go_simp
  refine wpJ_take (i := 5) (v := ?v42x5) rfl (by kernel_rfl) (by kernel_rfl) (by kernel_rfl) (fun _ _ _ h => h) (by kernel_rfl) ?hy42x5 HJ.out ?rest42x5
  case hy42x5 => (intro W' hJ; obtain ⟨j0, j1, j2, j3, j4, j5⟩ := hJ; go_simp; first | done | with_reducible rfl)
  refine wpJ_take (i := 6) (v := ?v43x6) rfl (by kernel_rfl) (by kernel_rfl) (by kernel_rfl) (fun _ _ _ h => h) (by kernel_rfl) ?hy43x6 HJ.out ?rest43x6
  case hy43x6 => (intro W' hJ; obtain ⟨j0, j1, j2, j3, j4, j5⟩ := hJ; go_simp; first | done | with_reducible rfl)
  refine wpJ_take (i := 7) (v := ?v44x7) rfl (by kernel_rfl) (by kernel_rfl) (by kernel_rfl) (fun _ _ _ h => h) (by kernel_rfl) ?hy44x7 HJ.out ?rest44x7
  case hy44x7 => (intro W' hJ; obtain ⟨j0, j1, j2, j3, j4, j5⟩ := hJ; go_simp; first | done | with_reducible rfl)
  refine wpJ_take (i := 8) (v := ?v45x8) rfl (by kernel_rfl) (by kernel_rfl) (by kernel_rfl) (fun _ _ _ h => h) (by kernel_rfl) ?hy45x8 HJ.out ?rest45x8
  case hy45x8 => (intro W' hJ; obtain ⟨j0, j1, j2, j3, j4, j5⟩ := hJ; go_simp; first | done | with_reducible rfl)
  refine wpJ_take (i := 9) (v := ?v46x9) rfl (by kernel_rfl) (by kernel_rfl) (by kernel_rfl) (fun _ _ _ h => h) (by kernel_rfl) ?hy46x9 HJ.out ?rest46x9
  case hy46x9 => (intro W' hJ; obtain ⟨j0, j1, j2, j3, j4, j5⟩ := hJ; go_simp; first | done | with_reducible rfl)
  refine wpJ_done (by kernel_rfl) ?_ _
  clear HJ
  go_wp2_with fail
  go_ret2
  exact ⟨rfl, hbw⟩
theorem sq_val {S H : Nat} {l : Int} {a : Nat} {x e : Int} (hv : VF S H l a x e) (hl : -4194304 ≤ l + l) : dv (x * x) (e + e) = dv ((vs H (a % S) * vs H (a % S) : Nat) : Int) (l + l) := by
  have hE : -2097152 ≤ e + e := by rcases hv.fm with ⟨_, h⟩ | ⟨_, h, _⟩ <;> omega
  have h1 : dv (x.natAbs : Int) e = dv ((vs H (a % S) : Nat) : Int) l := by
    have h2 := hv.v
    rw [svS_eq] at h2
    have h3 := dv_nn x.natAbs e
    have h4 := dv_nn (vs H (a % S)) l
    rcases Int.lt_or_le x 0 with hx | hx
    · rw [show ((x.natAbs : Nat) : Int) = -x from by omega, dv_neg] at h3 ⊢
      split at h2
      · rw [dv_neg] at h2; omega
      · omega
    · rw [show ((x.natAbs : Nat) : Int) = x from by omega] at h3 ⊢
      split at h2
      · rw [dv_neg] at h2; omega
      · omega
  have h5 := sq_dv x.natAbs (e := e) (by omega)
  have h6 := sq_dv (vs H (a % S)) (e := l) (by omega)
  rw [h1, h6] at h5
  have h7 : ((x.natAbs * x.natAbs : Nat) : Int) = x * x := by rw [Int.natCast_mul]; exact Int.natAbs_mul_self' x
  rw [h7] at h5
  unfold dv
  rw [show (e + e + 2 * 4194304).toNat = (e + e + 4194304).toNat + 4194304 from by omega, show (l + l + 2 * 4194304).toNat = (l + l + 4194304).toNat + 4194304 from by omega] at h5
  rw [Nat.pow_add, Nat.pow_add] at h5
  have hC := pow_pos_int 4194304
  generalize 2 ^ 4194304 = C at h5 hC
  generalize 2 ^ (l + l + 4194304).toNat = A at h5 ⊢
  generalize 2 ^ (e + e + 4194304).toNat = B at h5 ⊢
  generalize vs H (a % S) * vs H (a % S) = NN at h5 ⊢
  rw [Int.natCast_mul A C, Int.natCast_mul B C, ← Int.mul_assoc, ← Int.mul_assoc] at h5
  exact (Int.eq_of_mul_eq_mul_right hC h5).symm
theorem sq_root {f p m l : Int} {S I H sd : Nat} {Be : Int} {Q : Nat} (J : Jq f p m l S I H sd Be Q) {a : Nat} {oa c : Opd} (_ha : a < 2 * S) (hr : a % S < I) (ka : OpB S I H l a oa) (hm : MulO oa oa c) {P : Nat} (hP : P = patO l sd Be S I Q c) (h1 : H ≤ P) (h2 : P < I)
    {X E V : Int} {Z : Nat} (hv : VF S H l P X E) (hZ : RNz H l I V Z) (hM : Mk H l I (fun τ => τ * τ) ((X.natAbs : Int) * ((2 ^ (E + 2 * 4194304).toNat : Nat) : Int)) V) : Z = a % S := by
  have hlt := J.jn.jm.pm.fm.lt
  have hp := J.jn.jm.pm.hp
  have hlo := J.jn.jm.pm.lo
  have hPS : P % S = P := Nat.mod_eq_of_lt (by omega)
  have hz : ∀ t : Bool, (t != t) = false := by intro t; cases t <;> rfl
  rcases ka with ⟨k1, _⟩ | ⟨k1, _⟩ | ⟨k1, k2⟩ | ⟨k1, k3, x, e, k4, k5, k6⟩
  · omega
  · omega
  · exfalso
    rw [k2] at hm
    have h3 := hm.uniq (.inr (.inr (.inl ⟨.inl ⟨rfl, .inl rfl⟩, rfl⟩)))
    rw [h3] at hP
    have h4 : patO l sd Be S I Q (ono ((ono (decide (S ≤ a))).s != (ono (decide (S ≤ a))).s)) = 0 := by rw [hz, patO_no]; rfl
    omega
  · rw [k6] at hm
    rcases hm with ⟨h3, _⟩ | ⟨h3, _⟩ | ⟨h3, _⟩ | ⟨_, z, g, h3, h4, h5, h6⟩
    · exfalso; rcases h3 with h | h | ⟨h, _⟩ | ⟨h, _⟩ <;> exact by cases h
    · exfalso; rcases h3 with ⟨h, _⟩ | ⟨_, h⟩ <;> exact by cases h
    · exfalso; rcases h3 with ⟨h, _⟩ | ⟨_, h⟩ <;> exact by cases h
    · have h7 : dv z g = dv ((vs H (a % S) * vs H (a % S) : Nat) : Int) (l + l) := by
        rw [← sq_val k4 (by omega)]; exact h5
      have hzp : 0 < z := by
        have h8 := dv_nn (vs H (a % S) * vs H (a % S)) (l + l)
        rw [← h7] at h8
        rcases dv3 z g with ⟨q1, q2⟩ | ⟨q1, q2⟩ | ⟨q1, q2⟩ <;> omega
      obtain ⟨Z0, z1, z2, z3, _⟩ := rnp_is J.jn z g h3.lo4
      rw [h6, patO_fin, z3, if_neg (by omega)] at hP
      rw [show ((z.natAbs : Nat) : Int) = z from by omega, h7, ← hP] at z2
      have h9 := hv.v
      rw [svS_eq, hPS, if_neg (by omega)] at h9
      have hXp : 0 < X := by
        have h8 : 0 < vs H P := by
          have := vs_mono hp (show 0 < P by omega)
          rw [vs_zero] at this
          exact this
        have h10 : 0 < dv ((vs H P : Nat) : Int) l := by
          rcases dv3 ((vs H P : Nat) : Int) l with ⟨q1, q2⟩ | ⟨q1, q2⟩ | ⟨q1, q2⟩ <;> omega
        rw [← h9] at h10
        rcases dv3 X E with ⟨q1, q2⟩ | ⟨q1, q2⟩ | ⟨q1, q2⟩ <;> omega
      exact root_sq J.jn k1 k3 h1 h2 z2 hXp hv.fm.lo4 h9 hZ hM
set_option maxRecDepth 20000 in
set_option maxHeartbeats 8000000 in
theorem rsq_x64 (a b : Nat) (ha : a < B64) (hb : b = a % 18446744073709551616) (h : ¬ b % 9223372036854775808 < 9218868437227405312) (w : World) (hT : Tab w) :
    Calls Tryz.prog 4 #[.bool false, U a] w fun en w' => en = .returned (.bool true) ∧ Below w.heap.size w w' := by
  have hbw : Below w.heap.size w w := Below.refl _ _
  have TB : Hid (Tab w) := hT
  have HA : Hid (a < B64 ∧ b = a % 18446744073709551616 ∧ ¬ b % 9223372036854775808 < 9218868437227405312) := ⟨ha, hb, h⟩
  clear hT ha hb h
  go_enter Tryz.func4, Tryz.ntmps4
  go_wp2_with fail
  refine (awake9 _ (TB.out.below hbw)).mono ?_
  rintro e v1 ⟨rfl, hb1⟩
  replace hbw := Below.on hbw hb1
  clear hb1
  go_wp2_with fail
  refine (form9_64 _).mono ?_
  rintro e v2 ⟨rfl, hb2⟩
  replace hbw := Below.on hbw hb2
  clear hb2
  go_wp2_with fail
  have Xk0 : Hid (B6q (v2.alloc (.cells #[U 9223372036854775808, .int .i64 53, .int .i64 (-1074), .int .i64 971, U 9218868437227405312, U 9221120237041090561] 32)) v2.heap.size (U 9223372036854775808) (.int .i64 53) (.int .i64 (-1074)) (.int .i64 971) (U 9218868437227405312) (U 9221120237041090561)) := B6q.new v2 _ _ _ _ _ _ _
  have hbn : Below v2.heap.size v2 (v2.alloc (.cells #[U 9223372036854775808, .int .i64 53, .int .i64 (-1074), .int .i64 971, U 9218868437227405312, U 9221120237041090561] 32)) := below1 v2 _
  generalize v2.alloc (.cells #[U 9223372036854775808, .int .i64 53, .int .i64 (-1074), .int .i64 971, U 9218868437227405312, U 9221120237041090561] 32) = Wk at *
  have HGk : Hid (w.heap.size ≤ v2.heap.size) := hbw.size
  replace hbw := Below.on hbw hbn
  clear hbn
  generalize v2.heap.size = gk at *
  have Xk := Xk0
  clear Xk0
  refine (sizes9_64f a b HA.out.1 HA.out.2.1 HA.out.2.2 _).mono ?_
  rintro e v3 ⟨rfl, hb3⟩
  replace Xk : Hid _ := Xk.out.below hb3
  replace hbw := Below.on hbw hb3
  clear hb3
  obtain ⟨ck0, ck1, ck2, ck3, ck4, ck5, fk0, fk1, fk2, fk3, fk4, fk5⟩ := Xk.out
  have hnek : gk < v3.heap.size := World.block_lt_of_cell? v3 _ ck0
  go_wp2_with fail
  clear ck0 ck1 ck2 ck3 ck4 ck5 fk0 fk1 fk2 fk3 fk4 fk5 hnek
  go_ret
  exact ⟨rfl, hbw⟩
set_option maxRecDepth 20000 in
set_option maxHeartbeats 8000000 in
theorem rsq_64 (a b : Nat) (ha : a < B64) (hb : b = a % 18446744073709551616) (h : b % 9223372036854775808 < 9218868437227405312) (w : World) (hT : Tab w) :
    Calls Tryz.prog 4 #[.bool false, U a] w fun en w' => en = .returned (.bool true) ∧ Below w.heap.size w w' := by
  have hbw : Below w.heap.size w w := Below.refl _ _
  have TB : Hid (Tab w) := hT
  have hb2 : b < 2 * 9223372036854775808 := by omega
  obtain ⟨ob, kb⟩ := opb_ex pm_64 b
  have HA : Hid (a < B64 ∧ b = a % 18446744073709551616 ∧ b % 9223372036854775808 < 9218868437227405312 ∧ b < 2 * 9223372036854775808 ∧ OpB 9223372036854775808 9218868437227405312 4503599627370496 (-1074) b ob) := ⟨ha, hb, h, hb2, kb⟩
  clear hT ha hb h hb2 kb
  go_enter Tryz.func4, Tryz.ntmps4
  go_wp2_with fail
  refine (awake9 _ (TB.out.below hbw)).mono ?_
  rintro e v1 ⟨rfl, hb1⟩
  replace hbw := Below.on hbw hb1
  clear hb1
  go_wp2_with fail
  refine (form9_64 _).mono ?_
  rintro e v2 ⟨rfl, hb2⟩
  replace hbw := Below.on hbw hb2
  clear hb2
  go_wp2_with fail
  have Xk0 : Hid (B6q (v2.alloc (.cells #[U 9223372036854775808, .int .i64 53, .int .i64 (-1074), .int .i64 971, U 9218868437227405312, U 9221120237041090561] 32)) v2.heap.size (U 9223372036854775808) (.int .i64 53) (.int .i64 (-1074)) (.int .i64 971) (U 9218868437227405312) (U 9221120237041090561)) := B6q.new v2 _ _ _ _ _ _ _
  have hbn : Below v2.heap.size v2 (v2.alloc (.cells #[U 9223372036854775808, .int .i64 53, .int .i64 (-1074), .int .i64 971, U 9218868437227405312, U 9221120237041090561] 32)) := below1 v2 _
  generalize v2.alloc (.cells #[U 9223372036854775808, .int .i64 53, .int .i64 (-1074), .int .i64 971, U 9218868437227405312, U 9221120237041090561] 32) = Wk at *
  have HGk : Hid (w.heap.size ≤ v2.heap.size) := hbw.size
  replace hbw := Below.on hbw hbn
  clear hbn
  generalize v2.heap.size = gk at *
  have Xk := Xk0
  clear Xk0
  refine (sizes9_64t a b HA.out.1 HA.out.2.1 HA.out.2.2.1 _).mono ?_
  rintro e v3 ⟨rfl, hb3⟩
  replace Xk : Hid _ := Xk.out.below hb3
  replace hbw := Below.on hbw hb3
  clear hb3
  obtain ⟨ck0, ck1, ck2, ck3, ck4, ck5, fk0, fk1, fk2, fk3, fk4, fk5⟩ := Xk.out
  have hnek : gk < v3.heap.size := World.block_lt_of_cell? v3 _ ck0
  go_wp2_with fail
  clear ck0 ck1 ck2 ck3 ck4 ck5 fk0 fk1 fk2 fk3 fk4 fk5 hnek
  refine (mul_is jo_64 HA.out.2.2.2.1 HA.out.2.2.2.1 HA.out.2.2.2.2 HA.out.2.2.2.2 _ (TB.out.below hbw)).mono ?_
  rintro e9 v4 ⟨c, rfl, hs, hb4⟩
  obtain ⟨P, hP⟩ : ∃ P, P = patO (-1074) 52 1024 9223372036854775808 9218868437227405312 9221120237041090561 c := ⟨_, rfl⟩
  rw [← hP]
  have HP : Hid (P = patO (-1074) 52 1024 9223372036854775808 9218868437227405312 9221120237041090561 c ∧ MulO ob ob c) := ⟨hP, hs⟩
  clear hP hs
  replace Xk : Hid _ := Xk.out.below hb4
  replace hbw := Below.on hbw hb4
  clear hb4
  by_cases h1 : 9218868437227405312 ≤ P
  · have d1 : decide (9218868437227405312 ≤ P) = true := decide_eq_true h1
    have d2 : decide ((9218868437227405312 : Int) ≤ (P : Int)) = true := decide_eq_true (by omega)
    clear h1
    obtain ⟨ck0, ck1, ck2, ck3, ck4, ck5, fk0, fk1, fk2, fk3, fk4, fk5⟩ := Xk.out
    have hnek : gk < v4.heap.size := World.block_lt_of_cell? v4 _ ck0
    go_wp2_with fail
    clear ck0 ck1 ck2 ck3 ck4 ck5 fk0 fk1 fk2 fk3 fk4 fk5 hnek
    go_ret
    exact ⟨rfl, hbw⟩
  · have d1 : decide (9218868437227405312 ≤ P) = false := decide_eq_false h1
    have d2 : decide ((9218868437227405312 : Int) ≤ (P : Int)) = false := decide_eq_false (by omega)
    have HPI : Hid (P < 9218868437227405312) := by show _ < _; omega
    clear h1
    obtain ⟨ck0, ck1, ck2, ck3, ck4, ck5, fk0, fk1, fk2, fk3, fk4, fk5⟩ := Xk.out
    have hnek : gk < v4.heap.size := World.block_lt_of_cell? v4 _ ck0
    go_wp2_with fail
    clear ck0 ck1 ck2 ck3 ck4 ck5 fk0 fk1 fk2 fk3 fk4 fk5 hnek
    clear d1 d2
    by_cases h2 : 4503599627370496 ≤ P
    · have hc := rcls_64_2 P (by omega) HPI.out v4
      refine Calls.mono hc ?_
      clear hc
      rintro e9 v5 ⟨rfl, hb5⟩
      have HPH : Hid (4503599627370496 ≤ P) := h2
      clear h2
      replace Xk : Hid _ := Xk.out.below hb5
      replace hbw := Below.on hbw hb5
      clear hb5
      obtain ⟨ck0, ck1, ck2, ck3, ck4, ck5, fk0, fk1, fk2, fk3, fk4, fk5⟩ := Xk.out
      have hnek : gk < v5.heap.size := World.block_lt_of_cell? v5 _ ck0
      go_wp2_with fail
      clear ck0 ck1 ck2 ck3 ck4 ck5 fk0 fk1 fk2 fk3 fk4 fk5 hnek
      refine (soft_sqrt_f jo_64 (by decide) (a := P) (by have := HPI.out; have := HPH.out; omega) _ (TB.out.below hbw)).mono ?_
      rintro e9 v6 ⟨X, E, Z, V, rfl, hx, hz, hk, hb6⟩
      have hZ := sq_root jq_64 HA.out.2.2.2.1 HA.out.2.2.1 HA.out.2.2.2.2 HP.out.2 HP.out.1 HPH.out HPI.out hx hz hk
      clear hx hz hk
      have t1 : (b : Int) % 9223372036854775808 = (Z : Int) := by rw [hZ]; omega
      have t2 : (b : Int).tmod 9223372036854775808 = (Z : Int) := by rw [Int.tmod_eq_emod_of_nonneg (by omega)]; exact t1
      clear hZ
      replace Xk : Hid _ := Xk.out.below hb6
      replace hbw := Below.on hbw hb6
      clear hb6
      obtain ⟨ck0, ck1, ck2, ck3, ck4, ck5, fk0, fk1, fk2, fk3, fk4, fk5⟩ := Xk.out
      have hnek : gk < v6.heap.size := World.block_lt_of_cell? v6 _ ck0
      go_wp2_with fail
      clear ck0 ck1 ck2 ck3 ck4 ck5 fk0 fk1 fk2 fk3 fk4 fk5 hnek
      go_ret
      exact ⟨rfl, hbw⟩
    · by_cases h3 : P = 0
      · have hc := rcls_64_0 P h3 v4
        refine Calls.mono hc ?_
        clear hc h2 h3
        rintro e9 v5 ⟨rfl, hb5⟩
        replace Xk : Hid _ := Xk.out.below hb5
        replace hbw := Below.on hbw hb5
        clear hb5
        obtain ⟨ck0, ck1, ck2, ck3, ck4, ck5, fk0, fk1, fk2, fk3, fk4, fk5⟩ := Xk.out
        have hnek : gk < v5.heap.size := World.block_lt_of_cell? v5 _ ck0
        go_wp2_with fail
        clear ck0 ck1 ck2 ck3 ck4 ck5 fk0 fk1 fk2 fk3 fk4 fk5 hnek
        go_ret
        exact ⟨rfl, hbw⟩
      · have hc := rcls_64_1 P h3 (by omega) v4
        refine Calls.mono hc ?_
        clear hc h2 h3
        rintro e9 v5 ⟨rfl, hb5⟩
        replace Xk : Hid _ := Xk.out.below hb5
        replace hbw := Below.on hbw hb5
        clear hb5
        obtain ⟨ck0, ck1, ck2, ck3, ck4, ck5, fk0, fk1, fk2, fk3, fk4, fk5⟩ := Xk.out
        have hnek : gk < v5.heap.size := World.block_lt_of_cell? v5 _ ck0
        go_wp2_with fail
        clear ck0 ck1 ck2 ck3 ck4 ck5 fk0 fk1 fk2 fk3 fk4 fk5 hnek
        go_ret
        exact ⟨rfl, hbw⟩
set_option maxRecDepth 20000 in
set_option maxHeartbeats 8000000 in
theorem rsq_x32 (a b : Nat) (ha : a < B64) (hb : b = a % 4294967296) (h : ¬ b % 2147483648 < 2139095040) (w : World) (hT : Tab w) :
    Calls Tryz.prog 4 #[.bool true, U a] w fun en w' => en = .returned (.bool true) ∧ Below w.heap.size w w' := by
  have hbw : Below w.heap.size w w := Below.refl _ _
  have TB : Hid (Tab w) := hT
  have HA : Hid (a < B64 ∧ b = a % 4294967296 ∧ ¬ b % 2147483648 < 2139095040) := ⟨ha, hb, h⟩
  clear hT ha hb h
  go_enter Tryz.func4, Tryz.ntmps4
  go_wp2_with fail
  refine (awake9 _ (TB.out.below hbw)).mono ?_
  rintro e v1 ⟨rfl, hb1⟩
  replace hbw := Below.on hbw hb1
  clear hb1
  go_wp2_with fail
  refine (form9_32 _).mono ?_
  rintro e v2 ⟨rfl, hb2⟩
  replace hbw := Below.on hbw hb2
  clear hb2
  go_wp2_with fail
  have Xk0 : Hid (B6q (v2.alloc (.cells #[U 2147483648, .int .i64 24, .int .i64 (-149), .int .i64 104, U 2139095040, U 2143289345] 32)) v2.heap.size (U 2147483648) (.int .i64 24) (.int .i64 (-149)) (.int .i64 104) (U 2139095040) (U 2143289345)) := B6q.new v2 _ _ _ _ _ _ _
  have hbn : Below v2.heap.size v2 (v2.alloc (.cells #[U 2147483648, .int .i64 24, .int .i64 (-149), .int .i64 104, U 2139095040, U 2143289345] 32)) := below1 v2 _
  generalize v2.alloc (.cells #[U 2147483648, .int .i64 24, .int .i64 (-149), .int .i64 104, U 2139095040, U 2143289345] 32) = Wk at *
  have HGk : Hid (w.heap.size ≤ v2.heap.size) := hbw.size
  replace hbw := Below.on hbw hbn
  clear hbn
  generalize v2.heap.size = gk at *
  have Xk := Xk0
  clear Xk0
  refine (sizes9_32f a b HA.out.1 HA.out.2.1 HA.out.2.2 _).mono ?_
  rintro e v3 ⟨rfl, hb3⟩
  replace Xk : Hid _ := Xk.out.below hb3
  replace hbw := Below.on hbw hb3
  clear hb3
  obtain ⟨ck0, ck1, ck2, ck3, ck4, ck5, fk0, fk1, fk2, fk3, fk4, fk5⟩ := Xk.out
  have hnek : gk < v3.heap.size := World.block_lt_of_cell? v3 _ ck0
  go_wp2_with fail
  clear ck0 ck1 ck2 ck3 ck4 ck5 fk0 fk1 fk2 fk3 fk4 fk5 hnek
  go_ret
  exact ⟨rfl, hbw⟩
set_option maxRecDepth 20000 in
set_option maxHeartbeats 8000000 in
theorem rsq_32 (a b : Nat) (ha : a < B64) (hb : b = a % 4294967296) (h : b % 2147483648 < 2139095040) (w : World) (hT : Tab w) :
    Calls Tryz.prog 4 #[.bool true, U a] w fun en w' => en = .returned (.bool true) ∧ Below w.heap.size w w' := by
  have hbw : Below w.heap.size w w := Below.refl _ _
  have TB : Hid (Tab w) := hT
  have hb2 : b < 2 * 2147483648 := by omega
  obtain ⟨ob, kb⟩ := opb_ex pm_32 b
  have HA : Hid (a < B64 ∧ b = a % 4294967296 ∧ b % 2147483648 < 2139095040 ∧ b < 2 * 2147483648 ∧ OpB 2147483648 2139095040 8388608 (-149) b ob) := ⟨ha, hb, h, hb2, kb⟩
  clear hT ha hb h hb2 kb
  go_enter Tryz.func4, Tryz.ntmps4
  go_wp2_with fail
  refine (awake9 _ (TB.out.below hbw)).mono ?_
  rintro e v1 ⟨rfl, hb1⟩
  replace hbw := Below.on hbw hb1
  clear hb1
  go_wp2_with fail
  refine (form9_32 _).mono ?_
  rintro e v2 ⟨rfl, hb2⟩
  replace hbw := Below.on hbw hb2
  clear hb2
  go_wp2_with fail
  have Xk0 : Hid (B6q (v2.alloc (.cells #[U 2147483648, .int .i64 24, .int .i64 (-149), .int .i64 104, U 2139095040, U 2143289345] 32)) v2.heap.size (U 2147483648) (.int .i64 24) (.int .i64 (-149)) (.int .i64 104) (U 2139095040) (U 2143289345)) := B6q.new v2 _ _ _ _ _ _ _
  have hbn : Below v2.heap.size v2 (v2.alloc (.cells #[U 2147483648, .int .i64 24, .int .i64 (-149), .int .i64 104, U 2139095040, U 2143289345] 32)) := below1 v2 _
  generalize v2.alloc (.cells #[U 2147483648, .int .i64 24, .int .i64 (-149), .int .i64 104, U 2139095040, U 2143289345] 32) = Wk at *
  have HGk : Hid (w.heap.size ≤ v2.heap.size) := hbw.size
  replace hbw := Below.on hbw hbn
  clear hbn
  generalize v2.heap.size = gk at *
  have Xk := Xk0
  clear Xk0
  refine (sizes9_32t a b HA.out.1 HA.out.2.1 HA.out.2.2.1 _).mono ?_
  rintro e v3 ⟨rfl, hb3⟩
  replace Xk : Hid _ := Xk.out.below hb3
  replace hbw := Below.on hbw hb3
  clear hb3
  obtain ⟨ck0, ck1, ck2, ck3, ck4, ck5, fk0, fk1, fk2, fk3, fk4, fk5⟩ := Xk.out
  have hnek : gk < v3.heap.size := World.block_lt_of_cell? v3 _ ck0
  go_wp2_with fail
  clear ck0 ck1 ck2 ck3 ck4 ck5 fk0 fk1 fk2 fk3 fk4 fk5 hnek
  refine (mul_is jo_32 HA.out.2.2.2.1 HA.out.2.2.2.1 HA.out.2.2.2.2 HA.out.2.2.2.2 _ (TB.out.below hbw)).mono ?_
  rintro e9 v4 ⟨c, rfl, hs, hb4⟩
  obtain ⟨P, hP⟩ : ∃ P, P = patO (-149) 23 128 2147483648 2139095040 2143289345 c := ⟨_, rfl⟩
  rw [← hP]
  have HP : Hid (P = patO (-149) 23 128 2147483648 2139095040 2143289345 c ∧ MulO ob ob c) := ⟨hP, hs⟩
  clear hP hs
  replace Xk : Hid _ := Xk.out.below hb4
  replace hbw := Below.on hbw hb4
  clear hb4
  by_cases h1 : 2139095040 ≤ P
  · have d1 : decide (2139095040 ≤ P) = true := decide_eq_true h1
    have d2 : decide ((2139095040 : Int) ≤ (P : Int)) = true := decide_eq_true (by omega)
    clear h1
    obtain ⟨ck0, ck1, ck2, ck3, ck4, ck5, fk0, fk1, fk2, fk3, fk4, fk5⟩ := Xk.out
    have hnek : gk < v4.heap.size := World.block_lt_of_cell? v4 _ ck0
    go_wp2_with fail
    clear ck0 ck1 ck2 ck3 ck4 ck5 fk0 fk1 fk2 fk3 fk4 fk5 hnek
    go_ret
    exact ⟨rfl, hbw⟩
  · have d1 : decide (2139095040 ≤ P) = false := decide_eq_false h1
    have d2 : decide ((2139095040 : Int) ≤ (P : Int)) = false := decide_eq_false (by omega)
    have HPI : Hid (P < 2139095040) := by show _ < _; omega
    clear h1
    obtain ⟨ck0, ck1, ck2, ck3, ck4, ck5, fk0, fk1, fk2, fk3, fk4, fk5⟩ := Xk.out
    have hnek : gk < v4.heap.size := World.block_lt_of_cell? v4 _ ck0
    go_wp2_with fail
    clear ck0 ck1 ck2 ck3 ck4 ck5 fk0 fk1 fk2 fk3 fk4 fk5 hnek
    clear d1 d2
    by_cases h2 : 8388608 ≤ P
    · have hc := rcls_32_2 P (by omega) HPI.out v4
      refine Calls.mono hc ?_
      clear hc
      rintro e9 v5 ⟨rfl, hb5⟩
      have HPH : Hid (8388608 ≤ P) := h2
      clear h2
      replace Xk : Hid _ := Xk.out.below hb5
      replace hbw := Below.on hbw hb5
      clear hb5
      obtain ⟨ck0, ck1, ck2, ck3, ck4, ck5, fk0, fk1, fk2, fk3, fk4, fk5⟩ := Xk.out
      have hnek : gk < v5.heap.size := World.block_lt_of_cell? v5 _ ck0
      go_wp2_with fail
      clear ck0 ck1 ck2 ck3 ck4 ck5 fk0 fk1 fk2 fk3 fk4 fk5 hnek
      refine (soft_sqrt_f jo_32 (by decide) (a := P) (by have := HPI.out; have := HPH.out; omega) _ (TB.out.below hbw)).mono ?_
      rintro e9 v6 ⟨X, E, Z, V, rfl, hx, hz, hk, hb6⟩
      have hZ := sq_root jq_32 HA.out.2.2.2.1 HA.out.2.2.1 HA.out.2.2.2.2 HP.out.2 HP.out.1 HPH.out HPI.out hx hz hk
      clear hx hz hk
      have t1 : (b : Int) % 2147483648 = (Z : Int) := by rw [hZ]; omega
      have t2 : (b : Int).tmod 2147483648 = (Z : Int) := by rw [Int.tmod_eq_emod_of_nonneg (by omega)]; exact t1
      clear hZ
      replace Xk : Hid _ := Xk.out.below hb6
      replace hbw := Below.on hbw hb6
      clear hb6
      obtain ⟨ck0, ck1, ck2, ck3, ck4, ck5, fk0, fk1, fk2, fk3, fk4, fk5⟩ := Xk.out
      have hnek : gk < v6.heap.size := World.block_lt_of_cell? v6 _ ck0
      go_wp2_with fail
      clear ck0 ck1 ck2 ck3 ck4 ck5 fk0 fk1 fk2 fk3 fk4 fk5 hnek
      go_ret
      exact ⟨rfl, hbw⟩
    · by_cases h3 : P = 0
      · have hc := rcls_32_0 P h3 v4
        refine Calls.mono hc ?_
        clear hc h2 h3
        rintro e9 v5 ⟨rfl, hb5⟩
        replace Xk : Hid _ := Xk.out.below hb5
        replace hbw := Below.on hbw hb5
        clear hb5
        obtain ⟨ck0, ck1, ck2, ck3, ck4, ck5, fk0, fk1, fk2, fk3, fk4, fk5⟩ := Xk.out
        have hnek : gk < v5.heap.size := World.block_lt_of_cell? v5 _ ck0
        go_wp2_with fail
        clear ck0 ck1 ck2 ck3 ck4 ck5 fk0 fk1 fk2 fk3 fk4 fk5 hnek
        go_ret
        exact ⟨rfl, hbw⟩
      · have hc := rcls_32_1 P h3 (by omega) v4
        refine Calls.mono hc ?_
        clear hc h2 h3
        rintro e9 v5 ⟨rfl, hb5⟩
        replace Xk : Hid _ := Xk.out.below hb5
        replace hbw := Below.on hbw hb5
        clear hb5
        obtain ⟨ck0, ck1, ck2, ck3, ck4, ck5, fk0, fk1, fk2, fk3, fk4, fk5⟩ := Xk.out
        have hnek : gk < v5.heap.size := World.block_lt_of_cell? v5 _ ck0
        go_wp2_with fail
        clear ck0 ck1 ck2 ck3 ck4 ck5 fk0 fk1 fk2 fk3 fk4 fk5 hnek
        go_ret
        exact ⟨rfl, hbw⟩
theorem softRootOfSquare_w (single : Bool) (a : Nat) (ha : a < B64) (w : World) (hT : Tab w) : Calls Tryz.prog 4 #[.bool single, U a] w fun en w' => en = .returned (.bool true) ∧ Below w.heap.size w w' := by
  cases single
  · by_cases h : a % 18446744073709551616 % 9223372036854775808 < 9218868437227405312
    · exact rsq_64 a _ ha rfl h w hT
    · exact rsq_x64 a _ ha rfl h w hT
  · by_cases h : a % 4294967296 % 2147483648 < 2139095040
    · exact rsq_32 a _ ha rfl h w hT
    · exact rsq_x32 a _ ha rfl h w hT
end Go.Proofs.YtkfonlijgoldfaaGreatDoor

