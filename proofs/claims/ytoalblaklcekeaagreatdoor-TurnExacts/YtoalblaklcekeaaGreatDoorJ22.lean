import Derived.Test.YtoalblaklcekeaaGreatDoorJ21
import Derived.Deep.LoopGhost
import Derived.Test.YtoalblaklcekeaaGreatDoorJ19
namespace Go.Proofs.YtoalblaklcekeaaGreatDoor
open Go.RowKit Go.Shelf
set_option maxRecDepth 20000 in
set_option maxHeartbeats 8000000 in
theorem rone64 (w : World) :
    Calls Tryz.prog 66 #[F64t] w fun en w' => en = .returned (.int .u64 4607182418800017408) ∧ Below w.heap.size w w' := by
  obtain ⟨BB, hBB⟩ : ∃ B, B = w.heap.size := ⟨_, rfl⟩
  rw [← hBB]
  have HBB : Hid (BB = w.heap.size) := hBB
  clear hBB
  go_enter Tryz.func66, Tryz.ntmps66
  go_wp2_with fail
  obtain ⟨W0, hW0⟩ : ∃ W0, W0 = (w.alloc (.cells #[U 9223372036854775808, .int .i64 53, .int .i64 (-1074), .int .i64 971, U 9218868437227405312, U 9221120237041090561] 117)) := ⟨_, rfl⟩
  have Xk : Hid (B6q W0 (w.heap.size) (U 9223372036854775808) (.int .i64 53) (.int .i64 (-1074)) (.int .i64 971) (U 9218868437227405312) (U 9221120237041090561)) := by rw [hW0]; exact ⟨by go_simp, by go_simp, by go_simp, by go_simp, by go_simp, by go_simp, by go_simp, by go_simp, by go_simp, by go_simp, by go_simp, by go_simp⟩
  have hb0 : Below w.heap.size w W0 := by rw [hW0]; exact below1 w _
  rw [← hW0]
  clear hW0
  have hbw : Below w.heap.size w w := Below.refl _ _
  obtain ⟨gk, hgk⟩ : ∃ g, g = w.heap.size := ⟨_, rfl⟩
  have HGk : Hid (w.heap.size ≤ gk) := by rw [hgk]; show _ ≤ _; omega
  rw [← hgk] at Xk
  try rw [← hgk]
  clear hgk
  replace hbw := Below.on hbw hb0
  clear hb0
  obtain ⟨ck0, ck1, ck2, ck3, ck4, ck5, fk0, fk1, fk2, fk3, fk4, fk5⟩ := Xk.out
  have hnek : gk < W0.heap.size := World.block_lt_of_cell? W0 _ ck0
  go_wp2_with fail
  clear ck0 ck1 ck2 ck3 ck4 ck5 fk0 fk1 fk2 fk3 fk4 fk5 hnek
  go_ret
  exact ⟨rfl, by rw [HBB.out]; exact hbw⟩
set_option maxRecDepth 20000 in
set_option maxHeartbeats 8000000 in
theorem rone32 (w : World) :
    Calls Tryz.prog 66 #[F32t] w fun en w' => en = .returned (.int .u64 1065353216) ∧ Below w.heap.size w w' := by
  obtain ⟨BB, hBB⟩ : ∃ B, B = w.heap.size := ⟨_, rfl⟩
  rw [← hBB]
  have HBB : Hid (BB = w.heap.size) := hBB
  clear hBB
  go_enter Tryz.func66, Tryz.ntmps66
  go_wp2_with fail
  obtain ⟨W0, hW0⟩ : ∃ W0, W0 = (w.alloc (.cells #[U 2147483648, .int .i64 24, .int .i64 (-149), .int .i64 104, U 2139095040, U 2143289345] 117)) := ⟨_, rfl⟩
  have Xk : Hid (B6q W0 (w.heap.size) (U 2147483648) (.int .i64 24) (.int .i64 (-149)) (.int .i64 104) (U 2139095040) (U 2143289345)) := by rw [hW0]; exact ⟨by go_simp, by go_simp, by go_simp, by go_simp, by go_simp, by go_simp, by go_simp, by go_simp, by go_simp, by go_simp, by go_simp, by go_simp⟩
  have hb0 : Below w.heap.size w W0 := by rw [hW0]; exact below1 w _
  rw [← hW0]
  clear hW0
  have hbw : Below w.heap.size w w := Below.refl _ _
  obtain ⟨gk, hgk⟩ : ∃ g, g = w.heap.size := ⟨_, rfl⟩
  have HGk : Hid (w.heap.size ≤ gk) := by rw [hgk]; show _ ≤ _; omega
  rw [← hgk] at Xk
  try rw [← hgk]
  clear hgk
  replace hbw := Below.on hbw hb0
  clear hb0
  obtain ⟨ck0, ck1, ck2, ck3, ck4, ck5, fk0, fk1, fk2, fk3, fk4, fk5⟩ := Xk.out
  have hnek : gk < W0.heap.size := World.block_lt_of_cell? W0 _ ck0
  go_wp2_with fail
  clear ck0 ck1 ck2 ck3 ck4 ck5 fk0 fk1 fk2 fk3 fk4 fk5 hnek
  go_ret
  exact ⟨rfl, by rw [HBB.out]; exact hbw⟩
theorem idx8 (a0 a1 a2 a3 a4 a5 a6 a7 : Value) (j : Nat) (hj : j < 8) (v : Value) (hv : [a0, a1, a2, a3, a4, a5, a6, a7][j]? = some v) (w : World) : Sem.run Tryz.prog (Instr.index 173 (.agg #[a0, a1, a2, a3, a4, a5, a6, a7]) (.int .i64 (j : Int))) w = .ok v w := by
  obtain rfl | rfl | rfl | rfl | rfl | rfl | rfl | rfl : j = 0 ∨ j = 1 ∨ j = 2 ∨ j = 3 ∨ j = 4 ∨ j = 5 ∨ j = 6 ∨ j = 7 := by omega
  all_goals (obtain rfl := Option.some.inj hv; kernel_rfl)
def dL (fn : Int) (S I O : Nat) (neg : Bool) : List Nat :=
  if fn = 4 then [if neg then S else 0, 0, O, 0, if neg then S else 0, 0, S + O, 0]
  else if fn = 5 then [O, 0, 0, 0, S + O, 0, 0, 0]
  else [if neg then S else 0, O, I, S + O, if neg then 0 else S, O, S + I, S + O]
set_option maxRecDepth 20000 in
set_option maxHeartbeats 8000000 in
theorem rexact_4f {S : Nat} {P E G : Int} {I Q O : Nat} (one : ∀ w, Calls Tryz.prog 66 #[FV S P E G I Q] w fun en w' => en = .returned (U O) ∧ Below w.heap.size w w') (hS : S ≤ 9223372036854775808) (hO : O < S) (j : Nat) (hj : j < 8) (v : Nat) (hv : (dL 4 S I O false)[j]? = some v) (w : World) (pb : Bool) (hpb : decide (j % 2 = 0) = pb) :
    Calls Tryz.prog 68 #[FV S P E G I Q, .int .i64 4, .int .i64 j, .bool false] w fun en w' => en = .returned (.tuple #[U v, .bool pb]) ∧ Below w.heap.size w w' := by
  obtain ⟨SO, hSO⟩ : ∃ SO : Nat, SO = S + O := ⟨_, rfl⟩
  have HIX : Hid (∀ w, Sem.run Tryz.prog (Instr.index 173 (.agg #[.int .u64 0, .int .u64 0, U O, .int .u64 0, .int .u64 0, .int .u64 0, U SO, .int .u64 0]) (.int .i64 (j : Int))) w = .ok (U v) w) := fun w => idx8 (.int .u64 0) (.int .u64 0) (U O) (.int .u64 0) (.int .u64 0) (.int .u64 0) (U SO) (.int .u64 0) j hj (U v) (by
    rw [hSO]
    obtain rfl | rfl | rfl | rfl | rfl | rfl | rfl | rfl : j = 0 ∨ j = 1 ∨ j = 2 ∨ j = 3 ∨ j = 4 ∨ j = 5 ∨ j = 6 ∨ j = 7 := by omega
    all_goals (obtain rfl := Option.some.inj hv; rfl)) w
  have ONE : Hid (∀ w, Calls Tryz.prog 66 #[FV S P E G I Q] w fun en w' => en = .returned (U O) ∧ Below w.heap.size w w') := one
  have u1 : IntKind.u64.wrap ((S : Int) + (O : Int)) = (SO : Int) := by rw [IntKind.wrap_u64]; omega
  have u3 : IntKind.u64.wrap (S : Int) = (S : Int) := by rw [IntKind.wrap_u64]; omega
  have u0 : IntKind.u64.wrap 0 = 0 := by decide
  have b1 : ((j : Int).tmod 2 == 0) = pb := by rw [← hpb, Int.tmod_eq_emod_of_nonneg (by omega), Bool.eq_iff_iff]; simp; omega
  have b2 : ((j : Int) % 2 == 0) = pb := by rw [← hpb, Bool.eq_iff_iff]; simp; omega
  clear hpb
  clear hj hv one hS hO hSO
  go_enter Tryz.func68, Tryz.ntmps68
  go_wp2_with fail
  obtain ⟨W0, hW0⟩ : ∃ W0, W0 = (w.alloc (.cells #[U S, .int .i64 P, .int .i64 E, .int .i64 G, U I, U Q] 117)) := ⟨_, rfl⟩
  have Xk : Hid (B6q W0 (w.heap.size) (U S) (.int .i64 P) (.int .i64 E) (.int .i64 G) (U I) (U Q)) := by rw [hW0]; exact ⟨by go_simp, by go_simp, by go_simp, by go_simp, by go_simp, by go_simp, by go_simp, by go_simp, by go_simp, by go_simp, by go_simp, by go_simp⟩
  have hb0 : Below w.heap.size w W0 := by rw [hW0]; exact below1 w _
  rw [← hW0]
  clear hW0
  have hbw : Below w.heap.size w w := Below.refl _ _
  obtain ⟨gk, hgk⟩ : ∃ g, g = w.heap.size := ⟨_, rfl⟩
  have HGk : Hid (w.heap.size ≤ gk) := by rw [hgk]; show _ ≤ _; omega
  rw [← hgk] at Xk
  try rw [← hgk]
  clear hgk
  replace hbw := Below.on hbw hb0
  clear hb0
  obtain ⟨ck0, ck1, ck2, ck3, ck4, ck5, fk0, fk1, fk2, fk3, fk4, fk5⟩ := Xk.out
  have hnek : gk < W0.heap.size := World.block_lt_of_cell? W0 _ ck0
  go_wp2_with fail
  clear ck0 ck1 ck2 ck3 ck4 ck5 fk0 fk1 fk2 fk3 fk4 fk5 hnek
  obtain ⟨W1, hW1⟩ : ∃ W1, W1 = W0.drew := ⟨_, rfl⟩
  have hbd : Below W0.heap.size W0 W1 := by rw [hW1]; exact bDrew1 (Below.refl _ _)
  replace Xk : Hid _ := Xk.out.below hbd
  replace hbw := Below.on hbw hbd
  clear hbd
  have HJ : Hid ((fun W' : World => W'.cell? ⟨gk, 0, none⟩ = some (U S) ∧ W'.cell? ⟨gk, 1, none⟩ = some (.int .i64 P) ∧ W'.cell? ⟨gk, 2, none⟩ = some (.int .i64 E) ∧ W'.cell? ⟨gk, 3, none⟩ = some (.int .i64 G) ∧ W'.cell? ⟨gk, 4, none⟩ = some (U I) ∧ W'.cell? ⟨gk, 5, none⟩ = some (U Q)) W1) := ⟨Xk.out.c0, Xk.out.c1, Xk.out.c2, Xk.out.c3, Xk.out.c4, Xk.out.c5⟩
  refine wp_region_J (fun W' => W'.cell? ⟨gk, 0, none⟩ = some (U S) ∧ W'.cell? ⟨gk, 1, none⟩ = some (.int .i64 P) ∧ W'.cell? ⟨gk, 2, none⟩ = some (.int .i64 E) ∧ W'.cell? ⟨gk, 3, none⟩ = some (.int .i64 G) ∧ W'.cell? ⟨gk, 4, none⟩ = some (U I) ∧ W'.cell? ⟨gk, 5, none⟩ = some (U Q)) (by kernel_rfl) ?_
  rw [← hW1]
  clear hW1
  refine wpJ_tk 0 (v := ?v1x0) rfl ?hy1x0 HJ.out ?_
  case hy1x0 => (intro W' hJ; obtain ⟨j0, j1, j2, j3, j4, j5⟩ := hJ; go_simp; first | done | with_reducible rfl)
  refine wpJ_tk 1 (v := ?v2x1) rfl ?hy2x1 HJ.out ?_
  case hy2x1 => (intro W' hJ; obtain ⟨j0, j1, j2, j3, j4, j5⟩ := hJ; go_simp; first | done | with_reducible rfl)
  refine wpJ_tk 3 (v := ?v3x3) rfl ?hy3x3 HJ.out ?_
  case hy3x3 => (intro W' hJ; obtain ⟨j0, j1, j2, j3, j4, j5⟩ := hJ; go_simp; first | done | with_reducible rfl)
  refine wpJ_tk 4 (v := ?v4x4) rfl ?hy4x4 HJ.out ?_
  case hy4x4 => (intro W' hJ; obtain ⟨j0, j1, j2, j3, j4, j5⟩ := hJ; go_simp; first | done | with_reducible rfl)
  refine wpJ_tk 5 (v := ?v5x5) rfl ?hy5x5 HJ.out ?_
  case hy5x5 => (intro W' hJ; obtain ⟨j0, j1, j2, j3, j4, j5⟩ := hJ; go_simp; first | done | with_reducible rfl)
  go_simp
  refine wpJ_tk 6 (v := ?v6x6) rfl ?hy6x6 HJ.out ?_
  case hy6x6 => (intro W' hJ; obtain ⟨j0, j1, j2, j3, j4, j5⟩ := hJ; go_simp; first | done | with_reducible rfl)
  refine wpJ_tk 10 (v := ?v7x10) rfl ?hy7x10 HJ.out ?_
  case hy7x10 => (intro W' hJ; obtain ⟨j0, j1, j2, j3, j4, j5⟩ := hJ; go_simp; first | done | with_reducible rfl)
  refine wpJ_tk 12 (v := ?v8x12) rfl ?hy8x12 HJ.out ?_
  case hy8x12 => (intro W' hJ; obtain ⟨j0, j1, j2, j3, j4, j5⟩ := hJ; go_simp; first | done | with_reducible rfl)
  refine wpJ_tk 13 (v := ?v9x13) rfl ?hy9x13 HJ.out ?_
  case hy9x13 => (intro W' hJ; obtain ⟨j0, j1, j2, j3, j4, j5⟩ := hJ; go_simp; first | done | with_reducible rfl)
  refine wpJ_tk 14 (v := ?v10x14) rfl ?hy10x14 HJ.out ?_
  case hy10x14 => (intro W' hJ; obtain ⟨j0, j1, j2, j3, j4, j5⟩ := hJ; go_simp; first | done | with_reducible rfl)
  refine wpJ_one (i := 2) (by kernel_rfl) rfl (by kernel_rfl) (fun KJ hK => ?_)
  go_simp
  refine (ONE.out _).mono ?_
  rintro e v12 ⟨rfl, hb12⟩
  replace Xk : Hid _ := Xk.out.below hb12
  replace hbw := Below.on hbw hb12
  clear hb12
  refine hK _ _ ⟨Xk.out.c0, Xk.out.c1, Xk.out.c2, Xk.out.c3, Xk.out.c4, Xk.out.c5⟩ ?_
  clear hK
  refine wpJ_one (i := 7) (by kernel_rfl) rfl (by kernel_rfl) (fun KJ hK => ?_)
  go_simp
  refine (ONE.out _).mono ?_
  rintro e v17 ⟨rfl, hb17⟩
  replace Xk : Hid _ := Xk.out.below hb17
  replace hbw := Below.on hbw hb17
  clear hb17
  clear HJ
  have HJ : Hid ((fun W' : World => W'.cell? ⟨gk, 0, none⟩ = some (U S) ∧ W'.cell? ⟨gk, 1, none⟩ = some (.int .i64 P) ∧ W'.cell? ⟨gk, 2, none⟩ = some (.int .i64 E) ∧ W'.cell? ⟨gk, 3, none⟩ = some (.int .i64 G) ∧ W'.cell? ⟨gk, 4, none⟩ = some (U I) ∧ W'.cell? ⟨gk, 5, none⟩ = some (U Q)) v17) := ⟨Xk.out.c0, Xk.out.c1, Xk.out.c2, Xk.out.c3, Xk.out.c4, Xk.out.c5⟩
  refine hK _ _ HJ.out ?_
  clear hK
  refine wpJ_tk 8 (v := ?v11x8) rfl ?hy11x8 HJ.out ?_
  case hy11x8 => (intro W' hJ; obtain ⟨j0, j1, j2, j3, j4, j5⟩ := hJ; go_simp; first | done | with_reducible rfl)
  refine wpJ_tk 9 (v := ?v12x9) rfl ?hy12x9 HJ.out ?_
  case hy12x9 => (intro W' hJ; obtain ⟨j0, j1, j2, j3, j4, j5⟩ := hJ; go_simp; first | done | with_reducible rfl)
  go_simp
  have hix := HIX.out
  refine wpJ_tk 11 (v := ?v13x11) rfl ?hy13x11 HJ.out ?_
  case hy13x11 => (intro W' hJ; obtain ⟨j0, j1, j2, j3, j4, j5⟩ := hJ; go_simp; first | done | with_reducible rfl)
  refine wpJ_tk 15 (v := ?v14x15) rfl ?hy14x15 HJ.out ?_
  case hy14x15 => (intro W' hJ; obtain ⟨j0, j1, j2, j3, j4, j5⟩ := hJ; go_simp; first | done | with_reducible rfl)
  refine wpJ_tk 16 (v := ?v15x16) rfl ?hy15x16 HJ.out ?_
  case hy15x16 => (intro W' hJ; obtain ⟨j0, j1, j2, j3, j4, j5⟩ := hJ; go_simp; first | done | with_reducible rfl)
  refine wpJ_done (by kernel_rfl) ?_ _
  clear HJ
  go_wp2_with fail
  go_ret2
  exact ⟨rfl, hbw⟩
set_option maxRecDepth 20000 in
set_option maxHeartbeats 8000000 in
theorem rexact_4t {S : Nat} {P E G : Int} {I Q O : Nat} (one : ∀ w, Calls Tryz.prog 66 #[FV S P E G I Q] w fun en w' => en = .returned (U O) ∧ Below w.heap.size w w') (hS : S ≤ 9223372036854775808) (hO : O < S) (j : Nat) (hj : j < 8) (v : Nat) (hv : (dL 4 S I O true)[j]? = some v) (w : World) (pb : Bool) (hpb : decide (j % 2 = 0) = pb) :
    Calls Tryz.prog 68 #[FV S P E G I Q, .int .i64 4, .int .i64 j, .bool true] w fun en w' => en = .returned (.tuple #[U v, .bool pb]) ∧ Below w.heap.size w w' := by
  obtain ⟨SO, hSO⟩ : ∃ SO : Nat, SO = S + O := ⟨_, rfl⟩
  have HIX : Hid (∀ w, Sem.run Tryz.prog (Instr.index 173 (.agg #[U S, .int .u64 0, U O, .int .u64 0, U S, .int .u64 0, U SO, .int .u64 0]) (.int .i64 (j : Int))) w = .ok (U v) w) := fun w => idx8 (U S) (.int .u64 0) (U O) (.int .u64 0) (U S) (.int .u64 0) (U SO) (.int .u64 0) j hj (U v) (by
    rw [hSO]
    obtain rfl | rfl | rfl | rfl | rfl | rfl | rfl | rfl : j = 0 ∨ j = 1 ∨ j = 2 ∨ j = 3 ∨ j = 4 ∨ j = 5 ∨ j = 6 ∨ j = 7 := by omega
    all_goals (obtain rfl := Option.some.inj hv; rfl)) w
  have ONE : Hid (∀ w, Calls Tryz.prog 66 #[FV S P E G I Q] w fun en w' => en = .returned (U O) ∧ Below w.heap.size w w') := one
  have u1 : IntKind.u64.wrap ((S : Int) + (O : Int)) = (SO : Int) := by rw [IntKind.wrap_u64]; omega
  have u3 : IntKind.u64.wrap (S : Int) = (S : Int) := by rw [IntKind.wrap_u64]; omega
  have u0 : IntKind.u64.wrap 0 = 0 := by decide
  have b1 : ((j : Int).tmod 2 == 0) = pb := by rw [← hpb, Int.tmod_eq_emod_of_nonneg (by omega), Bool.eq_iff_iff]; simp; omega
  have b2 : ((j : Int) % 2 == 0) = pb := by rw [← hpb, Bool.eq_iff_iff]; simp; omega
  clear hpb
  clear hj hv one hS hO hSO
  go_enter Tryz.func68, Tryz.ntmps68
  go_wp2_with fail
  obtain ⟨W0, hW0⟩ : ∃ W0, W0 = (w.alloc (.cells #[U S, .int .i64 P, .int .i64 E, .int .i64 G, U I, U Q] 117)) := ⟨_, rfl⟩
  have Xk : Hid (B6q W0 (w.heap.size) (U S) (.int .i64 P) (.int .i64 E) (.int .i64 G) (U I) (U Q)) := by rw [hW0]; exact ⟨by go_simp, by go_simp, by go_simp, by go_simp, by go_simp, by go_simp, by go_simp, by go_simp, by go_simp, by go_simp, by go_simp, by go_simp⟩
  have hb0 : Below w.heap.size w W0 := by rw [hW0]; exact below1 w _
  rw [← hW0]
  clear hW0
  have hbw : Below w.heap.size w w := Below.refl _ _
  obtain ⟨gk, hgk⟩ : ∃ g, g = w.heap.size := ⟨_, rfl⟩
  have HGk : Hid (w.heap.size ≤ gk) := by rw [hgk]; show _ ≤ _; omega
  rw [← hgk] at Xk
  try rw [← hgk]
  clear hgk
  replace hbw := Below.on hbw hb0
  clear hb0
  obtain ⟨ck0, ck1, ck2, ck3, ck4, ck5, fk0, fk1, fk2, fk3, fk4, fk5⟩ := Xk.out
  have hnek : gk < W0.heap.size := World.block_lt_of_cell? W0 _ ck0
  go_wp2_with fail
  clear ck0 ck1 ck2 ck3 ck4 ck5 fk0 fk1 fk2 fk3 fk4 fk5 hnek
  obtain ⟨W1, hW1⟩ : ∃ W1, W1 = W0.drew := ⟨_, rfl⟩
  have hbd : Below W0.heap.size W0 W1 := by rw [hW1]; exact bDrew1 (Below.refl _ _)
  replace Xk : Hid _ := Xk.out.below hbd
  replace hbw := Below.on hbw hbd
  clear hbd
  have HJ : Hid ((fun W' : World => W'.cell? ⟨gk, 0, none⟩ = some (U S) ∧ W'.cell? ⟨gk, 1, none⟩ = some (.int .i64 P) ∧ W'.cell? ⟨gk, 2, none⟩ = some (.int .i64 E) ∧ W'.cell? ⟨gk, 3, none⟩ = some (.int .i64 G) ∧ W'.cell? ⟨gk, 4, none⟩ = some (U I) ∧ W'.cell? ⟨gk, 5, none⟩ = some (U Q)) W1) := ⟨Xk.out.c0, Xk.out.c1, Xk.out.c2, Xk.out.c3, Xk.out.c4, Xk.out.c5⟩
  refine wp_region_J (fun W' => W'.cell? ⟨gk, 0, none⟩ = some (U S) ∧ W'.cell? ⟨gk, 1, none⟩ = some (.int .i64 P) ∧ W'.cell? ⟨gk, 2, none⟩ = some (.int .i64 E) ∧ W'.cell? ⟨gk, 3, none⟩ = some (.int .i64 G) ∧ W'.cell? ⟨gk, 4, none⟩ = some (U I) ∧ W'.cell? ⟨gk, 5, none⟩ = some (U Q)) (by kernel_rfl) ?_
  rw [← hW1]
  clear hW1
  refine wpJ_tk 0 (v := ?v16x0) rfl ?hy16x0 HJ.out ?_
  case hy16x0 => (intro W' hJ; obtain ⟨j0, j1, j2, j3, j4, j5⟩ := hJ; go_simp; first | done | with_reducible rfl)
  refine wpJ_tk 1 (v := ?v17x1) rfl ?hy17x1 HJ.out ?_
  case hy17x1 => (intro W' hJ; obtain ⟨j0, j1, j2, j3, j4, j5⟩ := hJ; go_simp; first | done | with_reducible rfl)
  refine wpJ_tk 3 (v := ?v18x3) rfl ?hy18x3 HJ.out ?_
  case hy18x3 => (intro W' hJ; obtain ⟨j0, j1, j2, j3, j4, j5⟩ := hJ; go_simp; first | done | with_reducible rfl)
  refine wpJ_tk 4 (v := ?v19x4) rfl ?hy19x4 HJ.out ?_
  case hy19x4 => (intro W' hJ; obtain ⟨j0, j1, j2, j3, j4, j5⟩ := hJ; go_simp; first | done | with_reducible rfl)
  refine wpJ_tk 5 (v := ?v20x5) rfl ?hy20x5 HJ.out ?_
  case hy20x5 => (intro W' hJ; obtain ⟨j0, j1, j2, j3, j4, j5⟩ := hJ; go_simp; first | done | with_reducible rfl)
  go_simp
  refine wpJ_tk 6 (v := ?v21x6) rfl ?hy21x6 HJ.out ?_
  case hy21x6 => (intro W' hJ; obtain ⟨j0, j1, j2, j3, j4, j5⟩ := hJ; go_simp; first | done | with_reducible rfl)
  refine wpJ_tk 10 (v := ?v22x10) rfl ?hy22x10 HJ.out ?_
  case hy22x10 => (intro W' hJ; obtain ⟨j0, j1, j2, j3, j4, j5⟩ := hJ; go_simp; first | done | with_reducible rfl)
  refine wpJ_tk 12 (v := ?v23x12) rfl ?hy23x12 HJ.out ?_
  case hy23x12 => (intro W' hJ; obtain ⟨j0, j1, j2, j3, j4, j5⟩ := hJ; go_simp; first | done | with_reducible rfl)
  refine wpJ_tk 13 (v := ?v24x13) rfl ?hy24x13 HJ.out ?_
  case hy24x13 => (intro W' hJ; obtain ⟨j0, j1, j2, j3, j4, j5⟩ := hJ; go_simp; first | done | with_reducible rfl)
  refine wpJ_tk 14 (v := ?v25x14) rfl ?hy25x14 HJ.out ?_
  case hy25x14 => (intro W' hJ; obtain ⟨j0, j1, j2, j3, j4, j5⟩ := hJ; go_simp; first | done | with_reducible rfl)
  refine wpJ_one (i := 2) (by kernel_rfl) rfl (by kernel_rfl) (fun KJ hK => ?_)
  go_simp
  refine (ONE.out _).mono ?_
  rintro e v12 ⟨rfl, hb12⟩
  replace Xk : Hid _ := Xk.out.below hb12
  replace hbw := Below.on hbw hb12
  clear hb12
  refine hK _ _ ⟨Xk.out.c0, Xk.out.c1, Xk.out.c2, Xk.out.c3, Xk.out.c4, Xk.out.c5⟩ ?_
  clear hK
  refine wpJ_one (i := 7) (by kernel_rfl) rfl (by kernel_rfl) (fun KJ hK => ?_)
  go_simp
  refine (ONE.out _).mono ?_
  rintro e v17 ⟨rfl, hb17⟩
  replace Xk : Hid _ := Xk.out.below hb17
  replace hbw := Below.on hbw hb17
  clear hb17
  clear HJ
  have HJ : Hid ((fun W' : World => W'.cell? ⟨gk, 0, none⟩ = some (U S) ∧ W'.cell? ⟨gk, 1, none⟩ = some (.int .i64 P) ∧ W'.cell? ⟨gk, 2, none⟩ = some (.int .i64 E) ∧ W'.cell? ⟨gk, 3, none⟩ = some (.int .i64 G) ∧ W'.cell? ⟨gk, 4, none⟩ = some (U I) ∧ W'.cell? ⟨gk, 5, none⟩ = some (U Q)) v17) := ⟨Xk.out.c0, Xk.out.c1, Xk.out.c2, Xk.out.c3, Xk.out.c4, Xk.out.c5⟩
  refine hK _ _ HJ.out ?_
  clear hK
  refine wpJ_tk 8 (v := ?v26x8) rfl ?hy26x8 HJ.out ?_
  case hy26x8 => (intro W' hJ; obtain ⟨j0, j1, j2, j3, j4, j5⟩ := hJ; go_simp; first | done | with_reducible rfl)
  refine wpJ_tk 9 (v := ?v27x9) rfl ?hy27x9 HJ.out ?_
  case hy27x9 => (intro W' hJ; obtain ⟨j0, j1, j2, j3, j4, j5⟩ := hJ; go_simp; first | done | with_reducible rfl)
  go_simp
  have hix := HIX.out
  refine wpJ_tk 11 (v := ?v28x11) rfl ?hy28x11 HJ.out ?_
  case hy28x11 => (intro W' hJ; obtain ⟨j0, j1, j2, j3, j4, j5⟩ := hJ; go_simp; first | done | with_reducible rfl)
  refine wpJ_tk 15 (v := ?v29x15) rfl ?hy29x15 HJ.out ?_
  case hy29x15 => (intro W' hJ; obtain ⟨j0, j1, j2, j3, j4, j5⟩ := hJ; go_simp; first | done | with_reducible rfl)
  refine wpJ_tk 16 (v := ?v30x16) rfl ?hy30x16 HJ.out ?_
  case hy30x16 => (intro W' hJ; obtain ⟨j0, j1, j2, j3, j4, j5⟩ := hJ; go_simp; first | done | with_reducible rfl)
  refine wpJ_done (by kernel_rfl) ?_ _
  clear HJ
  go_wp2_with fail
  go_ret2
  exact ⟨rfl, hbw⟩
set_option maxRecDepth 20000 in
set_option maxHeartbeats 8000000 in
theorem rexact_5f {S : Nat} {P E G : Int} {I Q O : Nat} (one : ∀ w, Calls Tryz.prog 66 #[FV S P E G I Q] w fun en w' => en = .returned (U O) ∧ Below w.heap.size w w') (hS : S ≤ 9223372036854775808) (hO : O < S) (j : Nat) (hj : j < 8) (v : Nat) (hv : (dL 5 S I O false)[j]? = some v) (w : World) (pb : Bool) (hpb : decide (j % 2 = 0) = pb) :
    Calls Tryz.prog 68 #[FV S P E G I Q, .int .i64 5, .int .i64 j, .bool false] w fun en w' => en = .returned (.tuple #[U v, .bool pb]) ∧ Below w.heap.size w w' := by
  obtain ⟨SO, hSO⟩ : ∃ SO : Nat, SO = S + O := ⟨_, rfl⟩
  have HIX : Hid (∀ w, Sem.run Tryz.prog (Instr.index 173 (.agg #[U O, .int .u64 0, .int .u64 0, .int .u64 0, U SO, .int .u64 0, .int .u64 0, .int .u64 0]) (.int .i64 (j : Int))) w = .ok (U v) w) := fun w => idx8 (U O) (.int .u64 0) (.int .u64 0) (.int .u64 0) (U SO) (.int .u64 0) (.int .u64 0) (.int .u64 0) j hj (U v) (by
    rw [hSO]
    obtain rfl | rfl | rfl | rfl | rfl | rfl | rfl | rfl : j = 0 ∨ j = 1 ∨ j = 2 ∨ j = 3 ∨ j = 4 ∨ j = 5 ∨ j = 6 ∨ j = 7 := by omega
    all_goals (obtain rfl := Option.some.inj hv; rfl)) w
  have ONE : Hid (∀ w, Calls Tryz.prog 66 #[FV S P E G I Q] w fun en w' => en = .returned (U O) ∧ Below w.heap.size w w') := one
  have u1 : IntKind.u64.wrap ((S : Int) + (O : Int)) = (SO : Int) := by rw [IntKind.wrap_u64]; omega
  have u3 : IntKind.u64.wrap (S : Int) = (S : Int) := by rw [IntKind.wrap_u64]; omega
  have u0 : IntKind.u64.wrap 0 = 0 := by decide
  have b1 : ((j : Int).tmod 2 == 0) = pb := by rw [← hpb, Int.tmod_eq_emod_of_nonneg (by omega), Bool.eq_iff_iff]; simp; omega
  have b2 : ((j : Int) % 2 == 0) = pb := by rw [← hpb, Bool.eq_iff_iff]; simp; omega
  clear hpb
  clear hj hv one hS hO hSO
  go_enter Tryz.func68, Tryz.ntmps68
  go_wp2_with fail
  obtain ⟨W0, hW0⟩ : ∃ W0, W0 = (w.alloc (.cells #[U S, .int .i64 P, .int .i64 E, .int .i64 G, U I, U Q] 117)) := ⟨_, rfl⟩
  have Xk : Hid (B6q W0 (w.heap.size) (U S) (.int .i64 P) (.int .i64 E) (.int .i64 G) (U I) (U Q)) := by rw [hW0]; exact ⟨by go_simp, by go_simp, by go_simp, by go_simp, by go_simp, by go_simp, by go_simp, by go_simp, by go_simp, by go_simp, by go_simp, by go_simp⟩
  have hb0 : Below w.heap.size w W0 := by rw [hW0]; exact below1 w _
  rw [← hW0]
  clear hW0
  have hbw : Below w.heap.size w w := Below.refl _ _
  obtain ⟨gk, hgk⟩ : ∃ g, g = w.heap.size := ⟨_, rfl⟩
  have HGk : Hid (w.heap.size ≤ gk) := by rw [hgk]; show _ ≤ _; omega
  rw [← hgk] at Xk
  try rw [← hgk]
  clear hgk
  replace hbw := Below.on hbw hb0
  clear hb0
  obtain ⟨ck0, ck1, ck2, ck3, ck4, ck5, fk0, fk1, fk2, fk3, fk4, fk5⟩ := Xk.out
  have hnek : gk < W0.heap.size := World.block_lt_of_cell? W0 _ ck0
  go_wp2_with fail
  clear ck0 ck1 ck2 ck3 ck4 ck5 fk0 fk1 fk2 fk3 fk4 fk5 hnek
  obtain ⟨W1, hW1⟩ : ∃ W1, W1 = W0.drew := ⟨_, rfl⟩
  have hbd : Below W0.heap.size W0 W1 := by rw [hW1]; exact bDrew1 (Below.refl _ _)
  replace Xk : Hid _ := Xk.out.below hbd
  replace hbw := Below.on hbw hbd
  clear hbd
  have HJ : Hid ((fun W' : World => W'.cell? ⟨gk, 0, none⟩ = some (U S) ∧ W'.cell? ⟨gk, 1, none⟩ = some (.int .i64 P) ∧ W'.cell? ⟨gk, 2, none⟩ = some (.int .i64 E) ∧ W'.cell? ⟨gk, 3, none⟩ = some (.int .i64 G) ∧ W'.cell? ⟨gk, 4, none⟩ = some (U I) ∧ W'.cell? ⟨gk, 5, none⟩ = some (U Q)) W1) := ⟨Xk.out.c0, Xk.out.c1, Xk.out.c2, Xk.out.c3, Xk.out.c4, Xk.out.c5⟩
  refine wp_region_J (fun W' => W'.cell? ⟨gk, 0, none⟩ = some (U S) ∧ W'.cell? ⟨gk, 1, none⟩ = some (.int .i64 P) ∧ W'.cell? ⟨gk, 2, none⟩ = some (.int .i64 E) ∧ W'.cell? ⟨gk, 3, none⟩ = some (.int .i64 G) ∧ W'.cell? ⟨gk, 4, none⟩ = some (U I) ∧ W'.cell? ⟨gk, 5, none⟩ = some (U Q)) (by kernel_rfl) ?_
  rw [← hW1]
  clear hW1
  refine wpJ_tk 0 (v := ?v31x0) rfl ?hy31x0 HJ.out ?_
  case hy31x0 => (intro W' hJ; obtain ⟨j0, j1, j2, j3, j4, j5⟩ := hJ; go_simp; first | done | with_reducible rfl)
  refine wpJ_tk 2 (v := ?v32x2) rfl ?hy32x2 HJ.out ?_
  case hy32x2 => (intro W' hJ; obtain ⟨j0, j1, j2, j3, j4, j5⟩ := hJ; go_simp; first | done | with_reducible rfl)
  refine wpJ_tk 3 (v := ?v33x3) rfl ?hy33x3 HJ.out ?_
  case hy33x3 => (intro W' hJ; obtain ⟨j0, j1, j2, j3, j4, j5⟩ := hJ; go_simp; first | done | with_reducible rfl)
  refine wpJ_tk 4 (v := ?v34x4) rfl ?hy34x4 HJ.out ?_
  case hy34x4 => (intro W' hJ; obtain ⟨j0, j1, j2, j3, j4, j5⟩ := hJ; go_simp; first | done | with_reducible rfl)
  refine wpJ_tk 8 (v := ?v35x8) rfl ?hy35x8 HJ.out ?_
  case hy35x8 => (intro W' hJ; obtain ⟨j0, j1, j2, j3, j4, j5⟩ := hJ; go_simp; first | done | with_reducible rfl)
  go_simp
  refine wpJ_tk 10 (v := ?v36x10) rfl ?hy36x10 HJ.out ?_
  case hy36x10 => (intro W' hJ; obtain ⟨j0, j1, j2, j3, j4, j5⟩ := hJ; go_simp; first | done | with_reducible rfl)
  refine wpJ_tk 11 (v := ?v37x11) rfl ?hy37x11 HJ.out ?_
  case hy37x11 => (intro W' hJ; obtain ⟨j0, j1, j2, j3, j4, j5⟩ := hJ; go_simp; first | done | with_reducible rfl)
  refine wpJ_tk 12 (v := ?v38x12) rfl ?hy38x12 HJ.out ?_
  case hy38x12 => (intro W' hJ; obtain ⟨j0, j1, j2, j3, j4, j5⟩ := hJ; go_simp; first | done | with_reducible rfl)
  refine wpJ_one (i := 1) (by kernel_rfl) rfl (by kernel_rfl) (fun KJ hK => ?_)
  go_simp
  refine (ONE.out _).mono ?_
  rintro e v11 ⟨rfl, hb11⟩
  replace Xk : Hid _ := Xk.out.below hb11
  replace hbw := Below.on hbw hb11
  clear hb11
  refine hK _ _ ⟨Xk.out.c0, Xk.out.c1, Xk.out.c2, Xk.out.c3, Xk.out.c4, Xk.out.c5⟩ ?_
  clear hK
  refine wpJ_one (i := 5) (by kernel_rfl) rfl (by kernel_rfl) (fun KJ hK => ?_)
  go_simp
  refine (ONE.out _).mono ?_
  rintro e v15 ⟨rfl, hb15⟩
  replace Xk : Hid _ := Xk.out.below hb15
  replace hbw := Below.on hbw hb15
  clear hb15
  clear HJ
  have HJ : Hid ((fun W' : World => W'.cell? ⟨gk, 0, none⟩ = some (U S) ∧ W'.cell? ⟨gk, 1, none⟩ = some (.int .i64 P) ∧ W'.cell? ⟨gk, 2, none⟩ = some (.int .i64 E) ∧ W'.cell? ⟨gk, 3, none⟩ = some (.int .i64 G) ∧ W'.cell? ⟨gk, 4, none⟩ = some (U I) ∧ W'.cell? ⟨gk, 5, none⟩ = some (U Q)) v15) := ⟨Xk.out.c0, Xk.out.c1, Xk.out.c2, Xk.out.c3, Xk.out.c4, Xk.out.c5⟩
  refine hK _ _ HJ.out ?_
  clear hK
  refine wpJ_tk 6 (v := ?v39x6) rfl ?hy39x6 HJ.out ?_
  case hy39x6 => (intro W' hJ; obtain ⟨j0, j1, j2, j3, j4, j5⟩ := hJ; go_simp; first | done | with_reducible rfl)
  refine wpJ_tk 7 (v := ?v40x7) rfl ?hy40x7 HJ.out ?_
  case hy40x7 => (intro W' hJ; obtain ⟨j0, j1, j2, j3, j4, j5⟩ := hJ; go_simp; first | done | with_reducible rfl)
  go_simp
  have hix := HIX.out
  refine wpJ_tk 9 (v := ?v41x9) rfl ?hy41x9 HJ.out ?_
  case hy41x9 => (intro W' hJ; obtain ⟨j0, j1, j2, j3, j4, j5⟩ := hJ; go_simp; first | done | with_reducible rfl)
  refine wpJ_tk 13 (v := ?v42x13) rfl ?hy42x13 HJ.out ?_
  case hy42x13 => (intro W' hJ; obtain ⟨j0, j1, j2, j3, j4, j5⟩ := hJ; go_simp; first | done | with_reducible rfl)
  refine wpJ_tk 14 (v := ?v43x14) rfl ?hy43x14 HJ.out ?_
  case hy43x14 => (intro W' hJ; obtain ⟨j0, j1, j2, j3, j4, j5⟩ := hJ; go_simp; first | done | with_reducible rfl)
  refine wpJ_done (by kernel_rfl) ?_ _
  clear HJ
  go_wp2_with fail
  go_ret2
  exact ⟨rfl, hbw⟩
set_option maxRecDepth 20000 in
set_option maxHeartbeats 8000000 in
theorem rexact_5t {S : Nat} {P E G : Int} {I Q O : Nat} (one : ∀ w, Calls Tryz.prog 66 #[FV S P E G I Q] w fun en w' => en = .returned (U O) ∧ Below w.heap.size w w') (hS : S ≤ 9223372036854775808) (hO : O < S) (j : Nat) (hj : j < 8) (v : Nat) (hv : (dL 5 S I O true)[j]? = some v) (w : World) (pb : Bool) (hpb : decide (j % 2 = 0) = pb) :
    Calls Tryz.prog 68 #[FV S P E G I Q, .int .i64 5, .int .i64 j, .bool true] w fun en w' => en = .returned (.tuple #[U v, .bool pb]) ∧ Below w.heap.size w w' := by
  obtain ⟨SO, hSO⟩ : ∃ SO : Nat, SO = S + O := ⟨_, rfl⟩
  have HIX : Hid (∀ w, Sem.run Tryz.prog (Instr.index 173 (.agg #[U O, .int .u64 0, .int .u64 0, .int .u64 0, U SO, .int .u64 0, .int .u64 0, .int .u64 0]) (.int .i64 (j : Int))) w = .ok (U v) w) := fun w => idx8 (U O) (.int .u64 0) (.int .u64 0) (.int .u64 0) (U SO) (.int .u64 0) (.int .u64 0) (.int .u64 0) j hj (U v) (by
    rw [hSO]
    obtain rfl | rfl | rfl | rfl | rfl | rfl | rfl | rfl : j = 0 ∨ j = 1 ∨ j = 2 ∨ j = 3 ∨ j = 4 ∨ j = 5 ∨ j = 6 ∨ j = 7 := by omega
    all_goals (obtain rfl := Option.some.inj hv; rfl)) w
  have ONE : Hid (∀ w, Calls Tryz.prog 66 #[FV S P E G I Q] w fun en w' => en = .returned (U O) ∧ Below w.heap.size w w') := one
  have u1 : IntKind.u64.wrap ((S : Int) + (O : Int)) = (SO : Int) := by rw [IntKind.wrap_u64]; omega
  have u3 : IntKind.u64.wrap (S : Int) = (S : Int) := by rw [IntKind.wrap_u64]; omega
  have u0 : IntKind.u64.wrap 0 = 0 := by decide
  have b1 : ((j : Int).tmod 2 == 0) = pb := by rw [← hpb, Int.tmod_eq_emod_of_nonneg (by omega), Bool.eq_iff_iff]; simp; omega
  have b2 : ((j : Int) % 2 == 0) = pb := by rw [← hpb, Bool.eq_iff_iff]; simp; omega
  clear hpb
  clear hj hv one hS hO hSO
  go_enter Tryz.func68, Tryz.ntmps68
  go_wp2_with fail
  obtain ⟨W0, hW0⟩ : ∃ W0, W0 = (w.alloc (.cells #[U S, .int .i64 P, .int .i64 E, .int .i64 G, U I, U Q] 117)) := ⟨_, rfl⟩
  have Xk : Hid (B6q W0 (w.heap.size) (U S) (.int .i64 P) (.int .i64 E) (.int .i64 G) (U I) (U Q)) := by rw [hW0]; exact ⟨by go_simp, by go_simp, by go_simp, by go_simp, by go_simp, by go_simp, by go_simp, by go_simp, by go_simp, by go_simp, by go_simp, by go_simp⟩
  have hb0 : Below w.heap.size w W0 := by rw [hW0]; exact below1 w _
  rw [← hW0]
  clear hW0
  have hbw : Below w.heap.size w w := Below.refl _ _
  obtain ⟨gk, hgk⟩ : ∃ g, g = w.heap.size := ⟨_, rfl⟩
  have HGk : Hid (w.heap.size ≤ gk) := by rw [hgk]; show _ ≤ _; omega
  rw [← hgk] at Xk
  try rw [← hgk]
  clear hgk
  replace hbw := Below.on hbw hb0
  clear hb0
  obtain ⟨ck0, ck1, ck2, ck3, ck4, ck5, fk0, fk1, fk2, fk3, fk4, fk5⟩ := Xk.out
  have hnek : gk < W0.heap.size := World.block_lt_of_cell? W0 _ ck0
  go_wp2_with fail
  clear ck0 ck1 ck2 ck3 ck4 ck5 fk0 fk1 fk2 fk3 fk4 fk5 hnek
  obtain ⟨W1, hW1⟩ : ∃ W1, W1 = W0.drew := ⟨_, rfl⟩
  have hbd : Below W0.heap.size W0 W1 := by rw [hW1]; exact bDrew1 (Below.refl _ _)
  replace Xk : Hid _ := Xk.out.below hbd
  replace hbw := Below.on hbw hbd
  clear hbd
  have HJ : Hid ((fun W' : World => W'.cell? ⟨gk, 0, none⟩ = some (U S) ∧ W'.cell? ⟨gk, 1, none⟩ = some (.int .i64 P) ∧ W'.cell? ⟨gk, 2, none⟩ = some (.int .i64 E) ∧ W'.cell? ⟨gk, 3, none⟩ = some (.int .i64 G) ∧ W'.cell? ⟨gk, 4, none⟩ = some (U I) ∧ W'.cell? ⟨gk, 5, none⟩ = some (U Q)) W1) := ⟨Xk.out.c0, Xk.out.c1, Xk.out.c2, Xk.out.c3, Xk.out.c4, Xk.out.c5⟩
  refine wp_region_J (fun W' => W'.cell? ⟨gk, 0, none⟩ = some (U S) ∧ W'.cell? ⟨gk, 1, none⟩ = some (.int .i64 P) ∧ W'.cell? ⟨gk, 2, none⟩ = some (.int .i64 E) ∧ W'.cell? ⟨gk, 3, none⟩ = some (.int .i64 G) ∧ W'.cell? ⟨gk, 4, none⟩ = some (U I) ∧ W'.cell? ⟨gk, 5, none⟩ = some (U Q)) (by kernel_rfl) ?_
  rw [← hW1]
  clear hW1
  refine wpJ_tk 0 (v := ?v44x0) rfl ?hy44x0 HJ.out ?_
  case hy44x0 => (intro W' hJ; obtain ⟨j0, j1, j2, j3, j4, j5⟩ := hJ; go_simp; first | done | with_reducible rfl)
  refine wpJ_tk 2 (v := ?v45x2) rfl ?hy45x2 HJ.out ?_
  case hy45x2 => (intro W' hJ; obtain ⟨j0, j1, j2, j3, j4, j5⟩ := hJ; go_simp; first | done | with_reducible rfl)
  refine wpJ_tk 3 (v := ?v46x3) rfl ?hy46x3 HJ.out ?_
  case hy46x3 => (intro W' hJ; obtain ⟨j0, j1, j2, j3, j4, j5⟩ := hJ; go_simp; first | done | with_reducible rfl)
  refine wpJ_tk 4 (v := ?v47x4) rfl ?hy47x4 HJ.out ?_
  case hy47x4 => (intro W' hJ; obtain ⟨j0, j1, j2, j3, j4, j5⟩ := hJ; go_simp; first | done | with_reducible rfl)
  refine wpJ_tk 8 (v := ?v48x8) rfl ?hy48x8 HJ.out ?_
  case hy48x8 => (intro W' hJ; obtain ⟨j0, j1, j2, j3, j4, j5⟩ := hJ; go_simp; first | done | with_reducible rfl)
  go_simp
  refine wpJ_tk 10 (v := ?v49x10) rfl ?hy49x10 HJ.out ?_
  case hy49x10 => (intro W' hJ; obtain ⟨j0, j1, j2, j3, j4, j5⟩ := hJ; go_simp; first | done | with_reducible rfl)
  refine wpJ_tk 11 (v := ?v50x11) rfl ?hy50x11 HJ.out ?_
  case hy50x11 => (intro W' hJ; obtain ⟨j0, j1, j2, j3, j4, j5⟩ := hJ; go_simp; first | done | with_reducible rfl)
  refine wpJ_tk 12 (v := ?v51x12) rfl ?hy51x12 HJ.out ?_
  case hy51x12 => (intro W' hJ; obtain ⟨j0, j1, j2, j3, j4, j5⟩ := hJ; go_simp; first | done | with_reducible rfl)
  refine wpJ_one (i := 1) (by kernel_rfl) rfl (by kernel_rfl) (fun KJ hK => ?_)
  go_simp
  refine (ONE.out _).mono ?_
  rintro e v11 ⟨rfl, hb11⟩
  replace Xk : Hid _ := Xk.out.below hb11
  replace hbw := Below.on hbw hb11
  clear hb11
  refine hK _ _ ⟨Xk.out.c0, Xk.out.c1, Xk.out.c2, Xk.out.c3, Xk.out.c4, Xk.out.c5⟩ ?_
  clear hK
  refine wpJ_one (i := 5) (by kernel_rfl) rfl (by kernel_rfl) (fun KJ hK => ?_)
  go_simp
  refine (ONE.out _).mono ?_
  rintro e v15 ⟨rfl, hb15⟩
  replace Xk : Hid _ := Xk.out.below hb15
  replace hbw := Below.on hbw hb15
  clear hb15
  clear HJ
  have HJ : Hid ((fun W' : World => W'.cell? ⟨gk, 0, none⟩ = some (U S) ∧ W'.cell? ⟨gk, 1, none⟩ = some (.int .i64 P) ∧ W'.cell? ⟨gk, 2, none⟩ = some (.int .i64 E) ∧ W'.cell? ⟨gk, 3, none⟩ = some (.int .i64 G) ∧ W'.cell? ⟨gk, 4, none⟩ = some (U I) ∧ W'.cell? ⟨gk, 5, none⟩ = some (U Q)) v15) := ⟨Xk.out.c0, Xk.out.c1, Xk.out.c2, Xk.out.c3, Xk.out.c4, Xk.out.c5⟩
  refine hK _ _ HJ.out ?_
  clear hK
  refine wpJ_tk 6 (v := ?v52x6) rfl ?hy52x6 HJ.out ?_
  case hy52x6 => (intro W' hJ; obtain ⟨j0, j1, j2, j3, j4, j5⟩ := hJ; go_simp; first | done | with_reducible rfl)
  refine wpJ_tk 7 (v := ?v53x7) rfl ?hy53x7 HJ.out ?_
  case hy53x7 => (intro W' hJ; obtain ⟨j0, j1, j2, j3, j4, j5⟩ := hJ; go_simp; first | done | with_reducible rfl)
  go_simp
  have hix := HIX.out
  refine wpJ_tk 9 (v := ?v54x9) rfl ?hy54x9 HJ.out ?_
  case hy54x9 => (intro W' hJ; obtain ⟨j0, j1, j2, j3, j4, j5⟩ := hJ; go_simp; first | done | with_reducible rfl)
  refine wpJ_tk 13 (v := ?v55x13) rfl ?hy55x13 HJ.out ?_
  case hy55x13 => (intro W' hJ; obtain ⟨j0, j1, j2, j3, j4, j5⟩ := hJ; go_simp; first | done | with_reducible rfl)
  refine wpJ_tk 14 (v := ?v56x14) rfl ?hy56x14 HJ.out ?_
  case hy56x14 => (intro W' hJ; obtain ⟨j0, j1, j2, j3, j4, j5⟩ := hJ; go_simp; first | done | with_reducible rfl)
  refine wpJ_done (by kernel_rfl) ?_ _
  clear HJ
  go_wp2_with fail
  go_ret2
  exact ⟨rfl, hbw⟩
set_option maxRecDepth 20000 in
set_option maxHeartbeats 8000000 in
theorem rexact_6f {S : Nat} {P E G : Int} {I Q O : Nat} (one : ∀ w, Calls Tryz.prog 66 #[FV S P E G I Q] w fun en w' => en = .returned (U O) ∧ Below w.heap.size w w') (hS : S ≤ 9223372036854775808) (hO : O < S) (hI : I < S) (j : Nat) (hj : j < 8) (v : Nat) (hv : (dL 6 S I O false)[j]? = some v) (w : World) :
    Calls Tryz.prog 68 #[FV S P E G I Q, .int .i64 6, .int .i64 j, .bool false] w fun en w' => en = .returned (.tuple #[U v, .bool true]) ∧ Below w.heap.size w w' := by
  obtain ⟨SO, hSO⟩ : ∃ SO : Nat, SO = S + O := ⟨_, rfl⟩
  obtain ⟨SI, hSI⟩ : ∃ SI : Nat, SI = S + I := ⟨_, rfl⟩
  have HIX : Hid (∀ w, Sem.run Tryz.prog (Instr.index 173 (.agg #[.int .u64 0, U O, U I, U SO, U S, U O, U SI, U SO]) (.int .i64 (j : Int))) w = .ok (U v) w) := fun w => idx8 (.int .u64 0) (U O) (U I) (U SO) (U S) (U O) (U SI) (U SO) j hj (U v) (by
    rw [hSO, hSI]
    obtain rfl | rfl | rfl | rfl | rfl | rfl | rfl | rfl : j = 0 ∨ j = 1 ∨ j = 2 ∨ j = 3 ∨ j = 4 ∨ j = 5 ∨ j = 6 ∨ j = 7 := by omega
    all_goals (obtain rfl := Option.some.inj hv; rfl)) w
  have ONE : Hid (∀ w, Calls Tryz.prog 66 #[FV S P E G I Q] w fun en w' => en = .returned (U O) ∧ Below w.heap.size w w') := one
  have u1 : IntKind.u64.wrap ((S : Int) + (O : Int)) = (SO : Int) := by rw [IntKind.wrap_u64]; omega
  have u2 : IntKind.u64.wrap ((S : Int) + (I : Int)) = (SI : Int) := by rw [IntKind.wrap_u64]; omega
  have u3 : IntKind.u64.wrap (S : Int) = (S : Int) := by rw [IntKind.wrap_u64]; omega
  have u0 : IntKind.u64.wrap 0 = 0 := by decide
  clear hj hv one hS hO hI hSO hSI
  go_enter Tryz.func68, Tryz.ntmps68
  go_wp2_with fail
  obtain ⟨W0, hW0⟩ : ∃ W0, W0 = (w.alloc (.cells #[U S, .int .i64 P, .int .i64 E, .int .i64 G, U I, U Q] 117)) := ⟨_, rfl⟩
  have Xk : Hid (B6q W0 (w.heap.size) (U S) (.int .i64 P) (.int .i64 E) (.int .i64 G) (U I) (U Q)) := by rw [hW0]; exact ⟨by go_simp, by go_simp, by go_simp, by go_simp, by go_simp, by go_simp, by go_simp, by go_simp, by go_simp, by go_simp, by go_simp, by go_simp⟩
  have hb0 : Below w.heap.size w W0 := by rw [hW0]; exact below1 w _
  rw [← hW0]
  clear hW0
  have hbw : Below w.heap.size w w := Below.refl _ _
  obtain ⟨gk, hgk⟩ : ∃ g, g = w.heap.size := ⟨_, rfl⟩
  have HGk : Hid (w.heap.size ≤ gk) := by rw [hgk]; show _ ≤ _; omega
  rw [← hgk] at Xk
  try rw [← hgk]
  clear hgk
  replace hbw := Below.on hbw hb0
  clear hb0
  obtain ⟨ck0, ck1, ck2, ck3, ck4, ck5, fk0, fk1, fk2, fk3, fk4, fk5⟩ := Xk.out
  have hnek : gk < W0.heap.size := World.block_lt_of_cell? W0 _ ck0
  go_wp2_with fail
  clear ck0 ck1 ck2 ck3 ck4 ck5 fk0 fk1 fk2 fk3 fk4 fk5 hnek
  obtain ⟨W1, hW1⟩ : ∃ W1, W1 = W0.drew := ⟨_, rfl⟩
  have hbd : Below W0.heap.size W0 W1 := by rw [hW1]; exact bDrew1 (Below.refl _ _)
  replace Xk : Hid _ := Xk.out.below hbd
  replace hbw := Below.on hbw hbd
  clear hbd
  have HJ : Hid ((fun W' : World => W'.cell? ⟨gk, 0, none⟩ = some (U S) ∧ W'.cell? ⟨gk, 1, none⟩ = some (.int .i64 P) ∧ W'.cell? ⟨gk, 2, none⟩ = some (.int .i64 E) ∧ W'.cell? ⟨gk, 3, none⟩ = some (.int .i64 G) ∧ W'.cell? ⟨gk, 4, none⟩ = some (U I) ∧ W'.cell? ⟨gk, 5, none⟩ = some (U Q)) W1) := ⟨Xk.out.c0, Xk.out.c1, Xk.out.c2, Xk.out.c3, Xk.out.c4, Xk.out.c5⟩
  refine wp_region_J (fun W' => W'.cell? ⟨gk, 0, none⟩ = some (U S) ∧ W'.cell? ⟨gk, 1, none⟩ = some (.int .i64 P) ∧ W'.cell? ⟨gk, 2, none⟩ = some (.int .i64 E) ∧ W'.cell? ⟨gk, 3, none⟩ = some (.int .i64 G) ∧ W'.cell? ⟨gk, 4, none⟩ = some (U I) ∧ W'.cell? ⟨gk, 5, none⟩ = some (U Q)) (by kernel_rfl) ?_
  rw [← hW1]
  clear hW1
  refine wpJ_tk 0 (v := ?v57x0) rfl ?hy57x0 HJ.out ?_
  case hy57x0 => (intro W' hJ; obtain ⟨j0, j1, j2, j3, j4, j5⟩ := hJ; go_simp; first | done | with_reducible rfl)
  refine wpJ_tk 1 (v := ?v58x1) rfl ?hy58x1 HJ.out ?_
  case hy58x1 => (intro W' hJ; obtain ⟨j0, j1, j2, j3, j4, j5⟩ := hJ; go_simp; first | done | with_reducible rfl)
  refine wpJ_tk 3 (v := ?v59x3) rfl ?hy59x3 HJ.out ?_
  case hy59x3 => (intro W' hJ; obtain ⟨j0, j1, j2, j3, j4, j5⟩ := hJ; go_simp; first | done | with_reducible rfl)
  refine wpJ_tk 4 (v := ?v60x4) rfl ?hy60x4 HJ.out ?_
  case hy60x4 => (intro W' hJ; obtain ⟨j0, j1, j2, j3, j4, j5⟩ := hJ; go_simp; first | done | with_reducible rfl)
  refine wpJ_tk 5 (v := ?v61x5) rfl ?hy61x5 HJ.out ?_
  case hy61x5 => (intro W' hJ; obtain ⟨j0, j1, j2, j3, j4, j5⟩ := hJ; go_simp; first | done | with_reducible rfl)
  go_simp
  refine wpJ_tk 6 (v := ?v62x6) rfl ?hy62x6 HJ.out ?_
  case hy62x6 => (intro W' hJ; obtain ⟨j0, j1, j2, j3, j4, j5⟩ := hJ; go_simp; first | done | with_reducible rfl)
  refine wpJ_tk 7 (v := ?v63x7) rfl ?hy63x7 HJ.out ?_
  case hy63x7 => (intro W' hJ; obtain ⟨j0, j1, j2, j3, j4, j5⟩ := hJ; go_simp; first | done | with_reducible rfl)
  refine wpJ_tk 10 (v := ?v64x10) rfl ?hy64x10 HJ.out ?_
  case hy64x10 => (intro W' hJ; obtain ⟨j0, j1, j2, j3, j4, j5⟩ := hJ; go_simp; first | done | with_reducible rfl)
  refine wpJ_tk 11 (v := ?v65x11) rfl ?hy65x11 HJ.out ?_
  case hy65x11 => (intro W' hJ; obtain ⟨j0, j1, j2, j3, j4, j5⟩ := hJ; go_simp; first | done | with_reducible rfl)
  refine wpJ_tk 12 (v := ?v66x12) rfl ?hy66x12 HJ.out ?_
  case hy66x12 => (intro W' hJ; obtain ⟨j0, j1, j2, j3, j4, j5⟩ := hJ; go_simp; first | done | with_reducible rfl)
  go_simp
  refine wpJ_tk 13 (v := ?v67x13) rfl ?hy67x13 HJ.out ?_
  case hy67x13 => (intro W' hJ; obtain ⟨j0, j1, j2, j3, j4, j5⟩ := hJ; go_simp; first | done | with_reducible rfl)
  refine wpJ_tk 14 (v := ?v68x14) rfl ?hy68x14 HJ.out ?_
  case hy68x14 => (intro W' hJ; obtain ⟨j0, j1, j2, j3, j4, j5⟩ := hJ; go_simp; first | done | with_reducible rfl)
  refine wpJ_tk 16 (v := ?v69x16) rfl ?hy69x16 HJ.out ?_
  case hy69x16 => (intro W' hJ; obtain ⟨j0, j1, j2, j3, j4, j5⟩ := hJ; go_simp; first | done | with_reducible rfl)
  refine wpJ_tk 17 (v := ?v70x17) rfl ?hy70x17 HJ.out ?_
  case hy70x17 => (intro W' hJ; obtain ⟨j0, j1, j2, j3, j4, j5⟩ := hJ; go_simp; first | done | with_reducible rfl)
  refine wpJ_tk 18 (v := ?v71x18) rfl ?hy71x18 HJ.out ?_
  case hy71x18 => (intro W' hJ; obtain ⟨j0, j1, j2, j3, j4, j5⟩ := hJ; go_simp; first | done | with_reducible rfl)
  go_simp
  refine wpJ_tk 19 (v := ?v72x19) rfl ?hy72x19 HJ.out ?_
  case hy72x19 => (intro W' hJ; obtain ⟨j0, j1, j2, j3, j4, j5⟩ := hJ; go_simp; first | done | with_reducible rfl)
  refine wpJ_tk 20 (v := ?v73x20) rfl ?hy73x20 HJ.out ?_
  case hy73x20 => (intro W' hJ; obtain ⟨j0, j1, j2, j3, j4, j5⟩ := hJ; go_simp; first | done | with_reducible rfl)
  refine wpJ_tk 21 (v := ?v74x21) rfl ?hy74x21 HJ.out ?_
  case hy74x21 => (intro W' hJ; obtain ⟨j0, j1, j2, j3, j4, j5⟩ := hJ; go_simp; first | done | with_reducible rfl)
  refine wpJ_tk 22 (v := ?v75x22) rfl ?hy75x22 HJ.out ?_
  case hy75x22 => (intro W' hJ; obtain ⟨j0, j1, j2, j3, j4, j5⟩ := hJ; go_simp; first | done | with_reducible rfl)
  refine wpJ_tk 23 (v := ?v76x23) rfl ?hy76x23 HJ.out ?_
  case hy76x23 => (intro W' hJ; obtain ⟨j0, j1, j2, j3, j4, j5⟩ := hJ; go_simp; first | done | with_reducible rfl)
  go_simp
  refine wpJ_tk 27 (v := ?v77x27) rfl ?hy77x27 HJ.out ?_
  case hy77x27 => (intro W' hJ; obtain ⟨j0, j1, j2, j3, j4, j5⟩ := hJ; go_simp; first | done | with_reducible rfl)
  refine wpJ_one (i := 2) (by kernel_rfl) rfl (by kernel_rfl) (fun KJ hK => ?_)
  go_simp
  refine (ONE.out _).mono ?_
  rintro e v12 ⟨rfl, hb12⟩
  replace Xk : Hid _ := Xk.out.below hb12
  replace hbw := Below.on hbw hb12
  clear hb12
  refine hK _ _ ⟨Xk.out.c0, Xk.out.c1, Xk.out.c2, Xk.out.c3, Xk.out.c4, Xk.out.c5⟩ ?_
  clear hK
  refine wpJ_one (i := 8) (by kernel_rfl) rfl (by kernel_rfl) (fun KJ hK => ?_)
  go_simp
  refine (ONE.out _).mono ?_
  rintro e v18 ⟨rfl, hb18⟩
  replace Xk : Hid _ := Xk.out.below hb18
  replace hbw := Below.on hbw hb18
  clear hb18
  clear HJ
  have HJ : Hid ((fun W' : World => W'.cell? ⟨gk, 0, none⟩ = some (U S) ∧ W'.cell? ⟨gk, 1, none⟩ = some (.int .i64 P) ∧ W'.cell? ⟨gk, 2, none⟩ = some (.int .i64 E) ∧ W'.cell? ⟨gk, 3, none⟩ = some (.int .i64 G) ∧ W'.cell? ⟨gk, 4, none⟩ = some (U I) ∧ W'.cell? ⟨gk, 5, none⟩ = some (U Q)) v18) := ⟨Xk.out.c0, Xk.out.c1, Xk.out.c2, Xk.out.c3, Xk.out.c4, Xk.out.c5⟩
  refine hK _ _ HJ.out ?_
  clear hK
  refine wpJ_tk 9 (v := ?v78x9) rfl ?hy78x9 HJ.out ?_
  case hy78x9 => (intro W' hJ; obtain ⟨j0, j1, j2, j3, j4, j5⟩ := hJ; go_simp; first | done | with_reducible rfl)
  refine wpJ_one (i := 15) (by kernel_rfl) rfl (by kernel_rfl) (fun KJ hK => ?_)
  go_simp
  refine (ONE.out _).mono ?_
  rintro e v25 ⟨rfl, hb25⟩
  replace Xk : Hid _ := Xk.out.below hb25
  replace hbw := Below.on hbw hb25
  clear hb25
  refine hK _ _ ⟨Xk.out.c0, Xk.out.c1, Xk.out.c2, Xk.out.c3, Xk.out.c4, Xk.out.c5⟩ ?_
  clear hK
  refine wpJ_one (i := 24) (by kernel_rfl) rfl (by kernel_rfl) (fun KJ hK => ?_)
  go_simp
  refine (ONE.out _).mono ?_
  rintro e v34 ⟨rfl, hb34⟩
  replace Xk : Hid _ := Xk.out.below hb34
  replace hbw := Below.on hbw hb34
  clear hb34
  clear HJ
  have HJ : Hid ((fun W' : World => W'.cell? ⟨gk, 0, none⟩ = some (U S) ∧ W'.cell? ⟨gk, 1, none⟩ = some (.int .i64 P) ∧ W'.cell? ⟨gk, 2, none⟩ = some (.int .i64 E) ∧ W'.cell? ⟨gk, 3, none⟩ = some (.int .i64 G) ∧ W'.cell? ⟨gk, 4, none⟩ = some (U I) ∧ W'.cell? ⟨gk, 5, none⟩ = some (U Q)) v34) := ⟨Xk.out.c0, Xk.out.c1, Xk.out.c2, Xk.out.c3, Xk.out.c4, Xk.out.c5⟩
  refine hK _ _ HJ.out ?_
  clear hK
  refine wpJ_tk 25 (v := ?v79x25) rfl ?hy79x25 HJ.out ?_
  case hy79x25 => (intro W' hJ; obtain ⟨j0, j1, j2, j3, j4, j5⟩ := hJ; go_simp; first | done | with_reducible rfl)
  refine wpJ_tk 26 (v := ?v80x26) rfl ?hy80x26 HJ.out ?_
  case hy80x26 => (intro W' hJ; obtain ⟨j0, j1, j2, j3, j4, j5⟩ := hJ; go_simp; first | done | with_reducible rfl)
  go_simp
  have hix := HIX.out
  refine wpJ_tk 28 (v := ?v81x28) rfl ?hy81x28 HJ.out ?_
  case hy81x28 => (intro W' hJ; obtain ⟨j0, j1, j2, j3, j4, j5⟩ := hJ; go_simp; first | done | with_reducible rfl)
  refine wpJ_tk 29 (v := ?v82x29) rfl ?hy82x29 HJ.out ?_
  case hy82x29 => (intro W' hJ; obtain ⟨j0, j1, j2, j3, j4, j5⟩ := hJ; go_simp; first | done | with_reducible rfl)
  refine wpJ_tk 30 (v := ?v83x30) rfl ?hy83x30 HJ.out ?_
  case hy83x30 => (intro W' hJ; obtain ⟨j0, j1, j2, j3, j4, j5⟩ := hJ; go_simp; first | done | with_reducible rfl)
  refine wpJ_done (by kernel_rfl) ?_ _
  clear HJ
  go_wp2_with fail
  go_ret2
  exact ⟨rfl, hbw⟩
set_option maxRecDepth 20000 in
set_option maxHeartbeats 8000000 in
theorem rexact_6t {S : Nat} {P E G : Int} {I Q O : Nat} (one : ∀ w, Calls Tryz.prog 66 #[FV S P E G I Q] w fun en w' => en = .returned (U O) ∧ Below w.heap.size w w') (hS : S ≤ 9223372036854775808) (hO : O < S) (hI : I < S) (j : Nat) (hj : j < 8) (v : Nat) (hv : (dL 6 S I O true)[j]? = some v) (w : World) :
    Calls Tryz.prog 68 #[FV S P E G I Q, .int .i64 6, .int .i64 j, .bool true] w fun en w' => en = .returned (.tuple #[U v, .bool true]) ∧ Below w.heap.size w w' := by
  obtain ⟨SO, hSO⟩ : ∃ SO : Nat, SO = S + O := ⟨_, rfl⟩
  obtain ⟨SI, hSI⟩ : ∃ SI : Nat, SI = S + I := ⟨_, rfl⟩
  have HIX : Hid (∀ w, Sem.run Tryz.prog (Instr.index 173 (.agg #[U S, U O, U I, U SO, .int .u64 0, U O, U SI, U SO]) (.int .i64 (j : Int))) w = .ok (U v) w) := fun w => idx8 (U S) (U O) (U I) (U SO) (.int .u64 0) (U O) (U SI) (U SO) j hj (U v) (by
    rw [hSO, hSI]
    obtain rfl | rfl | rfl | rfl | rfl | rfl | rfl | rfl : j = 0 ∨ j = 1 ∨ j = 2 ∨ j = 3 ∨ j = 4 ∨ j = 5 ∨ j = 6 ∨ j = 7 := by omega
    all_goals (obtain rfl := Option.some.inj hv; rfl)) w
  have ONE : Hid (∀ w, Calls Tryz.prog 66 #[FV S P E G I Q] w fun en w' => en = .returned (U O) ∧ Below w.heap.size w w') := one
  have u1 : IntKind.u64.wrap ((S : Int) + (O : Int)) = (SO : Int) := by rw [IntKind.wrap_u64]; omega
  have u2 : IntKind.u64.wrap ((S : Int) + (I : Int)) = (SI : Int) := by rw [IntKind.wrap_u64]; omega
  have u3 : IntKind.u64.wrap (S : Int) = (S : Int) := by rw [IntKind.wrap_u64]; omega
  have u0 : IntKind.u64.wrap 0 = 0 := by decide
  clear hj hv one hS hO hI hSO hSI
  go_enter Tryz.func68, Tryz.ntmps68
  go_wp2_with fail
  obtain ⟨W0, hW0⟩ : ∃ W0, W0 = (w.alloc (.cells #[U S, .int .i64 P, .int .i64 E, .int .i64 G, U I, U Q] 117)) := ⟨_, rfl⟩
  have Xk : Hid (B6q W0 (w.heap.size) (U S) (.int .i64 P) (.int .i64 E) (.int .i64 G) (U I) (U Q)) := by rw [hW0]; exact ⟨by go_simp, by go_simp, by go_simp, by go_simp, by go_simp, by go_simp, by go_simp, by go_simp, by go_simp, by go_simp, by go_simp, by go_simp⟩
  have hb0 : Below w.heap.size w W0 := by rw [hW0]; exact below1 w _
  rw [← hW0]
  clear hW0
  have hbw : Below w.heap.size w w := Below.refl _ _
  obtain ⟨gk, hgk⟩ : ∃ g, g = w.heap.size := ⟨_, rfl⟩
  have HGk : Hid (w.heap.size ≤ gk) := by rw [hgk]; show _ ≤ _; omega
  rw [← hgk] at Xk
  try rw [← hgk]
  clear hgk
  replace hbw := Below.on hbw hb0
  clear hb0
  obtain ⟨ck0, ck1, ck2, ck3, ck4, ck5, fk0, fk1, fk2, fk3, fk4, fk5⟩ := Xk.out
  have hnek : gk < W0.heap.size := World.block_lt_of_cell? W0 _ ck0
  go_wp2_with fail
  clear ck0 ck1 ck2 ck3 ck4 ck5 fk0 fk1 fk2 fk3 fk4 fk5 hnek
  obtain ⟨W1, hW1⟩ : ∃ W1, W1 = W0.drew := ⟨_, rfl⟩
  have hbd : Below W0.heap.size W0 W1 := by rw [hW1]; exact bDrew1 (Below.refl _ _)
  replace Xk : Hid _ := Xk.out.below hbd
  replace hbw := Below.on hbw hbd
  clear hbd
  have HJ : Hid ((fun W' : World => W'.cell? ⟨gk, 0, none⟩ = some (U S) ∧ W'.cell? ⟨gk, 1, none⟩ = some (.int .i64 P) ∧ W'.cell? ⟨gk, 2, none⟩ = some (.int .i64 E) ∧ W'.cell? ⟨gk, 3, none⟩ = some (.int .i64 G) ∧ W'.cell? ⟨gk, 4, none⟩ = some (U I) ∧ W'.cell? ⟨gk, 5, none⟩ = some (U Q)) W1) := ⟨Xk.out.c0, Xk.out.c1, Xk.out.c2, Xk.out.c3, Xk.out.c4, Xk.out.c5⟩
  refine wp_region_J (fun W' => W'.cell? ⟨gk, 0, none⟩ = some (U S) ∧ W'.cell? ⟨gk, 1, none⟩ = some (.int .i64 P) ∧ W'.cell? ⟨gk, 2, none⟩ = some (.int .i64 E) ∧ W'.cell? ⟨gk, 3, none⟩ = some (.int .i64 G) ∧ W'.cell? ⟨gk, 4, none⟩ = some (U I) ∧ W'.cell? ⟨gk, 5, none⟩ = some (U Q)) (by kernel_rfl) ?_
  rw [← hW1]
  clear hW1
  refine wpJ_tk 0 (v := ?v84x0) rfl ?hy84x0 HJ.out ?_
  case hy84x0 => (intro W' hJ; obtain ⟨j0, j1, j2, j3, j4, j5⟩ := hJ; go_simp; first | done | with_reducible rfl)
  refine wpJ_tk 1 (v := ?v85x1) rfl ?hy85x1 HJ.out ?_
  case hy85x1 => (intro W' hJ; obtain ⟨j0, j1, j2, j3, j4, j5⟩ := hJ; go_simp; first | done | with_reducible rfl)
  refine wpJ_tk 3 (v := ?v86x3) rfl ?hy86x3 HJ.out ?_
  case hy86x3 => (intro W' hJ; obtain ⟨j0, j1, j2, j3, j4, j5⟩ := hJ; go_simp; first | done | with_reducible rfl)
  refine wpJ_tk 4 (v := ?v87x4) rfl ?hy87x4 HJ.out ?_
  case hy87x4 => (intro W' hJ; obtain ⟨j0, j1, j2, j3, j4, j5⟩ := hJ; go_simp; first | done | with_reducible rfl)
  refine wpJ_tk 5 (v := ?v88x5) rfl ?hy88x5 HJ.out ?_
  case hy88x5 => (intro W' hJ; obtain ⟨j0, j1, j2, j3, j4, j5⟩ := hJ; go_simp; first | done | with_reducible rfl)
  go_simp
  refine wpJ_tk 6 (v := ?v89x6) rfl ?hy89x6 HJ.out ?_
  case hy89x6 => (intro W' hJ; obtain ⟨j0, j1, j2, j3, j4, j5⟩ := hJ; go_simp; first | done | with_reducible rfl)
  refine wpJ_tk 7 (v := ?v90x7) rfl ?hy90x7 HJ.out ?_
  case hy90x7 => (intro W' hJ; obtain ⟨j0, j1, j2, j3, j4, j5⟩ := hJ; go_simp; first | done | with_reducible rfl)
  refine wpJ_tk 10 (v := ?v91x10) rfl ?hy91x10 HJ.out ?_
  case hy91x10 => (intro W' hJ; obtain ⟨j0, j1, j2, j3, j4, j5⟩ := hJ; go_simp; first | done | with_reducible rfl)
  refine wpJ_tk 11 (v := ?v92x11) rfl ?hy92x11 HJ.out ?_
  case hy92x11 => (intro W' hJ; obtain ⟨j0, j1, j2, j3, j4, j5⟩ := hJ; go_simp; first | done | with_reducible rfl)
  refine wpJ_tk 12 (v := ?v93x12) rfl ?hy93x12 HJ.out ?_
  case hy93x12 => (intro W' hJ; obtain ⟨j0, j1, j2, j3, j4, j5⟩ := hJ; go_simp; first | done | with_reducible rfl)
  go_simp
  refine wpJ_tk 13 (v := ?v94x13) rfl ?hy94x13 HJ.out ?_
  case hy94x13 => (intro W' hJ; obtain ⟨j0, j1, j2, j3, j4, j5⟩ := hJ; go_simp; first | done | with_reducible rfl)
  refine wpJ_tk 14 (v := ?v95x14) rfl ?hy95x14 HJ.out ?_
  case hy95x14 => (intro W' hJ; obtain ⟨j0, j1, j2, j3, j4, j5⟩ := hJ; go_simp; first | done | with_reducible rfl)
  refine wpJ_tk 16 (v := ?v96x16) rfl ?hy96x16 HJ.out ?_
  case hy96x16 => (intro W' hJ; obtain ⟨j0, j1, j2, j3, j4, j5⟩ := hJ; go_simp; first | done | with_reducible rfl)
  refine wpJ_tk 17 (v := ?v97x17) rfl ?hy97x17 HJ.out ?_
  case hy97x17 => (intro W' hJ; obtain ⟨j0, j1, j2, j3, j4, j5⟩ := hJ; go_simp; first | done | with_reducible rfl)
  refine wpJ_tk 18 (v := ?v98x18) rfl ?hy98x18 HJ.out ?_
  case hy98x18 => (intro W' hJ; obtain ⟨j0, j1, j2, j3, j4, j5⟩ := hJ; go_simp; first | done | with_reducible rfl)
  go_simp
  refine wpJ_tk 19 (v := ?v99x19) rfl ?hy99x19 HJ.out ?_
  case hy99x19 => (intro W' hJ; obtain ⟨j0, j1, j2, j3, j4, j5⟩ := hJ; go_simp; first | done | with_reducible rfl)
  refine wpJ_tk 20 (v := ?v100x20) rfl ?hy100x20 HJ.out ?_
  case hy100x20 => (intro W' hJ; obtain ⟨j0, j1, j2, j3, j4, j5⟩ := hJ; go_simp; first | done | with_reducible rfl)
  refine wpJ_tk 21 (v := ?v101x21) rfl ?hy101x21 HJ.out ?_
  case hy101x21 => (intro W' hJ; obtain ⟨j0, j1, j2, j3, j4, j5⟩ := hJ; go_simp; first | done | with_reducible rfl)
  refine wpJ_tk 22 (v := ?v102x22) rfl ?hy102x22 HJ.out ?_
  case hy102x22 => (intro W' hJ; obtain ⟨j0, j1, j2, j3, j4, j5⟩ := hJ; go_simp; first | done | with_reducible rfl)
  refine wpJ_tk 23 (v := ?v103x23) rfl ?hy103x23 HJ.out ?_
  case hy103x23 => (intro W' hJ; obtain ⟨j0, j1, j2, j3, j4, j5⟩ := hJ; go_simp; first | done | with_reducible rfl)
  go_simp
  refine wpJ_tk 27 (v := ?v104x27) rfl ?hy104x27 HJ.out ?_
  case hy104x27 => (intro W' hJ; obtain ⟨j0, j1, j2, j3, j4, j5⟩ := hJ; go_simp; first | done | with_reducible rfl)
  refine wpJ_one (i := 2) (by kernel_rfl) rfl (by kernel_rfl) (fun KJ hK => ?_)
  go_simp
  refine (ONE.out _).mono ?_
  rintro e v12 ⟨rfl, hb12⟩
  replace Xk : Hid _ := Xk.out.below hb12
  replace hbw := Below.on hbw hb12
  clear hb12
  refine hK _ _ ⟨Xk.out.c0, Xk.out.c1, Xk.out.c2, Xk.out.c3, Xk.out.c4, Xk.out.c5⟩ ?_
  clear hK
  refine wpJ_one (i := 8) (by kernel_rfl) rfl (by kernel_rfl) (fun KJ hK => ?_)
  go_simp
  refine (ONE.out _).mono ?_
  rintro e v18 ⟨rfl, hb18⟩
  replace Xk : Hid _ := Xk.out.below hb18
  replace hbw := Below.on hbw hb18
  clear hb18
  clear HJ
  have HJ : Hid ((fun W' : World => W'.cell? ⟨gk, 0, none⟩ = some (U S) ∧ W'.cell? ⟨gk, 1, none⟩ = some (.int .i64 P) ∧ W'.cell? ⟨gk, 2, none⟩ = some (.int .i64 E) ∧ W'.cell? ⟨gk, 3, none⟩ = some (.int .i64 G) ∧ W'.cell? ⟨gk, 4, none⟩ = some (U I) ∧ W'.cell? ⟨gk, 5, none⟩ = some (U Q)) v18) := ⟨Xk.out.c0, Xk.out.c1, Xk.out.c2, Xk.out.c3, Xk.out.c4, Xk.out.c5⟩
  refine hK _ _ HJ.out ?_
  clear hK
  refine wpJ_tk 9 (v := ?v105x9) rfl ?hy105x9 HJ.out ?_
  case hy105x9 => (intro W' hJ; obtain ⟨j0, j1, j2, j3, j4, j5⟩ := hJ; go_simp; first | done | with_reducible rfl)
  refine wpJ_one (i := 15) (by kernel_rfl) rfl (by kernel_rfl) (fun KJ hK => ?_)
  go_simp
  refine (ONE.out _).mono ?_
  rintro e v25 ⟨rfl, hb25⟩
  replace Xk : Hid _ := Xk.out.below hb25
  replace hbw := Below.on hbw hb25
  clear hb25
  refine hK _ _ ⟨Xk.out.c0, Xk.out.c1, Xk.out.c2, Xk.out.c3, Xk.out.c4, Xk.out.c5⟩ ?_
  clear hK
  refine wpJ_one (i := 24) (by kernel_rfl) rfl (by kernel_rfl) (fun KJ hK => ?_)
  go_simp
  refine (ONE.out _).mono ?_
  rintro e v34 ⟨rfl, hb34⟩
  replace Xk : Hid _ := Xk.out.below hb34
  replace hbw := Below.on hbw hb34
  clear hb34
  clear HJ
  have HJ : Hid ((fun W' : World => W'.cell? ⟨gk, 0, none⟩ = some (U S) ∧ W'.cell? ⟨gk, 1, none⟩ = some (.int .i64 P) ∧ W'.cell? ⟨gk, 2, none⟩ = some (.int .i64 E) ∧ W'.cell? ⟨gk, 3, none⟩ = some (.int .i64 G) ∧ W'.cell? ⟨gk, 4, none⟩ = some (U I) ∧ W'.cell? ⟨gk, 5, none⟩ = some (U Q)) v34) := ⟨Xk.out.c0, Xk.out.c1, Xk.out.c2, Xk.out.c3, Xk.out.c4, Xk.out.c5⟩
  refine hK _ _ HJ.out ?_
  clear hK
  refine wpJ_tk 25 (v := ?v106x25) rfl ?hy106x25 HJ.out ?_
  case hy106x25 => (intro W' hJ; obtain ⟨j0, j1, j2, j3, j4, j5⟩ := hJ; go_simp; first | done | with_reducible rfl)
  refine wpJ_tk 26 (v := ?v107x26) rfl ?hy107x26 HJ.out ?_
  case hy107x26 => (intro W' hJ; obtain ⟨j0, j1, j2, j3, j4, j5⟩ := hJ; go_simp; first | done | with_reducible rfl)
  go_simp
  have hix := HIX.out
  refine wpJ_tk 28 (v := ?v108x28) rfl ?hy108x28 HJ.out ?_
  case hy108x28 => (intro W' hJ; obtain ⟨j0, j1, j2, j3, j4, j5⟩ := hJ; go_simp; first | done | with_reducible rfl)
  refine wpJ_tk 29 (v := ?v109x29) rfl ?hy109x29 HJ.out ?_
  case hy109x29 => (intro W' hJ; obtain ⟨j0, j1, j2, j3, j4, j5⟩ := hJ; go_simp; first | done | with_reducible rfl)
  refine wpJ_tk 30 (v := ?v110x30) rfl ?hy110x30 HJ.out ?_
  case hy110x30 => (intro W' hJ; obtain ⟨j0, j1, j2, j3, j4, j5⟩ := hJ; go_simp; first | done | with_reducible rfl)
  refine wpJ_done (by kernel_rfl) ?_ _
  clear HJ
  go_wp2_with fail
  go_ret2
  exact ⟨rfl, hbw⟩
theorem mo8 (x : Int) : rMo x 8 = x % 8 := by
  unfold rMo mo iv
  rw [show (8 : Int).natAbs = 8 from rfl, show decide ((8 : Int) < 0) = false from rfl]
  rcases Int.lt_or_le x 0 with h | h
  · rw [show decide (x < 0) = true from decide_eq_true h]
    by_cases h4 : x.natAbs % 8 = 0
    · simp [h4]; omega
    · simp [h4]; omega
  · rw [show decide (x < 0) = false from decide_eq_false (by omega)]
    simp; omega
theorem number_any64 {b : Nat} (hr : b % 9223372036854775808 < 9218868437227405312) {z e : Int} (hv : VF 9223372036854775808 4503599627370496 (-1074) b z e) (w : World) : Calls Tryz.prog 107 #[.int .i64 64, U b] w fun en w' => ∃ s p m, en = .returned (.tuple #[.agg #[.bool s, .slice p m m], .int .i64 e]) ∧ ZR w' s p m z ∧ m ≤ 2 ∧ Below w.heap.size w w' := by
  by_cases h0 : b % 9223372036854775808 - (b % 9223372036854775808 / 4503599627370496 - 1) * 4503599627370496 = 0
  · exact number_z64 hr hv h0 w
  · exact number_n64 hr hv h0 w
theorem number_any32 {b : Nat} (hr : b % 2147483648 < 2139095040) {z e : Int} (hv : VF 2147483648 8388608 (-149) b z e) (w : World) : Calls Tryz.prog 107 #[.int .i64 32, U b] w fun en w' => ∃ s p m, en = .returned (.tuple #[.agg #[.bool s, .slice p m m], .int .i64 e]) ∧ ZR w' s p m z ∧ m ≤ 2 ∧ Below w.heap.size w w' := by
  by_cases h0 : b % 2147483648 - (b % 2147483648 / 8388608 - 1) * 8388608 = 0
  · exact number_z32 hr hv h0 w
  · exact number_n32 hr hv h0 w
set_option maxRecDepth 20000 in
set_option maxHeartbeats 8000000 in
theorem eighth_n64 {b : Nat} (hr : b % 9223372036854775808 < 9218868437227405312) {z e : Int} (hv : VF 9223372036854775808 4503599627370496 (-1074) b z e) (he : e < -2) (w : World) :
    Calls Tryz.prog 67 #[.int .i64 64, U b] w fun en w' => en = .returned (.tuple #[.int .i64 0, .bool false]) ∧ Below w.heap.size w w' := by
  have hbw : Below w.heap.size w w := Below.refl _ _
  have HV : Hid (b % 9223372036854775808 < 9218868437227405312 ∧ VF 9223372036854775808 4503599627370496 (-1074) b z e) := ⟨hr, hv⟩
  have d1 : decide (e < -2) = true := decide_eq_true he
  clear hr hv he
  go_enter Tryz.func67, Tryz.ntmps67
  go_wp2_with fail
  refine (number_any64 HV.out.1 HV.out.2 _).mono ?_
  rintro e9 v1 ⟨s1, p1, m1, rfl, hz1, hl1, hb1⟩
  replace hbw := Below.on hbw hb1
  clear hb1
  clear hz1 hl1
  go_wp2_with fail
  go_ret2
  exact ⟨rfl, Below.on hbw (below1 _ _)⟩
set_option maxRecDepth 20000 in
set_option maxHeartbeats 8000000 in
theorem eighth_y64 {b : Nat} (hr : b % 9223372036854775808 < 9218868437227405312) {z e : Int} (hv : VF 9223372036854775808 4503599627370496 (-1074) b z e) (he : -2 ≤ e) {N : Nat} (hN : (N : Int) = min e 9 + 2) (w : World) :
    Calls Tryz.prog 67 #[.int .i64 64, U b] w fun en w' => en = .returned (.tuple #[.int .i64 (z * 2 ^ N % 8), .bool true]) ∧ Below w.heap.size w w' := by
  have hbw : Below w.heap.size w w := Below.refl _ _
  have HV : Hid (b % 9223372036854775808 < 9218868437227405312 ∧ VF 9223372036854775808 4503599627370496 (-1074) b z e ∧ DB z e 128 1430) := ⟨hr, hv, vf_dbt jn_64 hr hv⟩
  have d1 : decide (e < -2) = false := decide_eq_false (by omega)
  have hN11 : N ≤ 11 := by omega
  obtain ⟨mn, hmn⟩ : ∃ mn, mn = min e 9 := ⟨_, rfl⟩
  have w1 : wrap64 (min e 9 + 2) = (N : Int) := by rw [hN]; simp only [wrap64]; omega
  have w2 : IntKind.i64.wrap (min e 9 + 2) = (N : Int) := by rw [hN]; simp [IntKind.wrap, IntKind.signed, IntKind.bits]; omega
  obtain ⟨q, hq⟩ : ∃ q, q = z * 2 ^ N % 8 := ⟨_, rfl⟩
  rw [← hq]
  have HQ : Hid (q = z * 2 ^ N % 8 ∧ 0 ≤ q ∧ q < 8 ∧ N ≤ 11) := ⟨hq, by omega, by omega, hN11⟩
  clear hr hv he hN hN11 hmn hq
  go_enter Tryz.func67, Tryz.ntmps67
  go_wp2_with fail
  refine (number_any64 HV.out.1 HV.out.2.1 _).mono ?_
  rintro e9 v1 ⟨s1, p1, m1, rfl, hz1, hl1, hb1⟩
  replace hbw := Below.on hbw hb1
  clear hb1
  have Z1 : Hid (ZR v1 s1 p1 m1 z) := hz1
  have HL1 : Hid (m1 ≤ 2) := hl1
  clear hz1 hl1
  go_wp2_with fail
  have Xm0 : Hid (Box (v1.alloc (.cells #[.bool s1, .slice p1 m1 m1] 110)) v1.heap.size (.bool s1) (.slice p1 m1 m1)) := Box.new v1 _ _ _
  have hbn : Below v1.heap.size v1 (v1.alloc (.cells #[.bool s1, .slice p1 m1 m1] 110)) := below1 v1 _
  generalize v1.alloc (.cells #[.bool s1, .slice p1 m1 m1] 110) = Wm at *
  have HGm : Hid (w.heap.size ≤ v1.heap.size) := hbw.size
  replace Z1 : Hid _ := Z1.out.below hbn
  replace hbw := Below.on hbw hbn
  clear hbn
  generalize v1.heap.size = gm at *
  have Xm := Xm0
  clear Xm0
  refine (rshl04 s1 Z1.out (by have := HL1.out; omega) N (.inl (by have := HQ.out; omega))).mono ?_
  rintro e v3 ⟨v, rfl, hv, hb3⟩
  obtain ⟨s3, g3, m3, rfl, hg3, hz3, hl3⟩ := hv
  have HN3 : Hid (Wm.heap.size ≤ g3) := hg3
  have HB3 : Hid (Wm.heap.size ≤ v3.heap.size) := hb3.size
  replace Xm : Hid _ := Xm.out.below hb3
  replace Z1 : Hid _ := Z1.out.below hb3
  replace hbw := Below.on hbw hb3
  clear hb3
  have Z3 : Hid (ZR v3 s3 (some ⟨g3, 0, none⟩) m3 (z * 2 ^ N)) := hz3
  have HL3 : Hid (m3 ≤ 40000) := hl3
  clear hz3 hl3 hg3
  go_wp2_with fail
  refine (rof04 8 _ (by decide) (by decide)).mono ?_
  rintro e9 v4 ⟨s4, g4, m4, rfl, hz4, hl4, hb4⟩
  replace Xm : Hid _ := Xm.out.below hb4
  replace Z1 : Hid _ := Z1.out.below hb4
  replace Z3 : Hid _ := Z3.out.below hb4
  replace hbw := Below.on hbw hb4
  clear hb4
  have Z4 : Hid (ZR v4 s4 (some ⟨g4, 0, none⟩) m4 8) := hz4
  have HL4 : Hid (m4 ≤ 1) := by
    obtain ⟨zs, hA, hN⟩ := hz4.ex
    have h1 := (hN.len_le B32_one (k := 1)).2 (by decide)
    rw [hA.len] at h1
    exact h1
  clear hz4 hl4
  go_wp2_with fail
  refine (rmod04 s3 s4 Z3.out Z4.out (Nat.le_trans (zr_len Z3.out (shl_bound HV.out.2.2.sz (Nat.le_refl N))) (by have := HQ.out; omega)) HL4.out (by decide)).mono ?_
  rintro e9 v5 ⟨v, rfl, hv, hb5⟩
  obtain ⟨s5, g5, m5, rfl, hg5, hz5, hl5⟩ := hv
  rw [mo8, ← HQ.out.1] at hz5
  obtain rfl : s5 = false := by rw [hz5.sg]; exact decide_eq_false (by have := HQ.out; omega)
  replace Xm : Hid _ := Xm.out.below hb5
  replace Z1 : Hid _ := Z1.out.below hb5
  replace Z3 : Hid _ := Z3.out.below hb5
  replace Z4 : Hid _ := Z4.out.below hb5
  replace hbw := Below.on hbw hb5
  clear hb5
  have Z5 : Hid (ZR v5 false (some ⟨g5, 0, none⟩) m5 q) := hz5
  have HL5 : Hid (m5 ≤ 50000) := hl5
  clear hz5 hl5 hg5
  go_wp2_with fail
  refine (rint04_pt Z5.out HL5.out (by have := HQ.out; omega) (by have := HQ.out; omega)).mono ?_
  rintro e v6 ⟨rfl, hb6⟩
  replace Xm : Hid _ := Xm.out.below hb6
  replace Z1 : Hid _ := Z1.out.below hb6
  replace Z3 : Hid _ := Z3.out.below hb6
  replace Z4 : Hid _ := Z4.out.below hb6
  replace Z5 : Hid _ := Z5.out.below hb6
  replace hbw := Below.on hbw hb6
  clear hb6
  go_wp2_with fail
  go_ret2
  exact ⟨rfl, hbw⟩
set_option maxRecDepth 20000 in
set_option maxHeartbeats 8000000 in
theorem eighth_n32 {b : Nat} (hr : b % 2147483648 < 2139095040) {z e : Int} (hv : VF 2147483648 8388608 (-149) b z e) (he : e < -2) (w : World) :
    Calls Tryz.prog 67 #[.int .i64 32, U b] w fun en w' => en = .returned (.tuple #[.int .i64 0, .bool false]) ∧ Below w.heap.size w w' := by
  have hbw : Below w.heap.size w w := Below.refl _ _
  have HV : Hid (b % 2147483648 < 2139095040 ∧ VF 2147483648 8388608 (-149) b z e) := ⟨hr, hv⟩
  have d1 : decide (e < -2) = true := decide_eq_true he
  clear hr hv he
  go_enter Tryz.func67, Tryz.ntmps67
  go_wp2_with fail
  refine (number_any32 HV.out.1 HV.out.2 _).mono ?_
  rintro e9 v1 ⟨s1, p1, m1, rfl, hz1, hl1, hb1⟩
  replace hbw := Below.on hbw hb1
  clear hb1
  clear hz1 hl1
  go_wp2_with fail
  go_ret2
  exact ⟨rfl, Below.on hbw (below1 _ _)⟩
set_option maxRecDepth 20000 in
set_option maxHeartbeats 8000000 in
theorem eighth_y32 {b : Nat} (hr : b % 2147483648 < 2139095040) {z e : Int} (hv : VF 2147483648 8388608 (-149) b z e) (he : -2 ≤ e) {N : Nat} (hN : (N : Int) = min e 9 + 2) (w : World) :
    Calls Tryz.prog 67 #[.int .i64 32, U b] w fun en w' => en = .returned (.tuple #[.int .i64 (z * 2 ^ N % 8), .bool true]) ∧ Below w.heap.size w w' := by
  have hbw : Below w.heap.size w w := Below.refl _ _
  have HV : Hid (b % 2147483648 < 2139095040 ∧ VF 2147483648 8388608 (-149) b z e ∧ DB z e 128 1430) := ⟨hr, hv, vf_dbt jn_32 hr hv⟩
  have d1 : decide (e < -2) = false := decide_eq_false (by omega)
  have hN11 : N ≤ 11 := by omega
  obtain ⟨mn, hmn⟩ : ∃ mn, mn = min e 9 := ⟨_, rfl⟩
  have w1 : wrap64 (min e 9 + 2) = (N : Int) := by rw [hN]; simp only [wrap64]; omega
  have w2 : IntKind.i64.wrap (min e 9 + 2) = (N : Int) := by rw [hN]; simp [IntKind.wrap, IntKind.signed, IntKind.bits]; omega
  obtain ⟨q, hq⟩ : ∃ q, q = z * 2 ^ N % 8 := ⟨_, rfl⟩
  rw [← hq]
  have HQ : Hid (q = z * 2 ^ N % 8 ∧ 0 ≤ q ∧ q < 8 ∧ N ≤ 11) := ⟨hq, by omega, by omega, hN11⟩
  clear hr hv he hN hN11 hmn hq
  go_enter Tryz.func67, Tryz.ntmps67
  go_wp2_with fail
  refine (number_any32 HV.out.1 HV.out.2.1 _).mono ?_
  rintro e9 v1 ⟨s1, p1, m1, rfl, hz1, hl1, hb1⟩
  replace hbw := Below.on hbw hb1
  clear hb1
  have Z1 : Hid (ZR v1 s1 p1 m1 z) := hz1
  have HL1 : Hid (m1 ≤ 2) := hl1
  clear hz1 hl1
  go_wp2_with fail
  have Xm0 : Hid (Box (v1.alloc (.cells #[.bool s1, .slice p1 m1 m1] 110)) v1.heap.size (.bool s1) (.slice p1 m1 m1)) := Box.new v1 _ _ _
  have hbn : Below v1.heap.size v1 (v1.alloc (.cells #[.bool s1, .slice p1 m1 m1] 110)) := below1 v1 _
  generalize v1.alloc (.cells #[.bool s1, .slice p1 m1 m1] 110) = Wm at *
  have HGm : Hid (w.heap.size ≤ v1.heap.size) := hbw.size
  replace Z1 : Hid _ := Z1.out.below hbn
  replace hbw := Below.on hbw hbn
  clear hbn
  generalize v1.heap.size = gm at *
  have Xm := Xm0
  clear Xm0
  refine (rshl04 s1 Z1.out (by have := HL1.out; omega) N (.inl (by have := HQ.out; omega))).mono ?_
  rintro e v3 ⟨v, rfl, hv, hb3⟩
  obtain ⟨s3, g3, m3, rfl, hg3, hz3, hl3⟩ := hv
  have HN3 : Hid (Wm.heap.size ≤ g3) := hg3
  have HB3 : Hid (Wm.heap.size ≤ v3.heap.size) := hb3.size
  replace Xm : Hid _ := Xm.out.below hb3
  replace Z1 : Hid _ := Z1.out.below hb3
  replace hbw := Below.on hbw hb3
  clear hb3
  have Z3 : Hid (ZR v3 s3 (some ⟨g3, 0, none⟩) m3 (z * 2 ^ N)) := hz3
  have HL3 : Hid (m3 ≤ 40000) := hl3
  clear hz3 hl3 hg3
  go_wp2_with fail
  refine (rof04 8 _ (by decide) (by decide)).mono ?_
  rintro e9 v4 ⟨s4, g4, m4, rfl, hz4, hl4, hb4⟩
  replace Xm : Hid _ := Xm.out.below hb4
  replace Z1 : Hid _ := Z1.out.below hb4
  replace Z3 : Hid _ := Z3.out.below hb4
  replace hbw := Below.on hbw hb4
  clear hb4
  have Z4 : Hid (ZR v4 s4 (some ⟨g4, 0, none⟩) m4 8) := hz4
  have HL4 : Hid (m4 ≤ 1) := by
    obtain ⟨zs, hA, hN⟩ := hz4.ex
    have h1 := (hN.len_le B32_one (k := 1)).2 (by decide)
    rw [hA.len] at h1
    exact h1
  clear hz4 hl4
  go_wp2_with fail
  refine (rmod04 s3 s4 Z3.out Z4.out (Nat.le_trans (zr_len Z3.out (shl_bound HV.out.2.2.sz (Nat.le_refl N))) (by have := HQ.out; omega)) HL4.out (by decide)).mono ?_
  rintro e9 v5 ⟨v, rfl, hv, hb5⟩
  obtain ⟨s5, g5, m5, rfl, hg5, hz5, hl5⟩ := hv
  rw [mo8, ← HQ.out.1] at hz5
  obtain rfl : s5 = false := by rw [hz5.sg]; exact decide_eq_false (by have := HQ.out; omega)
  replace Xm : Hid _ := Xm.out.below hb5
  replace Z1 : Hid _ := Z1.out.below hb5
  replace Z3 : Hid _ := Z3.out.below hb5
  replace Z4 : Hid _ := Z4.out.below hb5
  replace hbw := Below.on hbw hb5
  clear hb5
  have Z5 : Hid (ZR v5 false (some ⟨g5, 0, none⟩) m5 q) := hz5
  have HL5 : Hid (m5 ≤ 50000) := hl5
  clear hz5 hl5 hg5
  go_wp2_with fail
  refine (rint04_pt Z5.out HL5.out (by have := HQ.out; omega) (by have := HQ.out; omega)).mono ?_
  rintro e v6 ⟨rfl, hb6⟩
  replace Xm : Hid _ := Xm.out.below hb6
  replace Z1 : Hid _ := Z1.out.below hb6
  replace Z3 : Hid _ := Z3.out.below hb6
  replace Z4 : Hid _ := Z4.out.below hb6
  replace Z5 : Hid _ := Z5.out.below hb6
  replace hbw := Below.on hbw hb6
  clear hb6
  go_wp2_with fail
  go_ret2
  exact ⟨rfl, hbw⟩
def dCs (e q : Int) (j : Nat) : Prop := (1 ≤ e ∧ j = 0 ∧ q = 0) ∨ (e = 0 ∧ j = 4 ∧ q = 2) ∨ (e = -1 ∧ j = 2 ∧ q = 1) ∨ (e = -1 ∧ j = 6 ∧ q = 3) ∨ (e = -2 ∧ j = 1 ∧ q = 1) ∨ (e = -2 ∧ j = 3 ∧ q = 2) ∨ (e = -2 ∧ j = 5 ∧ q = 3) ∨ (e = -2 ∧ j = 7 ∧ q = 0)
theorem d_cs {z e : Int} (hf : DFm z e) (hz : z ≠ 0) (he : -2 ≤ e) {N : Nat} (hN : (N : Int) = min e 9 + 2) : ∃ j : Nat, z * 2 ^ N % 8 = (j : Int) ∧ dCs e (exQ z e) j := by
  have ho : z % 2 = 1 := by
    rcases hf with ⟨h, _⟩ | ⟨h, _⟩
    · exact absurd h hz
    · exact h
  unfold dCs exQ
  by_cases h1 : 1 ≤ e
  · refine ⟨0, ?_, .inl ⟨h1, rfl, ?_⟩⟩
    · obtain ⟨M, rfl⟩ : ∃ M, N = M + 3 := ⟨N - 3, by omega⟩
      rw [show (2 : Int) ^ (M + 3) = 2 ^ M * 8 from by rw [Int.pow_add]; rfl, ← Int.mul_assoc]
      exact Int.mul_emod_left _ _
    · rw [if_pos (by omega)]
      obtain ⟨M, hM⟩ : ∃ M, e.toNat = M + 1 := ⟨e.toNat - 1, by omega⟩
      rw [hM, show ((2 ^ (M + 1) : Nat) : Int) = 2 * ((2 ^ M : Nat) : Int) from by rw [Nat.pow_succ]; push_cast; omega]
      rw [show 2 * (z * (2 * ((2 ^ M : Nat) : Int))) = (z * ((2 ^ M : Nat) : Int)) * 4 from by rw [Int.mul_left_comm z, ← Int.mul_assoc 2 2, Int.mul_comm (2 * 2)]; rfl]
      exact Int.mul_emod_left _ _
  · obtain rfl | rfl | rfl : e = 0 ∨ e = -1 ∨ e = -2 := by omega
    · obtain rfl : N = 2 := by omega
      refine ⟨4, by omega, .inr (.inl ⟨rfl, rfl, ?_⟩)⟩
      rw [if_pos (by omega), show ((2 ^ Int.toNat 0 : Nat) : Int) = 1 from rfl]
      omega
    · obtain rfl : N = 1 := by omega
      rw [if_neg (by omega), if_pos rfl]
      rcases (by omega : z % 4 = 1 ∨ z % 4 = 3) with h | h
      · exact ⟨2, by omega, .inr (.inr (.inl ⟨rfl, rfl, h⟩))⟩
      · exact ⟨6, by omega, .inr (.inr (.inr (.inl ⟨rfl, rfl, h⟩)))⟩
    · obtain rfl : N = 0 := by omega
      rw [if_neg (by omega), if_neg (by omega)]
      rcases (by omega : z % 8 = 1 ∨ z % 8 = 3 ∨ z % 8 = 5 ∨ z % 8 = 7) with h | h | h | h
      · exact ⟨1, by omega, by omega⟩
      · exact ⟨3, by omega, by omega⟩
      · exact ⟨5, by omega, by omega⟩
      · exact ⟨7, by omega, by omega⟩
theorem d_ok {fn : Int} (hfn : fn = 4 ∨ fn = 5 ∨ fn = 6) {e z : Int} {j : Nat} (h : dCs e (exQ z e) j) (S I O : Nat) (neg : Bool) : j < 8 ∧ ∃ v, (dL fn S I O neg)[j]? = some v ∧ (fn ≠ 6 → exOk fn e = decide (j % 2 = 0)) ∧ (fn = 6 → exOk fn e = true) ∧ (exOk fn e = true → v = exW fn S I O neg z e) := by
  unfold dCs at h
  generalize hq : exQ z e = q at h
  unfold exW
  rw [hq]
  clear hq
  rcases h with ⟨h1, rfl, rfl⟩ | ⟨rfl, rfl, rfl⟩ | ⟨rfl, rfl, rfl⟩ | ⟨rfl, rfl, rfl⟩ | ⟨rfl, rfl, rfl⟩ | ⟨rfl, rfl, rfl⟩ | ⟨rfl, rfl, rfl⟩ | ⟨rfl, rfl, rfl⟩
  · have hk : ∀ fn, exOk fn e = true := fun fn => decide_eq_true (.inl (by omega))
    rw [show decide (-1 ≤ e) = true from decide_eq_true (by omega)]
    simp only [hk]
    rcases hfn with rfl | rfl | rfl <;> cases neg <;> refine ⟨by decide, _, rfl, ?_, ?_, ?_⟩ <;> simp [exP, exSz, exNg]
  all_goals (rcases hfn with rfl | rfl | rfl <;> cases neg <;> refine ⟨by decide, _, rfl, ?_, ?_, ?_⟩ <;> simp [exP, exSz, exNg, exOk])
theorem pat_eqt {S b : Nat} (hb : b < 2 * S) : b = (if S ≤ b then S else 0) + b % S ∧ b % S < S := by
  have hS : 0 < S := by omega
  by_cases h : S ≤ b
  · rw [if_pos h]
    have h1 := Nat.mod_eq_sub_mod h
    rw [Nat.mod_eq_of_lt (show b - S < S by omega)] at h1
    omega
  · rw [if_neg h, Nat.mod_eq_of_lt (by omega)]; omega
theorem vf_z0 {S H : Nat} {l : Int} {b : Nat} {z e : Int} (hH : 0 < H) (hv : VF S H l b z e) : (b % S = 0 → z = 0 ∧ e = 0) ∧ (b % S ≠ 0 → z ≠ 0) := by
  have h := hv.v
  rw [svS_eq] at h
  refine ⟨fun h0 => ?_, fun h0 hz => ?_⟩
  · rw [h0, vs_zero] at h
    have hz : z = 0 := dv_eq_zero (by rw [h]; split <;> simp [dv_zero])
    rcases hv.fm with ⟨_, he⟩ | ⟨h1, _⟩
    · exact ⟨hz, he⟩
    · omega
  · rw [hz, dv_zero] at h
    have h1 := dv_eq_zero h.symm
    have h2 := vs_mono hH (show 0 < b % S by omega)
    rw [vs_zero] at h2
    split at h1 <;> omega
structure Rx (f : Int) (S : Nat) (P E G : Int) (I Q H O : Nat) (l : Int) : Prop where
  rf : Rf f S P E G I Q
  hH : 0 < H
  one : ∀ w, Calls Tryz.prog 66 #[FV S P E G I Q] w fun en w' => en = .returned (U O) ∧ Below w.heap.size w w'
  en : ∀ {b : Nat} {z e : Int}, b % S < I → VF S H l b z e → e < -2 → ∀ w, Calls Tryz.prog 67 #[.int .i64 f, U b] w fun en w' => en = .returned (.tuple #[.int .i64 0, .bool false]) ∧ Below w.heap.size w w'
  ey : ∀ {b : Nat} {z e : Int}, b % S < I → VF S H l b z e → -2 ≤ e → ∀ {N : Nat}, (N : Int) = min e 9 + 2 → ∀ w, Calls Tryz.prog 67 #[.int .i64 f, U b] w fun en w' => en = .returned (.tuple #[.int .i64 (z * 2 ^ N % 8), .bool true]) ∧ Below w.heap.size w w'
  x : ∀ {fn : Int}, (fn = 4 ∨ fn = 5 ∨ fn = 6) → ∀ (neg : Bool) (j : Nat), j < 8 → ∀ (v : Nat), (dL fn S I O neg)[j]? = some v → ∀ w, Calls Tryz.prog 68 #[FV S P E G I Q, .int .i64 fn, .int .i64 j, .bool neg] w fun en w' => en = .returned (.tuple #[U v, .bool (decide (fn = 6 ∨ j % 2 = 0))]) ∧ Below w.heap.size w w'
theorem rx_32 : Rx 32 2147483648 24 (-149) 104 2139095040 2143289345 8388608 1065353216 (-149) := by
  refine ⟨rf_32, by decide, rone32, fun hr hv he w => eighth_n32 hr hv he w, fun hr hv he N hN w => eighth_y32 hr hv he hN w, ?_⟩
  intro fn hfn neg j hj v hv w
  rcases hfn with rfl | rfl | rfl
  · have hp : decide (j % 2 = 0) = decide ((4 : Int) = 6 ∨ j % 2 = 0) := by simp
    cases neg
    · exact rexact_4f rone32 (by decide) (by decide) j hj v hv w _ hp
    · exact rexact_4t rone32 (by decide) (by decide) j hj v hv w _ hp
  · have hp : decide (j % 2 = 0) = decide ((5 : Int) = 6 ∨ j % 2 = 0) := by simp
    cases neg
    · exact rexact_5f rone32 (by decide) (by decide) j hj v hv w _ hp
    · exact rexact_5t rone32 (by decide) (by decide) j hj v hv w _ hp
  · rw [show decide ((6 : Int) = 6 ∨ j % 2 = 0) = true from decide_eq_true (.inl rfl)]
    cases neg
    · exact rexact_6f rone32 (by decide) (by decide) (by decide) j hj v hv w
    · exact rexact_6t rone32 (by decide) (by decide) (by decide) j hj v hv w
theorem rx_64 : Rx 64 9223372036854775808 53 (-1074) 971 9218868437227405312 9221120237041090561 4503599627370496 4607182418800017408 (-1074) := by
  refine ⟨rf_64, by decide, rone64, fun hr hv he w => eighth_n64 hr hv he w, fun hr hv he N hN w => eighth_y64 hr hv he hN w, ?_⟩
  intro fn hfn neg j hj v hv w
  rcases hfn with rfl | rfl | rfl
  · have hp : decide (j % 2 = 0) = decide ((4 : Int) = 6 ∨ j % 2 = 0) := by simp
    cases neg
    · exact rexact_4f rone64 (by decide) (by decide) j hj v hv w _ hp
    · exact rexact_4t rone64 (by decide) (by decide) j hj v hv w _ hp
  · have hp : decide (j % 2 = 0) = decide ((5 : Int) = 6 ∨ j % 2 = 0) := by simp
    cases neg
    · exact rexact_5f rone64 (by decide) (by decide) j hj v hv w _ hp
    · exact rexact_5t rone64 (by decide) (by decide) j hj v hv w _ hp
  · rw [show decide ((6 : Int) = 6 ∨ j % 2 = 0) = true from decide_eq_true (.inl rfl)]
    cases neg
    · exact rexact_6f rone64 (by decide) (by decide) (by decide) j hj v hv w
    · exact rexact_6t rone64 (by decide) (by decide) (by decide) j hj v hv w
set_option maxRecDepth 20000 in
set_option maxHeartbeats 8000000 in
theorem docx_x (f fn : Int) (h1 : f ≠ 32) (h2 : f ≠ 64) (b : Nat) (w : World) :
    Calls Tryz.prog 27 #[.int .i64 f, .int .i64 fn, U b] w fun en w' => en = .returned (.tuple #[.int .u64 0, .bool false, .int .i64 1]) ∧ Below w.heap.size w w' := by
  have hbw : Below w.heap.size w w := Below.refl _ _
  have HF : Hid (f ≠ 32 ∧ f ≠ 64) := ⟨h1, h2⟩
  clear h1 h2
  go_enter Tryz.func27, Tryz.ntmps27
  go_wp2_with fail
  refine (rof_x f HF.out.1 HF.out.2 _).mono ?_
  rintro e v1 ⟨rfl, hb1⟩
  replace hbw := Below.on hbw hb1
  clear hb1
  go_wp2_with fail
  have Xk0 : Hid (B6q (v1.alloc (.cells #[U 0, .int .i64 0, .int .i64 0, .int .i64 0, U 0, U 0] 117)) v1.heap.size (U 0) (.int .i64 0) (.int .i64 0) (.int .i64 0) (U 0) (U 0)) := B6q.new v1 _ _ _ _ _ _ _
  have hbn : Below v1.heap.size v1 (v1.alloc (.cells #[U 0, .int .i64 0, .int .i64 0, .int .i64 0, U 0, U 0] 117)) := below1 v1 _
  generalize v1.alloc (.cells #[U 0, .int .i64 0, .int .i64 0, .int .i64 0, U 0, U 0] 117) = Wk at *
  have HGk : Hid (w.heap.size ≤ v1.heap.size) := hbw.size
  replace hbw := Below.on hbw hbn
  clear hbn
  generalize v1.heap.size = gk at *
  have Xk := Xk0
  clear Xk0
  refine bodyPost_ret (v := .tuple #[.int .u64 0, .bool false, .int .i64 1]) (by rw [results_t3t rfl]; go_simp) rfl ⟨rfl, hbw⟩
set_option maxRecDepth 20000 in
set_option maxHeartbeats 8000000 in
theorem docx_l {f : Int} {S : Nat} {P E G : Int} {I Q H O : Nat} {l : Int} (R : Rx f S P E G I Q H O l) {fn : Int} (d1 : decide (fn < 4) = true) (b : Nat) (w : World) :
    Calls Tryz.prog 27 #[.int .i64 f, .int .i64 fn, U b] w fun en w' => en = .returned (.tuple #[.int .u64 0, .bool false, .int .i64 1]) ∧ Below w.heap.size w w' := by
  have hbw : Below w.heap.size w w := Below.refl _ _
  have HX : Hid (Rx f S P E G I Q H O l) := R
  clear R
  go_enter Tryz.func27, Tryz.ntmps27
  go_wp2_with fail
  refine (HX.out.rf.of _).mono ?_
  rintro e v1 ⟨rfl, hb1⟩
  replace hbw := Below.on hbw hb1
  clear hb1
  go_wp2_with fail
  have Xk0 : Hid (B6q (v1.alloc (.cells #[U S, .int .i64 P, .int .i64 E, .int .i64 G, U I, U Q] 117)) v1.heap.size (U S) (.int .i64 P) (.int .i64 E) (.int .i64 G) (U I) (U Q)) := B6q.new v1 _ _ _ _ _ _ _
  have hbn : Below v1.heap.size v1 (v1.alloc (.cells #[U S, .int .i64 P, .int .i64 E, .int .i64 G, U I, U Q] 117)) := below1 v1 _
  generalize v1.alloc (.cells #[U S, .int .i64 P, .int .i64 E, .int .i64 G, U I, U Q] 117) = Wk at *
  have HGk : Hid (w.heap.size ≤ v1.heap.size) := hbw.size
  replace hbw := Below.on hbw hbn
  clear hbn
  generalize v1.heap.size = gk at *
  have Xk := Xk0
  clear Xk0
  refine bodyPost_ret (v := .tuple #[.int .u64 0, .bool false, .int .i64 1]) (by rw [results_t3t rfl]; go_simp) rfl ⟨rfl, hbw⟩
set_option maxRecDepth 20000 in
set_option maxHeartbeats 8000000 in
theorem docx_h {f : Int} {S : Nat} {P E G : Int} {I Q H O : Nat} {l : Int} (R : Rx f S P E G I Q H O l) {fn : Int} (d1 : decide (fn < 4) = false) (d2 : decide (6 < fn) = true) (b : Nat) (w : World) :
    Calls Tryz.prog 27 #[.int .i64 f, .int .i64 fn, U b] w fun en w' => en = .returned (.tuple #[.int .u64 0, .bool false, .int .i64 1]) ∧ Below w.heap.size w w' := by
  have hbw : Below w.heap.size w w := Below.refl _ _
  have HX : Hid (Rx f S P E G I Q H O l) := R
  clear R
  go_enter Tryz.func27, Tryz.ntmps27
  go_wp2_with fail
  refine (HX.out.rf.of _).mono ?_
  rintro e v1 ⟨rfl, hb1⟩
  replace hbw := Below.on hbw hb1
  clear hb1
  go_wp2_with fail
  have Xk0 : Hid (B6q (v1.alloc (.cells #[U S, .int .i64 P, .int .i64 E, .int .i64 G, U I, U Q] 117)) v1.heap.size (U S) (.int .i64 P) (.int .i64 E) (.int .i64 G) (U I) (U Q)) := B6q.new v1 _ _ _ _ _ _ _
  have hbn : Below v1.heap.size v1 (v1.alloc (.cells #[U S, .int .i64 P, .int .i64 E, .int .i64 G, U I, U Q] 117)) := below1 v1 _
  generalize v1.alloc (.cells #[U S, .int .i64 P, .int .i64 E, .int .i64 G, U I, U Q] 117) = Wk at *
  have HGk : Hid (w.heap.size ≤ v1.heap.size) := hbw.size
  replace hbw := Below.on hbw hbn
  clear hbn
  generalize v1.heap.size = gk at *
  have Xk := Xk0
  clear Xk0
  refine bodyPost_ret (v := .tuple #[.int .u64 0, .bool false, .int .i64 1]) (by rw [results_t3t rfl]; go_simp) rfl ⟨rfl, hbw⟩
set_option maxRecDepth 20000 in
set_option maxHeartbeats 8000000 in
theorem docx_b {f : Int} {S : Nat} {P E G : Int} {I Q H O : Nat} {l : Int} (R : Rx f S P E G I Q H O l) {fn : Int} (hfn : fn = 4 ∨ fn = 5 ∨ fn = 6) {b : Nat} (hb9 : b < B64) (hb : 2 * S ≤ b) (w : World) :
    Calls Tryz.prog 27 #[.int .i64 f, .int .i64 fn, U b] w fun en w' => en = .returned (.tuple #[.int .u64 0, .bool false, .int .i64 2]) ∧ Below w.heap.size w w' := by
  have hbw : Below w.heap.size w w := Below.refl _ _
  have HX : Hid (Rx f S P E G I Q H O l ∧ b < B64 ∧ 2 * S ≤ b) := ⟨R, hb9, hb⟩
  have d1 : decide (fn < 4) = false := decide_eq_false (by omega)
  have d2 : decide (6 < fn) = false := decide_eq_false (by omega)
  have d3 : wrap64 fn = fn := by simp only [wrap64]; omega
  have d4 : IntKind.i64.wrap fn = fn := by simp [IntKind.wrap, IntKind.signed, IntKind.bits]; omega
  clear R hfn hb9 hb
  go_enter Tryz.func27, Tryz.ntmps27
  go_wp2_with fail
  refine (HX.out.1.rf.of _).mono ?_
  rintro e v1 ⟨rfl, hb1⟩
  replace hbw := Below.on hbw hb1
  clear hb1
  go_wp2_with fail
  have Xk0 : Hid (B6q (v1.alloc (.cells #[U S, .int .i64 P, .int .i64 E, .int .i64 G, U I, U Q] 117)) v1.heap.size (U S) (.int .i64 P) (.int .i64 E) (.int .i64 G) (U I) (U Q)) := B6q.new v1 _ _ _ _ _ _ _
  have hbn : Below v1.heap.size v1 (v1.alloc (.cells #[U S, .int .i64 P, .int .i64 E, .int .i64 G, U I, U Q] 117)) := below1 v1 _
  generalize v1.alloc (.cells #[U S, .int .i64 P, .int .i64 E, .int .i64 G, U I, U Q] 117) = Wk at *
  have HGk : Hid (w.heap.size ≤ v1.heap.size) := hbw.size
  replace hbw := Below.on hbw hbn
  clear hbn
  generalize v1.heap.size = gk at *
  have Xk := Xk0
  clear Xk0
  refine (check_big HX.out.1.rf b HX.out.2.1 HX.out.2.2 _).mono ?_
  rintro e v2 ⟨rfl, hb2⟩
  replace Xk : Hid _ := Xk.out.below hb2
  replace hbw := Below.on hbw hb2
  clear hb2
  go_wp2_with fail
  refine bodyPost_ret (v := .tuple #[.int .u64 0, .bool false, .int .i64 2]) (by rw [results_t3t rfl]; go_simp) rfl ⟨rfl, hbw⟩
set_option maxRecDepth 20000 in
set_option maxHeartbeats 8000000 in
theorem docx_c {f : Int} {S : Nat} {P E G : Int} {I Q H O : Nat} {l : Int} (R : Rx f S P E G I Q H O l) {fn : Int} (hfn : fn = 4 ∨ fn = 5 ∨ fn = 6) {b : Nat} (hb : b < 2 * S) (hr : I ≤ b % S) (w : World) :
    Calls Tryz.prog 27 #[.int .i64 f, .int .i64 fn, U b] w fun en w' => en = .returned (.tuple #[U Q, .bool true, .int .i64 0]) ∧ Below w.heap.size w w' := by
  have hbw : Below w.heap.size w w := Below.refl _ _
  have HX : Hid (Rx f S P E G I Q H O l ∧ b < 2 * S) := ⟨R, hb⟩
  have d1 : decide (fn < 4) = false := decide_eq_false (by omega)
  have d2 : decide (6 < fn) = false := decide_eq_false (by omega)
  have d3 : wrap64 fn = fn := by simp only [wrap64]; omega
  have d4 : IntKind.i64.wrap fn = fn := by simp [IntKind.wrap, IntKind.signed, IntKind.bits]; omega
  obtain ⟨s, hs⟩ : ∃ s, s = b % S := ⟨_, rfl⟩
  obtain ⟨neg, hneg⟩ : ∃ neg, neg = decide (S ≤ b) := ⟨_, rfl⟩
  have HZ : Hid (decide (S ≤ b) = neg ∧ b % S = s) := ⟨hneg.symm, hs.symm⟩
  have k0 : decide ((I : Int) ≤ (s : Int)) = true := decide_eq_true (by omega)
  have k1 : decide (I ≤ s) = true := decide_eq_true (by omega)
  clear R hfn hb hr hs hneg
  go_enter Tryz.func27, Tryz.ntmps27
  go_wp2_with fail
  refine (HX.out.1.rf.of _).mono ?_
  rintro e v1 ⟨rfl, hb1⟩
  replace hbw := Below.on hbw hb1
  clear hb1
  go_wp2_with fail
  have Xk0 : Hid (B6q (v1.alloc (.cells #[U S, .int .i64 P, .int .i64 E, .int .i64 G, U I, U Q] 117)) v1.heap.size (U S) (.int .i64 P) (.int .i64 E) (.int .i64 G) (U I) (U Q)) := B6q.new v1 _ _ _ _ _ _ _
  have hbn : Below v1.heap.size v1 (v1.alloc (.cells #[U S, .int .i64 P, .int .i64 E, .int .i64 G, U I, U Q] 117)) := below1 v1 _
  generalize v1.alloc (.cells #[U S, .int .i64 P, .int .i64 E, .int .i64 G, U I, U Q] 117) = Wk at *
  have HGk : Hid (w.heap.size ≤ v1.heap.size) := hbw.size
  replace hbw := Below.on hbw hbn
  clear hbn
  generalize v1.heap.size = gk at *
  have Xk := Xk0
  clear Xk0
  refine (check_ok HX.out.1.rf b HX.out.2 _).mono ?_
  rintro e v2 ⟨rfl, hb2⟩
  replace Xk : Hid _ := Xk.out.below hb2
  replace hbw := Below.on hbw hb2
  clear hb2
  obtain ⟨ck0, ck1, ck2, ck3, ck4, ck5, fk0, fk1, fk2, fk3, fk4, fk5⟩ := Xk.out
  have hnek : gk < v2.heap.size := World.block_lt_of_cell? v2 _ ck0
  go_wp2_with fail
  clear ck0 ck1 ck2 ck3 ck4 ck5 fk0 fk1 fk2 fk3 fk4 fk5 hnek
  refine (cut_any (Nat.lt_trans (Nat.lt_trans (by decide) HX.out.1.rf.pos) HX.out.1.rf.lt) HX.out.1.rf.le b _).mono ?_
  rintro e v3 ⟨rfl, hb3⟩
  rw [HZ.out.1, HZ.out.2]
  replace Xk : Hid _ := Xk.out.below hb3
  replace hbw := Below.on hbw hb3
  clear hb3
  obtain ⟨ck0, ck1, ck2, ck3, ck4, ck5, fk0, fk1, fk2, fk3, fk4, fk5⟩ := Xk.out
  have hnek : gk < v3.heap.size := World.block_lt_of_cell? v3 _ ck0
  go_wp2_with fail
  clear ck0 ck1 ck2 ck3 ck4 ck5 fk0 fk1 fk2 fk3 fk4 fk5 hnek
  refine bodyPost_ret (v := .tuple #[U Q, .bool true, .int .i64 0]) (by rw [results_t3t rfl]; go_simp) rfl ⟨rfl, hbw⟩
set_option maxRecDepth 20000 in
set_option maxHeartbeats 8000000 in
theorem docx_z5 {f : Int} {S : Nat} {P E G : Int} {I Q H O : Nat} {l : Int} (R : Rx f S P E G I Q H O l) {fn : Int} (_hfn : fn = 4 ∨ fn = 5 ∨ fn = 6) (hf5 : fn = 5) {b : Nat} (hb : b < 2 * S) (hr : b % S = 0) (w : World) :
    Calls Tryz.prog 27 #[.int .i64 f, .int .i64 fn, U b] w fun en w' => en = .returned (.tuple #[U O, .bool true, .int .i64 0]) ∧ Below w.heap.size w w' := by
  have hbw : Below w.heap.size w w := Below.refl _ _
  have HX : Hid (Rx f S P E G I Q H O l ∧ b < 2 * S) := ⟨R, hb⟩
  have d1 : decide (fn < 4) = false := decide_eq_false (by omega)
  have d2 : decide (6 < fn) = false := decide_eq_false (by omega)
  have d3 : wrap64 fn = fn := by simp only [wrap64]; omega
  have d4 : IntKind.i64.wrap fn = fn := by simp [IntKind.wrap, IntKind.signed, IntKind.bits]; omega
  obtain ⟨neg, hneg⟩ : ∃ neg, neg = decide (S ≤ b) := ⟨_, rfl⟩
  have HZ : Hid (decide (S ≤ b) = neg ∧ b % S = 0) := ⟨hneg.symm, hr⟩
  have k0 : decide ((I : Int) ≤ 0) = false := decide_eq_false (by have := R.rf.pos; omega)
  have k1 : decide (I ≤ 0) = false := decide_eq_false (by have := R.rf.pos; omega)
  have k3 : decide (I = 0) = false := decide_eq_false (by have := R.rf.pos; omega)
  have k2 : (fn == 5) = true := by simp [hf5]
  clear R _hfn hb hr hneg hf5
  go_enter Tryz.func27, Tryz.ntmps27
  go_wp2_with fail
  refine (HX.out.1.rf.of _).mono ?_
  rintro e v1 ⟨rfl, hb1⟩
  replace hbw := Below.on hbw hb1
  clear hb1
  go_wp2_with fail
  have Xk0 : Hid (B6q (v1.alloc (.cells #[U S, .int .i64 P, .int .i64 E, .int .i64 G, U I, U Q] 117)) v1.heap.size (U S) (.int .i64 P) (.int .i64 E) (.int .i64 G) (U I) (U Q)) := B6q.new v1 _ _ _ _ _ _ _
  have hbn : Below v1.heap.size v1 (v1.alloc (.cells #[U S, .int .i64 P, .int .i64 E, .int .i64 G, U I, U Q] 117)) := below1 v1 _
  generalize v1.alloc (.cells #[U S, .int .i64 P, .int .i64 E, .int .i64 G, U I, U Q] 117) = Wk at *
  have HGk : Hid (w.heap.size ≤ v1.heap.size) := hbw.size
  replace hbw := Below.on hbw hbn
  clear hbn
  generalize v1.heap.size = gk at *
  have Xk := Xk0
  clear Xk0
  refine (check_ok HX.out.1.rf b HX.out.2 _).mono ?_
  rintro e v2 ⟨rfl, hb2⟩
  replace Xk : Hid _ := Xk.out.below hb2
  replace hbw := Below.on hbw hb2
  clear hb2
  obtain ⟨ck0, ck1, ck2, ck3, ck4, ck5, fk0, fk1, fk2, fk3, fk4, fk5⟩ := Xk.out
  have hnek : gk < v2.heap.size := World.block_lt_of_cell? v2 _ ck0
  go_wp2_with fail
  clear ck0 ck1 ck2 ck3 ck4 ck5 fk0 fk1 fk2 fk3 fk4 fk5 hnek
  refine (cut_any (Nat.lt_trans (Nat.lt_trans (by decide) HX.out.1.rf.pos) HX.out.1.rf.lt) HX.out.1.rf.le b _).mono ?_
  rintro e v3 ⟨rfl, hb3⟩
  rw [HZ.out.1, HZ.out.2]
  replace Xk : Hid _ := Xk.out.below hb3
  replace hbw := Below.on hbw hb3
  clear hb3
  obtain ⟨ck0, ck1, ck2, ck3, ck4, ck5, fk0, fk1, fk2, fk3, fk4, fk5⟩ := Xk.out
  have hnek : gk < v3.heap.size := World.block_lt_of_cell? v3 _ ck0
  go_wp2_with fail
  clear ck0 ck1 ck2 ck3 ck4 ck5 fk0 fk1 fk2 fk3 fk4 fk5 hnek
  refine (HX.out.1.one _).mono ?_
  rintro e v4 ⟨rfl, hb4⟩
  replace Xk : Hid _ := Xk.out.below hb4
  replace hbw := Below.on hbw hb4
  clear hb4
  go_wp2_with fail
  refine bodyPost_ret (v := .tuple #[U O, .bool true, .int .i64 0]) (by rw [results_t3t rfl]; go_simp) rfl ⟨rfl, hbw⟩
set_option maxRecDepth 20000 in
set_option maxHeartbeats 8000000 in
theorem docx_zn {f : Int} {S : Nat} {P E G : Int} {I Q H O : Nat} {l : Int} (R : Rx f S P E G I Q H O l) {fn : Int} (hfn : fn = 4 ∨ fn = 5 ∨ fn = 6) (hf5 : fn ≠ 5) {b : Nat} (hb : b < 2 * S) (hr : b % S = 0) (w : World) :
    Calls Tryz.prog 27 #[.int .i64 f, .int .i64 fn, U b] w fun en w' => en = .returned (.tuple #[U b, .bool true, .int .i64 0]) ∧ Below w.heap.size w w' := by
  have hbw : Below w.heap.size w w := Below.refl _ _
  have HX : Hid (Rx f S P E G I Q H O l ∧ b < 2 * S) := ⟨R, hb⟩
  have d1 : decide (fn < 4) = false := decide_eq_false (by omega)
  have d2 : decide (6 < fn) = false := decide_eq_false (by omega)
  have d3 : wrap64 fn = fn := by simp only [wrap64]; omega
  have d4 : IntKind.i64.wrap fn = fn := by simp [IntKind.wrap, IntKind.signed, IntKind.bits]; omega
  obtain ⟨neg, hneg⟩ : ∃ neg, neg = decide (S ≤ b) := ⟨_, rfl⟩
  have HZ : Hid (decide (S ≤ b) = neg ∧ b % S = 0) := ⟨hneg.symm, hr⟩
  have k0 : decide ((I : Int) ≤ 0) = false := decide_eq_false (by have := R.rf.pos; omega)
  have k1 : decide (I ≤ 0) = false := decide_eq_false (by have := R.rf.pos; omega)
  have k3 : decide (I = 0) = false := decide_eq_false (by have := R.rf.pos; omega)
  have k2 : (fn == 5) = false := by simp [hf5]
  clear R hfn hb hr hneg hf5
  go_enter Tryz.func27, Tryz.ntmps27
  go_wp2_with fail
  refine (HX.out.1.rf.of _).mono ?_
  rintro e v1 ⟨rfl, hb1⟩
  replace hbw := Below.on hbw hb1
  clear hb1
  go_wp2_with fail
  have Xk0 : Hid (B6q (v1.alloc (.cells #[U S, .int .i64 P, .int .i64 E, .int .i64 G, U I, U Q] 117)) v1.heap.size (U S) (.int .i64 P) (.int .i64 E) (.int .i64 G) (U I) (U Q)) := B6q.new v1 _ _ _ _ _ _ _
  have hbn : Below v1.heap.size v1 (v1.alloc (.cells #[U S, .int .i64 P, .int .i64 E, .int .i64 G, U I, U Q] 117)) := below1 v1 _
  generalize v1.alloc (.cells #[U S, .int .i64 P, .int .i64 E, .int .i64 G, U I, U Q] 117) = Wk at *
  have HGk : Hid (w.heap.size ≤ v1.heap.size) := hbw.size
  replace hbw := Below.on hbw hbn
  clear hbn
  generalize v1.heap.size = gk at *
  have Xk := Xk0
  clear Xk0
  refine (check_ok HX.out.1.rf b HX.out.2 _).mono ?_
  rintro e v2 ⟨rfl, hb2⟩
  replace Xk : Hid _ := Xk.out.below hb2
  replace hbw := Below.on hbw hb2
  clear hb2
  obtain ⟨ck0, ck1, ck2, ck3, ck4, ck5, fk0, fk1, fk2, fk3, fk4, fk5⟩ := Xk.out
  have hnek : gk < v2.heap.size := World.block_lt_of_cell? v2 _ ck0
  go_wp2_with fail
  clear ck0 ck1 ck2 ck3 ck4 ck5 fk0 fk1 fk2 fk3 fk4 fk5 hnek
  refine (cut_any (Nat.lt_trans (Nat.lt_trans (by decide) HX.out.1.rf.pos) HX.out.1.rf.lt) HX.out.1.rf.le b _).mono ?_
  rintro e v3 ⟨rfl, hb3⟩
  rw [HZ.out.1, HZ.out.2]
  replace Xk : Hid _ := Xk.out.below hb3
  replace hbw := Below.on hbw hb3
  clear hb3
  obtain ⟨ck0, ck1, ck2, ck3, ck4, ck5, fk0, fk1, fk2, fk3, fk4, fk5⟩ := Xk.out
  have hnek : gk < v3.heap.size := World.block_lt_of_cell? v3 _ ck0
  go_wp2_with fail
  clear ck0 ck1 ck2 ck3 ck4 ck5 fk0 fk1 fk2 fk3 fk4 fk5 hnek
  refine bodyPost_ret (v := .tuple #[U b, .bool true, .int .i64 0]) (by rw [results_t3t rfl]; go_simp) rfl ⟨rfl, hbw⟩
set_option maxRecDepth 20000 in
set_option maxHeartbeats 8000000 in
theorem docx_n {f : Int} {S : Nat} {P E G : Int} {I Q H O : Nat} {l : Int} (R : Rx f S P E G I Q H O l) {fn : Int} (hfn : fn = 4 ∨ fn = 5 ∨ fn = 6) {b : Nat} {z e : Int} (hb : b < 2 * S) (hr : b % S < I) (h0 : b % S ≠ 0) (hv : VF S H l b z e) (he : e < -2) (w : World) :
    Calls Tryz.prog 27 #[.int .i64 f, .int .i64 fn, U b] w fun en w' => en = .returned (.tuple #[.int .u64 0, .bool false, .int .i64 0]) ∧ Below w.heap.size w w' := by
  have hbw : Below w.heap.size w w := Below.refl _ _
  have HX : Hid (Rx f S P E G I Q H O l ∧ b < 2 * S) := ⟨R, hb⟩
  have d1 : decide (fn < 4) = false := decide_eq_false (by omega)
  have d2 : decide (6 < fn) = false := decide_eq_false (by omega)
  have d3 : wrap64 fn = fn := by simp only [wrap64]; omega
  have d4 : IntKind.i64.wrap fn = fn := by simp [IntKind.wrap, IntKind.signed, IntKind.bits]; omega
  obtain ⟨s, hs⟩ : ∃ s, s = b % S := ⟨_, rfl⟩
  obtain ⟨neg, hneg⟩ : ∃ neg, neg = decide (S ≤ b) := ⟨_, rfl⟩
  have HZ : Hid (decide (S ≤ b) = neg ∧ b % S = s) := ⟨hneg.symm, hs.symm⟩
  have k0 : decide ((I : Int) ≤ (s : Int)) = false := decide_eq_false (by omega)
  have k1 : decide (I ≤ s) = false := decide_eq_false (by omega)
  have k2 : ((s : Int) == 0) = false := by simp; omega
  have HV : Hid (b % S < I ∧ VF S H l b z e ∧ e < -2) := ⟨hr, hv, he⟩
  clear R hfn hb hr h0 hv he hs hneg
  go_enter Tryz.func27, Tryz.ntmps27
  go_wp2_with fail
  refine (HX.out.1.rf.of _).mono ?_
  rintro e v1 ⟨rfl, hb1⟩
  replace hbw := Below.on hbw hb1
  clear hb1
  go_wp2_with fail
  have Xk0 : Hid (B6q (v1.alloc (.cells #[U S, .int .i64 P, .int .i64 E, .int .i64 G, U I, U Q] 117)) v1.heap.size (U S) (.int .i64 P) (.int .i64 E) (.int .i64 G) (U I) (U Q)) := B6q.new v1 _ _ _ _ _ _ _
  have hbn : Below v1.heap.size v1 (v1.alloc (.cells #[U S, .int .i64 P, .int .i64 E, .int .i64 G, U I, U Q] 117)) := below1 v1 _
  generalize v1.alloc (.cells #[U S, .int .i64 P, .int .i64 E, .int .i64 G, U I, U Q] 117) = Wk at *
  have HGk : Hid (w.heap.size ≤ v1.heap.size) := hbw.size
  replace hbw := Below.on hbw hbn
  clear hbn
  generalize v1.heap.size = gk at *
  have Xk := Xk0
  clear Xk0
  refine (check_ok HX.out.1.rf b HX.out.2 _).mono ?_
  rintro e v2 ⟨rfl, hb2⟩
  replace Xk : Hid _ := Xk.out.below hb2
  replace hbw := Below.on hbw hb2
  clear hb2
  obtain ⟨ck0, ck1, ck2, ck3, ck4, ck5, fk0, fk1, fk2, fk3, fk4, fk5⟩ := Xk.out
  have hnek : gk < v2.heap.size := World.block_lt_of_cell? v2 _ ck0
  go_wp2_with fail
  clear ck0 ck1 ck2 ck3 ck4 ck5 fk0 fk1 fk2 fk3 fk4 fk5 hnek
  refine (cut_any (Nat.lt_trans (Nat.lt_trans (by decide) HX.out.1.rf.pos) HX.out.1.rf.lt) HX.out.1.rf.le b _).mono ?_
  rintro e v3 ⟨rfl, hb3⟩
  rw [HZ.out.1, HZ.out.2]
  replace Xk : Hid _ := Xk.out.below hb3
  replace hbw := Below.on hbw hb3
  clear hb3
  obtain ⟨ck0, ck1, ck2, ck3, ck4, ck5, fk0, fk1, fk2, fk3, fk4, fk5⟩ := Xk.out
  have hnek : gk < v3.heap.size := World.block_lt_of_cell? v3 _ ck0
  go_wp2_with fail
  clear ck0 ck1 ck2 ck3 ck4 ck5 fk0 fk1 fk2 fk3 fk4 fk5 hnek
  refine (HX.out.1.en HV.out.1 HV.out.2.1 HV.out.2.2 _).mono ?_
  rintro e v4 ⟨rfl, hb4⟩
  replace Xk : Hid _ := Xk.out.below hb4
  replace hbw := Below.on hbw hb4
  clear hb4
  go_wp2_with fail
  refine bodyPost_ret (v := .tuple #[.int .u64 0, .bool false, .int .i64 0]) (by rw [results_t3t rfl]; go_simp) rfl ⟨rfl, hbw⟩
set_option maxRecDepth 20000 in
set_option maxHeartbeats 8000000 in
theorem docx_y {f : Int} {S : Nat} {P E G : Int} {I Q H O : Nat} {l : Int} (R : Rx f S P E G I Q H O l) {fn : Int} (hfn : fn = 4 ∨ fn = 5 ∨ fn = 6) {b : Nat} {z e : Int} (hb : b < 2 * S) (hr : b % S < I) (h0 : b % S ≠ 0) (hv : VF S H l b z e) {N j v : Nat} (he : -2 ≤ e) (hN : (N : Int) = min e 9 + 2) (hj : z * 2 ^ N % 8 = (j : Int)) (hj8 : j < 8) (hvv : (dL fn S I O (decide (S ≤ b)))[j]? = some v) (hok : decide (fn = 6 ∨ j % 2 = 0) = true) (w : World) :
    Calls Tryz.prog 27 #[.int .i64 f, .int .i64 fn, U b] w fun en w' => en = .returned (.tuple #[U v, .bool true, .int .i64 0]) ∧ Below w.heap.size w w' := by
  have hbw : Below w.heap.size w w := Below.refl _ _
  have HX : Hid (Rx f S P E G I Q H O l ∧ b < 2 * S) := ⟨R, hb⟩
  have d1 : decide (fn < 4) = false := decide_eq_false (by omega)
  have d2 : decide (6 < fn) = false := decide_eq_false (by omega)
  have d3 : wrap64 fn = fn := by simp only [wrap64]; omega
  have d4 : IntKind.i64.wrap fn = fn := by simp [IntKind.wrap, IntKind.signed, IntKind.bits]; omega
  obtain ⟨s, hs⟩ : ∃ s, s = b % S := ⟨_, rfl⟩
  obtain ⟨neg, hneg⟩ : ∃ neg, neg = decide (S ≤ b) := ⟨_, rfl⟩
  have HZ : Hid (decide (S ≤ b) = neg ∧ b % S = s) := ⟨hneg.symm, hs.symm⟩
  have k0 : decide ((I : Int) ≤ (s : Int)) = false := decide_eq_false (by omega)
  have k1 : decide (I ≤ s) = false := decide_eq_false (by omega)
  have k2 : ((s : Int) == 0) = false := by simp; omega
  rw [← hneg] at hvv
  have HV : Hid (b % S < I ∧ VF S H l b z e ∧ -2 ≤ e ∧ (N : Int) = min e 9 + 2) := ⟨hr, hv, he, hN⟩
  have HY : Hid ((fn = 4 ∨ fn = 5 ∨ fn = 6) ∧ j < 8 ∧ (dL fn S I O neg)[j]? = some v ∧ decide (fn = 6 ∨ j % 2 = 0) = true ∧ z * 2 ^ N % 8 = (j : Int)) := ⟨hfn, hj8, hvv, hok, hj⟩
  clear R hfn hb hr h0 hv he hs hneg hN hj hj8 hvv hok
  go_enter Tryz.func27, Tryz.ntmps27
  go_wp2_with fail
  refine (HX.out.1.rf.of _).mono ?_
  rintro e v1 ⟨rfl, hb1⟩
  replace hbw := Below.on hbw hb1
  clear hb1
  go_wp2_with fail
  have Xk0 : Hid (B6q (v1.alloc (.cells #[U S, .int .i64 P, .int .i64 E, .int .i64 G, U I, U Q] 117)) v1.heap.size (U S) (.int .i64 P) (.int .i64 E) (.int .i64 G) (U I) (U Q)) := B6q.new v1 _ _ _ _ _ _ _
  have hbn : Below v1.heap.size v1 (v1.alloc (.cells #[U S, .int .i64 P, .int .i64 E, .int .i64 G, U I, U Q] 117)) := below1 v1 _
  generalize v1.alloc (.cells #[U S, .int .i64 P, .int .i64 E, .int .i64 G, U I, U Q] 117) = Wk at *
  have HGk : Hid (w.heap.size ≤ v1.heap.size) := hbw.size
  replace hbw := Below.on hbw hbn
  clear hbn
  generalize v1.heap.size = gk at *
  have Xk := Xk0
  clear Xk0
  refine (check_ok HX.out.1.rf b HX.out.2 _).mono ?_
  rintro e v2 ⟨rfl, hb2⟩
  replace Xk : Hid _ := Xk.out.below hb2
  replace hbw := Below.on hbw hb2
  clear hb2
  obtain ⟨ck0, ck1, ck2, ck3, ck4, ck5, fk0, fk1, fk2, fk3, fk4, fk5⟩ := Xk.out
  have hnek : gk < v2.heap.size := World.block_lt_of_cell? v2 _ ck0
  go_wp2_with fail
  clear ck0 ck1 ck2 ck3 ck4 ck5 fk0 fk1 fk2 fk3 fk4 fk5 hnek
  refine (cut_any (Nat.lt_trans (Nat.lt_trans (by decide) HX.out.1.rf.pos) HX.out.1.rf.lt) HX.out.1.rf.le b _).mono ?_
  rintro e v3 ⟨rfl, hb3⟩
  rw [HZ.out.1, HZ.out.2]
  replace Xk : Hid _ := Xk.out.below hb3
  replace hbw := Below.on hbw hb3
  clear hb3
  obtain ⟨ck0, ck1, ck2, ck3, ck4, ck5, fk0, fk1, fk2, fk3, fk4, fk5⟩ := Xk.out
  have hnek : gk < v3.heap.size := World.block_lt_of_cell? v3 _ ck0
  go_wp2_with fail
  clear ck0 ck1 ck2 ck3 ck4 ck5 fk0 fk1 fk2 fk3 fk4 fk5 hnek
  refine (HX.out.1.ey HV.out.1 HV.out.2.1 HV.out.2.2.1 HV.out.2.2.2 _).mono ?_
  rintro e v4 ⟨rfl, hb4⟩
  rw [HY.out.2.2.2.2]
  replace Xk : Hid _ := Xk.out.below hb4
  replace hbw := Below.on hbw hb4
  clear hb4
  obtain ⟨ck0, ck1, ck2, ck3, ck4, ck5, fk0, fk1, fk2, fk3, fk4, fk5⟩ := Xk.out
  have hnek : gk < v4.heap.size := World.block_lt_of_cell? v4 _ ck0
  go_wp2_with fail
  clear ck0 ck1 ck2 ck3 ck4 ck5 fk0 fk1 fk2 fk3 fk4 fk5 hnek
  refine (HX.out.1.x HY.out.1 neg j HY.out.2.1 v HY.out.2.2.1 _).mono ?_
  rintro e v5 ⟨rfl, hb5⟩
  rw [HY.out.2.2.2.1]
  replace Xk : Hid _ := Xk.out.below hb5
  replace hbw := Below.on hbw hb5
  clear hb5
  go_wp2_with fail
  refine bodyPost_ret (v := .tuple #[U v, .bool true, .int .i64 0]) (by rw [results_t3t rfl]; go_simp) rfl ⟨rfl, hbw⟩
set_option maxRecDepth 20000 in
set_option maxHeartbeats 8000000 in
theorem docx_o {f : Int} {S : Nat} {P E G : Int} {I Q H O : Nat} {l : Int} (R : Rx f S P E G I Q H O l) {fn : Int} (hfn : fn = 4 ∨ fn = 5 ∨ fn = 6) {b : Nat} {z e : Int} (hb : b < 2 * S) (hr : b % S < I) (h0 : b % S ≠ 0) (hv : VF S H l b z e) {N j v : Nat} (he : -2 ≤ e) (hN : (N : Int) = min e 9 + 2) (hj : z * 2 ^ N % 8 = (j : Int)) (hj8 : j < 8) (hvv : (dL fn S I O (decide (S ≤ b)))[j]? = some v) (hok : decide (fn = 6 ∨ j % 2 = 0) = false) (w : World) :
    Calls Tryz.prog 27 #[.int .i64 f, .int .i64 fn, U b] w fun en w' => en = .returned (.tuple #[.int .u64 0, .bool false, .int .i64 0]) ∧ Below w.heap.size w w' := by
  have hbw : Below w.heap.size w w := Below.refl _ _
  have HX : Hid (Rx f S P E G I Q H O l ∧ b < 2 * S) := ⟨R, hb⟩
  have d1 : decide (fn < 4) = false := decide_eq_false (by omega)
  have d2 : decide (6 < fn) = false := decide_eq_false (by omega)
  have d3 : wrap64 fn = fn := by simp only [wrap64]; omega
  have d4 : IntKind.i64.wrap fn = fn := by simp [IntKind.wrap, IntKind.signed, IntKind.bits]; omega
  obtain ⟨s, hs⟩ : ∃ s, s = b % S := ⟨_, rfl⟩
  obtain ⟨neg, hneg⟩ : ∃ neg, neg = decide (S ≤ b) := ⟨_, rfl⟩
  have HZ : Hid (decide (S ≤ b) = neg ∧ b % S = s) := ⟨hneg.symm, hs.symm⟩
  have k0 : decide ((I : Int) ≤ (s : Int)) = false := decide_eq_false (by omega)
  have k1 : decide (I ≤ s) = false := decide_eq_false (by omega)
  have k2 : ((s : Int) == 0) = false := by simp; omega
  rw [← hneg] at hvv
  have HV : Hid (b % S < I ∧ VF S H l b z e ∧ -2 ≤ e ∧ (N : Int) = min e 9 + 2) := ⟨hr, hv, he, hN⟩
  have HY : Hid ((fn = 4 ∨ fn = 5 ∨ fn = 6) ∧ j < 8 ∧ (dL fn S I O neg)[j]? = some v ∧ decide (fn = 6 ∨ j % 2 = 0) = false ∧ z * 2 ^ N % 8 = (j : Int)) := ⟨hfn, hj8, hvv, hok, hj⟩
  clear R hfn hb hr h0 hv he hs hneg hN hj hj8 hvv hok
  go_enter Tryz.func27, Tryz.ntmps27
  go_wp2_with fail
  refine (HX.out.1.rf.of _).mono ?_
  rintro e v1 ⟨rfl, hb1⟩
  replace hbw := Below.on hbw hb1
  clear hb1
  go_wp2_with fail
  have Xk0 : Hid (B6q (v1.alloc (.cells #[U S, .int .i64 P, .int .i64 E, .int .i64 G, U I, U Q] 117)) v1.heap.size (U S) (.int .i64 P) (.int .i64 E) (.int .i64 G) (U I) (U Q)) := B6q.new v1 _ _ _ _ _ _ _
  have hbn : Below v1.heap.size v1 (v1.alloc (.cells #[U S, .int .i64 P, .int .i64 E, .int .i64 G, U I, U Q] 117)) := below1 v1 _
  generalize v1.alloc (.cells #[U S, .int .i64 P, .int .i64 E, .int .i64 G, U I, U Q] 117) = Wk at *
  have HGk : Hid (w.heap.size ≤ v1.heap.size) := hbw.size
  replace hbw := Below.on hbw hbn
  clear hbn
  generalize v1.heap.size = gk at *
  have Xk := Xk0
  clear Xk0
  refine (check_ok HX.out.1.rf b HX.out.2 _).mono ?_
  rintro e v2 ⟨rfl, hb2⟩
  replace Xk : Hid _ := Xk.out.below hb2
  replace hbw := Below.on hbw hb2
  clear hb2
  obtain ⟨ck0, ck1, ck2, ck3, ck4, ck5, fk0, fk1, fk2, fk3, fk4, fk5⟩ := Xk.out
  have hnek : gk < v2.heap.size := World.block_lt_of_cell? v2 _ ck0
  go_wp2_with fail
  clear ck0 ck1 ck2 ck3 ck4 ck5 fk0 fk1 fk2 fk3 fk4 fk5 hnek
  refine (cut_any (Nat.lt_trans (Nat.lt_trans (by decide) HX.out.1.rf.pos) HX.out.1.rf.lt) HX.out.1.rf.le b _).mono ?_
  rintro e v3 ⟨rfl, hb3⟩
  rw [HZ.out.1, HZ.out.2]
  replace Xk : Hid _ := Xk.out.below hb3
  replace hbw := Below.on hbw hb3
  clear hb3
  obtain ⟨ck0, ck1, ck2, ck3, ck4, ck5, fk0, fk1, fk2, fk3, fk4, fk5⟩ := Xk.out
  have hnek : gk < v3.heap.size := World.block_lt_of_cell? v3 _ ck0
  go_wp2_with fail
  clear ck0 ck1 ck2 ck3 ck4 ck5 fk0 fk1 fk2 fk3 fk4 fk5 hnek
  refine (HX.out.1.ey HV.out.1 HV.out.2.1 HV.out.2.2.1 HV.out.2.2.2 _).mono ?_
  rintro e v4 ⟨rfl, hb4⟩
  rw [HY.out.2.2.2.2]
  replace Xk : Hid _ := Xk.out.below hb4
  replace hbw := Below.on hbw hb4
  clear hb4
  obtain ⟨ck0, ck1, ck2, ck3, ck4, ck5, fk0, fk1, fk2, fk3, fk4, fk5⟩ := Xk.out
  have hnek : gk < v4.heap.size := World.block_lt_of_cell? v4 _ ck0
  go_wp2_with fail
  clear ck0 ck1 ck2 ck3 ck4 ck5 fk0 fk1 fk2 fk3 fk4 fk5 hnek
  refine (HX.out.1.x HY.out.1 neg j HY.out.2.1 v HY.out.2.2.1 _).mono ?_
  rintro e v5 ⟨rfl, hb5⟩
  rw [HY.out.2.2.2.1]
  replace Xk : Hid _ := Xk.out.below hb5
  replace hbw := Below.on hbw hb5
  clear hb5
  go_wp2_with fail
  refine bodyPost_ret (v := .tuple #[.int .u64 0, .bool false, .int .i64 0]) (by rw [results_t3t rfl]; go_simp) rfl ⟨rfl, hbw⟩
theorem docx_f {f : Int} {S : Nat} {P E G : Int} {I Q H O : Nat} {l : Int} (R : Rx f S P E G I Q H O l) {fn : Int} (hfn : fn = 4 ∨ fn = 5 ∨ fn = 6) {b : Nat} {z e : Int} (hb : b < 2 * S) (hr : b % S < I) (hv : VF S H l b z e) (w : World) : Calls Tryz.prog 27 #[.int .i64 f, .int .i64 fn, U b] w fun en w' => en = .returned (.tuple #[U (exW fn S I O (decide (S ≤ b)) z e), .bool (exOk fn e), .int .i64 0]) ∧ Below w.heap.size w w' := by
  by_cases h0 : b % S = 0
  · obtain ⟨rfl, rfl⟩ := (vf_z0 R.hH hv).1 h0
    by_cases h5 : fn = 5
    · subst h5
      rw [show exW 5 S I O (decide (S ≤ b)) 0 0 = O from by simp [exW, exOk, exP, exSz, exNg, exQ]]
      exact docx_z5 R hfn rfl hb h0 w
    · rw [show exOk fn 0 = true from decide_eq_true (.inl (by decide)), show exW fn S I O (decide (S ≤ b)) 0 0 = b from by
        have hbe := (pat_eqt hb).1
        rw [h0, Nat.add_zero] at hbe
        have hS0 : S ≠ 0 := by have := R.rf.lt; omega
        rcases hfn with rfl | rfl | rfl
        · by_cases hS : S ≤ b
          · rw [if_pos hS] at hbe; simp [exW, exOk, exP, exSz, exNg, exQ, hS]; omega
          · rw [if_neg hS] at hbe; simp [exW, exOk, exP, exSz, exNg, exQ, hS]; omega
        · exact absurd rfl h5
        · by_cases hS : S ≤ b
          · rw [if_pos hS] at hbe; simp [exW, exOk, exP, exSz, exNg, exQ, hS]; omega
          · rw [if_neg hS] at hbe; simp [exW, exOk, exP, exSz, exNg, exQ, hS]; omega]
      exact docx_zn R hfn h5 hb h0 w
  · have hz := (vf_z0 R.hH hv).2 h0
    by_cases he : e < -2
    · have h1 : exOk fn e = false := decide_eq_false (by omega)
      rw [show exW fn S I O (decide (S ≤ b)) z e = 0 from by unfold exW; rw [h1]; rfl, h1]
      exact docx_n R hfn hb hr h0 hv he w
    · obtain ⟨N, hN⟩ : ∃ N : Nat, (N : Int) = min e 9 + 2 := ⟨(min e 9 + 2).toNat, by omega⟩
      obtain ⟨j, hj, hc⟩ := d_cs hv.fm hz (by omega) hN
      obtain ⟨hj8, v, hvv, h4, h6, hw⟩ := d_ok hfn hc S I O (decide (S ≤ b))
      have hok : exOk fn e = decide (fn = 6 ∨ j % 2 = 0) := by
        by_cases h : fn = 6
        · rw [h6 h, decide_eq_true (.inl h)]
        · rw [h4 h]; simp [h]
      by_cases hk : exOk fn e = true
      · rw [hk, ← hw hk]
        exact docx_y R hfn hb hr h0 hv (by omega) hN hj hj8 hvv (hok ▸ hk) w
      · have hk' : exOk fn e = false := by simpa using hk
        rw [show exW fn S I O (decide (S ≤ b)) z e = 0 from by unfold exW; rw [hk']; rfl, hk']
        exact docx_o R hfn hb hr h0 hv (by omega) hN hj hj8 hvv (hok ▸ hk') w
theorem docx_t {f : Int} {S : Nat} {P E G : Int} {I Q H O : Nat} {l : Int} (R : Rx f S P E G I Q H O l) {fn : Int} (h : fn < 4 ∨ 6 < fn) (b : Nat) (w : World) : Calls Tryz.prog 27 #[.int .i64 f, .int .i64 fn, U b] w fun en w' => en = .returned (.tuple #[.int .u64 0, .bool false, .int .i64 1]) ∧ Below w.heap.size w w' := by
  by_cases h4 : fn < 4
  · exact docx_l R (decide_eq_true h4) b w
  · exact docx_h R (decide_eq_false h4) (decide_eq_true (by omega)) b w
structure Ask17 where
  f : Int
  fn : Int
  b : Nat
  n : Int
structure Scr17 (w : World) (P : Option Addr) (N C : Nat) (its : List Ask17) : Prop where
  len : its.length = N
  cap : N ≤ C
  big : C ≤ maxLen
  ats : ∀ t ∈ its, t.b < B64 ∧ -9223372036854775808 ≤ t.f ∧ t.f ≤ 9223372036854775807 ∧ -9223372036854775808 ≤ t.fn ∧ t.fn ≤ 9223372036854775807
  cells : N = 0 ∨ ∃ g off, P = some ⟨g, off, none⟩ ∧ ∀ i (h : i < its.length), w.cell? ⟨g, off + i * 4, none⟩ = some (.int .i64 its[i].f) ∧ w.cell? ⟨g, off + i * 4 + 1, none⟩ = some (.int .i64 its[i].fn) ∧
    w.cell? ⟨g, off + i * 4 + 2, none⟩ = some (U its[i].b) ∧ w.cell? ⟨g, off + i * 4 + 3, none⟩ = some (.int .i64 its[i].n)
theorem Scr17.below {w w' : World} {P : Option Addr} {N C : Nat} {its : List Ask17} (h : Scr17 w P N C its) (hb : Below w.heap.size w w') : Scr17 w' P N C its := by
  refine ⟨h.len, h.cap, h.big, h.ats, ?_⟩
  rcases h.cells with h0 | ⟨g, off, hP, hc⟩
  · exact .inl h0
  · refine .inr ⟨g, off, hP, fun i hi => ?_⟩
    obtain ⟨h0, h1, h2, h3⟩ := hc i hi
    have hl : g < w.heap.size := World.block_lt_of_cell? w _ h0
    exact ⟨(hb.cell (p := ⟨g, off + i * 4, none⟩) hl).trans h0, (hb.cell (p := ⟨g, off + i * 4 + 1, none⟩) hl).trans h1, (hb.cell (p := ⟨g, off + i * 4 + 2, none⟩) hl).trans h2, (hb.cell (p := ⟨g, off + i * 4 + 3, none⟩) hl).trans h3⟩
theorem taken_ok {fn : Int} (h : fn = 4 ∨ fn = 5 ∨ fn = 6) (w : World) : Calls Tryz.prog 52 #[.int .i64 fn] w fun en w' => en = .returned (.bool true) ∧ Below w.heap.size w w' := by
  rcases h with rfl | rfl | rfl
  · exact taken_4 w
  · exact taken_5 w
  · exact taken_6 w
set_option maxRecDepth 20000 in
set_option maxHeartbeats 8000000 in
theorem exact_e {f fn : Int} (hfn : fn = 4 ∨ fn = 5 ∨ fn = 6) {b : Nat} {er : Int} (hB : ∀ w, Calls Tryz.prog 76 #[.int .i64 f, U b] w fun e w' => e = .returned (.tuple #[PV 0 0 0 false 0, .int .i64 er]) ∧ Below w.heap.size w w') (he : er ≠ 0) (h6 : er ≠ 6) (w : World) :
    Calls Tryz.prog 23 #[.int .i64 f, .int .i64 fn, U b] w fun en w' => en = .returned (.tuple #[.int .u64 0, .bool false, .int .i64 er]) ∧ Below w.heap.size w w' := by
  have hbw : Below w.heap.size w w := Below.refl _ _
  have HB : Hid ((fn = 4 ∨ fn = 5 ∨ fn = 6) ∧ er ≠ 0 ∧ ∀ w, Calls Tryz.prog 76 #[.int .i64 f, U b] w fun e w' => e = .returned (.tuple #[PV 0 0 0 false 0, .int .i64 er]) ∧ Below w.heap.size w w') := ⟨hfn, he, hB⟩
  have e1 : (er == 0) = false := by simp [he]
  have e2 : (er == 6) = false := by simp [h6]
  clear hB hfn he h6
  go_enter Tryz.func23, Tryz.ntmps23
  go_wp2_with fail
  refine (taken_ok HB.out.1 _).mono ?_
  rintro e v1 ⟨rfl, hb1⟩
  replace hbw := Below.on hbw hb1
  clear hb1
  go_wp2_with fail
  refine (split_e HB.out.2.2 HB.out.2.1 _).mono ?_
  rintro e v2 ⟨rfl, hb2⟩
  replace hbw := Below.on hbw hb2
  clear hb2
  go_wp2_with fail
  refine bodyPost_ret (v := .tuple #[.int .u64 0, .bool false, .int .i64 er]) (by rw [results_t3t rfl]; go_simp) rfl ⟨rfl, hbw⟩
theorem both_fm {f p m l : Int} {S I H sd : Nat} {Be : Int} {O Q : Nat} {P E G : Int} (J : Jt f p m l S I H sd Be O Q) (R : Rx f S P E G I Q H O l) {fn : Int} (hfn : fn = 4 ∨ fn = 5 ∨ fn = 6) {b : Nat} (hb9 : b < B64) : ∃ (V : Nat) (yes : Bool) (er : Int), (er = 0 ∨ er = 1 ∨ er = 2) ∧ (∀ w, Tab w → Calls Tryz.prog 23 #[.int .i64 f, .int .i64 fn, U b] w fun en w' => en = .returned (.tuple #[U V, .bool yes, .int .i64 er]) ∧ Below w.heap.size w w') ∧ (∀ w, Calls Tryz.prog 27 #[.int .i64 f, .int .i64 fn, U b] w fun en w' => en = .returned (.tuple #[U V, .bool yes, .int .i64 er]) ∧ Below w.heap.size w w') := by
  by_cases hb : b < 2 * S
  · by_cases hr : b % S < I
    · obtain ⟨z, e, hv, _⟩ := vf_ex J.jn.jm.pm hr
      refine ⟨_, _, 0, .inl rfl, ?_, fun w => docx_f R hfn hb hr hv w⟩
      rcases hfn with rfl | rfl | rfl
      · exact fun w hT => exact_f4 J hb hr hv w hT
      · exact fun w hT => exact_f5 J hb hr hv w hT
      · exact fun w hT => exact_f6 J hb hr hv w hT
    · refine ⟨_, _, 0, .inl rfl, ?_, fun w => docx_c R hfn hb (by omega) w⟩
      rcases hfn with rfl | rfl | rfl
      · exact fun w _ => exact_c4 J hb (by omega) w
      · exact fun w _ => exact_c5 J hb (by omega) w
      · exact fun w _ => exact_c6 J hb (by omega) w
  · exact ⟨0, false, 2, .inr (.inr rfl), fun w _ => exact_e hfn (fun w => finite_e (fun w => ranked_bad (fun w => J.jn.jm.pm.fm.big b w hb9 (by omega)) (by decide) w) (by decide) w) (by decide) (by decide) w, fun w => docx_b R hfn hb9 (by omega) w⟩
theorem exact_both (f fn : Int) {b : Nat} (hb9 : b < B64) : ∃ (V : Nat) (yes : Bool) (er : Int), (er = 0 ∨ er = 1 ∨ er = 2) ∧ (∀ w, Tab w → Calls Tryz.prog 23 #[.int .i64 f, .int .i64 fn, U b] w fun en w' => en = .returned (.tuple #[U V, .bool yes, .int .i64 er]) ∧ Below w.heap.size w w') ∧ (∀ w, Calls Tryz.prog 27 #[.int .i64 f, .int .i64 fn, U b] w fun en w' => en = .returned (.tuple #[U V, .bool yes, .int .i64 er]) ∧ Below w.heap.size w w') := by
  by_cases hfn : fn = 4 ∨ fn = 5 ∨ fn = 6
  · by_cases h1 : f = 32
    · subst h1; exact both_fm jt_32 rx_32 hfn hb9
    · by_cases h2 : f = 64
      · subst h2; exact both_fm jt_64 rx_64 hfn hb9
      · exact ⟨0, false, 1, .inr (.inl rfl), fun w _ => exact_e hfn (fun w => finite_e (fun w => ranked_bad (fun w => patternOf_x f h1 h2 b w) (by decide) w) (by decide) w) (by decide) (by decide) w, fun w => docx_x f fn h1 h2 b w⟩
  · have hx : fn < 4 ∨ 6 < fn := by omega
    refine ⟨0, false, 1, .inr (.inl rfl), fun w _ => exact_x f fn hx b w, fun w => ?_⟩
    by_cases h1 : f = 32
    · subst h1; exact docx_t rx_32 hx b w
    · by_cases h2 : f = 64
      · subst h2; exact docx_t rx_64 hx b w
      · exact docx_x f fn h1 h2 b w
set_option maxRecDepth 20000 in
set_option maxHeartbeats 8000000 in
theorem turnExacts_w {P : Option Addr} {N C : Nat} {its : List Ask17} {w : World} (h : Scr17 w P N C its) (hT : Tab w) :
    Calls Tryz.prog 7 #[.slice P N C] w fun en w' => en = .returned (.bool true) ∧ Below w.heap.size w w' := by
  have TB : Hid (Tab w) := hT
  have A : Hid (Scr17 w P N C its) := h
  have HLN : Hid (its.length = N) := h.len
  have cap := h.cap; have big := h.big
  unfold maxLen at big
  have hbw : Below w.heap.size w w := Below.refl _ _
  clear h hT
  go_enter Tryz.func7, Tryz.ntmps7
  go_wp2_with fail
  refine (awake17 _ (TB.out.below hbw)).mono ?_
  rintro e v1 ⟨rfl, hb1⟩
  replace hbw := Below.on hbw hb1
  clear hb1
  go_wp2_with fail
  have HB0 : Hid (Below w.heap.size w v1) := hbw
  clear hbw
  go_loopg [15] N (fun gk iv wr => ∃ k : Nat, k + gk = N ∧ iv = .int .i64 k ∧ Below w.heap.size w wr)
  case atStart => exact ⟨0, by omega, rfl, HB0.out⟩
  case round =>
    obtain ⟨k, hkg, rfl, hbw⟩ := hrel
    cases gk with
    | zero =>
      obtain rfl : k = N := by omega
      have hnk : ¬ (k : Int) < (k : Int) := by omega
      go_wp2_with fail
      go_ret
      exact ⟨rfl, hbw⟩
    | succ gg =>
      have hki : k < its.length := by rw [HLN.out]; omega
      have HR := A.out.below hbw
      obtain ⟨g, off, rfl, hc⟩ := HR.cells.resolve_left (by omega)
      obtain ⟨e0, e1, e2, e3⟩ := hc k hki
      obtain ⟨hb9, hf1, hf2, hn1, hn2⟩ := HR.ats its[k] (List.getElem_mem hki)
      have hkk : (k : Int) < (N : Int) := by omega
      have hlt : g < wr.heap.size := World.block_lt_of_cell? wr _ e0
      have HBB : Hid (k + (gg + 1) = N ∧ N ≤ C ∧ C ≤ 9223372036854775807) := ⟨hkg, cap, big⟩
      clear hc HR
      generalize its[k].f = f at *
      generalize its[k].fn = fn at *
      generalize its[k].b = b at *
      generalize its[k].n = n at *
      obtain ⟨V, yes, er, her, hX, hD⟩ := exact_both f fn hb9
      have HX : Hid ((∀ w, Tab w → Calls Tryz.prog 23 #[.int .i64 f, .int .i64 fn, U b] w fun en w' => en = .returned (.tuple #[U V, .bool yes, .int .i64 er]) ∧ Below w.heap.size w w') ∧ (∀ w, Calls Tryz.prog 27 #[.int .i64 f, .int .i64 fn, U b] w fun en w' => en = .returned (.tuple #[U V, .bool yes, .int .i64 er]) ∧ Below w.heap.size w w')) := ⟨hX, hD⟩
      have q1 : wrap64 f = f := by simp only [wrap64]; omega
      have q2 : IntKind.i64.wrap f = f := by simp [IntKind.wrap, IntKind.signed, IntKind.bits]; omega
      have q3 : wrap64 fn = fn := by simp only [wrap64]; omega
      have q4 : IntKind.i64.wrap fn = fn := by simp [IntKind.wrap, IntKind.signed, IntKind.bits]; omega
      have q5 : wrap64 er = er := by simp only [wrap64]; omega
      have q6 : IntKind.i64.wrap er = er := by simp [IntKind.wrap, IntKind.signed, IntKind.bits]; omega
      clear hX hD her hf1 hf2 hn1 hn2 hb9 hki hkg cap big
      go_wp2_with fail
      clear e0 e1 e2 e3 hlt hkk
      have Xa0 : Hid (B4q (wr.alloc (.cells #[.int .i64 f, .int .i64 fn, U b, .int .i64 n] 62)) wr.heap.size (.int .i64 f) (.int .i64 fn) (U b) (.int .i64 n)) := B4q.new wr _ _ _ _ _
      have hbn : Below wr.heap.size wr (wr.alloc (.cells #[.int .i64 f, .int .i64 fn, U b, .int .i64 n] 62)) := below1 wr _
      generalize wr.alloc (.cells #[.int .i64 f, .int .i64 fn, U b, .int .i64 n] 62) = Wa at *
      have HGa : Hid (w.heap.size ≤ wr.heap.size) := hbw.size
      replace hbw := Below.on hbw hbn
      clear hbn
      generalize wr.heap.size = ga at *
      have Xa := Xa0
      clear Xa0
      refine (HX.out.1 _ (TB.out.below hbw)).mono ?_
      rintro e v2 ⟨rfl, hb2⟩
      replace Xa : Hid _ := Xa.out.below hb2
      replace hbw := Below.on hbw hb2
      clear hb2
      obtain ⟨ca0, ca1, ca2, ca3, fa0, fa1, fa2, fa3⟩ := Xa.out
      have hnea : ga < v2.heap.size := World.block_lt_of_cell? v2 _ ca0
      go_wp2_with fail
      clear ca0 ca1 ca2 ca3 fa0 fa1 fa2 fa3 hnea
      refine (HX.out.2 _).mono ?_
      rintro e v3 ⟨rfl, hb3⟩
      replace Xa : Hid _ := Xa.out.below hb3
      replace hbw := Below.on hbw hb3
      clear hb3
      go_wp2_with fail
      go_roundg gg
      case measure => omega
      case rel => exact ⟨k + 1, by have := HBB.out; omega, by rw [show wrap64 ((k : Int) + 1) = ((k + 1 : Nat) : Int) from by have h1 := HBB.out; simp only [wrap64]; omega], hbw⟩
end Go.Proofs.YtoalblaklcekeaaGreatDoor
