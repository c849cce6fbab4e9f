import Derived.Test.YtoalblaklcekeaaGreatDoorJ18
import Derived.Test.YtoalblaklcekeaaGreatDoorJ17
import Derived.Test.YtoalblaklcekeaaGreatDoorJ13
import Derived.Test.YtoalblaklcekeaaGreatDoorJ14
namespace Go.Proofs.YtoalblaklcekeaaGreatDoor
open Go.RowKit Go.Shelf
def exP (S I O : Nat) (sz : Int) (ng : Bool) : Nat := (if ng then S else 0) + (if sz = 0 then 0 else if sz = 1 then O else I)
set_option maxRecDepth 20000 in
set_option maxHeartbeats 8000000 in
theorem join_o32 (neg : Bool) (w : World) (hT : qTab w) :
    Calls Tryz.prog 99 #[.int .i64 32, .bool neg, .int .u64 1, .int .i64 0] w fun en w' => en = .returned (.tuple #[U (if neg then 3212836864 else 1065353216), .int .i64 0]) ∧ Below w.heap.size w w' := by
  have hbw : Below w.heap.size w w := Below.refl _ _
  have TB : Hid (qTab w) := hT
  obtain ⟨r, hr⟩ : ∃ r, r = (if neg then 3212836864 else 1065353216) := ⟨_, rfl⟩
  rw [← hr]
  have HR : Hid ((if neg then 2147483648 + 1065353216 else 1065353216) = r) := hr.symm
  clear hT hr
  go_enter Tryz.func99, Tryz.ntmps99
  go_wp2_with fail
  refine (of_32 _).mono ?_
  rintro e v1 ⟨rfl, hb1⟩
  replace hbw := Below.on hbw hb1
  clear hb1
  go_wp2_with fail
  have Xg0 : Hid (B3q (v1.alloc (.cells #[.int .i64 32, .int .i64 24, .int .i64 (-149)] 103)) v1.heap.size (.int .i64 32) (.int .i64 24) (.int .i64 (-149))) := B3q.new v1 _ _ _ _
  have hbn : Below v1.heap.size v1 (v1.alloc (.cells #[.int .i64 32, .int .i64 24, .int .i64 (-149)] 103)) := below1 v1 _
  generalize v1.alloc (.cells #[.int .i64 32, .int .i64 24, .int .i64 (-149)] 103) = Wg at *
  have HGg : Hid (w.heap.size ≤ v1.heap.size) := hbw.size
  replace hbw := Below.on hbw hbn
  clear hbn
  generalize v1.heap.size = gg at *
  have Xg := Xg0
  clear Xg0
  obtain ⟨cg0, cg1, cg2, fg0, fg1, fg2⟩ := Xg.out
  have hneg : gg < Wg.heap.size := World.block_lt_of_cell? Wg _ cg0
  go_wp2_with fail
  clear cg0 cg1 cg2 fg0 fg1 fg2 hneg
  refine (jm_32.be _).mono ?_
  rintro e v2 ⟨rfl, hb2⟩
  replace Xg : Hid _ := Xg.out.below hb2
  replace hbw := Below.on hbw hb2
  clear hb2
  go_wp2_with fail
  refine (qtz_any (x := 1) (r := 0) (by decide) (by decide) ⟨by decide, by decide⟩ (TB.out.below hbw)).mono ?_
  rintro e3 v3 ⟨rfl, hw⟩
  obtain rfl := hw.symm
  clear hw
  go_wp2_with fail
  refine (bl_len_any 1 _ (by decide)).mono ?_
  rintro e4 v4 ⟨rfl, hw⟩
  obtain rfl := hw.symm
  clear hw
  rw [show bl_bitsN 1 = 1 from by decide]
  obtain ⟨cg0, cg1, cg2, fg0, fg1, fg2⟩ := Xg.out
  have hneg : gg < v2.heap.size := World.block_lt_of_cell? v2 _ cg0
  go_wp2_with fail
  clear cg0 cg1 cg2 fg0 fg1 fg2 hneg
  refine (jm_32.un 0 _ (by decide) (by decide)).mono ?_
  rintro e v5 ⟨rfl, hb5⟩
  rw [show max ((0 : Int) - ((23 : Nat) : Int)) (-149) = -23 from by decide]
  replace Xg : Hid _ := Xg.out.below hb5
  replace hbw := Below.on hbw hb5
  clear hb5
  obtain ⟨cg0, cg1, cg2, fg0, fg1, fg2⟩ := Xg.out
  have hneg : gg < v5.heap.size := World.block_lt_of_cell? v5 _ cg0
  go_wp2_with fail
  clear cg0 cg1 cg2 fg0 fg1 fg2 hneg
  refine (jm_32.be _).mono ?_
  rintro e v6 ⟨rfl, hb6⟩
  replace Xg : Hid _ := Xg.out.below hb6
  replace hbw := Below.on hbw hb6
  clear hb6
  obtain ⟨cg0, cg1, cg2, fg0, fg1, fg2⟩ := Xg.out
  have hneg : gg < v6.heap.size := World.block_lt_of_cell? v6 _ cg0
  go_wp2_with fail
  clear cg0 cg1 cg2 fg0 fg1 fg2 hneg
  have hsh : ∀ w, Sem.run Tryz.prog (Op.shift BinOp.shl IntKind.u64 1 IntKind.i64 (IntKind.i64.wrap 23)) w = .ok (.int .u64 8388608) w := fun w => by kernel_rfl
  obtain ⟨Wr, hWr⟩ : ∃ W1, W1 = v6.drew := ⟨_, rfl⟩
  have hbd : Below v6.heap.size v6 Wr := by rw [hWr]; exact bDrew1 (Below.refl _ _)
  replace Xg : Hid _ := Xg.out.below hbd
  replace hbw := Below.on hbw hbd
  clear hbd
  have HJ : Hid ((fun W' : World => W'.cell? ⟨gg, 0, none⟩ = some (.int .i64 32) ∧ W'.cell? ⟨gg, 1, none⟩ = some (.int .i64 24) ∧ W'.cell? ⟨gg, 2, none⟩ = some (.int .i64 (-149))) Wr) := ⟨Xg.out.c0, Xg.out.c1, Xg.out.c2⟩
  refine wp_region_J (fun W' => W'.cell? ⟨gg, 0, none⟩ = some (.int .i64 32) ∧ W'.cell? ⟨gg, 1, none⟩ = some (.int .i64 24) ∧ W'.cell? ⟨gg, 2, none⟩ = some (.int .i64 (-149))) (by kernel_rfl) ?_
  rw [← hWr]
  clear hWr
  refine wpJ_tk 0 (v := ?v1x0) rfl ?hy1x0 HJ.out ?_
  case hy1x0 => (intro W' hJ; obtain ⟨j0, j1, j2⟩ := hJ; go_simp; first | done | with_reducible rfl)
  refine wpJ_tk 1 (v := ?v2x1) rfl ?hy2x1 HJ.out ?_
  case hy2x1 => (intro W' hJ; obtain ⟨j0, j1, j2⟩ := hJ; go_simp; first | done | with_reducible rfl)
  refine wpJ_tk 2 (v := ?v3x2) rfl ?hy3x2 HJ.out ?_
  case hy3x2 => (intro W' hJ; obtain ⟨j0, j1, j2⟩ := hJ; go_simp; first | done | with_reducible rfl)
  refine wpJ_tk 3 (v := ?v4x3) rfl ?hy4x3 HJ.out ?_
  case hy4x3 => (intro W' hJ; obtain ⟨j0, j1, j2⟩ := hJ; go_simp; first | done | with_reducible rfl)
  refine wpJ_tk 4 (v := ?v5x4) rfl ?hy5x4 HJ.out ?_
  case hy5x4 => (intro W' hJ; obtain ⟨j0, j1, j2⟩ := hJ; go_simp; first | done | with_reducible rfl)
  go_simp
  refine wpJ_tk 5 (v := ?v6x5) rfl ?hy6x5 HJ.out ?_
  case hy6x5 => (intro W' hJ; obtain ⟨j0, j1, j2⟩ := hJ; go_simp; first | done | with_reducible rfl)
  refine wpJ_tk 6 (v := ?v7x6) rfl ?hy7x6 HJ.out ?_
  case hy7x6 => (intro W' hJ; obtain ⟨j0, j1, j2⟩ := hJ; go_simp; first | done | with_reducible rfl)
  refine wpJ_tk 7 (v := ?v8x7) rfl ?hy8x7 HJ.out ?_
  case hy8x7 => (intro W' hJ; obtain ⟨j0, j1, j2⟩ := hJ; go_simp; first | done | with_reducible rfl)
  refine wpJ_tk 8 (v := ?v9x8) rfl ?hy9x8 HJ.out ?_
  case hy9x8 => (intro W' hJ; obtain ⟨j0, j1, j2⟩ := hJ; go_simp; first | done | with_reducible rfl)
  refine wpJ_one (i := 9) (by kernel_rfl) rfl (by kernel_rfl) (fun KJ hK => ?_)
  go_simp
  refine (jm_32.sz 8388608 126 (-23) _ (by decide) (by decide) (by decide) (by decide)).mono ?_
  rintro e v7 ⟨rfl, hb7⟩
  rw [show 126 * 8388608 + 8388608 = 1065353216 from by decide]
  replace Xg : Hid _ := Xg.out.below hb7
  replace hbw := Below.on hbw hb7
  clear hb7
  refine hK _ _ ⟨Xg.out.c0, Xg.out.c1, Xg.out.c2⟩ ?_
  clear hK
  refine wpJ_one (i := 10) (by kernel_rfl) rfl (by kernel_rfl) (fun KJ hK => ?_)
  go_simp
  refine (jm_32.pm.fm.sgn neg 1065353216 _ (by decide)).mono ?_
  rintro e v8 ⟨rfl, hb8⟩
  rw [HR.out]
  replace Xg : Hid _ := Xg.out.below hb8
  replace hbw := Below.on hbw hb8
  clear hb8
  clear HJ
  have HJ : Hid ((fun W' : World => W'.cell? ⟨gg, 0, none⟩ = some (.int .i64 32) ∧ W'.cell? ⟨gg, 1, none⟩ = some (.int .i64 24) ∧ W'.cell? ⟨gg, 2, none⟩ = some (.int .i64 (-149))) v8) := ⟨Xg.out.c0, Xg.out.c1, Xg.out.c2⟩
  refine hK _ _ HJ.out ?_
  clear hK
  refine wpJ_tk 11 (v := ?v10x11) rfl ?hy10x11 HJ.out ?_
  case hy10x11 => (intro W' hJ; obtain ⟨j0, j1, j2⟩ := hJ; go_simp; first | done | with_reducible rfl)
  refine wpJ_tk 12 (v := ?v11x12) rfl ?hy11x12 HJ.out ?_
  case hy11x12 => (intro W' hJ; obtain ⟨j0, j1, j2⟩ := hJ; go_simp; first | done | with_reducible rfl)
  refine wpJ_done (by kernel_rfl) ?_ _
  clear HJ
  go_wp2_with fail
  go_ret2
  exact ⟨rfl, hbw⟩
set_option maxRecDepth 20000 in
set_option maxHeartbeats 8000000 in
theorem join_o64 (neg : Bool) (w : World) (hT : qTab w) :
    Calls Tryz.prog 99 #[.int .i64 64, .bool neg, .int .u64 1, .int .i64 0] w fun en w' => en = .returned (.tuple #[U (if neg then 13830554455654793216 else 4607182418800017408), .int .i64 0]) ∧ Below w.heap.size w w' := by
  have hbw : Below w.heap.size w w := Below.refl _ _
  have TB : Hid (qTab w) := hT
  obtain ⟨r, hr⟩ : ∃ r, r = (if neg then 13830554455654793216 else 4607182418800017408) := ⟨_, rfl⟩
  rw [← hr]
  have HR : Hid ((if neg then 9223372036854775808 + 4607182418800017408 else 4607182418800017408) = r) := hr.symm
  clear hT hr
  go_enter Tryz.func99, Tryz.ntmps99
  go_wp2_with fail
  refine (of_64 _).mono ?_
  rintro e v1 ⟨rfl, hb1⟩
  replace hbw := Below.on hbw hb1
  clear hb1
  go_wp2_with fail
  have Xg0 : Hid (B3q (v1.alloc (.cells #[.int .i64 64, .int .i64 53, .int .i64 (-1074)] 103)) v1.heap.size (.int .i64 64) (.int .i64 53) (.int .i64 (-1074))) := B3q.new v1 _ _ _ _
  have hbn : Below v1.heap.size v1 (v1.alloc (.cells #[.int .i64 64, .int .i64 53, .int .i64 (-1074)] 103)) := below1 v1 _
  generalize v1.alloc (.cells #[.int .i64 64, .int .i64 53, .int .i64 (-1074)] 103) = Wg at *
  have HGg : Hid (w.heap.size ≤ v1.heap.size) := hbw.size
  replace hbw := Below.on hbw hbn
  clear hbn
  generalize v1.heap.size = gg at *
  have Xg := Xg0
  clear Xg0
  obtain ⟨cg0, cg1, cg2, fg0, fg1, fg2⟩ := Xg.out
  have hneg : gg < Wg.heap.size := World.block_lt_of_cell? Wg _ cg0
  go_wp2_with fail
  clear cg0 cg1 cg2 fg0 fg1 fg2 hneg
  refine (jm_64.be _).mono ?_
  rintro e v2 ⟨rfl, hb2⟩
  replace Xg : Hid _ := Xg.out.below hb2
  replace hbw := Below.on hbw hb2
  clear hb2
  go_wp2_with fail
  refine (qtz_any (x := 1) (r := 0) (by decide) (by decide) ⟨by decide, by decide⟩ (TB.out.below hbw)).mono ?_
  rintro e3 v3 ⟨rfl, hw⟩
  obtain rfl := hw.symm
  clear hw
  go_wp2_with fail
  refine (bl_len_any 1 _ (by decide)).mono ?_
  rintro e4 v4 ⟨rfl, hw⟩
  obtain rfl := hw.symm
  clear hw
  rw [show bl_bitsN 1 = 1 from by decide]
  obtain ⟨cg0, cg1, cg2, fg0, fg1, fg2⟩ := Xg.out
  have hneg : gg < v2.heap.size := World.block_lt_of_cell? v2 _ cg0
  go_wp2_with fail
  clear cg0 cg1 cg2 fg0 fg1 fg2 hneg
  refine (jm_64.un 0 _ (by decide) (by decide)).mono ?_
  rintro e v5 ⟨rfl, hb5⟩
  rw [show max ((0 : Int) - ((52 : Nat) : Int)) (-1074) = -52 from by decide]
  replace Xg : Hid _ := Xg.out.below hb5
  replace hbw := Below.on hbw hb5
  clear hb5
  obtain ⟨cg0, cg1, cg2, fg0, fg1, fg2⟩ := Xg.out
  have hneg : gg < v5.heap.size := World.block_lt_of_cell? v5 _ cg0
  go_wp2_with fail
  clear cg0 cg1 cg2 fg0 fg1 fg2 hneg
  refine (jm_64.be _).mono ?_
  rintro e v6 ⟨rfl, hb6⟩
  replace Xg : Hid _ := Xg.out.below hb6
  replace hbw := Below.on hbw hb6
  clear hb6
  obtain ⟨cg0, cg1, cg2, fg0, fg1, fg2⟩ := Xg.out
  have hneg : gg < v6.heap.size := World.block_lt_of_cell? v6 _ cg0
  go_wp2_with fail
  clear cg0 cg1 cg2 fg0 fg1 fg2 hneg
  have hsh : ∀ w, Sem.run Tryz.prog (Op.shift BinOp.shl IntKind.u64 1 IntKind.i64 (IntKind.i64.wrap 52)) w = .ok (.int .u64 4503599627370496) w := fun w => by kernel_rfl
  obtain ⟨Wr, hWr⟩ : ∃ W1, W1 = v6.drew := ⟨_, rfl⟩
  have hbd : Below v6.heap.size v6 Wr := by rw [hWr]; exact bDrew1 (Below.refl _ _)
  replace Xg : Hid _ := Xg.out.below hbd
  replace hbw := Below.on hbw hbd
  clear hbd
  have HJ : Hid ((fun W' : World => W'.cell? ⟨gg, 0, none⟩ = some (.int .i64 64) ∧ W'.cell? ⟨gg, 1, none⟩ = some (.int .i64 53) ∧ W'.cell? ⟨gg, 2, none⟩ = some (.int .i64 (-1074))) Wr) := ⟨Xg.out.c0, Xg.out.c1, Xg.out.c2⟩
  refine wp_region_J (fun W' => W'.cell? ⟨gg, 0, none⟩ = some (.int .i64 64) ∧ W'.cell? ⟨gg, 1, none⟩ = some (.int .i64 53) ∧ W'.cell? ⟨gg, 2, none⟩ = some (.int .i64 (-1074))) (by kernel_rfl) ?_
  rw [← hWr]
  clear hWr
  refine wpJ_tk 0 (v := ?v12x0) rfl ?hy12x0 HJ.out ?_
  case hy12x0 => (intro W' hJ; obtain ⟨j0, j1, j2⟩ := hJ; go_simp; first | done | with_reducible rfl)
  refine wpJ_tk 1 (v := ?v13x1) rfl ?hy13x1 HJ.out ?_
  case hy13x1 => (intro W' hJ; obtain ⟨j0, j1, j2⟩ := hJ; go_simp; first | done | with_reducible rfl)
  refine wpJ_tk 2 (v := ?v14x2) rfl ?hy14x2 HJ.out ?_
  case hy14x2 => (intro W' hJ; obtain ⟨j0, j1, j2⟩ := hJ; go_simp; first | done | with_reducible rfl)
  refine wpJ_tk 3 (v := ?v15x3) rfl ?hy15x3 HJ.out ?_
  case hy15x3 => (intro W' hJ; obtain ⟨j0, j1, j2⟩ := hJ; go_simp; first | done | with_reducible rfl)
  refine wpJ_tk 4 (v := ?v16x4) rfl ?hy16x4 HJ.out ?_
  case hy16x4 => (intro W' hJ; obtain ⟨j0, j1, j2⟩ := hJ; go_simp; first | done | with_reducible rfl)
  go_simp
  refine wpJ_tk 5 (v := ?v17x5) rfl ?hy17x5 HJ.out ?_
  case hy17x5 => (intro W' hJ; obtain ⟨j0, j1, j2⟩ := hJ; go_simp; first | done | with_reducible rfl)
  refine wpJ_tk 6 (v := ?v18x6) rfl ?hy18x6 HJ.out ?_
  case hy18x6 => (intro W' hJ; obtain ⟨j0, j1, j2⟩ := hJ; go_simp; first | done | with_reducible rfl)
  refine wpJ_tk 7 (v := ?v19x7) rfl ?hy19x7 HJ.out ?_
  case hy19x7 => (intro W' hJ; obtain ⟨j0, j1, j2⟩ := hJ; go_simp; first | done | with_reducible rfl)
  refine wpJ_tk 8 (v := ?v20x8) rfl ?hy20x8 HJ.out ?_
  case hy20x8 => (intro W' hJ; obtain ⟨j0, j1, j2⟩ := hJ; go_simp; first | done | with_reducible rfl)
  refine wpJ_one (i := 9) (by kernel_rfl) rfl (by kernel_rfl) (fun KJ hK => ?_)
  go_simp
  refine (jm_64.sz 4503599627370496 1022 (-52) _ (by decide) (by decide) (by decide) (by decide)).mono ?_
  rintro e v7 ⟨rfl, hb7⟩
  rw [show 1022 * 4503599627370496 + 4503599627370496 = 4607182418800017408 from by decide]
  replace Xg : Hid _ := Xg.out.below hb7
  replace hbw := Below.on hbw hb7
  clear hb7
  refine hK _ _ ⟨Xg.out.c0, Xg.out.c1, Xg.out.c2⟩ ?_
  clear hK
  refine wpJ_one (i := 10) (by kernel_rfl) rfl (by kernel_rfl) (fun KJ hK => ?_)
  go_simp
  refine (jm_64.pm.fm.sgn neg 4607182418800017408 _ (by decide)).mono ?_
  rintro e v8 ⟨rfl, hb8⟩
  rw [HR.out]
  replace Xg : Hid _ := Xg.out.below hb8
  replace hbw := Below.on hbw hb8
  clear hb8
  clear HJ
  have HJ : Hid ((fun W' : World => W'.cell? ⟨gg, 0, none⟩ = some (.int .i64 64) ∧ W'.cell? ⟨gg, 1, none⟩ = some (.int .i64 53) ∧ W'.cell? ⟨gg, 2, none⟩ = some (.int .i64 (-1074))) v8) := ⟨Xg.out.c0, Xg.out.c1, Xg.out.c2⟩
  refine hK _ _ HJ.out ?_
  clear hK
  refine wpJ_tk 11 (v := ?v21x11) rfl ?hy21x11 HJ.out ?_
  case hy21x11 => (intro W' hJ; obtain ⟨j0, j1, j2⟩ := hJ; go_simp; first | done | with_reducible rfl)
  refine wpJ_tk 12 (v := ?v22x12) rfl ?hy22x12 HJ.out ?_
  case hy22x12 => (intro W' hJ; obtain ⟨j0, j1, j2⟩ := hJ; go_simp; first | done | with_reducible rfl)
  refine wpJ_done (by kernel_rfl) ?_ _
  clear HJ
  go_wp2_with fail
  go_ret2
  exact ⟨rfl, hbw⟩
structure Jt (f p m l : Int) (S I H sd : Nat) (Be : Int) (O Q : Nat) : Prop where
  jn : Jn f p m l S I H sd Be
  o : ∀ (neg : Bool) w, Tab w → Calls Tryz.prog 99 #[.int .i64 f, .bool neg, .int .u64 1, .int .i64 0] w fun en w' => en = .returned (.tuple #[U (if neg then S + O else O), .int .i64 0]) ∧ Below w.heap.size w w'
  qt : ∀ w, Calls Tryz.prog 24 #[.int .i64 f] w fun e w' => e = .returned (.tuple #[U Q, .int .i64 0]) ∧ Below w.heap.size w w'
theorem jt_32 : Jt 32 32 24 (-149) 2147483648 2139095040 8388608 23 128 1065353216 2143289345 := ⟨jn_32, fun neg w h => join_o32 neg w h, quiet_32⟩
theorem jt_64 : Jt 64 64 53 (-1074) 9223372036854775808 9218868437227405312 4503599627370496 52 1024 4607182418800017408 9221120237041090561 := ⟨jn_64, fun neg w h => join_o64 neg w h, quiet_64⟩
set_option maxRecDepth 20000 in
set_option maxHeartbeats 8000000 in
theorem pat_p {f p m l : Int} {S I H sd : Nat} {Be : Int} {O Q : Nat} (J : Jt f p m l S I H sd Be O Q) (ng : Bool) (w : World) :
    Calls Tryz.prog 54 #[VV 2 ng, .int .i64 f] w fun en w' => en = .returned (U (exP S I O 2 ng)) ∧ Below w.heap.size w w' := by
  have HJT : Hid (Jt f p m l S I H sd Be O Q) := J
  obtain ⟨r, hr⟩ : ∃ r, r = exP S I O 2 ng := ⟨_, rfl⟩
  rw [← hr]
  have HR : Hid ((if ng then S + I else I) = r) := by show _ = _; rw [hr]; unfold exP; cases ng <;> simp
  clear hr J
  go_enter Tryz.func54, Tryz.ntmps54
  go_wp2_with fail
  obtain ⟨W0, hW0⟩ : ∃ W0, W0 = (w.alloc (.cells #[.int .i64 2, .bool ng] 98)) := ⟨_, rfl⟩
  have Xv : Hid (Box W0 (w.heap.size) (.int .i64 2) (.bool ng)) := by rw [hW0]; exact ⟨by go_simp, by go_simp, by go_simp, by go_simp⟩
  have hb0 : Below w.heap.size w W0 := by rw [hW0]; exact below1 w _
  rw [← hW0]
  clear hW0
  have hbw : Below w.heap.size w w := Below.refl _ _
  obtain ⟨gv, hgv⟩ : ∃ g, g = w.heap.size := ⟨_, rfl⟩
  have HGv : Hid (w.heap.size ≤ gv) := by rw [hgv]; show _ ≤ _; omega
  rw [← hgv] at Xv
  try rw [← hgv]
  clear hgv
  replace hbw := Below.on hbw hb0
  clear hb0
  obtain ⟨cv0, cv1, fv0, fv1⟩ := Xv.out
  have hnev := Xv.out.lt
  go_wp2_with fail
  clear cv0 cv1 fv0 fv1 hnev
  refine (HJT.out.jn.jm.pm.fm.of _).mono ?_
  rintro e v1 ⟨rfl, hb1⟩
  replace Xv : Hid _ := Xv.out.below hb1
  replace hbw := Below.on hbw hb1
  clear hb1
  go_wp2_with fail
  have Xg0 : Hid (B3q (v1.alloc (.cells #[.int .i64 p, .int .i64 m, .int .i64 l] 103)) v1.heap.size (.int .i64 p) (.int .i64 m) (.int .i64 l)) := B3q.new v1 _ _ _ _
  have hbn : Below v1.heap.size v1 (v1.alloc (.cells #[.int .i64 p, .int .i64 m, .int .i64 l] 103)) := below1 v1 _
  generalize v1.alloc (.cells #[.int .i64 p, .int .i64 m, .int .i64 l] 103) = Wg at *
  have HGg : Hid (w.heap.size ≤ v1.heap.size) := hbw.size
  replace Xv : Hid _ := Xv.out.below hbn
  replace hbw := Below.on hbw hbn
  clear hbn
  generalize v1.heap.size = gg at *
  have Xg := Xg0
  clear Xg0
  obtain ⟨cv0, cv1, fv0, fv1⟩ := Xv.out
  have hnev := Xv.out.lt
  obtain ⟨cg0, cg1, cg2, fg0, fg1, fg2⟩ := Xg.out
  have hneg : gg < Wg.heap.size := World.block_lt_of_cell? Wg _ cg0
  go_wp2_with fail
  clear cv0 cv1 fv0 fv1 hnev
  clear cg0 cg1 cg2 fg0 fg1 fg2 hneg
  obtain ⟨Wr, hWr⟩ : ∃ W1, W1 = Wg.drew := ⟨_, rfl⟩
  have hbd : Below Wg.heap.size Wg Wr := by rw [hWr]; exact bDrew1 (Below.refl _ _)
  replace Xv : Hid _ := Xv.out.below hbd
  replace Xg : Hid _ := Xg.out.below hbd
  replace hbw := Below.on hbw hbd
  clear hbd
  have HJ : Hid ((fun W' : World => W'.cell? ⟨gg, 0, none⟩ = some (.int .i64 p) ∧ W'.cell? ⟨gg, 1, none⟩ = some (.int .i64 m) ∧ W'.cell? ⟨gg, 2, none⟩ = some (.int .i64 l) ∧ W'.cell? ⟨gv, 0, none⟩ = some (.int .i64 2) ∧ W'.cell? ⟨gv, 1, none⟩ = some (.bool ng)) Wr) := ⟨Xg.out.c0, Xg.out.c1, Xg.out.c2, Xv.out.c0, Xv.out.c1⟩
  refine wp_region_J (fun W' => W'.cell? ⟨gg, 0, none⟩ = some (.int .i64 p) ∧ W'.cell? ⟨gg, 1, none⟩ = some (.int .i64 m) ∧ W'.cell? ⟨gg, 2, none⟩ = some (.int .i64 l) ∧ W'.cell? ⟨gv, 0, none⟩ = some (.int .i64 2) ∧ W'.cell? ⟨gv, 1, none⟩ = some (.bool ng)) (by kernel_rfl) ?_
  rw [← hWr]
  clear hWr
  refine wpJ_tk 0 (v := ?v23x0) rfl ?hy23x0 HJ.out ?_
  case hy23x0 => (intro W' hJ; obtain ⟨j0, j1, j2, j3, j4⟩ := hJ; go_simp; first | done | with_reducible rfl)
  refine wpJ_tk 1 (v := ?v24x1) rfl ?hy24x1 HJ.out ?_
  case hy24x1 => (intro W' hJ; obtain ⟨j0, j1, j2, j3, j4⟩ := hJ; go_simp; first | done | with_reducible rfl)
  refine wpJ_tk 2 (v := ?v25x2) rfl ?hy25x2 HJ.out ?_
  case hy25x2 => (intro W' hJ; obtain ⟨j0, j1, j2, j3, j4⟩ := hJ; go_simp; first | done | with_reducible rfl)
  refine wpJ_tk 3 (v := ?v26x3) rfl ?hy26x3 HJ.out ?_
  case hy26x3 => (intro W' hJ; obtain ⟨j0, j1, j2, j3, j4⟩ := hJ; go_simp; first | done | with_reducible rfl)
  refine wpJ_one (i := 4) (by kernel_rfl) rfl (by kernel_rfl) (fun KJ hK => ?_)
  go_simp
  refine (HJT.out.jn.jm.pm.fm.inf _).mono ?_
  rintro e v2 ⟨rfl, hb2⟩
  replace Xv : Hid _ := Xv.out.below hb2
  replace Xg : Hid _ := Xg.out.below hb2
  replace hbw := Below.on hbw hb2
  clear hb2
  refine hK _ _ ⟨Xg.out.c0, Xg.out.c1, Xg.out.c2, Xv.out.c0, Xv.out.c1⟩ ?_
  clear hK
  refine wpJ_one (i := 5) (by kernel_rfl) rfl (by kernel_rfl) (fun KJ hK => ?_)
  go_simp
  refine (HJT.out.jn.jm.pm.fm.sgn ng I _ HJT.out.jn.jm.pm.fm.lt).mono ?_
  rintro e v3 ⟨rfl, hb3⟩
  rw [HR.out]
  replace Xv : Hid _ := Xv.out.below hb3
  replace Xg : Hid _ := Xg.out.below hb3
  replace hbw := Below.on hbw hb3
  clear hb3
  clear HJ
  have HJ : Hid ((fun W' : World => W'.cell? ⟨gg, 0, none⟩ = some (.int .i64 p) ∧ W'.cell? ⟨gg, 1, none⟩ = some (.int .i64 m) ∧ W'.cell? ⟨gg, 2, none⟩ = some (.int .i64 l) ∧ W'.cell? ⟨gv, 0, none⟩ = some (.int .i64 2) ∧ W'.cell? ⟨gv, 1, none⟩ = some (.bool ng)) v3) := ⟨Xg.out.c0, Xg.out.c1, Xg.out.c2, Xv.out.c0, Xv.out.c1⟩
  refine hK _ _ HJ.out ?_
  clear hK
  refine wpJ_tk 6 (v := ?v27x6) rfl ?hy27x6 HJ.out ?_
  case hy27x6 => (intro W' hJ; obtain ⟨j0, j1, j2, j3, j4⟩ := hJ; go_simp; first | done | with_reducible rfl)
  refine wpJ_done (by kernel_rfl) ?_ _
  clear HJ
  go_wp2_with fail
  go_ret
  exact ⟨rfl, hbw⟩
set_option maxRecDepth 20000 in
set_option maxHeartbeats 8000000 in
theorem pat_z {f p m l : Int} {S I H sd : Nat} {Be : Int} {O Q : Nat} (J : Jt f p m l S I H sd Be O Q) (ng : Bool) (w : World) (hT : Tab w) :
    Calls Tryz.prog 54 #[VV 0 ng, .int .i64 f] w fun en w' => en = .returned (U (exP S I O 0 ng)) ∧ Below w.heap.size w w' := by
  have HJT : Hid (Jt f p m l S I H sd Be O Q) := J
  have TB : Hid (Tab w) := hT
  obtain ⟨r, hr⟩ : ∃ r, r = exP S I O 0 ng := ⟨_, rfl⟩
  rw [← hr]
  have HR : Hid ((if ng then S else 0) = r) := by show _ = _; rw [hr]; unfold exP; cases ng <;> simp
  clear hr J hT
  go_enter Tryz.func54, Tryz.ntmps54
  go_wp2_with fail
  obtain ⟨W0, hW0⟩ : ∃ W0, W0 = (w.alloc (.cells #[.int .i64 0, .bool ng] 98)) := ⟨_, rfl⟩
  have Xv : Hid (Box W0 (w.heap.size) (.int .i64 0) (.bool ng)) := by rw [hW0]; exact ⟨by go_simp, by go_simp, by go_simp, by go_simp⟩
  have hb0 : Below w.heap.size w W0 := by rw [hW0]; exact below1 w _
  rw [← hW0]
  clear hW0
  have hbw : Below w.heap.size w w := Below.refl _ _
  obtain ⟨gv, hgv⟩ : ∃ g, g = w.heap.size := ⟨_, rfl⟩
  have HGv : Hid (w.heap.size ≤ gv) := by rw [hgv]; show _ ≤ _; omega
  rw [← hgv] at Xv
  try rw [← hgv]
  clear hgv
  replace hbw := Below.on hbw hb0
  clear hb0
  obtain ⟨cv0, cv1, fv0, fv1⟩ := Xv.out
  have hnev := Xv.out.lt
  go_wp2_with fail
  clear cv0 cv1 fv0 fv1 hnev
  refine (join_z HJT.out.jn.jm ng 0 _).mono ?_
  rintro e v1 ⟨rfl, hb1⟩
  rw [HR.out]
  replace Xv : Hid _ := Xv.out.below hb1
  replace hbw := Below.on hbw hb1
  clear hb1
  go_wp2_with fail
  go_ret
  exact ⟨rfl, hbw⟩
set_option maxRecDepth 20000 in
set_option maxHeartbeats 8000000 in
theorem pat_o {f p m l : Int} {S I H sd : Nat} {Be : Int} {O Q : Nat} (J : Jt f p m l S I H sd Be O Q) (ng : Bool) (w : World) (hT : Tab w) :
    Calls Tryz.prog 54 #[VV 1 ng, .int .i64 f] w fun en w' => en = .returned (U (exP S I O 1 ng)) ∧ Below w.heap.size w w' := by
  have HJT : Hid (Jt f p m l S I H sd Be O Q) := J
  have TB : Hid (Tab w) := hT
  obtain ⟨r, hr⟩ : ∃ r, r = exP S I O 1 ng := ⟨_, rfl⟩
  rw [← hr]
  have HR : Hid ((if ng then S + O else O) = r) := by show _ = _; rw [hr]; unfold exP; cases ng <;> simp
  clear hr J hT
  go_enter Tryz.func54, Tryz.ntmps54
  go_wp2_with fail
  obtain ⟨W0, hW0⟩ : ∃ W0, W0 = (w.alloc (.cells #[.int .i64 1, .bool ng] 98)) := ⟨_, rfl⟩
  have Xv : Hid (Box W0 (w.heap.size) (.int .i64 1) (.bool ng)) := by rw [hW0]; exact ⟨by go_simp, by go_simp, by go_simp, by go_simp⟩
  have hb0 : Below w.heap.size w W0 := by rw [hW0]; exact below1 w _
  rw [← hW0]
  clear hW0
  have hbw : Below w.heap.size w w := Below.refl _ _
  obtain ⟨gv, hgv⟩ : ∃ g, g = w.heap.size := ⟨_, rfl⟩
  have HGv : Hid (w.heap.size ≤ gv) := by rw [hgv]; show _ ≤ _; omega
  rw [← hgv] at Xv
  try rw [← hgv]
  clear hgv
  replace hbw := Below.on hbw hb0
  clear hb0
  obtain ⟨cv0, cv1, fv0, fv1⟩ := Xv.out
  have hnev := Xv.out.lt
  go_wp2_with fail
  clear cv0 cv1 fv0 fv1 hnev
  refine (HJT.out.o ng _ (TB.out.below hbw)).mono ?_
  rintro e v1 ⟨rfl, hb1⟩
  rw [HR.out]
  replace Xv : Hid _ := Xv.out.below hb1
  replace hbw := Below.on hbw hb1
  clear hb1
  go_wp2_with fail
  go_ret
  exact ⟨rfl, hbw⟩
theorem pat_ok {f p m l : Int} {S I H sd : Nat} {Be : Int} {O Q : Nat} (J : Jt f p m l S I H sd Be O Q) {sz : Int} (hs : sz = 0 ∨ sz = 1 ∨ sz = 2) (ng : Bool) (w : World) (hT : Tab w) : Calls Tryz.prog 54 #[VV sz ng, .int .i64 f] w fun en w' => en = .returned (U (exP S I O sz ng)) ∧ Below w.heap.size w w' := by
  rcases hs with rfl | rfl | rfl
  · exact pat_z J ng w hT
  · exact pat_o J ng w hT
  · exact pat_p J ng w
theorem exSz_or (fn q : Int) (wh : Bool) : exSz fn q wh = 0 ∨ exSz fn q wh = 1 ∨ exSz fn q wh = 2 := by
  unfold exSz
  repeat' split
  all_goals simp
def exQ (z e : Int) : Int := if 0 ≤ e then (2 * (z * ((2 ^ e.toNat : Nat) : Int))) % 4 else if e = -1 then z % 4 else ((z + 1) / 2) % 4
def exOk (fn e : Int) : Bool := decide (-1 ≤ e ∨ (fn = 6 ∧ e = -2))
def exW (fn : Int) (S I O : Nat) (neg : Bool) (z e : Int) : Nat := if exOk fn e then exP S I O (exSz fn (exQ z e) (decide (-1 ≤ e))) (exNg fn (exQ z e) (decide (-1 ≤ e)) neg) else 0
theorem vf_dbt {f p m l : Int} {S I H sd : Nat} {Be : Int} (J : Jn f p m l S I H sd Be) {b : Nat} (hr : b % S < I) {zo eo : Int} (hv : VF S H l b zo eo) : DB zo eo 128 1430 := by
  have hp := J.jm.pm.hp
  have h9 := J.jm.pm.h9
  have hlo := J.jm.pm.lo
  have hbq := J.jm.bq _ hr
  have hbu := J.jm.bu
  have hsl := J.jm.sl
  obtain ⟨z1, e1, v1, v2⟩ := vf_ex J.jm.pm hr
  obtain ⟨rfl, rfl⟩ := dv_inj hv.fm v1.fm (hv.v.trans v1.v.symm)
  obtain ⟨q, hq⟩ : ∃ q, q = b % S / H - 1 := ⟨_, rfl⟩
  have hmn : b % S - q * H < 2 * H := by
    have e1 := Nat.div_add_mod (b % S) H
    have e2 := Nat.mod_lt (b % S) hp
    rw [Nat.mul_comm] at e1
    by_cases e3 : b % S / H = 0
    · rw [e3] at e1; omega
    · rw [hq, Nat.sub_mul]; omega
  rw [← hq] at v2 hbq
  obtain ⟨y, hy⟩ : ∃ y : Int, y = (if S ≤ b then -((b % S - q * H : Nat) : Int) else ((b % S - q * H : Nat) : Int)) := ⟨_, rfl⟩
  rw [← hy] at v2
  have hya : y.natAbs ≤ 2 ^ 53 := by
    have : (2 : Nat) ^ 53 = 9007199254740992 := by decide
    rw [hy, this]; split <;> omega
  by_cases h0 : y = 0
  · rw [h0, dv_zero] at v2
    have := dv_eq_zero v2
    rcases hv.fm with ⟨h1, h2⟩ | ⟨h1, _⟩
    · rw [h1, h2]; exact ⟨.inl ⟨rfl, rfl⟩, by decide, by decide, by decide⟩
    · omega
  · obtain ⟨za, ea, g1, g2, _, g4, g5, g6⟩ := form_ex (z := y) (e := l + (q : Int)) (L := 53) h0 (by omega) hya (by omega)
    obtain ⟨rfl, rfl⟩ := dv_inj hv.fm g1 (v2.trans g2.symm)
    have h128 : (2 : Nat) ^ 53 < 2 ^ 128 := by decide
    exact ⟨g1, by omega, by omega, by omega⟩
theorem results_t3t {fn : Func} {a b c : Tmp} (h : fn.results = #[.tmp a, .tmp b, .tmp c]) (tmps : Array Value) (P : Program) (w : World) :
    (results fn tmps).run P w = .ok (.tuple #[tmps.getD a undef, tmps.getD b undef, tmps.getD c undef]) w := by
  simp only [results, h]
  simp
theorem results_tct {fn : Func} {a p b : Tmp} {ty : TypeId} (h : fn.results = #[.tmp a, .cell p ty, .tmp b]) (tmps : Array Value) (P : Program) (w : World) :
    (results fn tmps).run P w = ((asAddr (tmps.getD p undef)).run P w).andThen fun x w₁ => ((loadVar ty x).run P w₁).andThen fun v w₂ => .ok (.tuple #[tmps.getD a undef, v, tmps.getD b undef]) w₂ := by
  simp only [results, h]
  simp [Sem.run_bind, Result.andThen]
theorem exW_w {fn z e q : Int} {S I O : Nat} {neg : Bool} (he : -1 ≤ e) (hq : exQ z e = q) : exOk fn e = true ∧ exW fn S I O neg z e = exP S I O (exSz fn q true) (exNg fn q true neg) := by
  have h1 : exOk fn e = true := decide_eq_true (.inl he)
  refine ⟨h1, ?_⟩
  unfold exW
  rw [h1, hq, show decide (-1 ≤ e) = true from decide_eq_true he]
  rfl
theorem exW_q {z e q : Int} {S I O : Nat} {neg : Bool} (he : e = -2) (hq : exQ z e = q) : exOk 6 e = true ∧ exW 6 S I O neg z e = exP S I O (exSz 6 q false) (exNg 6 q false neg) := by
  have h1 : exOk 6 e = true := decide_eq_true (.inr ⟨rfl, he⟩)
  refine ⟨h1, ?_⟩
  unfold exW
  rw [h1, hq, show decide (-1 ≤ e) = false from decide_eq_false (by omega)]
  rfl
theorem exW_n {fn z e : Int} {S I O : Nat} {neg : Bool} (he : ¬ (-1 ≤ e ∨ (fn = 6 ∧ e = -2))) : exOk fn e = false ∧ exW fn S I O neg z e = 0 := by
  have h1 : exOk fn e = false := decide_eq_false he
  refine ⟨h1, ?_⟩
  unfold exW
  rw [h1]
  rfl
theorem Rdc.w {z e K zr er : Int} (h : Rdc z e K zr er) (he : -1 ≤ e) : zr = 0 ∧ er = 0 ∧ exQ z e = K % 4 := by
  unfold exQ
  by_cases h0 : 0 ≤ e
  · obtain ⟨_, a, b, c⟩ := h.whole h0
    rw [if_pos h0, ← c]
    exact ⟨a, b, rfl⟩
  · have h1 : e = -1 := by omega
    obtain ⟨c, a, b⟩ := h.half h1
    rw [if_neg h0, if_pos h1, c]
    exact ⟨a, b, rfl⟩
theorem DFm.odd {z e : Int} (h : DFm z e) (he : e ≠ 0) : z % 2 = 1 ∧ -4194304 ≤ e := by
  rcases h with ⟨_, h⟩ | ⟨h, h1, _⟩
  · exact absurd h he
  · exact ⟨h, by omega⟩
theorem Rdc.q {z e K zr er : Int} (h : Rdc z e K zr er) (hf : DFm z e) (he : e = -2) : zr ≠ 0 ∧ topI zr er = -2 ∧ exQ z e = K % 4 := by
  obtain ⟨a, b, c⟩ := h.quarter (hf.odd (by omega)).1 he
  unfold exQ
  rw [if_neg (by omega), if_neg (by omega), b, c, show (z + 1) / 2 = K from by omega]
  exact ⟨by decide, by decide, rfl⟩
theorem Rdc.n {z e K zr er : Int} (h : Rdc z e K zr er) (hf : DFm z e) (he : e < -2) : zr ≠ 0 ∧ topI zr er ≠ -2 := h.other (hf.odd (by omega)).1 he (hf.odd (by omega)).2
theorem fin_cls {f p m l : Int} {S I H : Nat} (F : Pm f p m l S I H) {b : Nat} (hb : b < 2 * S) (h : I ≤ b % S) (w : World) : Calls Tryz.prog 76 #[.int .i64 f, U b] w fun e w' => e = .returned (.tuple #[PV 0 0 0 false 0, .int .i64 6]) ∧ Below w.heap.size w w' := by
  by_cases h1 : b % S = I
  · exact finite_i F b hb h1 w
  · exact finite_e (fun w => ranked_nan F.fm b hb (by omega) w) (by decide) w
set_option maxRecDepth 20000 in
set_option maxHeartbeats 8000000 in
theorem taken_4 (w : World) :
    Calls Tryz.prog 52 #[.int .i64 4] w fun en w' => en = .returned (.bool true) ∧ Below w.heap.size w w' := by
  have hbw : Below w.heap.size w w := Below.refl _ _
  go_enter Tryz.func52, Tryz.ntmps52
  go_wp2_with fail
  go_ret
  exact ⟨rfl, hbw⟩
set_option maxRecDepth 20000 in
set_option maxHeartbeats 8000000 in
theorem taken_5 (w : World) :
    Calls Tryz.prog 52 #[.int .i64 5] w fun en w' => en = .returned (.bool true) ∧ Below w.heap.size w w' := by
  have hbw : Below w.heap.size w w := Below.refl _ _
  go_enter Tryz.func52, Tryz.ntmps52
  go_wp2_with fail
  go_ret
  exact ⟨rfl, hbw⟩
set_option maxRecDepth 20000 in
set_option maxHeartbeats 8000000 in
theorem taken_6 (w : World) :
    Calls Tryz.prog 52 #[.int .i64 6] w fun en w' => en = .returned (.bool true) ∧ Below w.heap.size w w' := by
  have hbw : Below w.heap.size w w := Below.refl _ _
  go_enter Tryz.func52, Tryz.ntmps52
  go_wp2_with fail
  go_ret
  exact ⟨rfl, hbw⟩
set_option maxRecDepth 20000 in
set_option maxHeartbeats 8000000 in
theorem taken_lo (fn : Int) (h : decide (4 ≤ fn) = false) (w : World) :
    Calls Tryz.prog 52 #[.int .i64 fn] w fun en w' => en = .returned (.bool false) ∧ Below w.heap.size w w' := by
  have hbw : Below w.heap.size w w := Below.refl _ _
  go_enter Tryz.func52, Tryz.ntmps52
  go_wp2_with fail
  go_ret
  exact ⟨rfl, hbw⟩
set_option maxRecDepth 20000 in
set_option maxHeartbeats 8000000 in
theorem taken_hi (fn : Int) (h : decide (4 ≤ fn) = true) (h2 : decide (fn ≤ 6) = false) (w : World) :
    Calls Tryz.prog 52 #[.int .i64 fn] w fun en w' => en = .returned (.bool false) ∧ Below w.heap.size w w' := by
  have hbw : Below w.heap.size w w := Below.refl _ _
  go_enter Tryz.func52, Tryz.ntmps52
  go_wp2_with fail
  go_ret
  exact ⟨h2 ▸ rfl, hbw⟩
theorem taken_x (fn : Int) (h : fn < 4 ∨ 6 < fn) (w : World) : Calls Tryz.prog 52 #[.int .i64 fn] w fun en w' => en = .returned (.bool false) ∧ Below w.heap.size w w' := by
  by_cases h4 : 4 ≤ fn
  · exact taken_hi fn (decide_eq_true h4) (decide_eq_false (by omega)) w
  · exact taken_lo fn (decide_eq_false h4) w
set_option maxRecDepth 20000 in
set_option maxHeartbeats 8000000 in
theorem exact_f4 {f p m l : Int} {S I H sd : Nat} {Be : Int} {O Q : Nat} (J : Jt f p m l S I H sd Be O Q) {b : Nat} (hb : b < 2 * S) (hr : b % S < I) {z e : Int} (hv : VF S H l b z e) (w : World) (hT : Tab w) :
    Calls Tryz.prog 23 #[.int .i64 f, .int .i64 4, U b] w fun en w' => en = .returned (.tuple #[U (exW 4 S I O (decide (S ≤ b)) z e), .bool (exOk 4 e), .int .i64 0]) ∧ Below w.heap.size w w' := by
  have hbw : Below w.heap.size w w := Below.refl _ _
  have HJT : Hid (Jt f p m l S I H sd Be O Q) := J
  have TB : Hid (Tab w) := hT
  have HV : Hid (b < 2 * S ∧ b % S < I ∧ VF S H l b z e ∧ DB z e 128 1430) := ⟨hb, hr, hv, vf_dbt J.jn hr hv⟩
  obtain ⟨neg, hneg⟩ : ∃ neg, neg = decide (S ≤ b) := ⟨_, rfl⟩
  obtain ⟨R, hR⟩ : ∃ R, R = exW 4 S I O neg z e := ⟨_, rfl⟩
  obtain ⟨ok, hok⟩ : ∃ ok, ok = exOk 4 e := ⟨_, rfl⟩
  rw [← hneg, ← hR, ← hok]
  have HR : Hid (neg = decide (S ≤ b) ∧ R = exW 4 S I O neg z e ∧ ok = exOk 4 e) := ⟨hneg, hR, hok⟩
  clear J hT hb hr hv hneg hR hok
  go_enter Tryz.func23, Tryz.ntmps23
  go_wp2_with fail
  refine (taken_4 _).mono ?_
  rintro e v1 ⟨rfl, hb1⟩
  replace hbw := Below.on hbw hb1
  clear hb1
  go_wp2_with fail
  refine (split_ok HJT.out.jn.jm.pm b HV.out.1 HV.out.2.1 _).mono ?_
  rintro e v2 ⟨rfl, hb2⟩
  rw [← HR.out.1]
  replace hbw := Below.on hbw hb2
  clear hb2
  go_wp2_with fail
  refine (value_v HJT.out.jn.jm.pm HV.out.1 HV.out.2.1 HV.out.2.2.1 _ (TB.out.below hbw)).mono ?_
  rintro e9 v3 ⟨v, rfl, hv, hb3⟩
  obtain ⟨s3, p3, m3, rfl, hd3⟩ := hv.dn HV.out.2.2.1.fm
  clear hv
  replace hbw := Below.on hbw hb3
  clear hb3
  have D3 : Hid (DN v3 s3 p3 m3 m3 e z) := hd3
  clear hd3
  go_wp2_with fail
  have Xx0 : Hid (B3q (v3.alloc (.cells #[.bool s3, .slice p3 m3 m3, .int .i64 e] 28)) v3.heap.size (.bool s3) (.slice p3 m3 m3) (.int .i64 e)) := B3q.new v3 _ _ _ _
  have hbn : Below v3.heap.size v3 (v3.alloc (.cells #[.bool s3, .slice p3 m3 m3, .int .i64 e] 28)) := below1 v3 _
  generalize v3.alloc (.cells #[.bool s3, .slice p3 m3 m3, .int .i64 e] 28) = Wx at *
  have HGx : Hid (w.heap.size ≤ v3.heap.size) := hbw.size
  replace D3 : Hid _ := D3.out.below hbn
  replace hbw := Below.on hbw hbn
  clear hbn
  generalize v3.heap.size = gx at *
  have Xx := Xx0
  clear Xx0
  obtain ⟨cx0, cx1, cx2, fx0, fx1, fx2⟩ := Xx.out
  have hnex : gx < Wx.heap.size := World.block_lt_of_cell? Wx _ cx0
  go_wp2_with fail
  clear cx0 cx1 cx2 fx0 fx1 fx2 hnex
  refine (reduced_ok D3.out HV.out.2.2.2 (TB.out.below hbw)).mono ?_
  rintro e9 v4 ⟨K, s4, p4, m4, zr, er, rfl, ho4, hrd, _, hb4⟩
  replace Xx : Hid _ := Xx.out.below hb4
  replace D3 : Hid _ := D3.out.below hb4
  replace hbw := Below.on hbw hb4
  clear hb4
  have D4 : Hid (DN v4 s4 p4 m4 m4 er zr) := ho4.dn
  clear D3
  have HC : Hid (Rdc z e K zr er) := hrd
  clear ho4 hrd
  obtain ⟨q, hq⟩ : ∃ q, q = K % 4 := ⟨_, rfl⟩
  rw [← hq]
  have HQ : Hid (q = K % 4 ∧ 0 ≤ q ∧ q < 4) := ⟨hq, by omega, by omega⟩
  clear hq
  go_wp2_with fail
  have Xr0 : Hid (B3q (v4.alloc (.cells #[.bool s4, .slice p4 m4 m4, .int .i64 er] 28)) v4.heap.size (.bool s4) (.slice p4 m4 m4) (.int .i64 er)) := B3q.new v4 _ _ _ _
  have hbn : Below v4.heap.size v4 (v4.alloc (.cells #[.bool s4, .slice p4 m4 m4, .int .i64 er] 28)) := below1 v4 _
  generalize v4.alloc (.cells #[.bool s4, .slice p4 m4 m4, .int .i64 er] 28) = Wr at *
  have HGr : Hid (w.heap.size ≤ v4.heap.size) := hbw.size
  replace Xx : Hid _ := Xx.out.below hbn
  replace D4 : Hid _ := D4.out.below hbn
  replace hbw := Below.on hbw hbn
  clear hbn
  generalize v4.heap.size = gr at *
  have Xr := Xr0
  clear Xr0
  obtain ⟨cr0, cr1, cr2, fr0, fr1, fr2⟩ := Xr.out
  have hner : gr < Wr.heap.size := World.block_lt_of_cell? Wr _ cr0
  go_wp2_with fail
  clear cr0 cr1 cr2 fr0 fr1 fr2 hner
  by_cases he : -1 ≤ e
  · have hz := HC.out.w he
    have he' : Hid (-1 ≤ e) := he
    clear he
    have hz1 : Hid (zr = 0 ∧ exQ z e = q) := ⟨hz.1, by rw [HQ.out.1]; exact hz.2.2⟩
    clear hz
    obtain ⟨A, hA⟩ : ∃ A, A = exSz 4 q true := ⟨_, rfl⟩
    obtain ⟨N, hN⟩ : ∃ N, N = exNg 4 q true neg := ⟨_, rfl⟩
    have HC9 := exactly_w4 D4.out q HQ.out.2 neg hz1.out.1
    rw [← hA, ← hN] at HC9
    have HAN : Hid (R = exP S I O A N ∧ ok = true ∧ (A = 0 ∨ A = 1 ∨ A = 2)) := by rw [hA, hN]; exact ⟨by rw [HR.out.2.1]; exact (exW_w he'.out hz1.out.2).2, by rw [HR.out.2.2]; exact (exW_w (S := S) (I := I) (O := O) (neg := neg) he'.out hz1.out.2).1, exSz_or _ _ _⟩
    clear hA hN
    obtain rfl := HAN.out.2.1
    refine HC9.mono ?_
    clear HC9
    rintro e9 v5 ⟨rfl, hb5⟩
    replace Xx : Hid _ := Xx.out.below hb5
    replace Xr : Hid _ := Xr.out.below hb5
    replace D4 : Hid _ := D4.out.below hb5
    replace hbw := Below.on hbw hb5
    clear hb5
    go_wp2_with fail
    have Xv0 : Hid (Box (v5.alloc (.cells #[.int .i64 A, .bool N] 98)) v5.heap.size (.int .i64 A) (.bool N)) := Box.new v5 _ _ _
    have hbn : Below v5.heap.size v5 (v5.alloc (.cells #[.int .i64 A, .bool N] 98)) := below1 v5 _
    generalize v5.alloc (.cells #[.int .i64 A, .bool N] 98) = Wv at *
    have HGv : Hid (w.heap.size ≤ v5.heap.size) := hbw.size
    replace Xx : Hid _ := Xx.out.below hbn
    replace Xr : Hid _ := Xr.out.below hbn
    replace D4 : Hid _ := D4.out.below hbn
    replace hbw := Below.on hbw hbn
    clear hbn
    generalize v5.heap.size = gv at *
    have Xv := Xv0
    clear Xv0
    obtain ⟨cv0, cv1, fv0, fv1⟩ := Xv.out
    have hnev := Xv.out.lt
    go_wp2_with fail
    clear cv0 cv1 fv0 fv1 hnev
    refine (pat_ok HJT.out HAN.out.2.2 N _ (TB.out.below hbw)).mono ?_
    rintro e v6 ⟨rfl, hb6⟩
    rw [← HAN.out.1]
    replace Xx : Hid _ := Xx.out.below hb6
    replace Xr : Hid _ := Xr.out.below hb6
    replace Xv : Hid _ := Xv.out.below hb6
    replace D4 : Hid _ := D4.out.below hb6
    replace hbw := Below.on hbw hb6
    clear hb6
    go_wp2_with fail
    refine bodyPost_ret (v := .tuple #[U R, .bool true, .int .i64 0]) (by rw [results_t3t rfl]; go_simp) rfl ⟨rfl, hbw⟩
  · have he' : Hid (¬ (-1 ≤ e ∨ (4 = (6 : Int) ∧ e = -2))) := by show ¬ _; omega
    have hz1 : Hid (zr ≠ 0) := by
      by_cases h2 : e = -2
      · exact (HC.out.q HV.out.2.2.1.fm h2).1
      · exact (HC.out.n HV.out.2.2.1.fm (by omega)).1
    clear he
    have HAN : Hid (R = 0 ∧ ok = false) := ⟨by rw [HR.out.2.1]; exact (exW_n he'.out).2, by rw [HR.out.2.2]; exact (exW_n (z := z) (S := S) (I := I) (O := O) (neg := neg) he'.out).1⟩
    obtain rfl := HAN.out.1
    obtain rfl := HAN.out.2
    refine (exactly_n4 D4.out q HQ.out.2 neg hz1.out).mono ?_
    rintro e9 v5 ⟨rfl, hb5⟩
    replace Xx : Hid _ := Xx.out.below hb5
    replace Xr : Hid _ := Xr.out.below hb5
    replace D4 : Hid _ := D4.out.below hb5
    replace hbw := Below.on hbw hb5
    clear hb5
    go_wp2_with fail
    have Xv0 : Hid (Box (v5.alloc (.cells #[.int .i64 0, .bool false] 98)) v5.heap.size (.int .i64 0) (.bool false)) := Box.new v5 _ _ _
    have hbn : Below v5.heap.size v5 (v5.alloc (.cells #[.int .i64 0, .bool false] 98)) := below1 v5 _
    generalize v5.alloc (.cells #[.int .i64 0, .bool false] 98) = Wv at *
    have HGv : Hid (w.heap.size ≤ v5.heap.size) := hbw.size
    replace Xx : Hid _ := Xx.out.below hbn
    replace Xr : Hid _ := Xr.out.below hbn
    replace D4 : Hid _ := D4.out.below hbn
    replace hbw := Below.on hbw hbn
    clear hbn
    generalize v5.heap.size = gv at *
    have Xv := Xv0
    clear Xv0
    go_wp2_with fail
    refine bodyPost_ret (v := .tuple #[U 0, .bool false, .int .i64 0]) (by rw [results_t3t rfl]; go_simp) rfl ⟨rfl, hbw⟩
set_option maxRecDepth 20000 in
set_option maxHeartbeats 8000000 in
theorem exact_c4 {f p m l : Int} {S I H sd : Nat} {Be : Int} {O Q : Nat} (J : Jt f p m l S I H sd Be O Q) {b : Nat} (hb : b < 2 * S) (hr : I ≤ b % S) (w : World) :
    Calls Tryz.prog 23 #[.int .i64 f, .int .i64 4, U b] w fun en w' => en = .returned (.tuple #[U Q, .bool true, .int .i64 0]) ∧ Below w.heap.size w w' := by
  have hbw : Below w.heap.size w w := Below.refl _ _
  have HJT : Hid (Jt f p m l S I H sd Be O Q) := J
  have HV : Hid (b < 2 * S ∧ I ≤ b % S) := ⟨hb, hr⟩
  clear J hb hr
  go_enter Tryz.func23, Tryz.ntmps23
  go_wp2_with fail
  refine (taken_4 _).mono ?_
  rintro e v1 ⟨rfl, hb1⟩
  replace hbw := Below.on hbw hb1
  clear hb1
  go_wp2_with fail
  refine (split_e (fun w => fin_cls HJT.out.jn.jm.pm HV.out.1 HV.out.2 w) (by decide) _).mono ?_
  rintro e v2 ⟨rfl, hb2⟩
  replace hbw := Below.on hbw hb2
  clear hb2
  go_wp2_with fail
  refine (HJT.out.qt _).mono ?_
  rintro e v3 ⟨rfl, hb3⟩
  replace hbw := Below.on hbw hb3
  clear hb3
  go_wp2_with fail
  refine bodyPost_ret (v := .tuple #[U Q, .bool true, .int .i64 0]) (by rw [results_t3t rfl]; go_simp) rfl ⟨rfl, hbw⟩
set_option maxRecDepth 20000 in
set_option maxHeartbeats 8000000 in
theorem exact_f5 {f p m l : Int} {S I H sd : Nat} {Be : Int} {O Q : Nat} (J : Jt f p m l S I H sd Be O Q) {b : Nat} (hb : b < 2 * S) (hr : b % S < I) {z e : Int} (hv : VF S H l b z e) (w : World) (hT : Tab w) :
    Calls Tryz.prog 23 #[.int .i64 f, .int .i64 5, U b] w fun en w' => en = .returned (.tuple #[U (exW 5 S I O (decide (S ≤ b)) z e), .bool (exOk 5 e), .int .i64 0]) ∧ Below w.heap.size w w' := by
  have hbw : Below w.heap.size w w := Below.refl _ _
  have HJT : Hid (Jt f p m l S I H sd Be O Q) := J
  have TB : Hid (Tab w) := hT
  have HV : Hid (b < 2 * S ∧ b % S < I ∧ VF S H l b z e ∧ DB z e 128 1430) := ⟨hb, hr, hv, vf_dbt J.jn hr hv⟩
  obtain ⟨neg, hneg⟩ : ∃ neg, neg = decide (S ≤ b) := ⟨_, rfl⟩
  obtain ⟨R, hR⟩ : ∃ R, R = exW 5 S I O neg z e := ⟨_, rfl⟩
  obtain ⟨ok, hok⟩ : ∃ ok, ok = exOk 5 e := ⟨_, rfl⟩
  rw [← hneg, ← hR, ← hok]
  have HR : Hid (neg = decide (S ≤ b) ∧ R = exW 5 S I O neg z e ∧ ok = exOk 5 e) := ⟨hneg, hR, hok⟩
  clear J hT hb hr hv hneg hR hok
  go_enter Tryz.func23, Tryz.ntmps23
  go_wp2_with fail
  refine (taken_5 _).mono ?_
  rintro e v1 ⟨rfl, hb1⟩
  replace hbw := Below.on hbw hb1
  clear hb1
  go_wp2_with fail
  refine (split_ok HJT.out.jn.jm.pm b HV.out.1 HV.out.2.1 _).mono ?_
  rintro e v2 ⟨rfl, hb2⟩
  rw [← HR.out.1]
  replace hbw := Below.on hbw hb2
  clear hb2
  go_wp2_with fail
  refine (value_v HJT.out.jn.jm.pm HV.out.1 HV.out.2.1 HV.out.2.2.1 _ (TB.out.below hbw)).mono ?_
  rintro e9 v3 ⟨v, rfl, hv, hb3⟩
  obtain ⟨s3, p3, m3, rfl, hd3⟩ := hv.dn HV.out.2.2.1.fm
  clear hv
  replace hbw := Below.on hbw hb3
  clear hb3
  have D3 : Hid (DN v3 s3 p3 m3 m3 e z) := hd3
  clear hd3
  go_wp2_with fail
  have Xx0 : Hid (B3q (v3.alloc (.cells #[.bool s3, .slice p3 m3 m3, .int .i64 e] 28)) v3.heap.size (.bool s3) (.slice p3 m3 m3) (.int .i64 e)) := B3q.new v3 _ _ _ _
  have hbn : Below v3.heap.size v3 (v3.alloc (.cells #[.bool s3, .slice p3 m3 m3, .int .i64 e] 28)) := below1 v3 _
  generalize v3.alloc (.cells #[.bool s3, .slice p3 m3 m3, .int .i64 e] 28) = Wx at *
  have HGx : Hid (w.heap.size ≤ v3.heap.size) := hbw.size
  replace D3 : Hid _ := D3.out.below hbn
  replace hbw := Below.on hbw hbn
  clear hbn
  generalize v3.heap.size = gx at *
  have Xx := Xx0
  clear Xx0
  obtain ⟨cx0, cx1, cx2, fx0, fx1, fx2⟩ := Xx.out
  have hnex : gx < Wx.heap.size := World.block_lt_of_cell? Wx _ cx0
  go_wp2_with fail
  clear cx0 cx1 cx2 fx0 fx1 fx2 hnex
  refine (reduced_ok D3.out HV.out.2.2.2 (TB.out.below hbw)).mono ?_
  rintro e9 v4 ⟨K, s4, p4, m4, zr, er, rfl, ho4, hrd, _, hb4⟩
  replace Xx : Hid _ := Xx.out.below hb4
  replace D3 : Hid _ := D3.out.below hb4
  replace hbw := Below.on hbw hb4
  clear hb4
  have D4 : Hid (DN v4 s4 p4 m4 m4 er zr) := ho4.dn
  clear D3
  have HC : Hid (Rdc z e K zr er) := hrd
  clear ho4 hrd
  obtain ⟨q, hq⟩ : ∃ q, q = K % 4 := ⟨_, rfl⟩
  rw [← hq]
  have HQ : Hid (q = K % 4 ∧ 0 ≤ q ∧ q < 4) := ⟨hq, by omega, by omega⟩
  clear hq
  go_wp2_with fail
  have Xr0 : Hid (B3q (v4.alloc (.cells #[.bool s4, .slice p4 m4 m4, .int .i64 er] 28)) v4.heap.size (.bool s4) (.slice p4 m4 m4) (.int .i64 er)) := B3q.new v4 _ _ _ _
  have hbn : Below v4.heap.size v4 (v4.alloc (.cells #[.bool s4, .slice p4 m4 m4, .int .i64 er] 28)) := below1 v4 _
  generalize v4.alloc (.cells #[.bool s4, .slice p4 m4 m4, .int .i64 er] 28) = Wr at *
  have HGr : Hid (w.heap.size ≤ v4.heap.size) := hbw.size
  replace Xx : Hid _ := Xx.out.below hbn
  replace D4 : Hid _ := D4.out.below hbn
  replace hbw := Below.on hbw hbn
  clear hbn
  generalize v4.heap.size = gr at *
  have Xr := Xr0
  clear Xr0
  obtain ⟨cr0, cr1, cr2, fr0, fr1, fr2⟩ := Xr.out
  have hner : gr < Wr.heap.size := World.block_lt_of_cell? Wr _ cr0
  go_wp2_with fail
  clear cr0 cr1 cr2 fr0 fr1 fr2 hner
  by_cases he : -1 ≤ e
  · have hz := HC.out.w he
    have he' : Hid (-1 ≤ e) := he
    clear he
    have hz1 : Hid (zr = 0 ∧ exQ z e = q) := ⟨hz.1, by rw [HQ.out.1]; exact hz.2.2⟩
    clear hz
    obtain ⟨A, hA⟩ : ∃ A, A = exSz 5 q true := ⟨_, rfl⟩
    obtain ⟨N, hN⟩ : ∃ N, N = exNg 5 q true neg := ⟨_, rfl⟩
    have HC9 := exactly_w5 D4.out q HQ.out.2 neg hz1.out.1
    rw [← hA, ← hN] at HC9
    have HAN : Hid (R = exP S I O A N ∧ ok = true ∧ (A = 0 ∨ A = 1 ∨ A = 2)) := by rw [hA, hN]; exact ⟨by rw [HR.out.2.1]; exact (exW_w he'.out hz1.out.2).2, by rw [HR.out.2.2]; exact (exW_w (S := S) (I := I) (O := O) (neg := neg) he'.out hz1.out.2).1, exSz_or _ _ _⟩
    clear hA hN
    obtain rfl := HAN.out.2.1
    refine HC9.mono ?_
    clear HC9
    rintro e9 v5 ⟨rfl, hb5⟩
    replace Xx : Hid _ := Xx.out.below hb5
    replace Xr : Hid _ := Xr.out.below hb5
    replace D4 : Hid _ := D4.out.below hb5
    replace hbw := Below.on hbw hb5
    clear hb5
    go_wp2_with fail
    have Xv0 : Hid (Box (v5.alloc (.cells #[.int .i64 A, .bool N] 98)) v5.heap.size (.int .i64 A) (.bool N)) := Box.new v5 _ _ _
    have hbn : Below v5.heap.size v5 (v5.alloc (.cells #[.int .i64 A, .bool N] 98)) := below1 v5 _
    generalize v5.alloc (.cells #[.int .i64 A, .bool N] 98) = Wv at *
    have HGv : Hid (w.heap.size ≤ v5.heap.size) := hbw.size
    replace Xx : Hid _ := Xx.out.below hbn
    replace Xr : Hid _ := Xr.out.below hbn
    replace D4 : Hid _ := D4.out.below hbn
    replace hbw := Below.on hbw hbn
    clear hbn
    generalize v5.heap.size = gv at *
    have Xv := Xv0
    clear Xv0
    obtain ⟨cv0, cv1, fv0, fv1⟩ := Xv.out
    have hnev := Xv.out.lt
    go_wp2_with fail
    clear cv0 cv1 fv0 fv1 hnev
    refine (pat_ok HJT.out HAN.out.2.2 N _ (TB.out.below hbw)).mono ?_
    rintro e v6 ⟨rfl, hb6⟩
    rw [← HAN.out.1]
    replace Xx : Hid _ := Xx.out.below hb6
    replace Xr : Hid _ := Xr.out.below hb6
    replace Xv : Hid _ := Xv.out.below hb6
    replace D4 : Hid _ := D4.out.below hb6
    replace hbw := Below.on hbw hb6
    clear hb6
    go_wp2_with fail
    refine bodyPost_ret (v := .tuple #[U R, .bool true, .int .i64 0]) (by rw [results_t3t rfl]; go_simp) rfl ⟨rfl, hbw⟩
  · have he' : Hid (¬ (-1 ≤ e ∨ (5 = (6 : Int) ∧ e = -2))) := by show ¬ _; omega
    have hz1 : Hid (zr ≠ 0) := by
      by_cases h2 : e = -2
      · exact (HC.out.q HV.out.2.2.1.fm h2).1
      · exact (HC.out.n HV.out.2.2.1.fm (by omega)).1
    clear he
    have HAN : Hid (R = 0 ∧ ok = false) := ⟨by rw [HR.out.2.1]; exact (exW_n he'.out).2, by rw [HR.out.2.2]; exact (exW_n (z := z) (S := S) (I := I) (O := O) (neg := neg) he'.out).1⟩
    obtain rfl := HAN.out.1
    obtain rfl := HAN.out.2
    refine (exactly_n5 D4.out q HQ.out.2 neg hz1.out).mono ?_
    rintro e9 v5 ⟨rfl, hb5⟩
    replace Xx : Hid _ := Xx.out.below hb5
    replace Xr : Hid _ := Xr.out.below hb5
    replace D4 : Hid _ := D4.out.below hb5
    replace hbw := Below.on hbw hb5
    clear hb5
    go_wp2_with fail
    have Xv0 : Hid (Box (v5.alloc (.cells #[.int .i64 0, .bool false] 98)) v5.heap.size (.int .i64 0) (.bool false)) := Box.new v5 _ _ _
    have hbn : Below v5.heap.size v5 (v5.alloc (.cells #[.int .i64 0, .bool false] 98)) := below1 v5 _
    generalize v5.alloc (.cells #[.int .i64 0, .bool false] 98) = Wv at *
    have HGv : Hid (w.heap.size ≤ v5.heap.size) := hbw.size
    replace Xx : Hid _ := Xx.out.below hbn
    replace Xr : Hid _ := Xr.out.below hbn
    replace D4 : Hid _ := D4.out.below hbn
    replace hbw := Below.on hbw hbn
    clear hbn
    generalize v5.heap.size = gv at *
    have Xv := Xv0
    clear Xv0
    go_wp2_with fail
    refine bodyPost_ret (v := .tuple #[U 0, .bool false, .int .i64 0]) (by rw [results_t3t rfl]; go_simp) rfl ⟨rfl, hbw⟩
set_option maxRecDepth 20000 in
set_option maxHeartbeats 8000000 in
theorem exact_c5 {f p m l : Int} {S I H sd : Nat} {Be : Int} {O Q : Nat} (J : Jt f p m l S I H sd Be O Q) {b : Nat} (hb : b < 2 * S) (hr : I ≤ b % S) (w : World) :
    Calls Tryz.prog 23 #[.int .i64 f, .int .i64 5, U b] w fun en w' => en = .returned (.tuple #[U Q, .bool true, .int .i64 0]) ∧ Below w.heap.size w w' := by
  have hbw : Below w.heap.size w w := Below.refl _ _
  have HJT : Hid (Jt f p m l S I H sd Be O Q) := J
  have HV : Hid (b < 2 * S ∧ I ≤ b % S) := ⟨hb, hr⟩
  clear J hb hr
  go_enter Tryz.func23, Tryz.ntmps23
  go_wp2_with fail
  refine (taken_5 _).mono ?_
  rintro e v1 ⟨rfl, hb1⟩
  replace hbw := Below.on hbw hb1
  clear hb1
  go_wp2_with fail
  refine (split_e (fun w => fin_cls HJT.out.jn.jm.pm HV.out.1 HV.out.2 w) (by decide) _).mono ?_
  rintro e v2 ⟨rfl, hb2⟩
  replace hbw := Below.on hbw hb2
  clear hb2
  go_wp2_with fail
  refine (HJT.out.qt _).mono ?_
  rintro e v3 ⟨rfl, hb3⟩
  replace hbw := Below.on hbw hb3
  clear hb3
  go_wp2_with fail
  refine bodyPost_ret (v := .tuple #[U Q, .bool true, .int .i64 0]) (by rw [results_t3t rfl]; go_simp) rfl ⟨rfl, hbw⟩
set_option maxRecDepth 20000 in
set_option maxHeartbeats 8000000 in
theorem exact_f6 {f p m l : Int} {S I H sd : Nat} {Be : Int} {O Q : Nat} (J : Jt f p m l S I H sd Be O Q) {b : Nat} (hb : b < 2 * S) (hr : b % S < I) {z e : Int} (hv : VF S H l b z e) (w : World) (hT : Tab w) :
    Calls Tryz.prog 23 #[.int .i64 f, .int .i64 6, U b] w fun en w' => en = .returned (.tuple #[U (exW 6 S I O (decide (S ≤ b)) z e), .bool (exOk 6 e), .int .i64 0]) ∧ Below w.heap.size w w' := by
  have hbw : Below w.heap.size w w := Below.refl _ _
  have HJT : Hid (Jt f p m l S I H sd Be O Q) := J
  have TB : Hid (Tab w) := hT
  have HV : Hid (b < 2 * S ∧ b % S < I ∧ VF S H l b z e ∧ DB z e 128 1430) := ⟨hb, hr, hv, vf_dbt J.jn hr hv⟩
  obtain ⟨neg, hneg⟩ : ∃ neg, neg = decide (S ≤ b) := ⟨_, rfl⟩
  obtain ⟨R, hR⟩ : ∃ R, R = exW 6 S I O neg z e := ⟨_, rfl⟩
  obtain ⟨ok, hok⟩ : ∃ ok, ok = exOk 6 e := ⟨_, rfl⟩
  rw [← hneg, ← hR, ← hok]
  have HR : Hid (neg = decide (S ≤ b) ∧ R = exW 6 S I O neg z e ∧ ok = exOk 6 e) := ⟨hneg, hR, hok⟩
  clear J hT hb hr hv hneg hR hok
  go_enter Tryz.func23, Tryz.ntmps23
  go_wp2_with fail
  refine (taken_6 _).mono ?_
  rintro e v1 ⟨rfl, hb1⟩
  replace hbw := Below.on hbw hb1
  clear hb1
  go_wp2_with fail
  refine (split_ok HJT.out.jn.jm.pm b HV.out.1 HV.out.2.1 _).mono ?_
  rintro e v2 ⟨rfl, hb2⟩
  rw [← HR.out.1]
  replace hbw := Below.on hbw hb2
  clear hb2
  go_wp2_with fail
  refine (value_v HJT.out.jn.jm.pm HV.out.1 HV.out.2.1 HV.out.2.2.1 _ (TB.out.below hbw)).mono ?_
  rintro e9 v3 ⟨v, rfl, hv, hb3⟩
  obtain ⟨s3, p3, m3, rfl, hd3⟩ := hv.dn HV.out.2.2.1.fm
  clear hv
  replace hbw := Below.on hbw hb3
  clear hb3
  have D3 : Hid (DN v3 s3 p3 m3 m3 e z) := hd3
  clear hd3
  go_wp2_with fail
  have Xx0 : Hid (B3q (v3.alloc (.cells #[.bool s3, .slice p3 m3 m3, .int .i64 e] 28)) v3.heap.size (.bool s3) (.slice p3 m3 m3) (.int .i64 e)) := B3q.new v3 _ _ _ _
  have hbn : Below v3.heap.size v3 (v3.alloc (.cells #[.bool s3, .slice p3 m3 m3, .int .i64 e] 28)) := below1 v3 _
  generalize v3.alloc (.cells #[.bool s3, .slice p3 m3 m3, .int .i64 e] 28) = Wx at *
  have HGx : Hid (w.heap.size ≤ v3.heap.size) := hbw.size
  replace D3 : Hid _ := D3.out.below hbn
  replace hbw := Below.on hbw hbn
  clear hbn
  generalize v3.heap.size = gx at *
  have Xx := Xx0
  clear Xx0
  obtain ⟨cx0, cx1, cx2, fx0, fx1, fx2⟩ := Xx.out
  have hnex : gx < Wx.heap.size := World.block_lt_of_cell? Wx _ cx0
  go_wp2_with fail
  clear cx0 cx1 cx2 fx0 fx1 fx2 hnex
  refine (reduced_ok D3.out HV.out.2.2.2 (TB.out.below hbw)).mono ?_
  rintro e9 v4 ⟨K, s4, p4, m4, zr, er, rfl, ho4, hrd, _, hb4⟩
  replace Xx : Hid _ := Xx.out.below hb4
  replace D3 : Hid _ := D3.out.below hb4
  replace hbw := Below.on hbw hb4
  clear hb4
  have D4 : Hid (DN v4 s4 p4 m4 m4 er zr) := ho4.dn
  clear D3
  have HC : Hid (Rdc z e K zr er) := hrd
  clear ho4 hrd
  obtain ⟨q, hq⟩ : ∃ q, q = K % 4 := ⟨_, rfl⟩
  rw [← hq]
  have HQ : Hid (q = K % 4 ∧ 0 ≤ q ∧ q < 4) := ⟨hq, by omega, by omega⟩
  clear hq
  go_wp2_with fail
  have Xr0 : Hid (B3q (v4.alloc (.cells #[.bool s4, .slice p4 m4 m4, .int .i64 er] 28)) v4.heap.size (.bool s4) (.slice p4 m4 m4) (.int .i64 er)) := B3q.new v4 _ _ _ _
  have hbn : Below v4.heap.size v4 (v4.alloc (.cells #[.bool s4, .slice p4 m4 m4, .int .i64 er] 28)) := below1 v4 _
  generalize v4.alloc (.cells #[.bool s4, .slice p4 m4 m4, .int .i64 er] 28) = Wr at *
  have HGr : Hid (w.heap.size ≤ v4.heap.size) := hbw.size
  replace Xx : Hid _ := Xx.out.below hbn
  replace D4 : Hid _ := D4.out.below hbn
  replace hbw := Below.on hbw hbn
  clear hbn
  generalize v4.heap.size = gr at *
  have Xr := Xr0
  clear Xr0
  obtain ⟨cr0, cr1, cr2, fr0, fr1, fr2⟩ := Xr.out
  have hner : gr < Wr.heap.size := World.block_lt_of_cell? Wr _ cr0
  go_wp2_with fail
  clear cr0 cr1 cr2 fr0 fr1 fr2 hner
  by_cases he : -1 ≤ e
  · have hz := HC.out.w he
    have he' : Hid (-1 ≤ e) := he
    clear he
    have hz1 : Hid (zr = 0 ∧ exQ z e = q) := ⟨hz.1, by rw [HQ.out.1]; exact hz.2.2⟩
    clear hz
    obtain ⟨A, hA⟩ : ∃ A, A = exSz 6 q true := ⟨_, rfl⟩
    obtain ⟨N, hN⟩ : ∃ N, N = exNg 6 q true neg := ⟨_, rfl⟩
    have HC9 := exactly_w6 D4.out q HQ.out.2 neg hz1.out.1
    rw [← hA, ← hN] at HC9
    have HAN : Hid (R = exP S I O A N ∧ ok = true ∧ (A = 0 ∨ A = 1 ∨ A = 2)) := by rw [hA, hN]; exact ⟨by rw [HR.out.2.1]; exact (exW_w he'.out hz1.out.2).2, by rw [HR.out.2.2]; exact (exW_w (S := S) (I := I) (O := O) (neg := neg) he'.out hz1.out.2).1, exSz_or _ _ _⟩
    clear hA hN
    obtain rfl := HAN.out.2.1
    refine HC9.mono ?_
    clear HC9
    rintro e9 v5 ⟨rfl, hb5⟩
    replace Xx : Hid _ := Xx.out.below hb5
    replace Xr : Hid _ := Xr.out.below hb5
    replace D4 : Hid _ := D4.out.below hb5
    replace hbw := Below.on hbw hb5
    clear hb5
    go_wp2_with fail
    have Xv0 : Hid (Box (v5.alloc (.cells #[.int .i64 A, .bool N] 98)) v5.heap.size (.int .i64 A) (.bool N)) := Box.new v5 _ _ _
    have hbn : Below v5.heap.size v5 (v5.alloc (.cells #[.int .i64 A, .bool N] 98)) := below1 v5 _
    generalize v5.alloc (.cells #[.int .i64 A, .bool N] 98) = Wv at *
    have HGv : Hid (w.heap.size ≤ v5.heap.size) := hbw.size
    replace Xx : Hid _ := Xx.out.below hbn
    replace Xr : Hid _ := Xr.out.below hbn
    replace D4 : Hid _ := D4.out.below hbn
    replace hbw := Below.on hbw hbn
    clear hbn
    generalize v5.heap.size = gv at *
    have Xv := Xv0
    clear Xv0
    obtain ⟨cv0, cv1, fv0, fv1⟩ := Xv.out
    have hnev := Xv.out.lt
    go_wp2_with fail
    clear cv0 cv1 fv0 fv1 hnev
    refine (pat_ok HJT.out HAN.out.2.2 N _ (TB.out.below hbw)).mono ?_
    rintro e v6 ⟨rfl, hb6⟩
    rw [← HAN.out.1]
    replace Xx : Hid _ := Xx.out.below hb6
    replace Xr : Hid _ := Xr.out.below hb6
    replace Xv : Hid _ := Xv.out.below hb6
    replace D4 : Hid _ := D4.out.below hb6
    replace hbw := Below.on hbw hb6
    clear hb6
    go_wp2_with fail
    refine bodyPost_ret (v := .tuple #[U R, .bool true, .int .i64 0]) (by rw [results_t3t rfl]; go_simp) rfl ⟨rfl, hbw⟩
  · by_cases he2 : e = -2
    · have hz := HC.out.q HV.out.2.2.1.fm he2
      have he' : Hid (e = -2) := he2
      clear he he2
      have hz1 : Hid (zr ≠ 0 ∧ topI zr er = -2 ∧ exQ z e = q) := ⟨hz.1, hz.2.1, by rw [HQ.out.1]; exact hz.2.2⟩
      clear hz
      obtain ⟨A, hA⟩ : ∃ A, A = exSz 6 q false := ⟨_, rfl⟩
      obtain ⟨N, hN⟩ : ∃ N, N = exNg 6 q false neg := ⟨_, rfl⟩
      have HC9 := exactly_q D4.out q HQ.out.2 neg hz1.out.1 hz1.out.2.1
      rw [← hA, ← hN] at HC9
      have HAN : Hid (R = exP S I O A N ∧ ok = true ∧ (A = 0 ∨ A = 1 ∨ A = 2)) := by rw [hA, hN]; exact ⟨by rw [HR.out.2.1]; exact (exW_q he'.out hz1.out.2.2).2, by rw [HR.out.2.2]; exact (exW_q (S := S) (I := I) (O := O) (neg := neg) he'.out hz1.out.2.2).1, exSz_or _ _ _⟩
      clear hA hN
      obtain rfl := HAN.out.2.1
      refine HC9.mono ?_
      clear HC9
      rintro e9 v5 ⟨rfl, hb5⟩
      replace Xx : Hid _ := Xx.out.below hb5
      replace Xr : Hid _ := Xr.out.below hb5
      replace D4 : Hid _ := D4.out.below hb5
      replace hbw := Below.on hbw hb5
      clear hb5
      go_wp2_with fail
      have Xv0 : Hid (Box (v5.alloc (.cells #[.int .i64 A, .bool N] 98)) v5.heap.size (.int .i64 A) (.bool N)) := Box.new v5 _ _ _
      have hbn : Below v5.heap.size v5 (v5.alloc (.cells #[.int .i64 A, .bool N] 98)) := below1 v5 _
      generalize v5.alloc (.cells #[.int .i64 A, .bool N] 98) = Wv at *
      have HGv : Hid (w.heap.size ≤ v5.heap.size) := hbw.size
      replace Xx : Hid _ := Xx.out.below hbn
      replace Xr : Hid _ := Xr.out.below hbn
      replace D4 : Hid _ := D4.out.below hbn
      replace hbw := Below.on hbw hbn
      clear hbn
      generalize v5.heap.size = gv at *
      have Xv := Xv0
      clear Xv0
      obtain ⟨cv0, cv1, fv0, fv1⟩ := Xv.out
      have hnev := Xv.out.lt
      go_wp2_with fail
      clear cv0 cv1 fv0 fv1 hnev
      refine (pat_ok HJT.out HAN.out.2.2 N _ (TB.out.below hbw)).mono ?_
      rintro e v6 ⟨rfl, hb6⟩
      rw [← HAN.out.1]
      replace Xx : Hid _ := Xx.out.below hb6
      replace Xr : Hid _ := Xr.out.below hb6
      replace Xv : Hid _ := Xv.out.below hb6
      replace D4 : Hid _ := D4.out.below hb6
      replace hbw := Below.on hbw hb6
      clear hb6
      go_wp2_with fail
      refine bodyPost_ret (v := .tuple #[U R, .bool true, .int .i64 0]) (by rw [results_t3t rfl]; go_simp) rfl ⟨rfl, hbw⟩
    · have hz1 : Hid (zr ≠ 0 ∧ topI zr er ≠ -2) := HC.out.n HV.out.2.2.1.fm (by omega)
      have he' : Hid (¬ (-1 ≤ e ∨ (6 = (6 : Int) ∧ e = -2))) := by show ¬ _; omega
      clear he he2
      have HAN : Hid (R = 0 ∧ ok = false) := ⟨by rw [HR.out.2.1]; exact (exW_n he'.out).2, by rw [HR.out.2.2]; exact (exW_n (z := z) (S := S) (I := I) (O := O) (neg := neg) he'.out).1⟩
      obtain rfl := HAN.out.1
      obtain rfl := HAN.out.2
      refine (exactly_n6 D4.out q HQ.out.2 neg hz1.out.1 hz1.out.2).mono ?_
      rintro e9 v5 ⟨rfl, hb5⟩
      replace Xx : Hid _ := Xx.out.below hb5
      replace Xr : Hid _ := Xr.out.below hb5
      replace D4 : Hid _ := D4.out.below hb5
      replace hbw := Below.on hbw hb5
      clear hb5
      go_wp2_with fail
      have Xv0 : Hid (Box (v5.alloc (.cells #[.int .i64 0, .bool false] 98)) v5.heap.size (.int .i64 0) (.bool false)) := Box.new v5 _ _ _
      have hbn : Below v5.heap.size v5 (v5.alloc (.cells #[.int .i64 0, .bool false] 98)) := below1 v5 _
      generalize v5.alloc (.cells #[.int .i64 0, .bool false] 98) = Wv at *
      have HGv : Hid (w.heap.size ≤ v5.heap.size) := hbw.size
      replace Xx : Hid _ := Xx.out.below hbn
      replace Xr : Hid _ := Xr.out.below hbn
      replace D4 : Hid _ := D4.out.below hbn
      replace hbw := Below.on hbw hbn
      clear hbn
      generalize v5.heap.size = gv at *
      have Xv := Xv0
      clear Xv0
      go_wp2_with fail
      refine bodyPost_ret (v := .tuple #[U 0, .bool false, .int .i64 0]) (by rw [results_t3t rfl]; go_simp) rfl ⟨rfl, hbw⟩
set_option maxRecDepth 20000 in
set_option maxHeartbeats 8000000 in
theorem exact_c6 {f p m l : Int} {S I H sd : Nat} {Be : Int} {O Q : Nat} (J : Jt f p m l S I H sd Be O Q) {b : Nat} (hb : b < 2 * S) (hr : I ≤ b % S) (w : World) :
    Calls Tryz.prog 23 #[.int .i64 f, .int .i64 6, U b] w fun en w' => en = .returned (.tuple #[U Q, .bool true, .int .i64 0]) ∧ Below w.heap.size w w' := by
  have hbw : Below w.heap.size w w := Below.refl _ _
  have HJT : Hid (Jt f p m l S I H sd Be O Q) := J
  have HV : Hid (b < 2 * S ∧ I ≤ b % S) := ⟨hb, hr⟩
  clear J hb hr
  go_enter Tryz.func23, Tryz.ntmps23
  go_wp2_with fail
  refine (taken_6 _).mono ?_
  rintro e v1 ⟨rfl, hb1⟩
  replace hbw := Below.on hbw hb1
  clear hb1
  go_wp2_with fail
  refine (split_e (fun w => fin_cls HJT.out.jn.jm.pm HV.out.1 HV.out.2 w) (by decide) _).mono ?_
  rintro e v2 ⟨rfl, hb2⟩
  replace hbw := Below.on hbw hb2
  clear hb2
  go_wp2_with fail
  refine (HJT.out.qt _).mono ?_
  rintro e v3 ⟨rfl, hb3⟩
  replace hbw := Below.on hbw hb3
  clear hb3
  go_wp2_with fail
  refine bodyPost_ret (v := .tuple #[U Q, .bool true, .int .i64 0]) (by rw [results_t3t rfl]; go_simp) rfl ⟨rfl, hbw⟩
set_option maxRecDepth 20000 in
set_option maxHeartbeats 8000000 in
theorem exact_x (f fn : Int) (h : fn < 4 ∨ 6 < fn) (b : Nat) (w : World) :
    Calls Tryz.prog 23 #[.int .i64 f, .int .i64 fn, U b] w fun en w' => en = .returned (.tuple #[.int .u64 0, .bool false, .int .i64 1]) ∧ Below w.heap.size w w' := by
  have hbw : Below w.heap.size w w := Below.refl _ _
  have HF : Hid (fn < 4 ∨ 6 < fn) := h
  clear h
  go_enter Tryz.func23, Tryz.ntmps23
  go_wp2_with fail
  refine (taken_x fn HF.out _).mono ?_
  rintro e v1 ⟨rfl, hb1⟩
  replace hbw := Below.on hbw hb1
  clear hb1
  go_wp2_with fail
  refine bodyPost_ret (v := .tuple #[.int .u64 0, .bool false, .int .i64 1]) (by rw [results_t3t rfl]; go_simp) rfl ⟨rfl, hbw⟩
set_option maxRecDepth 20000 in
set_option maxHeartbeats 8000000 in
theorem reduce_f {b : Nat} (hb : b < 2 * 9223372036854775808) (hr : b % 9223372036854775808 < 9218868437227405312) {z e : Int} (hv : VF 9223372036854775808 4503599627370496 (-1074) b z e) (w : World) (hT : Tab w) :
    Calls Tryz.prog 9 #[U b] w fun en w' => ∃ K s1 p1 m1 zr er, en = .returned (.tuple #[.int .i64 (K % 4), DV s1 p1 m1 m1 er, .int .i64 0]) ∧ DO w.heap.size w' s1 p1 m1 er zr ∧ Rdc z e K zr er ∧ DB zr er 11838 16261 ∧ Below w.heap.size w w' := by
  have TB : Hid (Tab w) := hT
  have HV : Hid (b < 2 * 9223372036854775808 ∧ b % 9223372036854775808 < 9218868437227405312 ∧ VF 9223372036854775808 4503599627370496 (-1074) b z e ∧ DB z e 128 1430) := ⟨hb, hr, hv, vf_dbt jn_64 hr hv⟩
  clear hT hb hr hv
  go_enter Tryz.func9, Tryz.ntmps9
  go_wp2_with fail
  obtain ⟨W0, hW0⟩ : ∃ W0, W0 = (w.alloc (.cells #[.bool false, .slice none 0 0, .int .i64 0] 28)) := ⟨_, rfl⟩
  have Xr : Hid (B3q W0 (w.heap.size) (.bool false) (.slice none 0 0) (.int .i64 0)) := by rw [hW0]; exact ⟨by go_simp, by go_simp, by go_simp, by go_simp, by go_simp, by go_simp⟩
  have hb0 : Below w.heap.size w W0 := by rw [hW0]; exact below1 w _
  rw [← hW0]
  clear hW0
  have hbw : Below w.heap.size w w := Below.refl _ _
  obtain ⟨gr, hgr⟩ : ∃ g, g = w.heap.size := ⟨_, rfl⟩
  have HGr : Hid (w.heap.size ≤ gr) := by rw [hgr]; show _ ≤ _; omega
  rw [← hgr] at Xr
  try rw [← hgr]
  clear hgr
  replace hbw := Below.on hbw hb0
  clear hb0
  refine (value_v pm_64 HV.out.1 HV.out.2.1 HV.out.2.2.1 _ (TB.out.below hbw)).mono ?_
  rintro e9 v3 ⟨v, rfl, hv, hb3⟩
  obtain ⟨s3, p3, m3, rfl, hd3⟩ := hv.dn HV.out.2.2.1.fm
  clear hv
  replace Xr : Hid _ := Xr.out.below hb3
  replace hbw := Below.on hbw hb3
  clear hb3
  have D3 : Hid (DN v3 s3 p3 m3 m3 e z) := hd3
  clear hd3
  go_wp2_with fail
  have Xx0 : Hid (B3q (v3.alloc (.cells #[.bool s3, .slice p3 m3 m3, .int .i64 e] 28)) v3.heap.size (.bool s3) (.slice p3 m3 m3) (.int .i64 e)) := B3q.new v3 _ _ _ _
  have hbn : Below v3.heap.size v3 (v3.alloc (.cells #[.bool s3, .slice p3 m3 m3, .int .i64 e] 28)) := below1 v3 _
  generalize v3.alloc (.cells #[.bool s3, .slice p3 m3 m3, .int .i64 e] 28) = Wx at *
  have HGx : Hid (w.heap.size ≤ v3.heap.size) := hbw.size
  replace Xr : Hid _ := Xr.out.below hbn
  replace D3 : Hid _ := D3.out.below hbn
  replace hbw := Below.on hbw hbn
  clear hbn
  generalize v3.heap.size = gx at *
  have Xx := Xx0
  clear Xx0
  obtain ⟨cx0, cx1, cx2, fx0, fx1, fx2⟩ := Xx.out
  have hnex : gx < Wx.heap.size := World.block_lt_of_cell? Wx _ cx0
  go_wp2_with fail
  clear cx0 cx1 cx2 fx0 fx1 fx2 hnex
  have HRL : Hid (gr < Wx.heap.size ∧ w.heap.size ≤ Wx.heap.size) := ⟨Xr.out.lt, hbw.size⟩
  refine (reduced_ok D3.out HV.out.2.2.2 (TB.out.below hbw)).mono ?_
  rintro e9 v4 ⟨K, s4, p4, m4, zr, er, rfl, ho4, hrd, hdb, hb4⟩
  replace Xr : Hid _ := Xr.out.below hb4
  replace Xx : Hid _ := Xx.out.below hb4
  replace D3 : Hid _ := D3.out.below hb4
  replace hbw := Below.on hbw hb4
  clear hb4
  have O4 : Hid (DO Wx.heap.size v4 s4 p4 m4 er zr) := ho4
  clear D3
  have HC : Hid (Rdc z e K zr er ∧ DB zr er 11838 16261) := ⟨hrd, hdb⟩
  clear ho4 hrd hdb
  obtain ⟨q, hq⟩ : ∃ q, q = K % 4 := ⟨_, rfl⟩
  rw [← hq]
  have HQ : Hid (q = K % 4) := hq
  clear hq
  go_wp2_with fail
  have HDrs : Hid (gr ≠ v4.heap.size) := Nat.ne_of_lt Xr.out.lt
  have Xs0 : Hid (B3q (v4.alloc (.cells #[.bool s4, .slice p4 m4 m4, .int .i64 er] 28)) v4.heap.size (.bool s4) (.slice p4 m4 m4) (.int .i64 er)) := B3q.new v4 _ _ _ _
  have hbn : Below v4.heap.size v4 (v4.alloc (.cells #[.bool s4, .slice p4 m4 m4, .int .i64 er] 28)) := below1 v4 _
  generalize v4.alloc (.cells #[.bool s4, .slice p4 m4 m4, .int .i64 er] 28) = Ws at *
  have HGs : Hid (w.heap.size ≤ v4.heap.size) := hbw.size
  replace Xr : Hid _ := Xr.out.below hbn
  replace Xx : Hid _ := Xx.out.below hbn
  replace O4 : Hid (DO Wx.heap.size Ws s4 p4 m4 er zr) := O4.out.below hbn
  replace hbw := Below.on hbw hbn
  clear hbn
  generalize v4.heap.size = gs at *
  have Xs := Xs0
  clear Xs0
  obtain ⟨W1, hW1⟩ : ∃ W1, W1 = Ws.drew := ⟨_, rfl⟩
  have hbd : Below Ws.heap.size Ws W1 := by rw [hW1]; exact bDrew1 (Below.refl _ _)
  replace Xr : Hid _ := Xr.out.below hbd
  replace Xx : Hid _ := Xx.out.below hbd
  replace Xs : Hid _ := Xs.out.below hbd
  replace O4 : Hid (DO Wx.heap.size W1 s4 p4 m4 er zr) := O4.out.below hbd
  replace hbw := Below.on hbw hbd
  clear hbd
  have HJ : Hid ((fun W' : World => W'.cell? ⟨gs, 0, none⟩ = some (.bool s4) ∧ W'.cell? ⟨gs, 1, none⟩ = some (.slice p4 m4 m4) ∧ W'.cell? ⟨gs, 2, none⟩ = some (.int .i64 er)) W1) := ⟨Xs.out.c0, Xs.out.c1, Xs.out.c2⟩
  refine wp_region_J (fun W' => W'.cell? ⟨gs, 0, none⟩ = some (.bool s4) ∧ W'.cell? ⟨gs, 1, none⟩ = some (.slice p4 m4 m4) ∧ W'.cell? ⟨gs, 2, none⟩ = some (.int .i64 er)) (by kernel_rfl) ?_
  rw [← hW1]
  clear hW1
  refine wpJ_tk 0 (v := ?v1x0) rfl ?hy1x0 HJ.out ?_
  case hy1x0 => (intro W' hJ; obtain ⟨j0, j1, j2⟩ := hJ; go_simp; first | done | with_reducible rfl)
  refine wpJ_tk 1 (v := ?v2x1) rfl ?hy2x1 HJ.out ?_
  case hy2x1 => (intro W' hJ; obtain ⟨j0, j1, j2⟩ := hJ; go_simp; first | done | with_reducible rfl)
  refine wpJ_tk 2 (v := ?v3x2) rfl ?hy3x2 HJ.out ?_
  case hy3x2 => (intro W' hJ; obtain ⟨j0, j1, j2⟩ := hJ; go_simp; first | done | with_reducible rfl)
  have HGD : Hid (gr ≠ gs ∧ gs ≠ gr) := ⟨HDrs.out, fun h => HDrs.out h.symm⟩
  obtain ⟨cr0, cr1, cr2, fr0, fr1, fr2⟩ := Xr.out
  have hner : gr < W1.heap.size := World.block_lt_of_cell? W1 _ cr0
  obtain ⟨cs0, cs1, cs2, fs0, fs1, fs2⟩ := Xs.out
  have hnes : gs < W1.heap.size := World.block_lt_of_cell? W1 _ cs0
  obtain ⟨hgd0, hgd1⟩ := HGD.out
  refine wpJ_one (i := 3) (by kernel_rfl) rfl (by kernel_rfl) (fun KJ hK => ?_)
  go_simp
  have HJ2 : Hid ((fun W' : World => W'.cell? ⟨gs, 0, none⟩ = some (.bool s4) ∧ W'.cell? ⟨gs, 1, none⟩ = some (.slice p4 m4 m4) ∧ W'.cell? ⟨gs, 2, none⟩ = some (.int .i64 er)) (((W1.setCell ⟨gr, 0, none⟩ (.bool s4)).setCell ⟨gr, 1, none⟩ (.slice p4 m4 m4)).setCell ⟨gr, 2, none⟩ (.int .i64 er))) := ⟨by go_simp, by go_simp, by go_simp⟩
  refine hK _ _ HJ2.out ?_
  clear hK HJ
  have HJ := HJ2
  clear HJ2
  refine wpJ_tk 4 (v := ?v4x4) rfl ?hy4x4 HJ.out ?_
  case hy4x4 => (intro W' hJ; obtain ⟨j0, j1, j2⟩ := hJ; go_simp; first | done | with_reducible rfl)
  refine wpJ_done (by kernel_rfl) ?_ _
  clear HJ
  go_wp2_with fail
  refine bodyPost_ret (v := .tuple #[.int .i64 q, DV s4 p4 m4 m4 er, .int .i64 0]) (by rw [results_tct rfl]; go_simp) rfl ⟨K, s4, p4, m4, zr, er, by rw [HQ.out], ?_, HC.out.1, HC.out.2, ?_⟩
  · have := HRL.out
    exact DO.mono (((O4.out.set gr 0 _ (by omega)).set gr 1 _ (by omega)).set gr 2 _ (by omega)) (by omega)
  exact bSet (bSet (bSet hbw _ _ _ HGr.out) _ _ _ HGr.out) _ _ _ HGr.out
theorem dcmp_q9 {p q : Option Addr} {m c n d : Nat} {w : World} {x y e f : Int} {s t : Bool} (hq : x = y ∧ e = f ∧ x ≠ 0) (h : DN w s p m c e x) (k : DN w t q n d f y) :
    Calls Tryz.prog 18 #[DV s p m c e, DV t q n d f] w fun en w' => en = .returned (.tuple #[.int .i64 (cmpI (dv x e) (dv y f)), .int .i64 0]) ∧ Below w.heap.size w w' := by
  obtain ⟨rfl, rfl, hx⟩ := hq
  exact dcmp_a h k rfl hx rfl
set_option maxRecDepth 20000 in
set_option maxHeartbeats 8000000 in
theorem sform_s {s1 s2 : Bool} {p1 p2 : Option Addr} {m1 m2 c1 c2 : Nat} {e1 e2 : Int} {w : World} {x y : Int} (h : DN w s1 p1 m1 c1 e1 x) (k : DN w s2 p2 m2 c2 e2 y) (hc : dv x e1 ≤ dv y e2) (hq9 : x = y ∧ e1 = e2 ∧ x ≠ 0) :
    Calls Tryz.prog 189 #[SV s1 p1 m1 c1 e1 s2 p2 m2 c2 e2] w fun en w' => en = .returned (.bool true) ∧ Below w.heap.size w w' := by
  have HQ9 : Hid (x = y ∧ e1 = e2 ∧ x ≠ 0) := hq9
  clear hq9
  have A : Hid (DN w s1 p1 m1 c1 e1 x) := h
  have B : Hid (DN w s2 p2 m2 c2 e2 y) := k
  obtain ⟨cc, hcc⟩ : ∃ cc, cc = cmpI (dv x e1) (dv y e2) := ⟨_, rfl⟩
  have HCC : Hid (cmpI (dv x e1) (dv y e2) = cc) := hcc.symm
  have k1 : decide (cc ≤ 0) = true := by rw [hcc]; unfold cmpI; by_cases a : dv x e1 < dv y e2; (· rw [if_pos a]; rfl); rw [if_neg a, if_pos (by omega)]; rfl
  clear h k hc hcc
  go_enter Tryz.func189, Tryz.ntmps189
  go_wp2_with fail
  obtain ⟨W0, hW0⟩ : ∃ W0, W0 = (w.alloc (.cells #[.bool s1, .slice p1 m1 c1, .int .i64 e1, .bool s2, .slice p2 m2 c2, .int .i64 e2] 67)) := ⟨_, rfl⟩
  have Xs : Hid (B6q W0 (w.heap.size) (.bool s1) (.slice p1 m1 c1) (.int .i64 e1) (.bool s2) (.slice p2 m2 c2) (.int .i64 e2)) := by rw [hW0]; exact ⟨by go_simp, by go_simp, by go_simp, by go_simp, by go_simp, by go_simp, by go_simp, by go_simp, by go_simp, by go_simp, by go_simp, by go_simp⟩
  have hb0 : Below w.heap.size w W0 := by rw [hW0]; exact below1 w _
  rw [← hW0]
  clear hW0
  have hbw : Below w.heap.size w w := Below.refl _ _
  obtain ⟨gs, hgs⟩ : ∃ g, g = w.heap.size := ⟨_, rfl⟩
  have HGs : Hid (w.heap.size ≤ gs) := by rw [hgs]; show _ ≤ _; omega
  rw [← hgs] at Xs
  try rw [← hgs]
  clear hgs
  replace hbw := Below.on hbw hb0
  clear hb0
  refine (dcmp_q9 HQ9.out (A.out.below hbw) (B.out.below hbw)).mono ?_
  rintro e v1 ⟨rfl, hb1⟩
  rw [HCC.out]
  replace Xs : Hid _ := Xs.out.below hb1
  replace hbw := Below.on hbw hb1
  clear hb1
  go_wp2_with fail
  go_ret
  exact ⟨rfl, hbw⟩
set_option maxRecDepth 20000 in
set_option maxHeartbeats 8000000 in
theorem sscale_s {p q : Option Addr} {m c n d : Nat} {w : World} {e f : Int} {s t : Bool} {x y : Int} (h : DN w s p m c e x) (k : DN w t q n d f y) (hc : dv x e ≤ dv y f) (hq9 : x = y ∧ e = f ∧ x ≠ 0) :
    Calls Tryz.prog 163 #[SV s p m c e t q n d f, .int .i64 0] w fun en w' => ∃ s1 p1 m1 s2 p2 m2, en = .returned (.tuple #[SV s1 p1 m1 m1 e s2 p2 m2 m2 f, .int .i64 0]) ∧ DO w.heap.size w' s1 p1 m1 e x ∧ DO w.heap.size w' s2 p2 m2 f y ∧ Below w.heap.size w w' := by
  have HQ9 : Hid (x = y ∧ e = f ∧ x ≠ 0) := hq9
  clear hq9
  have A : Hid (DN w s p m c e x) := h
  have B : Hid (DN w t q n d f y) := k
  have HC : Hid (dv x e ≤ dv y f) := hc
  clear h k hc
  go_enter Tryz.func163, Tryz.ntmps163
  go_wp2_with fail
  obtain ⟨W0, hW0⟩ : ∃ W0, W0 = ((w.alloc (.cells #[.bool s, .slice p m c, .int .i64 e, .bool t, .slice q n d, .int .i64 f] 67)).alloc (.cells #[.bool false, .slice none 0 0, .int .i64 0, .bool false, .slice none 0 0, .int .i64 0] 67)) := ⟨_, rfl⟩
  have Xs : Hid (B6q W0 (w.heap.size) (.bool s) (.slice p m c) (.int .i64 e) (.bool t) (.slice q n d) (.int .i64 f)) := by rw [hW0]; exact ⟨by go_simp, by go_simp, by go_simp, by go_simp, by go_simp, by go_simp, by go_simp, by go_simp, by go_simp, by go_simp, by go_simp, by go_simp⟩
  have Xr : Hid (B6q W0 (w.heap.size + 1) (.bool false) (.slice none 0 0) (.int .i64 0) (.bool false) (.slice none 0 0) (.int .i64 0)) := by rw [hW0]; exact ⟨by go_simp, by go_simp, by go_simp, by go_simp, by go_simp, by go_simp, by go_simp, by go_simp, by go_simp, by go_simp, by go_simp, by go_simp⟩
  have hb0 : Below w.heap.size w W0 := by rw [hW0]; exact below2 w _ _
  rw [← hW0]
  clear hW0
  have hbw : Below w.heap.size w w := Below.refl _ _
  obtain ⟨gr, hgr⟩ : ∃ g, g = w.heap.size + 1 := ⟨_, rfl⟩
  have HGr : Hid (w.heap.size ≤ gr) := by rw [hgr]; show _ ≤ _; omega
  rw [← hgr] at Xr
  try rw [← hgr]
  obtain ⟨gs, hgs⟩ : ∃ g, g = w.heap.size := ⟨_, rfl⟩
  have HGs : Hid (w.heap.size ≤ gs) := by rw [hgs]; show _ ≤ _; omega
  rw [← hgs] at Xs
  try rw [← hgs]
  have HGD : Hid (gs ≠ gr ∧ gr ≠ gs) := by rw [hgs, hgr]; exact ⟨by omega, by omega⟩
  clear hgs hgr
  replace hbw := Below.on hbw hb0
  clear hb0
  refine (sform_s (A.out.below hbw) (B.out.below hbw) HC.out HQ9.out).mono ?_
  rintro e v1 ⟨rfl, hb1⟩
  replace Xs : Hid _ := Xs.out.below hb1
  replace Xr : Hid _ := Xr.out.below hb1
  replace hbw := Below.on hbw hb1
  clear hb1
  obtain ⟨cs0, cs1, cs2, cs3, cs4, cs5, fs0, fs1, fs2, fs3, fs4, fs5⟩ := Xs.out
  have hnes : gs < v1.heap.size := World.block_lt_of_cell? v1 _ cs0
  go_wp2_with fail
  clear cs0 cs1 cs2 cs3 cs4 cs5 fs0 fs1 fs2 fs3 fs4 fs5 hnes
  obtain ⟨W5, hW5⟩ : ∃ W1, W1 = v1.drew := ⟨_, rfl⟩
  have hbd : Below v1.heap.size v1 W5 := by rw [hW5]; exact bDrew1 (Below.refl _ _)
  replace Xs : Hid _ := Xs.out.below hbd
  replace Xr : Hid _ := Xr.out.below hbd
  replace hbw := Below.on hbw hbd
  clear hbd
  have HJ : Hid ((fun W' : World => W'.cell? ⟨gs, 0, none⟩ = some (.bool s) ∧ W'.cell? ⟨gs, 1, none⟩ = some (.slice p m c) ∧ W'.cell? ⟨gs, 2, none⟩ = some (.int .i64 e) ∧ W'.cell? ⟨gs, 3, none⟩ = some (.bool t) ∧ W'.cell? ⟨gs, 4, none⟩ = some (.slice q n d) ∧ W'.cell? ⟨gs, 5, none⟩ = some (.int .i64 f)) W5) := ⟨Xs.out.c0, Xs.out.c1, Xs.out.c2, Xs.out.c3, Xs.out.c4, Xs.out.c5⟩
  refine wp_region_J (fun W' => W'.cell? ⟨gs, 0, none⟩ = some (.bool s) ∧ W'.cell? ⟨gs, 1, none⟩ = some (.slice p m c) ∧ W'.cell? ⟨gs, 2, none⟩ = some (.int .i64 e) ∧ W'.cell? ⟨gs, 3, none⟩ = some (.bool t) ∧ W'.cell? ⟨gs, 4, none⟩ = some (.slice q n d) ∧ W'.cell? ⟨gs, 5, none⟩ = some (.int .i64 f)) (by kernel_rfl) ?_
  rw [← hW5]
  clear hW5
  refine wpJ_tk 0 (v := ?v1x0) rfl ?hy1x0 HJ.out ?_
  case hy1x0 => (intro W' hJ; obtain ⟨j0, j1, j2, j3, j4, j5⟩ := hJ; go_simp; first | done | with_reducible rfl)
  refine wpJ_tk 1 (v := ?v2x1) rfl ?hy2x1 HJ.out ?_
  case hy2x1 => (intro W' hJ; obtain ⟨j0, j1, j2, j3, j4, j5⟩ := hJ; go_simp; first | done | with_reducible rfl)
  refine wpJ_tk 2 (v := ?v3x2) rfl ?hy3x2 HJ.out ?_
  case hy3x2 => (intro W' hJ; obtain ⟨j0, j1, j2, j3, j4, j5⟩ := hJ; go_simp; first | done | with_reducible rfl)
  refine wpJ_tk 7 (v := ?v4x7) rfl ?hy4x7 HJ.out ?_
  case hy4x7 => (intro W' hJ; obtain ⟨j0, j1, j2, j3, j4, j5⟩ := hJ; go_simp; first | done | with_reducible rfl)
  refine wpJ_tk 8 (v := ?v5x8) rfl ?hy5x8 HJ.out ?_
  case hy5x8 => (intro W' hJ; obtain ⟨j0, j1, j2, j3, j4, j5⟩ := hJ; go_simp; first | done | with_reducible rfl)
  go_simp
  refine wpJ_tk 9 (v := ?v6x9) rfl ?hy6x9 HJ.out ?_
  case hy6x9 => (intro W' hJ; obtain ⟨j0, j1, j2, j3, j4, j5⟩ := hJ; go_simp; first | done | with_reducible rfl)
  refine wpJ_one (i := 3) (by kernel_rfl) rfl (by kernel_rfl) (fun KJ hK => ?_)
  go_simp
  have HWL2 : Hid (gr < W5.heap.size ∧ w.heap.size ≤ W5.heap.size) := ⟨Xr.out.lt, hbw.size⟩
  refine (dscale0 (A.out.below hbw)).mono ?_
  rintro e9 v2 ⟨s2, p2, m2, rfl, hd, hb2⟩
  replace Xs : Hid _ := Xs.out.below hb2
  replace Xr : Hid _ := Xr.out.below hb2
  replace hbw := Below.on hbw hb2
  clear hb2
  have D2 : Hid (DO W5.heap.size v2 s2 p2 m2 e x) := hd
  clear hd
  clear HJ
  have HJ : Hid ((fun W' : World => W'.cell? ⟨gs, 0, none⟩ = some (.bool s) ∧ W'.cell? ⟨gs, 1, none⟩ = some (.slice p m c) ∧ W'.cell? ⟨gs, 2, none⟩ = some (.int .i64 e) ∧ W'.cell? ⟨gs, 3, none⟩ = some (.bool t) ∧ W'.cell? ⟨gs, 4, none⟩ = some (.slice q n d) ∧ W'.cell? ⟨gs, 5, none⟩ = some (.int .i64 f)) v2) := ⟨Xs.out.c0, Xs.out.c1, Xs.out.c2, Xs.out.c3, Xs.out.c4, Xs.out.c5⟩
  refine hK _ _ HJ.out ?_
  clear hK
  refine wpJ_tk 4 (v := ?v7x4) rfl ?hy7x4 HJ.out ?_
  case hy7x4 => (intro W' hJ; obtain ⟨j0, j1, j2, j3, j4, j5⟩ := hJ; go_simp; first | done | with_reducible rfl)
  refine wpJ_tk 5 (v := ?v8x5) rfl ?hy8x5 HJ.out ?_
  case hy8x5 => (intro W' hJ; obtain ⟨j0, j1, j2, j3, j4, j5⟩ := hJ; go_simp; first | done | with_reducible rfl)
  refine wpJ_one (i := 6) (by kernel_rfl) rfl (by kernel_rfl) (fun KJ hK => ?_)
  go_simp
  refine (stold).mono ?_
  rintro e v3 ⟨rfl, hb3⟩
  replace Xs : Hid _ := Xs.out.below hb3
  replace Xr : Hid _ := Xr.out.below hb3
  replace D2 : Hid (DO W5.heap.size v3 s2 p2 m2 e x) := D2.out.below hb3
  replace hbw := Below.on hbw hb3
  clear hb3
  refine hK _ _ ⟨Xs.out.c0, Xs.out.c1, Xs.out.c2, Xs.out.c3, Xs.out.c4, Xs.out.c5⟩ ?_
  clear hK
  refine wpJ_one (i := 10) (by kernel_rfl) rfl (by kernel_rfl) (fun KJ hK => ?_)
  go_simp
  have HWL4 : Hid (gr < v3.heap.size ∧ w.heap.size ≤ v3.heap.size) := ⟨Xr.out.lt, hbw.size⟩
  refine (dscale0 (B.out.below hbw)).mono ?_
  rintro e9 v4 ⟨s4, p4, m4, rfl, hd, hb4⟩
  replace Xs : Hid _ := Xs.out.below hb4
  replace Xr : Hid _ := Xr.out.below hb4
  replace D2 : Hid (DO W5.heap.size v4 s2 p2 m2 e x) := D2.out.below hb4
  replace hbw := Below.on hbw hb4
  clear hb4
  have D4 : Hid (DO v3.heap.size v4 s4 p4 m4 f y) := hd
  clear hd
  clear HJ
  have HJ : Hid ((fun W' : World => W'.cell? ⟨gs, 0, none⟩ = some (.bool s) ∧ W'.cell? ⟨gs, 1, none⟩ = some (.slice p m c) ∧ W'.cell? ⟨gs, 2, none⟩ = some (.int .i64 e) ∧ W'.cell? ⟨gs, 3, none⟩ = some (.bool t) ∧ W'.cell? ⟨gs, 4, none⟩ = some (.slice q n d) ∧ W'.cell? ⟨gs, 5, none⟩ = some (.int .i64 f)) v4) := ⟨Xs.out.c0, Xs.out.c1, Xs.out.c2, Xs.out.c3, Xs.out.c4, Xs.out.c5⟩
  refine hK _ _ HJ.out ?_
  clear hK
  refine wpJ_tk 11 (v := ?v9x11) rfl ?hy9x11 HJ.out ?_
  case hy9x11 => (intro W' hJ; obtain ⟨j0, j1, j2, j3, j4, j5⟩ := hJ; go_simp; first | done | with_reducible rfl)
  refine wpJ_tk 12 (v := ?v10x12) rfl ?hy10x12 HJ.out ?_
  case hy10x12 => (intro W' hJ; obtain ⟨j0, j1, j2, j3, j4, j5⟩ := hJ; go_simp; first | done | with_reducible rfl)
  refine wpJ_one (i := 13) (by kernel_rfl) rfl (by kernel_rfl) (fun KJ hK => ?_)
  go_simp
  refine (stold).mono ?_
  rintro e v5 ⟨rfl, hb5⟩
  replace Xs : Hid _ := Xs.out.below hb5
  replace Xr : Hid _ := Xr.out.below hb5
  replace D2 : Hid (DO W5.heap.size v5 s2 p2 m2 e x) := D2.out.below hb5
  replace D4 : Hid (DO v3.heap.size v5 s4 p4 m4 f y) := D4.out.below hb5
  replace hbw := Below.on hbw hb5
  clear hb5
  refine hK _ _ ⟨Xs.out.c0, Xs.out.c1, Xs.out.c2, Xs.out.c3, Xs.out.c4, Xs.out.c5⟩ ?_
  clear hK
  refine wpJ_one (i := 14) (by kernel_rfl) rfl (by kernel_rfl) (fun KJ hK => ?_)
  go_simp
  refine (sbetw).mono ?_
  rintro e v6 ⟨rfl, hb6⟩
  replace Xs : Hid _ := Xs.out.below hb6
  replace Xr : Hid _ := Xr.out.below hb6
  replace D2 : Hid (DO W5.heap.size v6 s2 p2 m2 e x) := D2.out.below hb6
  replace D4 : Hid (DO v3.heap.size v6 s4 p4 m4 f y) := D4.out.below hb6
  replace hbw := Below.on hbw hb6
  clear hb6
  clear HJ
  have HJ : Hid ((fun W' : World => W'.cell? ⟨gs, 0, none⟩ = some (.bool s) ∧ W'.cell? ⟨gs, 1, none⟩ = some (.slice p m c) ∧ W'.cell? ⟨gs, 2, none⟩ = some (.int .i64 e) ∧ W'.cell? ⟨gs, 3, none⟩ = some (.bool t) ∧ W'.cell? ⟨gs, 4, none⟩ = some (.slice q n d) ∧ W'.cell? ⟨gs, 5, none⟩ = some (.int .i64 f)) v6) := ⟨Xs.out.c0, Xs.out.c1, Xs.out.c2, Xs.out.c3, Xs.out.c4, Xs.out.c5⟩
  refine hK _ _ HJ.out ?_
  clear hK
  refine wpJ_tk 15 (v := ?v11x15) rfl ?hy11x15 HJ.out ?_
  case hy11x15 => (intro W' hJ; obtain ⟨j0, j1, j2, j3, j4, j5⟩ := hJ; go_simp; first | done | with_reducible rfl)
  refine wpJ_tk 16 (v := ?v12x16) rfl ?hy12x16 HJ.out ?_
  case hy12x16 => (intro W' hJ; obtain ⟨j0, j1, j2, j3, j4, j5⟩ := hJ; go_simp; first | done | with_reducible rfl)
  obtain ⟨cr0, cr1, cr2, cr3, cr4, cr5, fr0, fr1, fr2, fr3, fr4, fr5⟩ := Xr.out
  have hner : gr < v6.heap.size := World.block_lt_of_cell? v6 _ cr0
  obtain ⟨cs0, cs1, cs2, cs3, cs4, cs5, fs0, fs1, fs2, fs3, fs4, fs5⟩ := Xs.out
  have hnes : gs < v6.heap.size := World.block_lt_of_cell? v6 _ cs0
  obtain ⟨hgd0, hgd1⟩ := HGD.out
  refine wpJ_one (i := 17) (by kernel_rfl) rfl (by kernel_rfl) (fun KJ hK => ?_)
  go_simp
  have HJ2 : Hid ((fun W' : World => W'.cell? ⟨gs, 0, none⟩ = some (.bool s) ∧ W'.cell? ⟨gs, 1, none⟩ = some (.slice p m c) ∧ W'.cell? ⟨gs, 2, none⟩ = some (.int .i64 e) ∧ W'.cell? ⟨gs, 3, none⟩ = some (.bool t) ∧ W'.cell? ⟨gs, 4, none⟩ = some (.slice q n d) ∧ W'.cell? ⟨gs, 5, none⟩ = some (.int .i64 f)) ((((((v6.setCell ⟨gr, 0, none⟩ (.bool s2)).setCell ⟨gr, 1, none⟩ (.slice p2 m2 m2)).setCell ⟨gr, 2, none⟩ (.int .i64 e)).setCell ⟨gr, 3, none⟩ (.bool s4)).setCell ⟨gr, 4, none⟩ (.slice p4 m4 m4)).setCell ⟨gr, 5, none⟩ (.int .i64 f))) := ⟨by go_simp, by go_simp, by go_simp, by go_simp, by go_simp, by go_simp⟩
  refine hK _ _ HJ2.out ?_
  clear hK HJ
  have HJ := HJ2
  clear HJ2
  refine wpJ_tk 18 (v := ?v13x18) rfl ?hy13x18 HJ.out ?_
  case hy13x18 => (intro W' hJ; obtain ⟨j0, j1, j2, j3, j4, j5⟩ := hJ; go_simp; first | done | with_reducible rfl)
  refine wpJ_done (by kernel_rfl) ?_ _
  clear HJ
  go_wp2_with fail
  refine bodyPost_ret (v := .tuple #[SV s2 p2 m2 m2 e s4 p4 m4 m4 f, .int .i64 0]) (by rw [results_cell_tmp rfl]; go_simp) rfl ⟨s2, p2, m2, s4, p4, m4, rfl, ?_, ?_, ?_⟩
  · exact ((((((D2.out.set _ _ _ HWL2.out.1).set _ _ _ HWL2.out.1).set _ _ _ HWL2.out.1).set _ _ _ HWL2.out.1).set _ _ _ HWL2.out.1).set _ _ _ HWL2.out.1).mono HWL2.out.2
  · exact ((((((D4.out.set _ _ _ HWL4.out.1).set _ _ _ HWL4.out.1).set _ _ _ HWL4.out.1).set _ _ _ HWL4.out.1).set _ _ _ HWL4.out.1).set _ _ _ HWL4.out.1).mono HWL4.out.2
  · exact (bSet (bSet (bSet (bSet (bSet (bSet hbw _ _ _ HGr.out) _ _ _ HGr.out) _ _ _ HGr.out) _ _ _ HGr.out) _ _ _ HGr.out) _ _ _ HGr.out)
set_option maxRecDepth 20000 in
set_option maxHeartbeats 8000000 in
theorem smake_s {p q : Option Addr} {m c n d : Nat} {w : World} {e f : Int} {s t : Bool} {x y : Int} (h : DN w s p m c e x) (k : DN w t q n d f y) (hc : dv x e ≤ dv y f) (hq9 : x = y ∧ e = f ∧ x ≠ 0) :
    Calls Tryz.prog 121 #[DV s p m c e, DV t q n d f] w fun en w' => ∃ s1 p1 m1 s2 p2 m2, en = .returned (.tuple #[SV s1 p1 m1 m1 e s2 p2 m2 m2 f, .int .i64 0]) ∧ DO w.heap.size w' s1 p1 m1 e x ∧ DO w.heap.size w' s2 p2 m2 f y ∧ Below w.heap.size w w' := by
  have HQ9 : Hid (x = y ∧ e = f ∧ x ≠ 0) := hq9
  clear hq9
  have A : Hid (DN w s p m c e x) := h
  have B : Hid (DN w t q n d f y) := k
  have HC : Hid (dv x e ≤ dv y f) := hc
  clear h k hc
  go_enter Tryz.func121, Tryz.ntmps121
  go_wp2_with fail
  obtain ⟨W0, hW0⟩ : ∃ W0, W0 = (((w.alloc (.cells #[.bool s, .slice p m c, .int .i64 e] 28)).alloc (.cells #[.bool t, .slice q n d, .int .i64 f] 28)).alloc (.cells #[.bool false, .slice none 0 0, .int .i64 0, .bool false, .slice none 0 0, .int .i64 0] 67)) := ⟨_, rfl⟩
  have Xa : Hid (B3q W0 (w.heap.size) (.bool s) (.slice p m c) (.int .i64 e)) := by rw [hW0]; exact ⟨by go_simp, by go_simp, by go_simp, by go_simp, by go_simp, by go_simp⟩
  have Xb : Hid (B3q W0 (w.heap.size + 1) (.bool t) (.slice q n d) (.int .i64 f)) := by rw [hW0]; exact ⟨by go_simp, by go_simp, by go_simp, by go_simp, by go_simp, by go_simp⟩
  have Xr : Hid (B6q W0 (w.heap.size + 1 + 1) (.bool false) (.slice none 0 0) (.int .i64 0) (.bool false) (.slice none 0 0) (.int .i64 0)) := by rw [hW0]; exact ⟨by go_simp, by go_simp, by go_simp, by go_simp, by go_simp, by go_simp, by go_simp, by go_simp, by go_simp, by go_simp, by go_simp, by go_simp⟩
  have hb0 : Below w.heap.size w W0 := by rw [hW0]; exact below3 w _ _ _
  rw [← hW0]
  clear hW0
  have hbw : Below w.heap.size w w := Below.refl _ _
  obtain ⟨gr, hgr⟩ : ∃ g, g = w.heap.size + 1 + 1 := ⟨_, rfl⟩
  have HGr : Hid (w.heap.size ≤ gr) := by rw [hgr]; show _ ≤ _; omega
  rw [← hgr] at Xr
  try rw [← hgr]
  obtain ⟨gb, hgb⟩ : ∃ g, g = w.heap.size + 1 := ⟨_, rfl⟩
  have HGb : Hid (w.heap.size ≤ gb) := by rw [hgb]; show _ ≤ _; omega
  rw [← hgb] at Xb
  try rw [← hgb]
  obtain ⟨ga, hga⟩ : ∃ g, g = w.heap.size := ⟨_, rfl⟩
  have HGa : Hid (w.heap.size ≤ ga) := by rw [hga]; show _ ≤ _; omega
  rw [← hga] at Xa
  try rw [← hga]
  have HGD : Hid (ga ≠ gb ∧ ga ≠ gr ∧ gb ≠ ga ∧ gb ≠ gr ∧ gr ≠ ga ∧ gr ≠ gb) := by rw [hga, hgb, hgr]; exact ⟨by omega, by omega, by omega, by omega, by omega, by omega⟩
  clear hga hgb hgr
  replace hbw := Below.on hbw hb0
  clear hb0
  have HWL : Hid (gr < W0.heap.size ∧ w.heap.size ≤ W0.heap.size) := ⟨Xr.out.lt, hbw.size⟩
  refine (sscale_s (A.out.below hbw) (B.out.below hbw) HC.out HQ9.out).mono ?_
  rintro e9 v1 ⟨s1, p1, m1, s2, p2, m2, rfl, hd1, hd2, hb1⟩
  replace Xa : Hid _ := Xa.out.below hb1
  replace Xb : Hid _ := Xb.out.below hb1
  replace Xr : Hid _ := Xr.out.below hb1
  replace hbw := Below.on hbw hb1
  clear hb1
  have D1 : Hid (DO W0.heap.size v1 s1 p1 m1 e x) := hd1
  have D2 : Hid (DO W0.heap.size v1 s2 p2 m2 f y) := hd2
  clear hd1 hd2
  obtain ⟨cr0, cr1, cr2, cr3, cr4, cr5, fr0, fr1, fr2, fr3, fr4, fr5⟩ := Xr.out
  have hner : gr < v1.heap.size := World.block_lt_of_cell? v1 _ cr0
  go_wp2_with fail
  refine bodyPost_ret (v := .tuple #[SV s1 p1 m1 m1 e s2 p2 m2 m2 f, .int .i64 0]) (by rw [results_cell_tmp rfl]; go_simp) rfl ⟨s1, p1, m1, s2, p2, m2, rfl, ?_, ?_, ?_⟩
  · exact ((((((D1.out.set _ _ _ HWL.out.1).set _ _ _ HWL.out.1).set _ _ _ HWL.out.1).set _ _ _ HWL.out.1).set _ _ _ HWL.out.1).set _ _ _ HWL.out.1).mono HWL.out.2
  · exact ((((((D2.out.set _ _ _ HWL.out.1).set _ _ _ HWL.out.1).set _ _ _ HWL.out.1).set _ _ _ HWL.out.1).set _ _ _ HWL.out.1).set _ _ _ HWL.out.1).mono HWL.out.2
  · exact (bSet (bSet (bSet (bSet (bSet (bSet hbw _ _ _ HGr.out) _ _ _ HGr.out) _ _ _ HGr.out) _ _ _ HGr.out) _ _ _ HGr.out) _ _ _ HGr.out)
theorem vf_lit {b q man : Nat} {zo eo : Int} (hb : b < 9218868437227405312) (hq : b / 4503599627370496 - 1 = q) (hm : b - q * 4503599627370496 = man) (hf : DFm zo eo) (hv : dv zo eo = dv (man : Int) (-1074 + (q : Int))) : VF 9223372036854775808 4503599627370496 (-1074) b zo eo := by
  have h1 : b % 9223372036854775808 = b := Nat.mod_eq_of_lt (by omega)
  obtain ⟨z1, e1, v1, v2⟩ := vf_ex (b := b) pm_64 (by omega)
  rw [h1, if_neg (by omega), hq, hm, ← hv] at v2
  obtain ⟨rfl, rfl⟩ := dv_inj v1.fm hf v2
  exact v1
theorem vf_quarter : VF 9223372036854775808 4503599627370496 (-1074) 4598175219545276416 1 (-2) :=
  vf_lit (q := 1020) (man := 4503599627370496) (by decide) (by decide) (by decide) (.inr (by decide)) (by rw [dv_shift (z := 1) (e := -2) (f := -54) (by decide) (by decide)]; rfl)
theorem vf_three : VF 9223372036854775808 4503599627370496 (-1074) 4609434218613702656 3 (-1) :=
  vf_lit (q := 1022) (man := 6755399441055744) (by decide) (by decide) (by decide) (.inr (by decide)) (by rw [dv_shift (z := 3) (e := -1) (f := -52) (by decide) (by decide)]; rfl)
set_option maxRecDepth 20000 in
set_option maxHeartbeats 8000000 in
theorem spoint {p : Option Addr} {m c : Nat} {w : World} {z e : Int} {s : Bool} (h : DN w s p m c e z) (hz : z ≠ 0) :
    Calls Tryz.prog 69 #[DV s p m c e] w fun en w' => ∃ s1 p1 m1 s2 p2 m2, en = .returned (.tuple #[SV s1 p1 m1 m1 e s2 p2 m2 m2 e, .int .i64 0]) ∧ DO w.heap.size w' s1 p1 m1 e z ∧ DO w.heap.size w' s2 p2 m2 e z ∧ Below w.heap.size w w' := by
  have A : Hid (DN w s p m c e z) := h
  have HZ9 : Hid (z ≠ 0) := hz
  clear h hz
  go_enter Tryz.func69, Tryz.ntmps69
  go_wp2_with fail
  obtain ⟨W0, hW0⟩ : ∃ W0, W0 = ((w.alloc (.cells #[.bool s, .slice p m c, .int .i64 e] 28)).alloc (.cells #[.bool false, .slice none 0 0, .int .i64 0, .bool false, .slice none 0 0, .int .i64 0] 67)) := ⟨_, rfl⟩
  have Xa : Hid (B3q W0 (w.heap.size) (.bool s) (.slice p m c) (.int .i64 e)) := by rw [hW0]; exact ⟨by go_simp, by go_simp, by go_simp, by go_simp, by go_simp, by go_simp⟩
  have Xr : Hid (B6q W0 (w.heap.size + 1) (.bool false) (.slice none 0 0) (.int .i64 0) (.bool false) (.slice none 0 0) (.int .i64 0)) := by rw [hW0]; exact ⟨by go_simp, by go_simp, by go_simp, by go_simp, by go_simp, by go_simp, by go_simp, by go_simp, by go_simp, by go_simp, by go_simp, by go_simp⟩
  have hb0 : Below w.heap.size w W0 := by rw [hW0]; exact below2 w _ _
  rw [← hW0]
  clear hW0
  have hbw : Below w.heap.size w w := Below.refl _ _
  obtain ⟨gr, hgr⟩ : ∃ g, g = w.heap.size + 1 := ⟨_, rfl⟩
  have HGr : Hid (w.heap.size ≤ gr) := by rw [hgr]; show _ ≤ _; omega
  rw [← hgr] at Xr
  try rw [← hgr]
  obtain ⟨ga, hga⟩ : ∃ g, g = w.heap.size := ⟨_, rfl⟩
  have HGa : Hid (w.heap.size ≤ ga) := by rw [hga]; show _ ≤ _; omega
  rw [← hga] at Xa
  try rw [← hga]
  have HGD : Hid (ga ≠ gr ∧ gr ≠ ga) := by rw [hga, hgr]; exact ⟨by omega, by omega⟩
  clear hga hgr
  replace hbw := Below.on hbw hb0
  clear hb0
  obtain ⟨ca0, ca1, ca2, fa0, fa1, fa2⟩ := Xa.out
  have hnea : ga < W0.heap.size := World.block_lt_of_cell? W0 _ ca0
  go_wp2_with fail
  clear ca0 ca1 ca2 fa0 fa1 fa2 hnea
  have HWL : Hid (gr < W0.heap.size ∧ w.heap.size ≤ W0.heap.size) := ⟨Xr.out.lt, hbw.size⟩
  refine (smake_s (A.out.below hbw) (A.out.below hbw) (Int.le_refl _) ⟨rfl, rfl, HZ9.out⟩).mono ?_
  rintro e9 v1 ⟨s1, p1, m1, s2, p2, m2, rfl, hd1, hd2, hb1⟩
  replace Xa : Hid _ := Xa.out.below hb1
  replace Xr : Hid _ := Xr.out.below hb1
  replace hbw := Below.on hbw hb1
  clear hb1
  have D1 : Hid (DO W0.heap.size v1 s1 p1 m1 e z) := hd1
  have D2 : Hid (DO W0.heap.size v1 s2 p2 m2 e z) := hd2
  clear hd1 hd2
  obtain ⟨cr0, cr1, cr2, cr3, cr4, cr5, fr0, fr1, fr2, fr3, fr4, fr5⟩ := Xr.out
  have hner : gr < v1.heap.size := World.block_lt_of_cell? v1 _ cr0
  go_wp2_with fail
  refine bodyPost_ret (v := .tuple #[SV s1 p1 m1 m1 e s2 p2 m2 m2 e, .int .i64 0]) (by rw [results_cell_tmp rfl]; go_simp) rfl ⟨s1, p1, m1, s2, p2, m2, rfl, ?_, ?_, ?_⟩
  · exact ((((((D1.out.set _ _ _ HWL.out.1).set _ _ _ HWL.out.1).set _ _ _ HWL.out.1).set _ _ _ HWL.out.1).set _ _ _ HWL.out.1).set _ _ _ HWL.out.1).mono HWL.out.2
  · exact ((((((D2.out.set _ _ _ HWL.out.1).set _ _ _ HWL.out.1).set _ _ _ HWL.out.1).set _ _ _ HWL.out.1).set _ _ _ HWL.out.1).set _ _ _ HWL.out.1).mono HWL.out.2
  · exact bSet (bSet (bSet (bSet (bSet (bSet hbw _ _ _ HGr.out) _ _ _ HGr.out) _ _ _ HGr.out) _ _ _ HGr.out) _ _ _ HGr.out) _ _ _ HGr.out
set_option maxRecDepth 20000 in
set_option maxHeartbeats 8000000 in
theorem vnumber {w : World} (hT : Tab w) :
    Calls Tryz.prog 70 #[VV 1 true] w fun en w' => ∃ s p m, en = .returned (DV s p m m 0) ∧ DO w.heap.size w' s p m 0 (-1) ∧ Below w.heap.size w w' := by
  have TB : Hid (Tab w) := hT
  clear hT
  go_enter Tryz.func70, Tryz.ntmps70
  go_wp2_with fail
  obtain ⟨W0, hW0⟩ : ∃ W0, W0 = ((w.alloc (.cells #[.int .i64 1, .bool true] 98)).alloc (.cells #[.bool false, .slice none 0 0, .int .i64 0] 28)) := ⟨_, rfl⟩
  have Xv : Hid (Box W0 (w.heap.size) (.int .i64 1) (.bool true)) := by rw [hW0]; exact ⟨by go_simp, by go_simp, by go_simp, by go_simp⟩
  have Xr : Hid (B3q W0 (w.heap.size + 1) (.bool false) (.slice none 0 0) (.int .i64 0)) := by rw [hW0]; exact ⟨by go_simp, by go_simp, by go_simp, by go_simp, by go_simp, by go_simp⟩
  have hb0 : Below w.heap.size w W0 := by rw [hW0]; exact below2 w _ _
  rw [← hW0]
  clear hW0
  have hbw : Below w.heap.size w w := Below.refl _ _
  obtain ⟨gr, hgr⟩ : ∃ g, g = w.heap.size + 1 := ⟨_, rfl⟩
  have HGr : Hid (w.heap.size ≤ gr) := by rw [hgr]; show _ ≤ _; omega
  rw [← hgr] at Xr
  try rw [← hgr]
  obtain ⟨gv, hgv⟩ : ∃ g, g = w.heap.size := ⟨_, rfl⟩
  have HGv : Hid (w.heap.size ≤ gv) := by rw [hgv]; show _ ≤ _; omega
  rw [← hgv] at Xv
  try rw [← hgv]
  have HGD : Hid (gv ≠ gr ∧ gr ≠ gv) := by rw [hgv, hgr]; exact ⟨by omega, by omega⟩
  clear hgv hgr
  replace hbw := Below.on hbw hb0
  clear hb0
  obtain ⟨cv0, cv1, fv0, fv1⟩ := Xv.out
  have hnev := Xv.out.lt
  go_wp2_with fail
  clear cv0 cv1 fv0 fv1 hnev
  have HWL : Hid (gr < W0.heap.size ∧ w.heap.size ≤ W0.heap.size) := ⟨Xr.out.lt, hbw.size⟩
  refine (dof_v (z := -1) (zo := -1) (eo := 0) (by decide) (.inr (by decide)) rfl (TB.out.below hbw)).mono ?_
  rintro e9 v1 ⟨s1, p1, m1, rfl, hd1, hb1⟩
  replace Xv : Hid _ := Xv.out.below hb1
  replace Xr : Hid _ := Xr.out.below hb1
  replace hbw := Below.on hbw hb1
  clear hb1
  have D1 : Hid (DO W0.heap.size v1 s1 p1 m1 0 (-1)) := hd1
  clear hd1
  obtain ⟨cr0, cr1, cr2, fr0, fr1, fr2⟩ := Xr.out
  have hner : gr < v1.heap.size := World.block_lt_of_cell? v1 _ cr0
  go_wp2_with fail
  refine bodyPost_ret (v := DV s1 p1 m1 m1 0) (by rw [results_cell1 rfl]; go_simp) rfl ⟨s1, p1, m1, rfl, ?_, ?_⟩
  · exact (((D1.out.set _ _ _ HWL.out.1).set _ _ _ HWL.out.1).set _ _ _ HWL.out.1).mono HWL.out.2
  · exact bSet (bSet (bSet hbw _ _ _ HGr.out) _ _ _ HGr.out) _ _ _ HGr.out
set_option maxRecDepth 20000 in
set_option maxHeartbeats 8000000 in
theorem enclose_a (w : World) (hT : Tab w) :
    Calls Tryz.prog 28 #[.int .i64 4, .int .u64 4609434218613702656, .int .i64 7] w fun en w' => ∃ s1 p1 m1 s2 p2 m2, en = .returned (.tuple #[SV s1 p1 m1 m1 0 s2 p2 m2 m2 0, .int .i64 0]) ∧ DO w.heap.size w' s1 p1 m1 0 (-1) ∧ DO w.heap.size w' s2 p2 m2 0 (-1) ∧ Below w.heap.size w w' := by
  have TB : Hid (Tab w) := hT
  have HV := fun w => value_v (b := 4609434218613702656) pm_64 (by decide) (by decide) vf_three w
  have HVV : Hid (∀ w, Tab w → Calls Tryz.prog 12 #[.int .i64 64, .int .u64 4609434218613702656] w fun en w' => ∃ v, en = .returned (.tuple #[v, .int .i64 0]) ∧ AnsD w.heap.size w' v 3 (-1) ∧ Below w.heap.size w w') := HV
  clear hT HV
  go_enter Tryz.func28, Tryz.ntmps28
  go_wp2_with fail
  obtain ⟨W0, hW0⟩ : ∃ W0, W0 = (w.alloc (.cells #[.bool false, .slice none 0 0, .int .i64 0, .bool false, .slice none 0 0, .int .i64 0] 67)) := ⟨_, rfl⟩
  have Xr : Hid (B6q W0 (w.heap.size) (.bool false) (.slice none 0 0) (.int .i64 0) (.bool false) (.slice none 0 0) (.int .i64 0)) := by rw [hW0]; exact ⟨by go_simp, by go_simp, by go_simp, by go_simp, by go_simp, by go_simp, by go_simp, by go_simp, by go_simp, by go_simp, by go_simp, by go_simp⟩
  have hb0 : Below w.heap.size w W0 := by rw [hW0]; exact below1 w _
  rw [← hW0]
  clear hW0
  have hbw : Below w.heap.size w w := Below.refl _ _
  obtain ⟨gr, hgr⟩ : ∃ g, g = w.heap.size := ⟨_, rfl⟩
  have HGr : Hid (w.heap.size ≤ gr) := by rw [hgr]; show _ ≤ _; omega
  rw [← hgr] at Xr
  try rw [← hgr]
  clear hgr
  replace hbw := Below.on hbw hb0
  clear hb0
  refine (taken_4 _).mono ?_
  rintro e v1 ⟨rfl, hb1⟩
  replace Xr : Hid _ := Xr.out.below hb1
  replace hbw := Below.on hbw hb1
  clear hb1
  go_wp2_with fail
  refine (HVV.out _ (TB.out.below hbw)).mono ?_
  rintro e9 v3 ⟨v, rfl, hv, hb3⟩
  obtain ⟨s3, p3, m3, rfl, hd3⟩ := hv.dn vf_three.fm
  clear hv HVV
  replace Xr : Hid _ := Xr.out.below hb3
  replace hbw := Below.on hbw hb3
  clear hb3
  have D3 : Hid (DN v3 s3 p3 m3 m3 (-1) 3) := hd3
  clear hd3
  go_wp2_with fail
  have Xx0 : Hid (B3q (v3.alloc (.cells #[.bool s3, .slice p3 m3 m3, .int .i64 (-1)] 28)) v3.heap.size (.bool s3) (.slice p3 m3 m3) (.int .i64 (-1))) := B3q.new v3 _ _ _ _
  have hbn : Below v3.heap.size v3 (v3.alloc (.cells #[.bool s3, .slice p3 m3 m3, .int .i64 (-1)] 28)) := below1 v3 _
  generalize v3.alloc (.cells #[.bool s3, .slice p3 m3 m3, .int .i64 (-1)] 28) = Wx at *
  have HGx : Hid (w.heap.size ≤ v3.heap.size) := hbw.size
  replace Xr : Hid _ := Xr.out.below hbn
  replace D3 : Hid _ := D3.out.below hbn
  replace hbw := Below.on hbw hbn
  clear hbn
  generalize v3.heap.size = gx at *
  have Xx := Xx0
  clear Xx0
  obtain ⟨cx0, cx1, cx2, fx0, fx1, fx2⟩ := Xx.out
  have hnex : gx < Wx.heap.size := World.block_lt_of_cell? Wx _ cx0
  go_wp2_with fail
  clear cx0 cx1 cx2 fx0 fx1 fx2 hnex
  refine (reduced_ok D3.out (vf_dbt jn_64 (by decide) vf_three) (TB.out.below hbw)).mono ?_
  rintro e9 v4 ⟨K, s4, p4, m4, zr, er, rfl, ho4, hrd, _, hb4⟩
  obtain ⟨hK, hz, he0⟩ := hrd.half rfl
  subst hK
  subst he0
  rw [show (3 : Int) % 4 = 3 from rfl]
  replace Xr : Hid _ := Xr.out.below hb4
  replace Xx : Hid _ := Xx.out.below hb4
  replace D3 : Hid _ := D3.out.below hb4
  replace hbw := Below.on hbw hb4
  clear hb4
  have D4 : Hid (DN v4 s4 p4 m4 m4 0 zr) := ho4.dn
  have HZ : Hid (zr = 0) := hz
  clear ho4 hrd hz
  obtain ⟨cx0, cx1, cx2, fx0, fx1, fx2⟩ := Xx.out
  have hnex : gx < v4.heap.size := World.block_lt_of_cell? v4 _ cx0
  go_wp2_with fail
  clear cx0 cx1 cx2 fx0 fx1 fx2 hnex
  have Xd0 : Hid (B3q (v4.alloc (.cells #[.bool s4, .slice p4 m4 m4, .int .i64 0] 28)) v4.heap.size (.bool s4) (.slice p4 m4 m4) (.int .i64 0)) := B3q.new v4 _ _ _ _
  have hbn : Below v4.heap.size v4 (v4.alloc (.cells #[.bool s4, .slice p4 m4 m4, .int .i64 0] 28)) := below1 v4 _
  generalize v4.alloc (.cells #[.bool s4, .slice p4 m4 m4, .int .i64 0] 28) = Wd at *
  have HGd : Hid (w.heap.size ≤ v4.heap.size) := hbw.size
  replace Xr : Hid _ := Xr.out.below hbn
  replace Xx : Hid _ := Xx.out.below hbn
  replace D3 : Hid _ := D3.out.below hbn
  replace D4 : Hid _ := D4.out.below hbn
  replace hbw := Below.on hbw hbn
  clear hbn
  generalize v4.heap.size = gd at *
  have Xd := Xd0
  clear Xd0
  refine (exactly_w4 D4.out 3 (by decide) s3 HZ.out).mono ?_
  rintro e9 v5 ⟨rfl, hb5⟩
  rw [show exSz 4 3 true = 1 from rfl, show exNg 4 3 true s3 = true from rfl]
  replace Xr : Hid _ := Xr.out.below hb5
  replace Xx : Hid _ := Xx.out.below hb5
  replace Xd : Hid _ := Xd.out.below hb5
  replace D3 : Hid _ := D3.out.below hb5
  replace D4 : Hid _ := D4.out.below hb5
  replace hbw := Below.on hbw hb5
  clear hb5
  go_wp2_with fail
  have Xv0 : Hid (Box (v5.alloc (.cells #[.int .i64 1, .bool true] 98)) v5.heap.size (.int .i64 1) (.bool true)) := Box.new v5 _ _ _
  have hbn : Below v5.heap.size v5 (v5.alloc (.cells #[.int .i64 1, .bool true] 98)) := below1 v5 _
  generalize v5.alloc (.cells #[.int .i64 1, .bool true] 98) = Wv at *
  have HGv : Hid (w.heap.size ≤ v5.heap.size) := hbw.size
  replace Xr : Hid _ := Xr.out.below hbn
  replace Xx : Hid _ := Xx.out.below hbn
  replace Xd : Hid _ := Xd.out.below hbn
  replace D3 : Hid _ := D3.out.below hbn
  replace D4 : Hid _ := D4.out.below hbn
  replace hbw := Below.on hbw hbn
  clear hbn
  generalize v5.heap.size = gv at *
  have Xv := Xv0
  clear Xv0
  obtain ⟨cv0, cv1, fv0, fv1⟩ := Xv.out
  have hnev := Xv.out.lt
  go_wp2_with fail
  clear cv0 cv1 fv0 fv1 hnev
  refine (vnumber (TB.out.below hbw)).mono ?_
  rintro e9 v6 ⟨s6, p6, m6, rfl, ho6, hb6⟩
  replace Xr : Hid _ := Xr.out.below hb6
  replace Xx : Hid _ := Xx.out.below hb6
  replace Xd : Hid _ := Xd.out.below hb6
  replace Xv : Hid _ := Xv.out.below hb6
  replace D3 : Hid _ := D3.out.below hb6
  replace D4 : Hid _ := D4.out.below hb6
  replace hbw := Below.on hbw hb6
  clear hb6
  have D6 : Hid (DN v6 s6 p6 m6 m6 0 (-1)) := ho6.dn
  clear ho6
  go_wp2_with fail
  have HWL : Hid (gr < v6.heap.size ∧ w.heap.size ≤ v6.heap.size) := ⟨Xr.out.lt, hbw.size⟩
  refine (spoint D6.out (by decide)).mono ?_
  rintro e9 v7 ⟨s1, p1, m1, s2, p2, m2, rfl, hd1, hd2, hb1⟩
  replace Xr : Hid _ := Xr.out.below hb1
  replace Xx : Hid _ := Xx.out.below hb1
  replace Xd : Hid _ := Xd.out.below hb1
  replace Xv : Hid _ := Xv.out.below hb1
  replace D3 : Hid _ := D3.out.below hb1
  replace D4 : Hid _ := D4.out.below hb1
  replace D6 : Hid _ := D6.out.below hb1
  replace hbw := Below.on hbw hb1
  clear hb1
  have D1 : Hid (DO v6.heap.size v7 s1 p1 m1 0 (-1)) := hd1
  have D2 : Hid (DO v6.heap.size v7 s2 p2 m2 0 (-1)) := hd2
  clear hd1 hd2
  obtain ⟨cr0, cr1, cr2, cr3, cr4, cr5, fr0, fr1, fr2, fr3, fr4, fr5⟩ := Xr.out
  have hner : gr < v7.heap.size := World.block_lt_of_cell? v7 _ cr0
  go_wp2_with fail
  refine bodyPost_ret (v := .tuple #[SV s1 p1 m1 m1 0 s2 p2 m2 m2 0, .int .i64 0]) (by rw [results_cell_tmp rfl]; go_simp) rfl ⟨s1, p1, m1, s2, p2, m2, rfl, ?_, ?_, ?_⟩
  · exact ((((((D1.out.set _ _ _ HWL.out.1).set _ _ _ HWL.out.1).set _ _ _ HWL.out.1).set _ _ _ HWL.out.1).set _ _ _ HWL.out.1).set _ _ _ HWL.out.1).mono HWL.out.2
  · exact ((((((D2.out.set _ _ _ HWL.out.1).set _ _ _ HWL.out.1).set _ _ _ HWL.out.1).set _ _ _ HWL.out.1).set _ _ _ HWL.out.1).set _ _ _ HWL.out.1).mono HWL.out.2
  · exact bSet (bSet (bSet (bSet (bSet (bSet hbw _ _ _ HGr.out) _ _ _ HGr.out) _ _ _ HGr.out) _ _ _ HGr.out) _ _ _ HGr.out) _ _ _ HGr.out
set_option maxRecDepth 20000 in
set_option maxHeartbeats 8000000 in
theorem same17 {p1 p2 p3 p4 : Option Addr} {m1 m2 m3 m4 c1 c2 c3 c4 : Nat} {w : World} {z e z2 e2 z3 e3 z4 e4 : Int} {s1 s2 s3 s4 : Bool} (h1 : DN w s1 p1 m1 c1 e z) (h2 : DN w s2 p2 m2 c2 e2 z2) (h3 : DN w s3 p3 m3 c3 e3 z3) (h4 : DN w s4 p4 m4 c4 e4 z4) (q1 : z = z3 ∧ e = e3) (q2 : z2 = z4 ∧ e2 = e4) :
    Calls Tryz.prog 29 #[SV s1 p1 m1 c1 e s2 p2 m2 c2 e2, SV s3 p3 m3 c3 e3 s4 p4 m4 c4 e4] w fun en w' => en = .returned (.bool true) ∧ Below w.heap.size w w' := by
  have A1 : Hid (DN w s1 p1 m1 c1 e z) := h1
  have A2 : Hid (DN w s2 p2 m2 c2 e2 z2) := h2
  have A3 : Hid (DN w s3 p3 m3 c3 e3 z3) := h3
  have A4 : Hid (DN w s4 p4 m4 c4 e4 z4) := h4
  have HQ : Hid ((z = z3 ∧ e = e3) ∧ z2 = z4 ∧ e2 = e4) := ⟨q1, q2⟩
  clear h1 h2 h3 h4 q1 q2
  go_enter Tryz.func29, Tryz.ntmps29
  go_wp2_with fail
  obtain ⟨W0, hW0⟩ : ∃ W0, W0 = ((w.alloc (.cells #[.bool s1, .slice p1 m1 c1, .int .i64 e, .bool s2, .slice p2 m2 c2, .int .i64 e2] 67)).alloc (.cells #[.bool s3, .slice p3 m3 c3, .int .i64 e3, .bool s4, .slice p4 m4 c4, .int .i64 e4] 67)) := ⟨_, rfl⟩
  have Xa : Hid (B6q W0 (w.heap.size) (.bool s1) (.slice p1 m1 c1) (.int .i64 e) (.bool s2) (.slice p2 m2 c2) (.int .i64 e2)) := by rw [hW0]; exact ⟨by go_simp, by go_simp, by go_simp, by go_simp, by go_simp, by go_simp, by go_simp, by go_simp, by go_simp, by go_simp, by go_simp, by go_simp⟩
  have Xb : Hid (B6q W0 (w.heap.size + 1) (.bool s3) (.slice p3 m3 c3) (.int .i64 e3) (.bool s4) (.slice p4 m4 c4) (.int .i64 e4)) := by rw [hW0]; exact ⟨by go_simp, by go_simp, by go_simp, by go_simp, by go_simp, by go_simp, by go_simp, by go_simp, by go_simp, by go_simp, by go_simp, by go_simp⟩
  have hb0 : Below w.heap.size w W0 := by rw [hW0]; exact below2 w _ _
  rw [← hW0]
  clear hW0
  have hbw : Below w.heap.size w w := Below.refl _ _
  obtain ⟨gb, hgb⟩ : ∃ g, g = w.heap.size + 1 := ⟨_, rfl⟩
  have HGb : Hid (w.heap.size ≤ gb) := by rw [hgb]; show _ ≤ _; omega
  rw [← hgb] at Xb
  try rw [← hgb]
  obtain ⟨ga, hga⟩ : ∃ g, g = w.heap.size := ⟨_, rfl⟩
  have HGa : Hid (w.heap.size ≤ ga) := by rw [hga]; show _ ≤ _; omega
  rw [← hga] at Xa
  try rw [← hga]
  have HGD : Hid (ga ≠ gb ∧ gb ≠ ga) := by rw [hga, hgb]; exact ⟨by omega, by omega⟩
  clear hga hgb
  replace hbw := Below.on hbw hb0
  clear hb0
  obtain ⟨ca0, ca1, ca2, ca3, ca4, ca5, fa0, fa1, fa2, fa3, fa4, fa5⟩ := Xa.out
  have hnea : ga < W0.heap.size := World.block_lt_of_cell? W0 _ ca0
  obtain ⟨cb0, cb1, cb2, cb3, cb4, cb5, fb0, fb1, fb2, fb3, fb4, fb5⟩ := Xb.out
  have hneb : gb < W0.heap.size := World.block_lt_of_cell? W0 _ cb0
  go_wp2_with fail
  clear ca0 ca1 ca2 ca3 ca4 ca5 fa0 fa1 fa2 fa3 fa4 fa5 hnea
  clear cb0 cb1 cb2 cb3 cb4 cb5 fb0 fb1 fb2 fb3 fb4 fb5 hneb
  refine (sameD (A1.out.below hbw) (A3.out.below hbw)).mono ?_
  rintro e v1 ⟨rfl, hb1⟩
  rw [show decide (z = z3 ∧ e = e3) = true from decide_eq_true HQ.out.1]
  replace Xa : Hid _ := Xa.out.below hb1
  replace Xb : Hid _ := Xb.out.below hb1
  replace hbw := Below.on hbw hb1
  clear hb1
  obtain ⟨ca0, ca1, ca2, ca3, ca4, ca5, fa0, fa1, fa2, fa3, fa4, fa5⟩ := Xa.out
  have hnea : ga < v1.heap.size := World.block_lt_of_cell? v1 _ ca0
  obtain ⟨cb0, cb1, cb2, cb3, cb4, cb5, fb0, fb1, fb2, fb3, fb4, fb5⟩ := Xb.out
  have hneb : gb < v1.heap.size := World.block_lt_of_cell? v1 _ cb0
  go_wp2_with fail
  clear ca0 ca1 ca2 ca3 ca4 ca5 fa0 fa1 fa2 fa3 fa4 fa5 hnea
  clear cb0 cb1 cb2 cb3 cb4 cb5 fb0 fb1 fb2 fb3 fb4 fb5 hneb
  refine (sameD (A2.out.below hbw) (A4.out.below hbw)).mono ?_
  rintro e v2 ⟨rfl, hb2⟩
  rw [show decide (z2 = z4 ∧ e2 = e4) = true from decide_eq_true HQ.out.2]
  replace Xa : Hid _ := Xa.out.below hb2
  replace Xb : Hid _ := Xb.out.below hb2
  replace hbw := Below.on hbw hb2
  clear hb2
  go_wp2_with fail
  go_ret
  exact ⟨rfl, hbw⟩
set_option maxRecDepth 20000 in
set_option maxHeartbeats 8000000 in
theorem point17 {w : World} :
    Calls Tryz.prog 30 #[.int .i64 (-1)] w fun en w' => ∃ s1 p1 m1 c1 s2 p2 m2 c2, en = .returned (SV s1 p1 m1 c1 0 s2 p2 m2 c2 0) ∧ DN w' s1 p1 m1 c1 0 (-1) ∧ DN w' s2 p2 m2 c2 0 (-1) ∧ Below w.heap.size w w' := by
  go_enter Tryz.func30, Tryz.ntmps30
  go_wp2_with fail
  obtain ⟨W0, hW0⟩ : ∃ W0, W0 = (w.alloc (.cells #[.bool false, .slice none 0 0, .int .i64 0, .bool false, .slice none 0 0, .int .i64 0] 67)) := ⟨_, rfl⟩
  have Xr : Hid (B6q W0 (w.heap.size) (.bool false) (.slice none 0 0) (.int .i64 0) (.bool false) (.slice none 0 0) (.int .i64 0)) := by rw [hW0]; exact ⟨by go_simp, by go_simp, by go_simp, by go_simp, by go_simp, by go_simp, by go_simp, by go_simp, by go_simp, by go_simp, by go_simp, by go_simp⟩
  have hb0 : Below w.heap.size w W0 := by rw [hW0]; exact below1 w _
  rw [← hW0]
  clear hW0
  have hbw : Below w.heap.size w w := Below.refl _ _
  obtain ⟨gr, hgr⟩ : ∃ g, g = w.heap.size := ⟨_, rfl⟩
  have HGr : Hid (w.heap.size ≤ gr) := by rw [hgr]; show _ ≤ _; omega
  rw [← hgr] at Xr
  try rw [← hgr]
  clear hgr
  replace hbw := Below.on hbw hb0
  clear hb0
  have HL1 : Hid (gr < W0.heap.size) := Xr.out.lt
  refine (docof5 (-1) (by decide) (by decide) (by decide)).mono ?_
  rintro e9 v1 ⟨s1, g1, m1, c1, rfl, hg1, hd1, hb1⟩
  have HN1 : Hid (g1 ≠ gr) := by have := HL1.out; show _ ≠ _; omega
  replace Xr : Hid _ := Xr.out.below hb1
  replace hbw := Below.on hbw hb1
  clear hb1
  have D1 : Hid (DN v1 s1 (some ⟨g1, 0, none⟩) m1 c1 0 (-1)) := hd1
  clear hd1 hg1
  go_wp2_with fail
  have HL2 : Hid (gr < v1.heap.size) := Xr.out.lt
  refine (docof5 (-1) (by decide) (by decide) (by decide)).mono ?_
  rintro e9 v2 ⟨s2, g2, m2, c2, rfl, hg2, hd2, hb2⟩
  have HN2 : Hid (g2 ≠ gr) := by have := HL2.out; show _ ≠ _; omega
  replace Xr : Hid _ := Xr.out.below hb2
  replace D1 : Hid _ := D1.out.below hb2
  replace hbw := Below.on hbw hb2
  clear hb2
  have D2 : Hid (DN v2 s2 (some ⟨g2, 0, none⟩) m2 c2 0 (-1)) := hd2
  clear hd2 hg2
  obtain ⟨cr0, cr1, cr2, cr3, cr4, cr5, fr0, fr1, fr2, fr3, fr4, fr5⟩ := Xr.out
  have hner : gr < v2.heap.size := World.block_lt_of_cell? v2 _ cr0
  go_wp2_with fail
  refine bodyPost_ret (v := SV s1 (some ⟨g1, 0, none⟩) m1 c1 0 s2 (some ⟨g2, 0, none⟩) m2 c2 0) (by rw [results_cell1 rfl]; go_simp) rfl ⟨s1, _, m1, c1, s2, _, m2, c2, rfl, ((((((D1.out.set gr 0 _ HN1.out).set gr 1 _ HN1.out).set gr 2 _ HN1.out).set gr 3 _ HN1.out).set gr 4 _ HN1.out).set gr 5 _ HN1.out), ((((((D2.out.set gr 0 _ HN2.out).set gr 1 _ HN2.out).set gr 2 _ HN2.out).set gr 3 _ HN2.out).set gr 4 _ HN2.out).set gr 5 _ HN2.out), bSet (bSet (bSet (bSet (bSet (bSet hbw _ _ _ HGr.out) _ _ _ HGr.out) _ _ _ HGr.out) _ _ _ HGr.out) _ _ _ HGr.out) _ _ _ HGr.out⟩
theorem aw_red (w : World) (hT : Tab w) : Calls Tryz.prog 9 #[.int .u64 4598175219545276416] w fun en w' => ∃ p1 m1, en = .returned (.tuple #[.int .i64 1, DV true p1 m1 m1 (-2), .int .i64 0]) ∧ Below w.heap.size w w' := by
  refine Calls.mono (reduce_f (b := 4598175219545276416) (by decide) (by decide) vf_quarter w hT) ?_
  rintro en w' ⟨K, s1, p1, m1, zr, er, rfl, hd, hr, _, hb⟩
  obtain ⟨h1, h2, h3⟩ := hr.quarter (by decide) rfl
  subst h2 h3
  obtain rfl : K = 1 := by omega
  have hs := hd.sg
  exact ⟨p1, m1, by rw [hs]; rfl, hb⟩
theorem aw_exa (w : World) (hT : Tab w) : Calls Tryz.prog 23 #[.int .i64 64, .int .i64 4, .int .u64 4609434218613702656] w fun en w' => en = .returned (.tuple #[.int .u64 13830554455654793216, .bool true, .int .i64 0]) ∧ Below w.heap.size w w' := by
  refine Calls.mono (exact_f4 jt_64 (b := 4609434218613702656) (by decide) (by decide) vf_three w hT) ?_
  rintro en w' ⟨rfl, hb⟩
  exact ⟨rfl, hb⟩
set_option maxRecDepth 20000 in
set_option maxHeartbeats 8000000 in
theorem awake17 (w : World) (hT : Tab w) :
    Calls Tryz.prog 8 #[] w fun en w' => en = .returned (.bool true) ∧ Below w.heap.size w w' := by
  have hbw : Below w.heap.size w w := Below.refl _ _
  have TB : Hid (Tab w) := hT
  clear hT
  go_enter Tryz.func8, Tryz.ntmps8
  go_wp2_with fail
  refine (aw_red _ (TB.out.below hbw)).mono ?_
  rintro e9 v1 ⟨p1, m1, rfl, hb1⟩
  replace hbw := Below.on hbw hb1
  clear hb1
  go_wp2_with fail
  have Xr0 : Hid (B3q (v1.alloc (.cells #[.bool true, .slice p1 m1 m1, .int .i64 (-2)] 28)) v1.heap.size (.bool true) (.slice p1 m1 m1) (.int .i64 (-2))) := B3q.new v1 _ _ _ _
  have hbn : Below v1.heap.size v1 (v1.alloc (.cells #[.bool true, .slice p1 m1 m1, .int .i64 (-2)] 28)) := below1 v1 _
  generalize v1.alloc (.cells #[.bool true, .slice p1 m1 m1, .int .i64 (-2)] 28) = Wr at *
  have HGr : Hid (w.heap.size ≤ v1.heap.size) := hbw.size
  replace hbw := Below.on hbw hbn
  clear hbn
  generalize v1.heap.size = gr at *
  have Xr := Xr0
  clear Xr0
  refine (aw_exa _ (TB.out.below hbw)).mono ?_
  rintro e v2 ⟨rfl, hb2⟩
  replace Xr : Hid _ := Xr.out.below hb2
  replace hbw := Below.on hbw hb2
  clear hb2
  go_wp2_with fail
  refine (enclose_a _ (TB.out.below hbw)).mono ?_
  rintro e9 v3 ⟨s3, p3, m3, s4, p4, m4, rfl, ho3, ho4, hb3⟩
  replace Xr : Hid _ := Xr.out.below hb3
  replace hbw := Below.on hbw hb3
  clear hb3
  have D3 : Hid (DN v3 s3 p3 m3 m3 0 (-1)) := ho3.dn
  have D4 : Hid (DN v3 s4 p4 m4 m4 0 (-1)) := ho4.dn
  clear ho3 ho4
  obtain ⟨cr0, cr1, cr2, fr0, fr1, fr2⟩ := Xr.out
  have hner : gr < v3.heap.size := World.block_lt_of_cell? v3 _ cr0
  go_wp2_with fail
  clear cr0 cr1 cr2 fr0 fr1 fr2 hner
  have Xs0 : Hid (B6q (v3.alloc (.cells #[.bool s3, .slice p3 m3 m3, .int .i64 0, .bool s4, .slice p4 m4 m4, .int .i64 0] 67)) v3.heap.size (.bool s3) (.slice p3 m3 m3) (.int .i64 0) (.bool s4) (.slice p4 m4 m4) (.int .i64 0)) := B6q.new v3 _ _ _ _ _ _ _
  have hbn : Below v3.heap.size v3 (v3.alloc (.cells #[.bool s3, .slice p3 m3 m3, .int .i64 0, .bool s4, .slice p4 m4 m4, .int .i64 0] 67)) := below1 v3 _
  generalize v3.alloc (.cells #[.bool s3, .slice p3 m3 m3, .int .i64 0, .bool s4, .slice p4 m4 m4, .int .i64 0] 67) = Ws at *
  have HGs : Hid (w.heap.size ≤ v3.heap.size) := hbw.size
  replace Xr : Hid _ := Xr.out.below hbn
  replace D3 : Hid _ := D3.out.below hbn
  replace D4 : Hid _ := D4.out.below hbn
  replace hbw := Below.on hbw hbn
  clear hbn
  generalize v3.heap.size = gs at *
  have Xs := Xs0
  clear Xs0
  obtain ⟨W1, hW1⟩ : ∃ W1, W1 = Ws.drew := ⟨_, rfl⟩
  have hbd : Below Ws.heap.size Ws W1 := by rw [hW1]; exact bDrew1 (Below.refl _ _)
  replace Xr : Hid _ := Xr.out.below hbd
  replace Xs : Hid _ := Xs.out.below hbd
  replace D3 : Hid _ := D3.out.below hbd
  replace D4 : Hid _ := D4.out.below hbd
  replace hbw := Below.on hbw hbd
  clear hbd
  have HJ : Hid ((fun W' : World => W'.cell? ⟨gs, 0, none⟩ = some (.bool s3) ∧ W'.cell? ⟨gs, 1, none⟩ = some (.slice p3 m3 m3) ∧ W'.cell? ⟨gs, 2, none⟩ = some (.int .i64 0) ∧ W'.cell? ⟨gs, 3, none⟩ = some (.bool s4) ∧ W'.cell? ⟨gs, 4, none⟩ = some (.slice p4 m4 m4) ∧ W'.cell? ⟨gs, 5, none⟩ = some (.int .i64 0)) W1) := ⟨Xs.out.c0, Xs.out.c1, Xs.out.c2, Xs.out.c3, Xs.out.c4, Xs.out.c5⟩
  refine wp_region_J (fun W' => W'.cell? ⟨gs, 0, none⟩ = some (.bool s3) ∧ W'.cell? ⟨gs, 1, none⟩ = some (.slice p3 m3 m3) ∧ W'.cell? ⟨gs, 2, none⟩ = some (.int .i64 0) ∧ W'.cell? ⟨gs, 3, none⟩ = some (.bool s4) ∧ W'.cell? ⟨gs, 4, none⟩ = some (.slice p4 m4 m4) ∧ W'.cell? ⟨gs, 5, none⟩ = some (.int .i64 0)) (by kernel_rfl) ?_
  rw [← hW1]
  clear hW1
  refine wpJ_tk 0 (v := ?v1x0) rfl ?hy1x0 HJ.out ?_
  case hy1x0 => (intro W' hJ; obtain ⟨j0, j1, j2, j3, j4, j5⟩ := hJ; go_simp; first | done | with_reducible rfl)
  refine wpJ_tk 1 (v := ?v2x1) rfl ?hy2x1 HJ.out ?_
  case hy2x1 => (intro W' hJ; obtain ⟨j0, j1, j2, j3, j4, j5⟩ := hJ; go_simp; first | done | with_reducible rfl)
  refine wpJ_tk 2 (v := ?v3x2) rfl ?hy3x2 HJ.out ?_
  case hy3x2 => (intro W' hJ; obtain ⟨j0, j1, j2, j3, j4, j5⟩ := hJ; go_simp; first | done | with_reducible rfl)
  refine wpJ_tk 3 (v := ?v4x3) rfl ?hy4x3 HJ.out ?_
  case hy4x3 => (intro W' hJ; obtain ⟨j0, j1, j2, j3, j4, j5⟩ := hJ; go_simp; first | done | with_reducible rfl)
  refine wpJ_one (i := 4) (by kernel_rfl) rfl (by kernel_rfl) (fun KJ hK => ?_)
  go_simp
  refine (point17).mono ?_
  rintro e9 v5 ⟨s5, p5, m5, c5, s6, p6, m6, c6, rfl, hd5, hd6, hb5⟩
  replace Xr : Hid _ := Xr.out.below hb5
  replace Xs : Hid _ := Xs.out.below hb5
  replace D3 : Hid _ := D3.out.below hb5
  replace D4 : Hid _ := D4.out.below hb5
  replace hbw := Below.on hbw hb5
  clear hb5
  have D5 : Hid (DN v5 s5 p5 m5 c5 0 (-1)) := hd5
  have D6 : Hid (DN v5 s6 p6 m6 c6 0 (-1)) := hd6
  clear hd5 hd6
  refine hK _ _ ⟨Xs.out.c0, Xs.out.c1, Xs.out.c2, Xs.out.c3, Xs.out.c4, Xs.out.c5⟩ ?_
  clear hK
  refine wpJ_one (i := 5) (by kernel_rfl) rfl (by kernel_rfl) (fun KJ hK => ?_)
  go_simp
  refine (same17 D3.out D4.out D5.out D6.out ⟨rfl, rfl⟩ ⟨rfl, rfl⟩).mono ?_
  rintro e v7 ⟨rfl, hb7⟩
  replace Xr : Hid _ := Xr.out.below hb7
  replace Xs : Hid _ := Xs.out.below hb7
  replace D3 : Hid _ := D3.out.below hb7
  replace D4 : Hid _ := D4.out.below hb7
  replace D5 : Hid _ := D5.out.below hb7
  replace D6 : Hid _ := D6.out.below hb7
  replace hbw := Below.on hbw hb7
  clear hb7
  clear HJ
  have HJ : Hid ((fun W' : World => W'.cell? ⟨gs, 0, none⟩ = some (.bool s3) ∧ W'.cell? ⟨gs, 1, none⟩ = some (.slice p3 m3 m3) ∧ W'.cell? ⟨gs, 2, none⟩ = some (.int .i64 0) ∧ W'.cell? ⟨gs, 3, none⟩ = some (.bool s4) ∧ W'.cell? ⟨gs, 4, none⟩ = some (.slice p4 m4 m4) ∧ W'.cell? ⟨gs, 5, none⟩ = some (.int .i64 0)) v7) := ⟨Xs.out.c0, Xs.out.c1, Xs.out.c2, Xs.out.c3, Xs.out.c4, Xs.out.c5⟩
  refine hK _ _ HJ.out ?_
  clear hK
  refine wpJ_tk 6 (v := ?v5x6) rfl ?hy5x6 HJ.out ?_
  case hy5x6 => (intro W' hJ; obtain ⟨j0, j1, j2, j3, j4, j5⟩ := hJ; go_simp; first | done | with_reducible rfl)
  refine wpJ_tk 7 (v := ?v6x7) rfl ?hy6x7 HJ.out ?_
  case hy6x7 => (intro W' hJ; obtain ⟨j0, j1, j2, j3, j4, j5⟩ := hJ; go_simp; first | done | with_reducible rfl)
  refine wpJ_done (by kernel_rfl) ?_ _
  clear HJ
  go_wp2_with fail
  go_ret
  exact ⟨rfl, hbw⟩
theorem nv {fn z e : Int} {neg : Bool} (sz : Int) (v : Nat) (he : exOk fn e = true) (hs : exSz fn (exQ z e) (decide (-1 ≤ e)) = sz) (hv : (if sz = 0 then 0 else if sz = 1 then 4607182418800017408 else 9218868437227405312) = v) : exW fn 9223372036854775808 9218868437227405312 4607182418800017408 neg z e % 9223372036854775808 = v ∧ exW fn 9223372036854775808 9218868437227405312 4607182418800017408 neg z e < 2 * 9223372036854775808 := by
  unfold exW exP
  rw [if_pos he, hs, hv]
  have h1 : v < 9223372036854775808 := by rw [← hv]; split; (exact by decide); split <;> decide
  cases exNg fn (exQ z e) (decide (-1 ≤ e)) neg
  · simp; omega
  · simp; omega
end Go.Proofs.YtoalblaklcekeaaGreatDoor
