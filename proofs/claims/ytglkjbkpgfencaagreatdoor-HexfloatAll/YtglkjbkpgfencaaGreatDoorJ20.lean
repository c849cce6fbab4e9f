import Derived.Test.YtglkjbkpgfencaaGreatDoorJ13
import Derived.Test.YtglkjbkpgfencaaGreatDoorJ14
import Derived.Test.YtglkjbkpgfencaaGreatDoorJ12
import Derived.WalkSmall
import Derived.Laws.Concat
import Derived.Test.YtglkjbkpgfencaaGreatDoorJ15
namespace Go.Proofs.YtglkjbkpgfencaaGreatDoor
open Go.RowKit Go.Shelf
set_option maxRecDepth 20000
set_option maxHeartbeats 0
theorem and_sg {b : Nat} (hb : b < B64) {sg : Bool} (hs : sg = decide (9223372036854775808 ≤ b)) : ∃ an : Int, bits BinOp.and IntKind.u64 (b : Int) 9223372036854775808 = an ∧ (an != 0) = sg ∧ (an == 0) = !sg := by
  refine ⟨_, rfl, ?_⟩
  have h : bits BinOp.and IntKind.u64 (b : Int) (9223372036854775808 : Int) = ((if 9223372036854775808 ≤ b then 9223372036854775808 else 0 : Nat) : Int) := sign_and b 9223372036854775808 63 (by decide) (by decide) (by rw [B64_eq] at hb; omega)
  rw [h, hs]
  by_cases h1 : 9223372036854775808 ≤ b
  · rw [if_pos h1, decide_eq_true h1]; decide
  · rw [if_neg h1, decide_eq_false h1]; decide
theorem narrow_c0 {b : Nat} (hb : b < B64) {sg : Bool} (hs : sg = decide (9223372036854775808 ≤ b)) (hc : clsN 4503599627370496 9218868437227405312 (b % 9223372036854775808) = 0) (w : World) (hT : Tab w) :
    Calls Tryz.prog 11 #[U b] w fun en w' => en = .returned (.tuple #[U (if sg then 2147483648 + 0 else 0), .int .i64 0]) ∧ Below w.heap.size w w' := by
  have hbw : Below w.heap.size w w := Below.refl _ _
  have TB : Hid (Tab w) := hT
  obtain ⟨an, ha, hn1, hn2⟩ := and_sg hb hs
  have HC : Hid (b < 2 * 9223372036854775808 ∧ clsN 4503599627370496 9218868437227405312 (b % 9223372036854775808) = 0) := ⟨by rw [B64_eq] at hb; omega, hc⟩
  obtain ⟨r, hr⟩ : ∃ r, r = (if sg then 2147483648 + 0 else 0) := ⟨_, rfl⟩
  rw [← hr]
  have HR : Hid ((if sg then 2147483648 + 0 else 0) = r) := hr.symm
  clear hT hc hb hr hs
  go_enter Tryz.func11, Tryz.ntmps11
  go_wp2_with fail
  refine (of_64 _).mono ?_
  rintro e v1 ⟨rfl, hb1⟩
  replace hbw := Below.on hbw hb1
  clear hb1
  go_wp2_with fail
  have Xg0 : Hid (B3q (v1.alloc (.cells #[.int .i64 64, .int .i64 53, .int .i64 (-1074)] 46)) v1.heap.size (.int .i64 64) (.int .i64 53) (.int .i64 (-1074))) := B3q.new v1 _ _ _ _
  have hbn : Below v1.heap.size v1 (v1.alloc (.cells #[.int .i64 64, .int .i64 53, .int .i64 (-1074)] 46)) := below1 v1 _
  generalize v1.alloc (.cells #[.int .i64 64, .int .i64 53, .int .i64 (-1074)] 46) = Wg at *
  have HGg : Hid (w.heap.size ≤ v1.heap.size) := hbw.size
  replace hbw := Below.on hbw hbn
  clear hbn
  generalize v1.heap.size = gg at *
  have Xg := Xg0
  clear Xg0
  refine (of_32 _).mono ?_
  rintro e v2 ⟨rfl, hb2⟩
  replace Xg : Hid _ := Xg.out.below hb2
  replace hbw := Below.on hbw hb2
  clear hb2
  obtain ⟨cg0, cg1, cg2, fg0, fg1, fg2⟩ := Xg.out
  have hneg : gg < v2.heap.size := World.block_lt_of_cell? v2 _ cg0
  go_wp2_with fail
  clear cg0 cg1 cg2 fg0 fg1 fg2 hneg
  have Xh0 : Hid (B3q (v2.alloc (.cells #[.int .i64 32, .int .i64 24, .int .i64 (-149)] 46)) v2.heap.size (.int .i64 32) (.int .i64 24) (.int .i64 (-149))) := B3q.new v2 _ _ _ _
  have hbn : Below v2.heap.size v2 (v2.alloc (.cells #[.int .i64 32, .int .i64 24, .int .i64 (-149)] 46)) := below1 v2 _
  generalize v2.alloc (.cells #[.int .i64 32, .int .i64 24, .int .i64 (-149)] 46) = Wh at *
  have HGh : Hid (w.heap.size ≤ v2.heap.size) := hbw.size
  replace Xg : Hid _ := Xg.out.below hbn
  replace hbw := Below.on hbw hbn
  clear hbn
  generalize v2.heap.size = gh at *
  have Xh := Xh0
  clear Xh0
  refine (sign_64 _).mono ?_
  rintro e v3 ⟨rfl, hb3⟩
  replace Xg : Hid _ := Xg.out.below hb3
  replace Xh : Hid _ := Xh.out.below hb3
  replace hbw := Below.on hbw hb3
  clear hb3
  go_wp2_with fail
  have hc := jn_64.cl b v3 HC.out.1
  rw [HC.out.2] at hc
  refine Calls.mono hc ?_
  clear hc
  rintro e9 v4 ⟨rfl, hb4⟩
  replace Xg : Hid _ := Xg.out.below hb4
  replace Xh : Hid _ := Xh.out.below hb4
  replace hbw := Below.on hbw hb4
  clear hb4
  obtain ⟨ch0, ch1, ch2, fh0, fh1, fh2⟩ := Xh.out
  have hneh : gh < v4.heap.size := World.block_lt_of_cell? v4 _ ch0
  go_wp2_with fail
  clear ch0 ch1 ch2 fh0 fh1 fh2 hneh
  refine Calls.mono (fm_32.sgn sg 0 v4 (by decide)) ?_
  rintro e9 v5 ⟨rfl, hb5⟩
  rw [HR.out]
  replace Xg : Hid _ := Xg.out.below hb5
  replace Xh : Hid _ := Xh.out.below hb5
  replace hbw := Below.on hbw hb5
  clear hb5
  go_wp2_with fail
  go_ret2
  exact ⟨rfl, hbw⟩
theorem narrow_c3 {b : Nat} (hb : b < B64) {sg : Bool} (hs : sg = decide (9223372036854775808 ≤ b)) (hc : clsN 4503599627370496 9218868437227405312 (b % 9223372036854775808) = 3) (w : World) (hT : Tab w) :
    Calls Tryz.prog 11 #[U b] w fun en w' => en = .returned (.tuple #[U (if sg then 2147483648 + 2139095040 else 2139095040), .int .i64 0]) ∧ Below w.heap.size w w' := by
  have hbw : Below w.heap.size w w := Below.refl _ _
  have TB : Hid (Tab w) := hT
  obtain ⟨an, ha, hn1, hn2⟩ := and_sg hb hs
  have HC : Hid (b < 2 * 9223372036854775808 ∧ clsN 4503599627370496 9218868437227405312 (b % 9223372036854775808) = 3) := ⟨by rw [B64_eq] at hb; omega, hc⟩
  obtain ⟨r, hr⟩ : ∃ r, r = (if sg then 2147483648 + 2139095040 else 2139095040) := ⟨_, rfl⟩
  rw [← hr]
  have HR : Hid ((if sg then 2147483648 + 2139095040 else 2139095040) = r) := hr.symm
  clear hT hc hb hr hs
  go_enter Tryz.func11, Tryz.ntmps11
  go_wp2_with fail
  refine (of_64 _).mono ?_
  rintro e v1 ⟨rfl, hb1⟩
  replace hbw := Below.on hbw hb1
  clear hb1
  go_wp2_with fail
  have Xg0 : Hid (B3q (v1.alloc (.cells #[.int .i64 64, .int .i64 53, .int .i64 (-1074)] 46)) v1.heap.size (.int .i64 64) (.int .i64 53) (.int .i64 (-1074))) := B3q.new v1 _ _ _ _
  have hbn : Below v1.heap.size v1 (v1.alloc (.cells #[.int .i64 64, .int .i64 53, .int .i64 (-1074)] 46)) := below1 v1 _
  generalize v1.alloc (.cells #[.int .i64 64, .int .i64 53, .int .i64 (-1074)] 46) = Wg at *
  have HGg : Hid (w.heap.size ≤ v1.heap.size) := hbw.size
  replace hbw := Below.on hbw hbn
  clear hbn
  generalize v1.heap.size = gg at *
  have Xg := Xg0
  clear Xg0
  refine (of_32 _).mono ?_
  rintro e v2 ⟨rfl, hb2⟩
  replace Xg : Hid _ := Xg.out.below hb2
  replace hbw := Below.on hbw hb2
  clear hb2
  obtain ⟨cg0, cg1, cg2, fg0, fg1, fg2⟩ := Xg.out
  have hneg : gg < v2.heap.size := World.block_lt_of_cell? v2 _ cg0
  go_wp2_with fail
  clear cg0 cg1 cg2 fg0 fg1 fg2 hneg
  have Xh0 : Hid (B3q (v2.alloc (.cells #[.int .i64 32, .int .i64 24, .int .i64 (-149)] 46)) v2.heap.size (.int .i64 32) (.int .i64 24) (.int .i64 (-149))) := B3q.new v2 _ _ _ _
  have hbn : Below v2.heap.size v2 (v2.alloc (.cells #[.int .i64 32, .int .i64 24, .int .i64 (-149)] 46)) := below1 v2 _
  generalize v2.alloc (.cells #[.int .i64 32, .int .i64 24, .int .i64 (-149)] 46) = Wh at *
  have HGh : Hid (w.heap.size ≤ v2.heap.size) := hbw.size
  replace Xg : Hid _ := Xg.out.below hbn
  replace hbw := Below.on hbw hbn
  clear hbn
  generalize v2.heap.size = gh at *
  have Xh := Xh0
  clear Xh0
  refine (sign_64 _).mono ?_
  rintro e v3 ⟨rfl, hb3⟩
  replace Xg : Hid _ := Xg.out.below hb3
  replace Xh : Hid _ := Xh.out.below hb3
  replace hbw := Below.on hbw hb3
  clear hb3
  go_wp2_with fail
  have hc := jn_64.cl b v3 HC.out.1
  rw [HC.out.2] at hc
  refine Calls.mono hc ?_
  clear hc
  rintro e9 v4 ⟨rfl, hb4⟩
  replace Xg : Hid _ := Xg.out.below hb4
  replace Xh : Hid _ := Xh.out.below hb4
  replace hbw := Below.on hbw hb4
  clear hb4
  obtain ⟨ch0, ch1, ch2, fh0, fh1, fh2⟩ := Xh.out
  have hneh : gh < v4.heap.size := World.block_lt_of_cell? v4 _ ch0
  go_wp2_with fail
  clear ch0 ch1 ch2 fh0 fh1 fh2 hneh
  obtain ⟨Wr, hWr⟩ : ∃ W1, W1 = v4.drew := ⟨_, rfl⟩
  have hbd : Below v4.heap.size v4 Wr := by rw [hWr]; exact bDrew1 (Below.refl _ _)
  replace Xg : Hid _ := Xg.out.below hbd
  replace Xh : Hid _ := Xh.out.below hbd
  replace hbw := Below.on hbw hbd
  clear hbd
  have HJ : Hid ((fun W' : World => W'.cell? ⟨gh, 0, none⟩ = some (.int .i64 32) ∧ W'.cell? ⟨gh, 1, none⟩ = some (.int .i64 24) ∧ W'.cell? ⟨gh, 2, none⟩ = some (.int .i64 (-149))) Wr) := ⟨Xh.out.c0, Xh.out.c1, Xh.out.c2⟩
  refine wp_region_J (fun W' => W'.cell? ⟨gh, 0, none⟩ = some (.int .i64 32) ∧ W'.cell? ⟨gh, 1, none⟩ = some (.int .i64 24) ∧ W'.cell? ⟨gh, 2, none⟩ = some (.int .i64 (-149))) (by kernel_rfl) ?_
  rw [← hWr]
  clear hWr
  refine wpJ_tq 0 rfl HJ.out ?_
  refine wpJ_tq 1 rfl HJ.out ?_
  refine wpJ_tq 2 rfl HJ.out ?_
  refine wpJ_on 3 rfl fun KJ hK => ?_
  go_simp
  refine (fm_32.inf _).mono ?_
  rintro e v5 ⟨rfl, hb5⟩
  replace Xg : Hid _ := Xg.out.below hb5
  replace Xh : Hid _ := Xh.out.below hb5
  replace hbw := Below.on hbw hb5
  clear hb5
  refine hK _ _ ⟨Xh.out.c0, Xh.out.c1, Xh.out.c2⟩ ?_
  clear hK
  refine wpJ_on 4 rfl fun KJ hK => ?_
  go_simp
  refine Calls.mono (fm_32.sgn sg 2139095040 v5 (by decide)) ?_
  rintro e9 v6 ⟨rfl, hb6⟩
  rw [HR.out]
  replace Xg : Hid _ := Xg.out.below hb6
  replace Xh : Hid _ := Xh.out.below hb6
  replace hbw := Below.on hbw hb6
  clear hb6
  clear HJ
  have HJ : Hid ((fun W' : World => W'.cell? ⟨gh, 0, none⟩ = some (.int .i64 32) ∧ W'.cell? ⟨gh, 1, none⟩ = some (.int .i64 24) ∧ W'.cell? ⟨gh, 2, none⟩ = some (.int .i64 (-149))) v6) := ⟨Xh.out.c0, Xh.out.c1, Xh.out.c2⟩
  refine hK _ _ HJ.out ?_
  clear hK
  refine wpJ_tq 5 rfl HJ.out ?_
  refine wpJ_tq 6 rfl HJ.out ?_
  refine wpJ_done (by kernel_rfl) ?_ _
  clear HJ
  go_wp2_with fail
  go_ret2
  exact ⟨rfl, hbw⟩
theorem narrow_c4 {b : Nat} (hb : b < B64) {sg : Bool} (hs : sg = decide (9223372036854775808 ≤ b)) (hc : clsN 4503599627370496 9218868437227405312 (b % 9223372036854775808) = 4) (w : World) (hT : Tab w) :
    Calls Tryz.prog 11 #[U b] w fun en w' => en = .returned (.tuple #[U 2143289345, .int .i64 0]) ∧ Below w.heap.size w w' := by
  have hbw : Below w.heap.size w w := Below.refl _ _
  have TB : Hid (Tab w) := hT
  obtain ⟨an, ha, hn1, hn2⟩ := and_sg hb hs
  have HC : Hid (b < 2 * 9223372036854775808 ∧ clsN 4503599627370496 9218868437227405312 (b % 9223372036854775808) = 4) := ⟨by rw [B64_eq] at hb; omega, hc⟩
  obtain ⟨r, hr⟩ : ∃ r, r = 2143289345 := ⟨_, rfl⟩
  rw [← hr]
  have HR : Hid (2143289345 = r) := hr.symm
  clear hT hc hb hr hs
  go_enter Tryz.func11, Tryz.ntmps11
  go_wp2_with fail
  refine (of_64 _).mono ?_
  rintro e v1 ⟨rfl, hb1⟩
  replace hbw := Below.on hbw hb1
  clear hb1
  go_wp2_with fail
  have Xg0 : Hid (B3q (v1.alloc (.cells #[.int .i64 64, .int .i64 53, .int .i64 (-1074)] 46)) v1.heap.size (.int .i64 64) (.int .i64 53) (.int .i64 (-1074))) := B3q.new v1 _ _ _ _
  have hbn : Below v1.heap.size v1 (v1.alloc (.cells #[.int .i64 64, .int .i64 53, .int .i64 (-1074)] 46)) := below1 v1 _
  generalize v1.alloc (.cells #[.int .i64 64, .int .i64 53, .int .i64 (-1074)] 46) = Wg at *
  have HGg : Hid (w.heap.size ≤ v1.heap.size) := hbw.size
  replace hbw := Below.on hbw hbn
  clear hbn
  generalize v1.heap.size = gg at *
  have Xg := Xg0
  clear Xg0
  refine (of_32 _).mono ?_
  rintro e v2 ⟨rfl, hb2⟩
  replace Xg : Hid _ := Xg.out.below hb2
  replace hbw := Below.on hbw hb2
  clear hb2
  obtain ⟨cg0, cg1, cg2, fg0, fg1, fg2⟩ := Xg.out
  have hneg : gg < v2.heap.size := World.block_lt_of_cell? v2 _ cg0
  go_wp2_with fail
  clear cg0 cg1 cg2 fg0 fg1 fg2 hneg
  have Xh0 : Hid (B3q (v2.alloc (.cells #[.int .i64 32, .int .i64 24, .int .i64 (-149)] 46)) v2.heap.size (.int .i64 32) (.int .i64 24) (.int .i64 (-149))) := B3q.new v2 _ _ _ _
  have hbn : Below v2.heap.size v2 (v2.alloc (.cells #[.int .i64 32, .int .i64 24, .int .i64 (-149)] 46)) := below1 v2 _
  generalize v2.alloc (.cells #[.int .i64 32, .int .i64 24, .int .i64 (-149)] 46) = Wh at *
  have HGh : Hid (w.heap.size ≤ v2.heap.size) := hbw.size
  replace Xg : Hid _ := Xg.out.below hbn
  replace hbw := Below.on hbw hbn
  clear hbn
  generalize v2.heap.size = gh at *
  have Xh := Xh0
  clear Xh0
  refine (sign_64 _).mono ?_
  rintro e v3 ⟨rfl, hb3⟩
  replace Xg : Hid _ := Xg.out.below hb3
  replace Xh : Hid _ := Xh.out.below hb3
  replace hbw := Below.on hbw hb3
  clear hb3
  go_wp2_with fail
  have hc := jn_64.cl b v3 HC.out.1
  rw [HC.out.2] at hc
  refine Calls.mono hc ?_
  clear hc
  rintro e9 v4 ⟨rfl, hb4⟩
  replace Xg : Hid _ := Xg.out.below hb4
  replace Xh : Hid _ := Xh.out.below hb4
  replace hbw := Below.on hbw hb4
  clear hb4
  obtain ⟨ch0, ch1, ch2, fh0, fh1, fh2⟩ := Xh.out
  have hneh : gh < v4.heap.size := World.block_lt_of_cell? v4 _ ch0
  go_wp2_with fail
  clear ch0 ch1 ch2 fh0 fh1 fh2 hneh
  refine (wquiet_32 _).mono ?_
  rintro e v5 ⟨rfl, hb5⟩
  replace Xg : Hid _ := Xg.out.below hb5
  replace Xh : Hid _ := Xh.out.below hb5
  replace hbw := Below.on hbw hb5
  clear hb5
  go_wp2_with fail
  rw [← HR.out]
  go_ret2
  exact ⟨rfl, hbw⟩
theorem narrow_c1 {b : Nat} (hb : b < B64) {sg : Bool} (hs : sg = decide (9223372036854775808 ≤ b)) (hc : clsN 4503599627370496 9218868437227405312 (b % 9223372036854775808) = 1) {zo eo : Int} (hv : VF 9223372036854775808 4503599627370496 (-1074) b zo eo) (hf : b % 9223372036854775808 < 9218868437227405312) (w : World) (hT : Tab w) :
    Calls Tryz.prog 11 #[U b] w fun en w' => en = .returned (.tuple #[U (rnp (-149) 23 128 2147483648 2139095040 zo eo), .int .i64 0]) ∧ Below w.heap.size w w' := by
  have hbw : Below w.heap.size w w := Below.refl _ _
  have TB : Hid (Tab w) := hT
  obtain ⟨an, ha, hn1, hn2⟩ := and_sg hb hs
  have HC : Hid (b < 2 * 9223372036854775808 ∧ clsN 4503599627370496 9218868437227405312 (b % 9223372036854775808) = 1) := ⟨by rw [B64_eq] at hb; omega, hc⟩
  obtain ⟨r, hr⟩ : ∃ r, r = (rnp (-149) 23 128 2147483648 2139095040 zo eo) := ⟨_, rfl⟩
  rw [← hr]
  have HR : Hid ((rnp (-149) 23 128 2147483648 2139095040 zo eo) = r) := hr.symm
  have HV : Hid (VF 9223372036854775808 4503599627370496 (-1074) b zo eo ∧ b % 9223372036854775808 < 9218868437227405312) := ⟨hv, hf⟩
  clear hv hf
  clear hT hc hb hr hs
  go_enter Tryz.func11, Tryz.ntmps11
  go_wp2_with fail
  refine (of_64 _).mono ?_
  rintro e v1 ⟨rfl, hb1⟩
  replace hbw := Below.on hbw hb1
  clear hb1
  go_wp2_with fail
  have Xg0 : Hid (B3q (v1.alloc (.cells #[.int .i64 64, .int .i64 53, .int .i64 (-1074)] 46)) v1.heap.size (.int .i64 64) (.int .i64 53) (.int .i64 (-1074))) := B3q.new v1 _ _ _ _
  have hbn : Below v1.heap.size v1 (v1.alloc (.cells #[.int .i64 64, .int .i64 53, .int .i64 (-1074)] 46)) := below1 v1 _
  generalize v1.alloc (.cells #[.int .i64 64, .int .i64 53, .int .i64 (-1074)] 46) = Wg at *
  have HGg : Hid (w.heap.size ≤ v1.heap.size) := hbw.size
  replace hbw := Below.on hbw hbn
  clear hbn
  generalize v1.heap.size = gg at *
  have Xg := Xg0
  clear Xg0
  refine (of_32 _).mono ?_
  rintro e v2 ⟨rfl, hb2⟩
  replace Xg : Hid _ := Xg.out.below hb2
  replace hbw := Below.on hbw hb2
  clear hb2
  obtain ⟨cg0, cg1, cg2, fg0, fg1, fg2⟩ := Xg.out
  have hneg : gg < v2.heap.size := World.block_lt_of_cell? v2 _ cg0
  go_wp2_with fail
  clear cg0 cg1 cg2 fg0 fg1 fg2 hneg
  have Xh0 : Hid (B3q (v2.alloc (.cells #[.int .i64 32, .int .i64 24, .int .i64 (-149)] 46)) v2.heap.size (.int .i64 32) (.int .i64 24) (.int .i64 (-149))) := B3q.new v2 _ _ _ _
  have hbn : Below v2.heap.size v2 (v2.alloc (.cells #[.int .i64 32, .int .i64 24, .int .i64 (-149)] 46)) := below1 v2 _
  generalize v2.alloc (.cells #[.int .i64 32, .int .i64 24, .int .i64 (-149)] 46) = Wh at *
  have HGh : Hid (w.heap.size ≤ v2.heap.size) := hbw.size
  replace Xg : Hid _ := Xg.out.below hbn
  replace hbw := Below.on hbw hbn
  clear hbn
  generalize v2.heap.size = gh at *
  have Xh := Xh0
  clear Xh0
  refine (sign_64 _).mono ?_
  rintro e v3 ⟨rfl, hb3⟩
  replace Xg : Hid _ := Xg.out.below hb3
  replace Xh : Hid _ := Xh.out.below hb3
  replace hbw := Below.on hbw hb3
  clear hb3
  go_wp2_with fail
  have hc := jn_64.cl b v3 HC.out.1
  rw [HC.out.2] at hc
  refine Calls.mono hc ?_
  clear hc
  rintro e9 v4 ⟨rfl, hb4⟩
  replace Xg : Hid _ := Xg.out.below hb4
  replace Xh : Hid _ := Xh.out.below hb4
  replace hbw := Below.on hbw hb4
  clear hb4
  obtain ⟨ch0, ch1, ch2, fh0, fh1, fh2⟩ := Xh.out
  have hneh : gh < v4.heap.size := World.block_lt_of_cell? v4 _ ch0
  go_wp2_with fail
  clear ch0 ch1 ch2 fh0 fh1 fh2 hneh
  refine Calls.mono (value_v pm_64 HC.out.1 HV.out.2 HV.out.1 _ (TB.out.below hbw)) ?_
  rintro e9 v5 ⟨v, rfl, hv, hb5⟩
  obtain ⟨s5, p5, m5, rfl, hd5⟩ := hv.dn HV.out.1.fm
  clear hv
  replace Xg : Hid _ := Xg.out.below hb5
  replace Xh : Hid _ := Xh.out.below hb5
  replace hbw := Below.on hbw hb5
  clear hb5
  have D5 : Hid (DN v5 s5 p5 m5 m5 eo zo) := hd5
  clear hd5
  obtain ⟨ch0, ch1, ch2, fh0, fh1, fh2⟩ := Xh.out
  have hneh : gh < v5.heap.size := World.block_lt_of_cell? v5 _ ch0
  go_wp2_with fail
  clear ch0 ch1 ch2 fh0 fh1 fh2 hneh
  have Xd0 : Hid (B3q (v5.alloc (.cells #[.bool s5, .slice p5 m5 m5, .int .i64 eo] 65)) v5.heap.size (.bool s5) (.slice p5 m5 m5) (.int .i64 eo)) := B3q.new v5 _ _ _ _
  have hbn : Below v5.heap.size v5 (v5.alloc (.cells #[.bool s5, .slice p5 m5 m5, .int .i64 eo] 65)) := below1 v5 _
  generalize v5.alloc (.cells #[.bool s5, .slice p5 m5 m5, .int .i64 eo] 65) = Wd at *
  have HGd : Hid (w.heap.size ≤ v5.heap.size) := hbw.size
  replace Xg : Hid _ := Xg.out.below hbn
  replace Xh : Hid _ := Xh.out.below hbn
  replace D5 : Hid _ := D5.out.below hbn
  replace hbw := Below.on hbw hbn
  clear hbn
  generalize v5.heap.size = gd at *
  have Xd := Xd0
  clear Xd0
  refine Calls.mono (nearest_ok (e := eo) jn_32 D5.out.zn (by rcases D5.out.fm with ⟨_, h2⟩ | ⟨_, h2, h3⟩ <;> omega) (TB.out.below hbw)) ?_
  rintro e9 v6 ⟨rfl, hb6⟩
  rw [HR.out]
  replace Xg : Hid _ := Xg.out.below hb6
  replace Xh : Hid _ := Xh.out.below hb6
  replace Xd : Hid _ := Xd.out.below hb6
  replace D5 : Hid _ := D5.out.below hb6
  replace hbw := Below.on hbw hb6
  clear hb6
  go_wp2_with fail
  go_ret2
  exact ⟨rfl, hbw⟩
theorem narrow_c2 {b : Nat} (hb : b < B64) {sg : Bool} (hs : sg = decide (9223372036854775808 ≤ b)) (hc : clsN 4503599627370496 9218868437227405312 (b % 9223372036854775808) = 2) {zo eo : Int} (hv : VF 9223372036854775808 4503599627370496 (-1074) b zo eo) (hf : b % 9223372036854775808 < 9218868437227405312) (w : World) (hT : Tab w) :
    Calls Tryz.prog 11 #[U b] w fun en w' => en = .returned (.tuple #[U (rnp (-149) 23 128 2147483648 2139095040 zo eo), .int .i64 0]) ∧ Below w.heap.size w w' := by
  have hbw : Below w.heap.size w w := Below.refl _ _
  have TB : Hid (Tab w) := hT
  obtain ⟨an, ha, hn1, hn2⟩ := and_sg hb hs
  have HC : Hid (b < 2 * 9223372036854775808 ∧ clsN 4503599627370496 9218868437227405312 (b % 9223372036854775808) = 2) := ⟨by rw [B64_eq] at hb; omega, hc⟩
  obtain ⟨r, hr⟩ : ∃ r, r = (rnp (-149) 23 128 2147483648 2139095040 zo eo) := ⟨_, rfl⟩
  rw [← hr]
  have HR : Hid ((rnp (-149) 23 128 2147483648 2139095040 zo eo) = r) := hr.symm
  have HV : Hid (VF 9223372036854775808 4503599627370496 (-1074) b zo eo ∧ b % 9223372036854775808 < 9218868437227405312) := ⟨hv, hf⟩
  clear hv hf
  clear hT hc hb hr hs
  go_enter Tryz.func11, Tryz.ntmps11
  go_wp2_with fail
  refine (of_64 _).mono ?_
  rintro e v1 ⟨rfl, hb1⟩
  replace hbw := Below.on hbw hb1
  clear hb1
  go_wp2_with fail
  have Xg0 : Hid (B3q (v1.alloc (.cells #[.int .i64 64, .int .i64 53, .int .i64 (-1074)] 46)) v1.heap.size (.int .i64 64) (.int .i64 53) (.int .i64 (-1074))) := B3q.new v1 _ _ _ _
  have hbn : Below v1.heap.size v1 (v1.alloc (.cells #[.int .i64 64, .int .i64 53, .int .i64 (-1074)] 46)) := below1 v1 _
  generalize v1.alloc (.cells #[.int .i64 64, .int .i64 53, .int .i64 (-1074)] 46) = Wg at *
  have HGg : Hid (w.heap.size ≤ v1.heap.size) := hbw.size
  replace hbw := Below.on hbw hbn
  clear hbn
  generalize v1.heap.size = gg at *
  have Xg := Xg0
  clear Xg0
  refine (of_32 _).mono ?_
  rintro e v2 ⟨rfl, hb2⟩
  replace Xg : Hid _ := Xg.out.below hb2
  replace hbw := Below.on hbw hb2
  clear hb2
  obtain ⟨cg0, cg1, cg2, fg0, fg1, fg2⟩ := Xg.out
  have hneg : gg < v2.heap.size := World.block_lt_of_cell? v2 _ cg0
  go_wp2_with fail
  clear cg0 cg1 cg2 fg0 fg1 fg2 hneg
  have Xh0 : Hid (B3q (v2.alloc (.cells #[.int .i64 32, .int .i64 24, .int .i64 (-149)] 46)) v2.heap.size (.int .i64 32) (.int .i64 24) (.int .i64 (-149))) := B3q.new v2 _ _ _ _
  have hbn : Below v2.heap.size v2 (v2.alloc (.cells #[.int .i64 32, .int .i64 24, .int .i64 (-149)] 46)) := below1 v2 _
  generalize v2.alloc (.cells #[.int .i64 32, .int .i64 24, .int .i64 (-149)] 46) = Wh at *
  have HGh : Hid (w.heap.size ≤ v2.heap.size) := hbw.size
  replace Xg : Hid _ := Xg.out.below hbn
  replace hbw := Below.on hbw hbn
  clear hbn
  generalize v2.heap.size = gh at *
  have Xh := Xh0
  clear Xh0
  refine (sign_64 _).mono ?_
  rintro e v3 ⟨rfl, hb3⟩
  replace Xg : Hid _ := Xg.out.below hb3
  replace Xh : Hid _ := Xh.out.below hb3
  replace hbw := Below.on hbw hb3
  clear hb3
  go_wp2_with fail
  have hc := jn_64.cl b v3 HC.out.1
  rw [HC.out.2] at hc
  refine Calls.mono hc ?_
  clear hc
  rintro e9 v4 ⟨rfl, hb4⟩
  replace Xg : Hid _ := Xg.out.below hb4
  replace Xh : Hid _ := Xh.out.below hb4
  replace hbw := Below.on hbw hb4
  clear hb4
  obtain ⟨ch0, ch1, ch2, fh0, fh1, fh2⟩ := Xh.out
  have hneh : gh < v4.heap.size := World.block_lt_of_cell? v4 _ ch0
  go_wp2_with fail
  clear ch0 ch1 ch2 fh0 fh1 fh2 hneh
  refine Calls.mono (value_v pm_64 HC.out.1 HV.out.2 HV.out.1 _ (TB.out.below hbw)) ?_
  rintro e9 v5 ⟨v, rfl, hv, hb5⟩
  obtain ⟨s5, p5, m5, rfl, hd5⟩ := hv.dn HV.out.1.fm
  clear hv
  replace Xg : Hid _ := Xg.out.below hb5
  replace Xh : Hid _ := Xh.out.below hb5
  replace hbw := Below.on hbw hb5
  clear hb5
  have D5 : Hid (DN v5 s5 p5 m5 m5 eo zo) := hd5
  clear hd5
  obtain ⟨ch0, ch1, ch2, fh0, fh1, fh2⟩ := Xh.out
  have hneh : gh < v5.heap.size := World.block_lt_of_cell? v5 _ ch0
  go_wp2_with fail
  clear ch0 ch1 ch2 fh0 fh1 fh2 hneh
  have Xd0 : Hid (B3q (v5.alloc (.cells #[.bool s5, .slice p5 m5 m5, .int .i64 eo] 65)) v5.heap.size (.bool s5) (.slice p5 m5 m5) (.int .i64 eo)) := B3q.new v5 _ _ _ _
  have hbn : Below v5.heap.size v5 (v5.alloc (.cells #[.bool s5, .slice p5 m5 m5, .int .i64 eo] 65)) := below1 v5 _
  generalize v5.alloc (.cells #[.bool s5, .slice p5 m5 m5, .int .i64 eo] 65) = Wd at *
  have HGd : Hid (w.heap.size ≤ v5.heap.size) := hbw.size
  replace Xg : Hid _ := Xg.out.below hbn
  replace Xh : Hid _ := Xh.out.below hbn
  replace D5 : Hid _ := D5.out.below hbn
  replace hbw := Below.on hbw hbn
  clear hbn
  generalize v5.heap.size = gd at *
  have Xd := Xd0
  clear Xd0
  refine Calls.mono (nearest_ok (e := eo) jn_32 D5.out.zn (by rcases D5.out.fm with ⟨_, h2⟩ | ⟨_, h2, h3⟩ <;> omega) (TB.out.below hbw)) ?_
  rintro e9 v6 ⟨rfl, hb6⟩
  rw [HR.out]
  replace Xg : Hid _ := Xg.out.below hb6
  replace Xh : Hid _ := Xh.out.below hb6
  replace Xd : Hid _ := Xd.out.below hb6
  replace D5 : Hid _ := D5.out.below hb6
  replace hbw := Below.on hbw hb6
  clear hb6
  go_wp2_with fail
  go_ret2
  exact ⟨rfl, hbw⟩
theorem cross_ok {f p m le : Int} {S I H sd Q : Nat} {Be : Int} (h : Hf f p m le S I H sd Be Q) {f2 p2 m2 le2 : Int} {S2 I2 H2 sd2 Q2 : Nat} {Be2 : Int} (k : Hf f2 p2 m2 le2 S2 I2 H2 sd2 Be2 Q2) {b z : Nat} {neg : Bool} (hz : z = b % S) (hneg : neg = decide (S ≤ b)) (hSb : 0 < S) :
    (I < z ∧ parseF le2 sd2 Be2 S2 I2 Q2 (printF le H S I b) = (Q2, 0)) ∨ (z = I ∧ parseF le2 sd2 Be2 S2 I2 Q2 (printF le H S I b) = (sgq S2 neg I2, 0)) ∨ (z < I ∧ parseF le2 sd2 Be2 S2 I2 Q2 (printF le H S I b) = (sgq S2 neg (rnp le2 sd2 Be2 S2 I2 (vs H z : Int) le), 0)) := by
  have hlt := h.j.jm.pm.fm.lt
  have hzS : z < S := by rw [hz]; exact Nat.mod_lt _ hSb
  have hsg : (if S ≤ b then [45] else [] : List UInt8) = if neg then [45] else [] := by rw [hneg]; by_cases hs : S ≤ b <;> simp [hs]
  unfold printF
  rw [← hz, hsg]
  by_cases hn : I < z
  · exact .inl ⟨hn, by rw [if_pos hn]; exact parseF_nan (by decide) rfl⟩
  rw [if_neg hn]
  by_cases hi : z = I
  · refine .inr (.inl ⟨hi, ?_⟩)
    rw [if_pos hi]
    cases neg
    · rw [parseF_inf (by decide) (by decide) (by decide +kernel)]; rfl
    · rw [parseF_inf (by decide) (by decide) (by decide +kernel)]; rfl
  refine .inr (.inr ⟨by omega, ?_⟩)
  rw [if_neg hi]
  have hst := h.j.jm.pm.st z (by omega)
  have hlo := h.j.jm.pm.lo
  have hle := h.j.jm.pm.fm.le
  obtain ⟨mn, hmn⟩ : ∃ mn, mn = z - (z / H - 1) * H := ⟨_, rfl⟩
  obtain ⟨ex, hex⟩ : ∃ ex : Int, ex = le + ((z / H - 1 : Nat) : Int) := ⟨_, rfl⟩
  have hv := vs_dv (H := H) (z := z) (le := le) (by omega)
  rw [← hmn, ← hex] at hv ⊢
  have hmB : mn < B64 := Nat.lt_of_le_of_lt (by rw [hmn]; exact Nat.sub_le _ _) (Nat.lt_of_lt_of_le (by omega : z < S) (Nat.le_trans hle (by decide)))
  have hex2 : -2000 ≤ ex ∧ ex ≤ 2000 := ⟨by omega, by omega⟩
  by_cases hm0 : mn = 0
  · have hE0 : exF mn ex = [48, 120, 48, 112, 43, 48] := by unfold exF; rw [if_pos hm0]
    have hnum : numF [48, 120, 48, 112, 43, 48] = some ([], 0, 0) := by decide +kernel
    rw [hE0, parseF_of (neg := neg) (r := [48, 120, 48, 112, 43, 48]) (by cases neg <;> decide) (minus_s neg _) hnum]
    congr 2
    refine rnp_same k.j (by decide) (Int.natCast_nonneg _) (by decide) (by omega) ?_
    rw [← hv, hm0]
    show 0 * _ = 0 * _
    rw [Int.zero_mul, Int.zero_mul]
  · obtain ⟨r, ds, be, en, h1, h2, h3, h4, h5⟩ := exF_num hm0 hmB hex2
    rw [h1, parseF_of (neg := neg) (r := 48 :: r) (by cases neg <;> simp only [if_true, if_false, List.length_append, List.length_cons, List.length_nil, Bool.false_eq_true] <;> omega) (minus_s neg _) h2]
    congr 2
    exact rnp_same k.j (Int.natCast_nonneg _) (Int.natCast_nonneg _) h4 (by omega) (by rw [h3, hv])
theorem dv_nabs (x e : Int) : dv (x.natAbs : Int) e = ((dv x e).natAbs : Int) := by
  unfold dv; rw [Int.natAbs_mul, Int.natCast_mul]; rfl
theorem dv_ngi (x e : Int) : dv x e < 0 ↔ x < 0 := by
  have h := dv_lt_iff (x := x) (y := 0) e
  rwa [dv_zero] at h
theorem rnp_sig {f p m l : Int} {S I H sd : Nat} {Be : Int} (J : Jn f p m l S I H sd Be) {x y e g : Int} (he : -4194304 ≤ e) (hg : -4194304 ≤ g) (h : dv x e = dv y g) : rnp l sd Be S I x e = rnp l sd Be S I y g := by
  obtain ⟨Z, _, h2, h3, _⟩ := rnp_is J x e he
  obtain ⟨Y, _, k2, k3, _⟩ := rnp_is J y g hg
  rw [dv_nabs, h, ← dv_nabs] at h2
  have h5 := h2.uniq k2
  have h6 : x < 0 ↔ y < 0 := by rw [← dv_ngi x e, ← dv_ngi y g, h]
  rw [h3, k3, h5]
  by_cases h7 : x < 0
  · rw [if_pos h7, if_pos (h6.1 h7)]
  · rw [if_neg h7, if_neg (fun h => h7 (h6.2 h))]
theorem rnp_neg9 {f p m l : Int} {S I H sd : Nat} {Be : Int} (J : Jn f p m l S I H sd Be) {n : Nat} {e : Int} (he : -4194304 ≤ e) (h0 : n ≠ 0) (neg : Bool) : rnp l sd Be S I (if neg then -(n : Int) else (n : Int)) e = sgq S neg (rnp l sd Be S I (n : Int) e) := by
  cases neg
  · rfl
  · obtain ⟨Z, _, h2, h3, _⟩ := rnp_is J (-(n : Int)) e he
    obtain ⟨Y, _, k2, k3, _⟩ := rnp_is J (n : Int) e he
    rw [show (-(n : Int)).natAbs = (n : Int).natAbs from Int.natAbs_neg _] at h2
    show rnp l sd Be S I (-(n : Int)) e = S + rnp l sd Be S I (n : Int) e
    rw [h3, k3, if_pos (by omega), if_neg (by omega), h2.uniq k2]
theorem wide_ok {a z : Nat} {neg : Bool} (ha : a < 4294967296) (hz : z = a % 2147483648) (hneg : neg = decide (2147483648 ≤ a)) : ∃ x : Nat, ((2139095040 < z → x = 9221120237041090561) ∧ (z = 2139095040 → x = sgq 9223372036854775808 neg 9218868437227405312) ∧ (z < 2139095040 → x = sgq 9223372036854775808 neg (rnp (-1074) 52 1024 9223372036854775808 9218868437227405312 (vs 8388608 z : Int) (-149)))) ∧ ∀ w, Tab w → Calls Tryz.prog 10 #[U a] w fun e w' => e = .returned (.tuple #[U x, .int .i64 0]) ∧ Below w.heap.size w w' := by
  rcases Nat.lt_trichotomy z 2139095040 with h | h | h
  · have hr : rnp (-1074) 52 1024 9223372036854775808 9218868437227405312 (vs 8388608 z : Int) (-149) = wV z := by
      have hv := wV_vs h (K := 925) rfl
      refine rnp_eq jn_64 (Int.natCast_nonneg _) (by decide) ?_
      have h1 : dv (vs 8388608 z : Int) (-149) = dv (vs 4503599627370496 (wV z) : Int) (-1074) := by
        obtain ⟨K, hK⟩ : ∃ K, K = 925 := ⟨_, rfl⟩
        rw [← hK] at hv
        rw [show (-149 : Int) = -1074 + (K : Int) by omega, dv_up K (by decide), hv, Int.natCast_mul]
      rw [h1]
      exact RNz.exact (by decide) (by decide) (Nat.le_of_lt (wV_cls h).1)
    refine ⟨_, ⟨fun h1 => absurd h1 (by omega), fun h1 => absurd h1 (by omega), fun _ => ?_⟩, fun w hT => widen_fin a ha w (by rw [← hz]; exact h) hT⟩
    rw [hr, ← hz, ← hneg]; cases neg <;> rfl
  · refine ⟨_, ⟨fun h1 => absurd h1 (by omega), fun _ => ?_, fun h1 => absurd h1 (by omega)⟩, fun w _ => widen_inf a ha w (by rw [← hz]; exact h)⟩
    rw [← hneg]; cases neg <;> rfl
  · exact ⟨_, ⟨fun _ => rfl, fun h1 => absurd h1 (by omega), fun h1 => absurd h1 (by omega)⟩, fun w _ => widen_nan a ha w (by rw [← hz]; exact h)⟩
theorem narrow_ok {b z : Nat} {neg : Bool} (hb : b < B64) (hz : z = b % 9223372036854775808) (hneg : neg = decide (9223372036854775808 ≤ b)) : ∃ x : Nat, ((9218868437227405312 < z → x = 2143289345) ∧ (z = 9218868437227405312 → x = sgq 2147483648 neg 2139095040) ∧ (z < 9218868437227405312 → x = sgq 2147483648 neg (rnp (-149) 23 128 2147483648 2139095040 (vs 4503599627370496 z : Int) (-1074)))) ∧ ∀ w, Tab w → Calls Tryz.prog 11 #[U b] w fun e w' => e = .returned (.tuple #[U x, .int .i64 0]) ∧ Below w.heap.size w w' := by
  by_cases h0 : z = 0
  · have hc : clsN 4503599627370496 9218868437227405312 (b % 9223372036854775808) = 0 := by rw [← hz, h0]; rfl
    refine ⟨_, ⟨fun h1 => absurd h1 (by omega), fun h1 => absurd h1 (by omega), fun _ => ?_⟩, fun w hT => narrow_c0 hb hneg hc w hT⟩
    rw [h0, vs_zero, show rnp (-149) 23 128 2147483648 2139095040 ((0 : Nat) : Int) (-1074) = 0 from if_pos rfl]
    cases neg <;> rfl
  rcases Nat.lt_trichotomy z 9218868437227405312 with h | h | h
  · obtain ⟨zo, eo, hv, -⟩ := vf_ex pm_64 (b := b) (by rw [← hz]; exact h)
    have he : -4194304 ≤ eo := by rcases hv.fm with ⟨_, h2⟩ | ⟨_, h2, h3⟩ <;> omega
    have hr : rnp (-149) 23 128 2147483648 2139095040 zo eo = sgq 2147483648 neg (rnp (-149) 23 128 2147483648 2139095040 (vs 4503599627370496 z : Int) (-1074)) := by
      rw [rnp_sig jn_32 he (by decide) hv.v, ← rnp_neg9 jn_32 (by decide) (by have h9 := vs_mono (H := 4503599627370496) (by decide) (show 0 < z by omega); rw [vs_zero] at h9; omega) neg, svS_eq, ← hz, hneg]
      by_cases h9 : 9223372036854775808 ≤ b <;> simp [h9]
    by_cases h1 : z < 4503599627370496
    · have hc : clsN 4503599627370496 9218868437227405312 (b % 9223372036854775808) = 1 := by rw [← hz]; unfold clsN; rw [if_neg h0, if_pos h1]
      exact ⟨_, ⟨fun h1 => absurd h1 (by omega), fun h1 => absurd h1 (by omega), fun _ => hr⟩, fun w hT => narrow_c1 hb hneg hc hv (by rw [← hz]; exact h) w hT⟩
    · have hc : clsN 4503599627370496 9218868437227405312 (b % 9223372036854775808) = 2 := by rw [← hz]; unfold clsN; rw [if_neg h0, if_neg h1, if_pos h]
      exact ⟨_, ⟨fun h1 => absurd h1 (by omega), fun h1 => absurd h1 (by omega), fun _ => hr⟩, fun w hT => narrow_c2 hb hneg hc hv (by rw [← hz]; exact h) w hT⟩
  · have hc : clsN 4503599627370496 9218868437227405312 (b % 9223372036854775808) = 3 := by rw [← hz]; unfold clsN; rw [if_neg h0, if_neg (by omega), if_neg (by omega), if_pos h]
    refine ⟨_, ⟨fun h1 => absurd h1 (by omega), fun _ => ?_, fun h1 => absurd h1 (by omega)⟩, fun w hT => narrow_c3 hb hneg hc w hT⟩
    cases neg <;> rfl
  · have hc : clsN 4503599627370496 9218868437227405312 (b % 9223372036854775808) = 4 := by rw [← hz]; unfold clsN; rw [if_neg h0, if_neg (by omega), if_neg (by omega), if_neg (by omega)]
    exact ⟨_, ⟨fun _ => rfl, fun h1 => absurd h1 (by omega), fun h1 => absurd h1 (by omega)⟩, fun w hT => narrow_c4 hb hneg hc w hT⟩
theorem wide_par {a x : Nat} (hw : ∃ z neg, z = a % 2147483648 ∧ neg = decide (2147483648 ≤ a) ∧ (2139095040 < z → x = 9221120237041090561) ∧ (z = 2139095040 → x = sgq 9223372036854775808 neg 9218868437227405312) ∧ (z < 2139095040 → x = sgq 9223372036854775808 neg (rnp (-1074) 52 1024 9223372036854775808 9218868437227405312 (vs 8388608 z : Int) (-149)))) :
    parseF (-1074) 52 1024 9223372036854775808 9218868437227405312 9221120237041090561 (printF (-149) 8388608 2147483648 2139095040 a) = (x, 0) := by
  obtain ⟨z, neg, hz, hneg, h1, h2, h3⟩ := hw
  rcases cross_ok hf_32 hf_64 hz hneg (by decide) with ⟨c, e⟩ | ⟨c, e⟩ | ⟨c, e⟩
  · rw [e, h1 c]
  · rw [e, h2 c]
  · rw [e, h3 c]
theorem narrow_par {a x : Nat} (hw : ∃ z neg, z = a % 9223372036854775808 ∧ neg = decide (9223372036854775808 ≤ a) ∧ (9218868437227405312 < z → x = 2143289345) ∧ (z = 9218868437227405312 → x = sgq 2147483648 neg 2139095040) ∧ (z < 9218868437227405312 → x = sgq 2147483648 neg (rnp (-149) 23 128 2147483648 2139095040 (vs 4503599627370496 z : Int) (-1074)))) :
    parseF (-149) 23 128 2147483648 2139095040 2143289345 (printF (-1074) 4503599627370496 9223372036854775808 9218868437227405312 a) = (x, 0) := by
  obtain ⟨z, neg, hz, hneg, h1, h2, h3⟩ := hw
  rcases cross_ok hf_64 hf_32 hz hneg (by decide) with ⟨c, e⟩ | ⟨c, e⟩ | ⟨c, e⟩
  · rw [e, h1 c]
  · rw [e, h2 c]
  · rw [e, h3 c]
theorem hexfloatWide_w {b c : Nat} (hc : c < B64) {w : World} (hw : Wd w) :
    Calls Tryz.prog 5 #[U b, U c] w fun en w' => en = .returned (.bool true) ∧ Below w.heap.size w w' := by
  have HW := hm9 hw
  obtain ⟨a, ha⟩ : ∃ a, a = b % 4294967296 := ⟨_, rfl⟩
  have ha9 : a < 4294967296 := by omega
  have hmod : ((b : Int) % 4294967296) = (a : Int) := by rw [ha]; rfl
  have hmod2 : (b : Int).tmod 4294967296 = (a : Int) := by rw [ha]; exact (Int.ofNat_tmod b 4294967296).symm
  obtain ⟨x, ⟨x1, x2, x3⟩, hx⟩ := wide_ok ha9 rfl rfl
  obtain ⟨v, ⟨v1, v2, v3⟩, hv⟩ := narrow_ok hc rfl rfl
  have HX := hm9 hx
  have HV := hm9 hv
  have HP1 := hm9 (wide_par ⟨_, _, rfl, rfl, x1, x2, x3⟩)
  have HP2 := hm9 (narrow_par ⟨_, _, rfl, rfl, v1, v2, v3⟩)
  have HC : Hid (a < 2 * 2147483648 ∧ c < 2 * 9223372036854775808) := ⟨by omega, by rw [B64_eq] at hc; omega⟩
  clear hw ha ha9 x1 x2 x3 v1 v2 v3 hx hv hc
  go_enter Tryz.func5, Tryz.ntmps5
  go_wp2_with fail
  refine (awake10 HW.out).mono ?_
  rintro en w1 ⟨rfl, hb1⟩
  have HB := hm9 hb1
  clear hb1
  go_wp2_with fail
  refine (hf_32.print HC.out.1 (HW.out.below HB.out) rfl).mono ?_
  rintro en w2 ⟨rfl, hb2⟩
  have HB' := hm9 (Below.on HB.out hb2)
  clear hb2 HB
  have HB := HB'
  clear HB'
  go_wp2_with fail
  refine (hf_64.parse _ (HW.out.below HB.out) HP1.out).mono ?_
  rintro en w3 ⟨rfl, hb3⟩
  have HB' := hm9 (Below.on HB.out hb3)
  clear hb3 HB
  have HB := HB'
  clear HB'
  go_wp2_with fail
  refine (HX.out _ (HW.out.below HB.out).t).mono ?_
  rintro en w4 ⟨rfl, hb4⟩
  have HB' := hm9 (Below.on HB.out hb4)
  clear hb4 HB
  have HB := HB'
  clear HB'
  go_wp2_with fail
  refine (hf_64.print HC.out.2 (HW.out.below HB.out) rfl).mono ?_
  rintro en w5 ⟨rfl, hb5⟩
  have HB' := hm9 (Below.on HB.out hb5)
  clear hb5 HB
  have HB := HB'
  clear HB'
  go_wp2_with fail
  refine (hf_32.parse _ (HW.out.below HB.out) HP2.out).mono ?_
  rintro en w6 ⟨rfl, hb6⟩
  have HB' := hm9 (Below.on HB.out hb6)
  clear hb6 HB
  have HB := HB'
  clear HB'
  go_wp2_with fail
  have hxx : ((x : Int) == (x : Int)) = true := beq_self_eq_true _
  have hvv : ((v : Int) == (v : Int)) = true := beq_self_eq_true _
  refine (HV.out _ (HW.out.below HB.out).t).mono ?_
  rintro en w7 ⟨rfl, hb7⟩
  have HB' := hm9 (Below.on HB.out hb7)
  clear hb7 HB
  have HB := HB'
  clear HB'
  go_wp2_with fail
  go_ret
  exact ⟨rfl, HB.out⟩
end Go.Proofs.YtglkjbkpgfencaaGreatDoor
