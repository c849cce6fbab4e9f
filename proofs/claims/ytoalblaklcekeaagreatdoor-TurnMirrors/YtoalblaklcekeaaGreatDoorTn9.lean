import Derived.Test.YtoalblaklcekeaaGreatDoorTn7
import Derived.Test.YtoalblaklcekeaaGreatDoorJ19
import Derived.Test.YtoalblaklcekeaaGreatDoorJ20
namespace Go.Proofs.YtoalblaklcekeaaGreatDoor
open Go.RowKit Go.Shelf

theorem vf_o64 : VF 9223372036854775808 4503599627370496 (-1074) 4607182418800017408 1 0 := vf_lit (q := 1022) (man := 4503599627370496) (by decide) (by decide) (by decide) (.inr (by decide)) (by rw [dv_shift (z := 1) (e := 0) (f := -52) (by decide) (by decide)]; rfl)
theorem vf_m64 : VF 9223372036854775808 4503599627370496 (-1074) 13830554455654793216 (-1) 0 := by
  have h := (xs_neg (b := 4607182418800017408) (by decide) vf_o64).1
  rwa [show xsS 9223372036854775808 4607182418800017408 = 13830554455654793216 from by decide] at h
set_option maxRecDepth 20000 in
set_option maxHeartbeats 8000000 in
theorem narrow_0f (w : World) (hT : Tab w) :
    Calls Tryz.prog 58 #[.int .u64 0] w fun en w' => en = .returned (.tuple #[.int .u64 0, .int .i64 0]) ∧ Below w.heap.size w w' := by
  have hbw : Below w.heap.size w w := Below.refl _ _
  have TB : Hid (Tab w) := hT
  clear hT
  go_enter Tryz.func58, Tryz.ntmps58
  go_wp2_with fail
  refine (of_64 _).mono ?_
  rintro e v1 ⟨rfl, hb1⟩
  replace hbw := Below.on hbw hb1
  clear hb1
  go_wp2_with fail
  have Xg0 : Hid (B3q (v1.alloc (.cells #[.int .i64 64, .int .i64 53, .int .i64 (-1074)] 103)) v1.heap.size (.int .i64 64) (.int .i64 53) (.int .i64 (-1074))) := B3q.new v1 _ _ _ _
  have hbn : Below v1.heap.size v1 (v1.alloc (.cells #[.int .i64 64, .int .i64 53, .int .i64 (-1074)] 103)) := below1 v1 _
  generalize v1.alloc (.cells #[.int .i64 64, .int .i64 53, .int .i64 (-1074)] 103) = Wg at *
  have HGg : Hid (w.heap.size ≤ v1.heap.size) := hbw.size
  replace hbw := Below.on hbw hbn
  clear hbn
  generalize v1.heap.size = gg at *
  have Xg := Xg0
  clear Xg0
  refine (of_32 _).mono ?_
  rintro e v2 ⟨rfl, hb2⟩
  replace Xg : Hid _ := Xg.out.below hb2
  replace hbw := Below.on hbw hb2
  clear hb2
  obtain ⟨cg0, cg1, cg2, fg0, fg1, fg2⟩ := Xg.out
  have hneg : gg < v2.heap.size := World.block_lt_of_cell? v2 _ cg0
  go_wp2_with fail
  clear cg0 cg1 cg2 fg0 fg1 fg2 hneg
  have Xh0 : Hid (B3q (v2.alloc (.cells #[.int .i64 32, .int .i64 24, .int .i64 (-149)] 103)) v2.heap.size (.int .i64 32) (.int .i64 24) (.int .i64 (-149))) := B3q.new v2 _ _ _ _
  have hbn : Below v2.heap.size v2 (v2.alloc (.cells #[.int .i64 32, .int .i64 24, .int .i64 (-149)] 103)) := below1 v2 _
  generalize v2.alloc (.cells #[.int .i64 32, .int .i64 24, .int .i64 (-149)] 103) = Wh at *
  have HGh : Hid (w.heap.size ≤ v2.heap.size) := hbw.size
  replace Xg : Hid _ := Xg.out.below hbn
  replace hbw := Below.on hbw hbn
  clear hbn
  generalize v2.heap.size = gh at *
  have Xh := Xh0
  clear Xh0
  refine (sign_64 _).mono ?_
  rintro e v3 ⟨rfl, hb3⟩
  replace Xg : Hid _ := Xg.out.below hb3
  replace Xh : Hid _ := Xh.out.below hb3
  replace hbw := Below.on hbw hb3
  clear hb3
  have ha : bits BinOp.and IntKind.u64 0 9223372036854775808 = 0 := by kernel_rfl
  go_wp2_with fail
  have hc := jn_64.cl 0 v3 (by decide)
  rw [show clsN 4503599627370496 9218868437227405312 (0 % 9223372036854775808) = 0 from by decide] at hc
  refine Calls.mono hc ?_
  clear hc
  rintro e9 v4 ⟨rfl, hb4⟩
  replace Xg : Hid _ := Xg.out.below hb4
  replace Xh : Hid _ := Xh.out.below hb4
  replace hbw := Below.on hbw hb4
  clear hb4
  obtain ⟨ch0, ch1, ch2, fh0, fh1, fh2⟩ := Xh.out
  have hneh : gh < v4.heap.size := World.block_lt_of_cell? v4 _ ch0
  go_wp2_with fail
  clear ch0 ch1 ch2 fh0 fh1 fh2 hneh
  have hs := fm_32.sgn false 0 v4 (by decide)
  rw [show (if false = true then 2147483648 + 0 else 0) = 0 from rfl] at hs
  refine Calls.mono hs ?_
  clear hs
  rintro e9 v5 ⟨rfl, hb5⟩
  replace Xg : Hid _ := Xg.out.below hb5
  replace Xh : Hid _ := Xh.out.below hb5
  replace hbw := Below.on hbw hb5
  clear hb5
  go_wp2_with fail
  go_ret2
  exact ⟨rfl, hbw⟩
set_option maxRecDepth 20000 in
set_option maxHeartbeats 8000000 in
theorem narrow_0t (w : World) (hT : Tab w) :
    Calls Tryz.prog 58 #[.int .u64 9223372036854775808] w fun en w' => en = .returned (.tuple #[.int .u64 2147483648, .int .i64 0]) ∧ Below w.heap.size w w' := by
  have hbw : Below w.heap.size w w := Below.refl _ _
  have TB : Hid (Tab w) := hT
  clear hT
  go_enter Tryz.func58, Tryz.ntmps58
  go_wp2_with fail
  refine (of_64 _).mono ?_
  rintro e v1 ⟨rfl, hb1⟩
  replace hbw := Below.on hbw hb1
  clear hb1
  go_wp2_with fail
  have Xg0 : Hid (B3q (v1.alloc (.cells #[.int .i64 64, .int .i64 53, .int .i64 (-1074)] 103)) v1.heap.size (.int .i64 64) (.int .i64 53) (.int .i64 (-1074))) := B3q.new v1 _ _ _ _
  have hbn : Below v1.heap.size v1 (v1.alloc (.cells #[.int .i64 64, .int .i64 53, .int .i64 (-1074)] 103)) := below1 v1 _
  generalize v1.alloc (.cells #[.int .i64 64, .int .i64 53, .int .i64 (-1074)] 103) = Wg at *
  have HGg : Hid (w.heap.size ≤ v1.heap.size) := hbw.size
  replace hbw := Below.on hbw hbn
  clear hbn
  generalize v1.heap.size = gg at *
  have Xg := Xg0
  clear Xg0
  refine (of_32 _).mono ?_
  rintro e v2 ⟨rfl, hb2⟩
  replace Xg : Hid _ := Xg.out.below hb2
  replace hbw := Below.on hbw hb2
  clear hb2
  obtain ⟨cg0, cg1, cg2, fg0, fg1, fg2⟩ := Xg.out
  have hneg : gg < v2.heap.size := World.block_lt_of_cell? v2 _ cg0
  go_wp2_with fail
  clear cg0 cg1 cg2 fg0 fg1 fg2 hneg
  have Xh0 : Hid (B3q (v2.alloc (.cells #[.int .i64 32, .int .i64 24, .int .i64 (-149)] 103)) v2.heap.size (.int .i64 32) (.int .i64 24) (.int .i64 (-149))) := B3q.new v2 _ _ _ _
  have hbn : Below v2.heap.size v2 (v2.alloc (.cells #[.int .i64 32, .int .i64 24, .int .i64 (-149)] 103)) := below1 v2 _
  generalize v2.alloc (.cells #[.int .i64 32, .int .i64 24, .int .i64 (-149)] 103) = Wh at *
  have HGh : Hid (w.heap.size ≤ v2.heap.size) := hbw.size
  replace Xg : Hid _ := Xg.out.below hbn
  replace hbw := Below.on hbw hbn
  clear hbn
  generalize v2.heap.size = gh at *
  have Xh := Xh0
  clear Xh0
  refine (sign_64 _).mono ?_
  rintro e v3 ⟨rfl, hb3⟩
  replace Xg : Hid _ := Xg.out.below hb3
  replace Xh : Hid _ := Xh.out.below hb3
  replace hbw := Below.on hbw hb3
  clear hb3
  have ha : bits BinOp.and IntKind.u64 9223372036854775808 9223372036854775808 = 9223372036854775808 := by kernel_rfl
  go_wp2_with fail
  have hc := jn_64.cl 9223372036854775808 v3 (by decide)
  rw [show clsN 4503599627370496 9218868437227405312 (9223372036854775808 % 9223372036854775808) = 0 from by decide] at hc
  refine Calls.mono hc ?_
  clear hc
  rintro e9 v4 ⟨rfl, hb4⟩
  replace Xg : Hid _ := Xg.out.below hb4
  replace Xh : Hid _ := Xh.out.below hb4
  replace hbw := Below.on hbw hb4
  clear hb4
  obtain ⟨ch0, ch1, ch2, fh0, fh1, fh2⟩ := Xh.out
  have hneh : gh < v4.heap.size := World.block_lt_of_cell? v4 _ ch0
  go_wp2_with fail
  clear ch0 ch1 ch2 fh0 fh1 fh2 hneh
  have hs := fm_32.sgn true 0 v4 (by decide)
  rw [show (if true = true then 2147483648 + 0 else 0) = 2147483648 from rfl] at hs
  refine Calls.mono hs ?_
  clear hs
  rintro e9 v5 ⟨rfl, hb5⟩
  replace Xg : Hid _ := Xg.out.below hb5
  replace Xh : Hid _ := Xh.out.below hb5
  replace hbw := Below.on hbw hb5
  clear hb5
  go_wp2_with fail
  go_ret2
  exact ⟨rfl, hbw⟩
set_option maxRecDepth 20000 in
set_option maxHeartbeats 8000000 in
theorem narrow_1f (w : World) (hT : Tab w) :
    Calls Tryz.prog 58 #[.int .u64 4607182418800017408] w fun en w' => en = .returned (.tuple #[.int .u64 1065353216, .int .i64 0]) ∧ Below w.heap.size w w' := by
  have hbw : Below w.heap.size w w := Below.refl _ _
  have TB : Hid (Tab w) := hT
  clear hT
  go_enter Tryz.func58, Tryz.ntmps58
  go_wp2_with fail
  refine (of_64 _).mono ?_
  rintro e v1 ⟨rfl, hb1⟩
  replace hbw := Below.on hbw hb1
  clear hb1
  go_wp2_with fail
  have Xg0 : Hid (B3q (v1.alloc (.cells #[.int .i64 64, .int .i64 53, .int .i64 (-1074)] 103)) v1.heap.size (.int .i64 64) (.int .i64 53) (.int .i64 (-1074))) := B3q.new v1 _ _ _ _
  have hbn : Below v1.heap.size v1 (v1.alloc (.cells #[.int .i64 64, .int .i64 53, .int .i64 (-1074)] 103)) := below1 v1 _
  generalize v1.alloc (.cells #[.int .i64 64, .int .i64 53, .int .i64 (-1074)] 103) = Wg at *
  have HGg : Hid (w.heap.size ≤ v1.heap.size) := hbw.size
  replace hbw := Below.on hbw hbn
  clear hbn
  generalize v1.heap.size = gg at *
  have Xg := Xg0
  clear Xg0
  refine (of_32 _).mono ?_
  rintro e v2 ⟨rfl, hb2⟩
  replace Xg : Hid _ := Xg.out.below hb2
  replace hbw := Below.on hbw hb2
  clear hb2
  obtain ⟨cg0, cg1, cg2, fg0, fg1, fg2⟩ := Xg.out
  have hneg : gg < v2.heap.size := World.block_lt_of_cell? v2 _ cg0
  go_wp2_with fail
  clear cg0 cg1 cg2 fg0 fg1 fg2 hneg
  have Xh0 : Hid (B3q (v2.alloc (.cells #[.int .i64 32, .int .i64 24, .int .i64 (-149)] 103)) v2.heap.size (.int .i64 32) (.int .i64 24) (.int .i64 (-149))) := B3q.new v2 _ _ _ _
  have hbn : Below v2.heap.size v2 (v2.alloc (.cells #[.int .i64 32, .int .i64 24, .int .i64 (-149)] 103)) := below1 v2 _
  generalize v2.alloc (.cells #[.int .i64 32, .int .i64 24, .int .i64 (-149)] 103) = Wh at *
  have HGh : Hid (w.heap.size ≤ v2.heap.size) := hbw.size
  replace Xg : Hid _ := Xg.out.below hbn
  replace hbw := Below.on hbw hbn
  clear hbn
  generalize v2.heap.size = gh at *
  have Xh := Xh0
  clear Xh0
  refine (sign_64 _).mono ?_
  rintro e v3 ⟨rfl, hb3⟩
  replace Xg : Hid _ := Xg.out.below hb3
  replace Xh : Hid _ := Xh.out.below hb3
  replace hbw := Below.on hbw hb3
  clear hb3
  have ha : bits BinOp.and IntKind.u64 4607182418800017408 9223372036854775808 = 0 := by kernel_rfl
  go_wp2_with fail
  have hc := jn_64.cl 4607182418800017408 v3 (by decide)
  rw [show clsN 4503599627370496 9218868437227405312 (4607182418800017408 % 9223372036854775808) = 2 from by decide] at hc
  refine Calls.mono hc ?_
  clear hc
  rintro e9 v4 ⟨rfl, hb4⟩
  replace Xg : Hid _ := Xg.out.below hb4
  replace Xh : Hid _ := Xh.out.below hb4
  replace hbw := Below.on hbw hb4
  clear hb4
  obtain ⟨ch0, ch1, ch2, fh0, fh1, fh2⟩ := Xh.out
  have hneh : gh < v4.heap.size := World.block_lt_of_cell? v4 _ ch0
  go_wp2_with fail
  clear ch0 ch1 ch2 fh0 fh1 fh2 hneh
  refine Calls.mono (value_v (b := 4607182418800017408) pm_64 (by decide) (by decide) vf_o64 _ (TB.out.below hbw)) ?_
  rintro e9 v5 ⟨v, rfl, hv, hb5⟩
  obtain ⟨s5, p5, m5, rfl, hd5⟩ := hv.dn vf_o64.fm
  clear hv
  replace Xg : Hid _ := Xg.out.below hb5
  replace Xh : Hid _ := Xh.out.below hb5
  replace hbw := Below.on hbw hb5
  clear hb5
  have D5 : Hid (DN v5 s5 p5 m5 m5 0 (1)) := hd5
  clear hd5
  obtain ⟨ch0, ch1, ch2, fh0, fh1, fh2⟩ := Xh.out
  have hneh : gh < v5.heap.size := World.block_lt_of_cell? v5 _ ch0
  go_wp2_with fail
  clear ch0 ch1 ch2 fh0 fh1 fh2 hneh
  have Xd0 : Hid (B3q (v5.alloc (.cells #[.bool s5, .slice p5 m5 m5, .int .i64 0] 28)) v5.heap.size (.bool s5) (.slice p5 m5 m5) (.int .i64 0)) := B3q.new v5 _ _ _ _
  have hbn : Below v5.heap.size v5 (v5.alloc (.cells #[.bool s5, .slice p5 m5 m5, .int .i64 0] 28)) := below1 v5 _
  generalize v5.alloc (.cells #[.bool s5, .slice p5 m5 m5, .int .i64 0] 28) = Wd at *
  have HGd : Hid (w.heap.size ≤ v5.heap.size) := hbw.size
  replace Xg : Hid _ := Xg.out.below hbn
  replace Xh : Hid _ := Xh.out.below hbn
  replace D5 : Hid _ := D5.out.below hbn
  replace hbw := Below.on hbw hbn
  clear hbn
  generalize v5.heap.size = gd at *
  have Xd := Xd0
  clear Xd0
  have hs := nearest_ok (e := 0) jn_32 D5.out.zn (by decide) (TB.out.below hbw)
  rw [show rnp (-149) 23 128 2147483648 2139095040 (1) 0 = 1065353216 from by decide +kernel] at hs
  refine Calls.mono hs ?_
  clear hs
  rintro e9 v6 ⟨rfl, hb6⟩
  replace Xg : Hid _ := Xg.out.below hb6
  replace Xh : Hid _ := Xh.out.below hb6
  replace Xd : Hid _ := Xd.out.below hb6
  replace D5 : Hid _ := D5.out.below hb6
  replace hbw := Below.on hbw hb6
  clear hb6
  go_wp2_with fail
  go_ret2
  exact ⟨rfl, hbw⟩
set_option maxRecDepth 20000 in
set_option maxHeartbeats 8000000 in
theorem narrow_1t (w : World) (hT : Tab w) :
    Calls Tryz.prog 58 #[.int .u64 13830554455654793216] w fun en w' => en = .returned (.tuple #[.int .u64 3212836864, .int .i64 0]) ∧ Below w.heap.size w w' := by
  have hbw : Below w.heap.size w w := Below.refl _ _
  have TB : Hid (Tab w) := hT
  clear hT
  go_enter Tryz.func58, Tryz.ntmps58
  go_wp2_with fail
  refine (of_64 _).mono ?_
  rintro e v1 ⟨rfl, hb1⟩
  replace hbw := Below.on hbw hb1
  clear hb1
  go_wp2_with fail
  have Xg0 : Hid (B3q (v1.alloc (.cells #[.int .i64 64, .int .i64 53, .int .i64 (-1074)] 103)) v1.heap.size (.int .i64 64) (.int .i64 53) (.int .i64 (-1074))) := B3q.new v1 _ _ _ _
  have hbn : Below v1.heap.size v1 (v1.alloc (.cells #[.int .i64 64, .int .i64 53, .int .i64 (-1074)] 103)) := below1 v1 _
  generalize v1.alloc (.cells #[.int .i64 64, .int .i64 53, .int .i64 (-1074)] 103) = Wg at *
  have HGg : Hid (w.heap.size ≤ v1.heap.size) := hbw.size
  replace hbw := Below.on hbw hbn
  clear hbn
  generalize v1.heap.size = gg at *
  have Xg := Xg0
  clear Xg0
  refine (of_32 _).mono ?_
  rintro e v2 ⟨rfl, hb2⟩
  replace Xg : Hid _ := Xg.out.below hb2
  replace hbw := Below.on hbw hb2
  clear hb2
  obtain ⟨cg0, cg1, cg2, fg0, fg1, fg2⟩ := Xg.out
  have hneg : gg < v2.heap.size := World.block_lt_of_cell? v2 _ cg0
  go_wp2_with fail
  clear cg0 cg1 cg2 fg0 fg1 fg2 hneg
  have Xh0 : Hid (B3q (v2.alloc (.cells #[.int .i64 32, .int .i64 24, .int .i64 (-149)] 103)) v2.heap.size (.int .i64 32) (.int .i64 24) (.int .i64 (-149))) := B3q.new v2 _ _ _ _
  have hbn : Below v2.heap.size v2 (v2.alloc (.cells #[.int .i64 32, .int .i64 24, .int .i64 (-149)] 103)) := below1 v2 _
  generalize v2.alloc (.cells #[.int .i64 32, .int .i64 24, .int .i64 (-149)] 103) = Wh at *
  have HGh : Hid (w.heap.size ≤ v2.heap.size) := hbw.size
  replace Xg : Hid _ := Xg.out.below hbn
  replace hbw := Below.on hbw hbn
  clear hbn
  generalize v2.heap.size = gh at *
  have Xh := Xh0
  clear Xh0
  refine (sign_64 _).mono ?_
  rintro e v3 ⟨rfl, hb3⟩
  replace Xg : Hid _ := Xg.out.below hb3
  replace Xh : Hid _ := Xh.out.below hb3
  replace hbw := Below.on hbw hb3
  clear hb3
  have ha : bits BinOp.and IntKind.u64 13830554455654793216 9223372036854775808 = 9223372036854775808 := by kernel_rfl
  go_wp2_with fail
  have hc := jn_64.cl 13830554455654793216 v3 (by decide)
  rw [show clsN 4503599627370496 9218868437227405312 (13830554455654793216 % 9223372036854775808) = 2 from by decide] at hc
  refine Calls.mono hc ?_
  clear hc
  rintro e9 v4 ⟨rfl, hb4⟩
  replace Xg : Hid _ := Xg.out.below hb4
  replace Xh : Hid _ := Xh.out.below hb4
  replace hbw := Below.on hbw hb4
  clear hb4
  obtain ⟨ch0, ch1, ch2, fh0, fh1, fh2⟩ := Xh.out
  have hneh : gh < v4.heap.size := World.block_lt_of_cell? v4 _ ch0
  go_wp2_with fail
  clear ch0 ch1 ch2 fh0 fh1 fh2 hneh
  refine Calls.mono (value_v (b := 13830554455654793216) pm_64 (by decide) (by decide) vf_m64 _ (TB.out.below hbw)) ?_
  rintro e9 v5 ⟨v, rfl, hv, hb5⟩
  obtain ⟨s5, p5, m5, rfl, hd5⟩ := hv.dn vf_m64.fm
  clear hv
  replace Xg : Hid _ := Xg.out.below hb5
  replace Xh : Hid _ := Xh.out.below hb5
  replace hbw := Below.on hbw hb5
  clear hb5
  have D5 : Hid (DN v5 s5 p5 m5 m5 0 (-1)) := hd5
  clear hd5
  obtain ⟨ch0, ch1, ch2, fh0, fh1, fh2⟩ := Xh.out
  have hneh : gh < v5.heap.size := World.block_lt_of_cell? v5 _ ch0
  go_wp2_with fail
  clear ch0 ch1 ch2 fh0 fh1 fh2 hneh
  have Xd0 : Hid (B3q (v5.alloc (.cells #[.bool s5, .slice p5 m5 m5, .int .i64 0] 28)) v5.heap.size (.bool s5) (.slice p5 m5 m5) (.int .i64 0)) := B3q.new v5 _ _ _ _
  have hbn : Below v5.heap.size v5 (v5.alloc (.cells #[.bool s5, .slice p5 m5 m5, .int .i64 0] 28)) := below1 v5 _
  generalize v5.alloc (.cells #[.bool s5, .slice p5 m5 m5, .int .i64 0] 28) = Wd at *
  have HGd : Hid (w.heap.size ≤ v5.heap.size) := hbw.size
  replace Xg : Hid _ := Xg.out.below hbn
  replace Xh : Hid _ := Xh.out.below hbn
  replace D5 : Hid _ := D5.out.below hbn
  replace hbw := Below.on hbw hbn
  clear hbn
  generalize v5.heap.size = gd at *
  have Xd := Xd0
  clear Xd0
  have hs := nearest_ok (e := 0) jn_32 D5.out.zn (by decide) (TB.out.below hbw)
  rw [show rnp (-149) 23 128 2147483648 2139095040 (-1) 0 = 3212836864 from by decide +kernel] at hs
  refine Calls.mono hs ?_
  clear hs
  rintro e9 v6 ⟨rfl, hb6⟩
  replace Xg : Hid _ := Xg.out.below hb6
  replace Xh : Hid _ := Xh.out.below hb6
  replace Xd : Hid _ := Xd.out.below hb6
  replace D5 : Hid _ := D5.out.below hb6
  replace hbw := Below.on hbw hb6
  clear hb6
  go_wp2_with fail
  go_ret2
  exact ⟨rfl, hbw⟩
set_option maxRecDepth 20000 in
set_option maxHeartbeats 8000000 in
theorem narrow_2f (w : World) (hT : Tab w) :
    Calls Tryz.prog 58 #[.int .u64 9218868437227405312] w fun en w' => en = .returned (.tuple #[.int .u64 2139095040, .int .i64 0]) ∧ Below w.heap.size w w' := by
  have hbw : Below w.heap.size w w := Below.refl _ _
  have TB : Hid (Tab w) := hT
  clear hT
  go_enter Tryz.func58, Tryz.ntmps58
  go_wp2_with fail
  refine (of_64 _).mono ?_
  rintro e v1 ⟨rfl, hb1⟩
  replace hbw := Below.on hbw hb1
  clear hb1
  go_wp2_with fail
  have Xg0 : Hid (B3q (v1.alloc (.cells #[.int .i64 64, .int .i64 53, .int .i64 (-1074)] 103)) v1.heap.size (.int .i64 64) (.int .i64 53) (.int .i64 (-1074))) := B3q.new v1 _ _ _ _
  have hbn : Below v1.heap.size v1 (v1.alloc (.cells #[.int .i64 64, .int .i64 53, .int .i64 (-1074)] 103)) := below1 v1 _
  generalize v1.alloc (.cells #[.int .i64 64, .int .i64 53, .int .i64 (-1074)] 103) = Wg at *
  have HGg : Hid (w.heap.size ≤ v1.heap.size) := hbw.size
  replace hbw := Below.on hbw hbn
  clear hbn
  generalize v1.heap.size = gg at *
  have Xg := Xg0
  clear Xg0
  refine (of_32 _).mono ?_
  rintro e v2 ⟨rfl, hb2⟩
  replace Xg : Hid _ := Xg.out.below hb2
  replace hbw := Below.on hbw hb2
  clear hb2
  obtain ⟨cg0, cg1, cg2, fg0, fg1, fg2⟩ := Xg.out
  have hneg : gg < v2.heap.size := World.block_lt_of_cell? v2 _ cg0
  go_wp2_with fail
  clear cg0 cg1 cg2 fg0 fg1 fg2 hneg
  have Xh0 : Hid (B3q (v2.alloc (.cells #[.int .i64 32, .int .i64 24, .int .i64 (-149)] 103)) v2.heap.size (.int .i64 32) (.int .i64 24) (.int .i64 (-149))) := B3q.new v2 _ _ _ _
  have hbn : Below v2.heap.size v2 (v2.alloc (.cells #[.int .i64 32, .int .i64 24, .int .i64 (-149)] 103)) := below1 v2 _
  generalize v2.alloc (.cells #[.int .i64 32, .int .i64 24, .int .i64 (-149)] 103) = Wh at *
  have HGh : Hid (w.heap.size ≤ v2.heap.size) := hbw.size
  replace Xg : Hid _ := Xg.out.below hbn
  replace hbw := Below.on hbw hbn
  clear hbn
  generalize v2.heap.size = gh at *
  have Xh := Xh0
  clear Xh0
  refine (sign_64 _).mono ?_
  rintro e v3 ⟨rfl, hb3⟩
  replace Xg : Hid _ := Xg.out.below hb3
  replace Xh : Hid _ := Xh.out.below hb3
  replace hbw := Below.on hbw hb3
  clear hb3
  have ha : bits BinOp.and IntKind.u64 9218868437227405312 9223372036854775808 = 0 := by kernel_rfl
  go_wp2_with fail
  have hc := jn_64.cl 9218868437227405312 v3 (by decide)
  rw [show clsN 4503599627370496 9218868437227405312 (9218868437227405312 % 9223372036854775808) = 3 from by decide] at hc
  refine Calls.mono hc ?_
  clear hc
  rintro e9 v4 ⟨rfl, hb4⟩
  replace Xg : Hid _ := Xg.out.below hb4
  replace Xh : Hid _ := Xh.out.below hb4
  replace hbw := Below.on hbw hb4
  clear hb4
  obtain ⟨ch0, ch1, ch2, fh0, fh1, fh2⟩ := Xh.out
  have hneh : gh < v4.heap.size := World.block_lt_of_cell? v4 _ ch0
  go_wp2_with fail
  clear ch0 ch1 ch2 fh0 fh1 fh2 hneh
  obtain ⟨Wr, hWr⟩ : ∃ W1, W1 = v4.drew := ⟨_, rfl⟩
  have hbd : Below v4.heap.size v4 Wr := by rw [hWr]; exact bDrew1 (Below.refl _ _)
  replace Xg : Hid _ := Xg.out.below hbd
  replace Xh : Hid _ := Xh.out.below hbd
  replace hbw := Below.on hbw hbd
  clear hbd
  have HJ : Hid ((fun W' : World => W'.cell? ⟨gh, 0, none⟩ = some (.int .i64 32) ∧ W'.cell? ⟨gh, 1, none⟩ = some (.int .i64 24) ∧ W'.cell? ⟨gh, 2, none⟩ = some (.int .i64 (-149))) Wr) := ⟨Xh.out.c0, Xh.out.c1, Xh.out.c2⟩
  refine wp_region_J (fun W' => W'.cell? ⟨gh, 0, none⟩ = some (.int .i64 32) ∧ W'.cell? ⟨gh, 1, none⟩ = some (.int .i64 24) ∧ W'.cell? ⟨gh, 2, none⟩ = some (.int .i64 (-149))) (by kernel_rfl) ?_
  rw [← hWr]
  clear hWr
  refine wpJ_take (i := 0) (v := ?v1x0) rfl (by kernel_rfl) (by kernel_rfl) (by kernel_rfl) (fun _ _ _ h => h) (by kernel_rfl) ?hy1x0 HJ.out ?rest1x0
  case hy1x0 => (intro W' hJ; obtain ⟨j0, j1, j2⟩ := hJ; go_simp; first | done | with_reducible rfl)
  refine wpJ_take (i := 1) (v := ?v2x1) rfl (by kernel_rfl) (by kernel_rfl) (by kernel_rfl) (fun _ _ _ h => h) (by kernel_rfl) ?hy2x1 HJ.out ?rest2x1
  case hy2x1 => (intro W' hJ; obtain ⟨j0, j1, j2⟩ := hJ; go_simp; first | done | with_reducible rfl)
  refine wpJ_take (i := 2) (v := ?v3x2) rfl (by kernel_rfl) (by kernel_rfl) (by kernel_rfl) (fun _ _ _ h => h) (by kernel_rfl) ?hy3x2 HJ.out ?rest3x2
  case hy3x2 => (intro W' hJ; obtain ⟨j0, j1, j2⟩ := hJ; go_simp; first | done | with_reducible rfl)
  refine wpJ_one (i := 3) (by kernel_rfl) rfl (by kernel_rfl) (fun KJ hK => ?_)
  go_simp
  refine (fm_32.inf _).mono ?_
  rintro e v5 ⟨rfl, hb5⟩
  replace Xg : Hid _ := Xg.out.below hb5
  replace Xh : Hid _ := Xh.out.below hb5
  replace hbw := Below.on hbw hb5
  clear hb5
  refine hK _ _ ⟨Xh.out.c0, Xh.out.c1, Xh.out.c2⟩ ?_
  clear hK
  refine wpJ_one (i := 4) (by kernel_rfl) rfl (by kernel_rfl) (fun KJ hK => ?_)
  go_simp
  have hs := fm_32.sgn false 2139095040 v5 (by decide)
  rw [show (if false = true then 2147483648 + 2139095040 else 2139095040) = 2139095040 from rfl] at hs
  refine Calls.mono hs ?_
  clear hs
  rintro e9 v6 ⟨rfl, hb6⟩
  replace Xg : Hid _ := Xg.out.below hb6
  replace Xh : Hid _ := Xh.out.below hb6
  replace hbw := Below.on hbw hb6
  clear hb6
  clear HJ
  have HJ : Hid ((fun W' : World => W'.cell? ⟨gh, 0, none⟩ = some (.int .i64 32) ∧ W'.cell? ⟨gh, 1, none⟩ = some (.int .i64 24) ∧ W'.cell? ⟨gh, 2, none⟩ = some (.int .i64 (-149))) v6) := ⟨Xh.out.c0, Xh.out.c1, Xh.out.c2⟩
  refine hK _ _ HJ.out ?_
  clear hK
  refine wpJ_take (i := 5) (v := ?v4x5) rfl (by kernel_rfl) (by kernel_rfl) (by kernel_rfl) (fun _ _ _ h => h) (by kernel_rfl) ?hy4x5 HJ.out ?rest4x5
  case hy4x5 => (intro W' hJ; obtain ⟨j0, j1, j2⟩ := hJ; go_simp; first | done | with_reducible rfl)
  refine wpJ_take (i := 6) (v := ?v5x6) rfl (by kernel_rfl) (by kernel_rfl) (by kernel_rfl) (fun _ _ _ h => h) (by kernel_rfl) ?hy5x6 HJ.out ?rest5x6
  case hy5x6 => (intro W' hJ; obtain ⟨j0, j1, j2⟩ := hJ; go_simp; first | done | with_reducible rfl)
  refine wpJ_done (by kernel_rfl) ?_ _
  clear HJ
  go_wp2_with fail
  go_ret2
  exact ⟨rfl, hbw⟩
set_option maxRecDepth 20000 in
set_option maxHeartbeats 8000000 in
theorem narrow_2t (w : World) (hT : Tab w) :
    Calls Tryz.prog 58 #[.int .u64 18442240474082181120] w fun en w' => en = .returned (.tuple #[.int .u64 4286578688, .int .i64 0]) ∧ Below w.heap.size w w' := by
  have hbw : Below w.heap.size w w := Below.refl _ _
  have TB : Hid (Tab w) := hT
  clear hT
  go_enter Tryz.func58, Tryz.ntmps58
  go_wp2_with fail
  refine (of_64 _).mono ?_
  rintro e v1 ⟨rfl, hb1⟩
  replace hbw := Below.on hbw hb1
  clear hb1
  go_wp2_with fail
  have Xg0 : Hid (B3q (v1.alloc (.cells #[.int .i64 64, .int .i64 53, .int .i64 (-1074)] 103)) v1.heap.size (.int .i64 64) (.int .i64 53) (.int .i64 (-1074))) := B3q.new v1 _ _ _ _
  have hbn : Below v1.heap.size v1 (v1.alloc (.cells #[.int .i64 64, .int .i64 53, .int .i64 (-1074)] 103)) := below1 v1 _
  generalize v1.alloc (.cells #[.int .i64 64, .int .i64 53, .int .i64 (-1074)] 103) = Wg at *
  have HGg : Hid (w.heap.size ≤ v1.heap.size) := hbw.size
  replace hbw := Below.on hbw hbn
  clear hbn
  generalize v1.heap.size = gg at *
  have Xg := Xg0
  clear Xg0
  refine (of_32 _).mono ?_
  rintro e v2 ⟨rfl, hb2⟩
  replace Xg : Hid _ := Xg.out.below hb2
  replace hbw := Below.on hbw hb2
  clear hb2
  obtain ⟨cg0, cg1, cg2, fg0, fg1, fg2⟩ := Xg.out
  have hneg : gg < v2.heap.size := World.block_lt_of_cell? v2 _ cg0
  go_wp2_with fail
  clear cg0 cg1 cg2 fg0 fg1 fg2 hneg
  have Xh0 : Hid (B3q (v2.alloc (.cells #[.int .i64 32, .int .i64 24, .int .i64 (-149)] 103)) v2.heap.size (.int .i64 32) (.int .i64 24) (.int .i64 (-149))) := B3q.new v2 _ _ _ _
  have hbn : Below v2.heap.size v2 (v2.alloc (.cells #[.int .i64 32, .int .i64 24, .int .i64 (-149)] 103)) := below1 v2 _
  generalize v2.alloc (.cells #[.int .i64 32, .int .i64 24, .int .i64 (-149)] 103) = Wh at *
  have HGh : Hid (w.heap.size ≤ v2.heap.size) := hbw.size
  replace Xg : Hid _ := Xg.out.below hbn
  replace hbw := Below.on hbw hbn
  clear hbn
  generalize v2.heap.size = gh at *
  have Xh := Xh0
  clear Xh0
  refine (sign_64 _).mono ?_
  rintro e v3 ⟨rfl, hb3⟩
  replace Xg : Hid _ := Xg.out.below hb3
  replace Xh : Hid _ := Xh.out.below hb3
  replace hbw := Below.on hbw hb3
  clear hb3
  have ha : bits BinOp.and IntKind.u64 18442240474082181120 9223372036854775808 = 9223372036854775808 := by kernel_rfl
  go_wp2_with fail
  have hc := jn_64.cl 18442240474082181120 v3 (by decide)
  rw [show clsN 4503599627370496 9218868437227405312 (18442240474082181120 % 9223372036854775808) = 3 from by decide] at hc
  refine Calls.mono hc ?_
  clear hc
  rintro e9 v4 ⟨rfl, hb4⟩
  replace Xg : Hid _ := Xg.out.below hb4
  replace Xh : Hid _ := Xh.out.below hb4
  replace hbw := Below.on hbw hb4
  clear hb4
  obtain ⟨ch0, ch1, ch2, fh0, fh1, fh2⟩ := Xh.out
  have hneh : gh < v4.heap.size := World.block_lt_of_cell? v4 _ ch0
  go_wp2_with fail
  clear ch0 ch1 ch2 fh0 fh1 fh2 hneh
  obtain ⟨Wr, hWr⟩ : ∃ W1, W1 = v4.drew := ⟨_, rfl⟩
  have hbd : Below v4.heap.size v4 Wr := by rw [hWr]; exact bDrew1 (Below.refl _ _)
  replace Xg : Hid _ := Xg.out.below hbd
  replace Xh : Hid _ := Xh.out.below hbd
  replace hbw := Below.on hbw hbd
  clear hbd
  have HJ : Hid ((fun W' : World => W'.cell? ⟨gh, 0, none⟩ = some (.int .i64 32) ∧ W'.cell? ⟨gh, 1, none⟩ = some (.int .i64 24) ∧ W'.cell? ⟨gh, 2, none⟩ = some (.int .i64 (-149))) Wr) := ⟨Xh.out.c0, Xh.out.c1, Xh.out.c2⟩
  refine wp_region_J (fun W' => W'.cell? ⟨gh, 0, none⟩ = some (.int .i64 32) ∧ W'.cell? ⟨gh, 1, none⟩ = some (.int .i64 24) ∧ W'.cell? ⟨gh, 2, none⟩ = some (.int .i64 (-149))) (by kernel_rfl) ?_
  rw [← hWr]
  clear hWr
  refine wpJ_take (i := 0) (v := ?v6x0) rfl (by kernel_rfl) (by kernel_rfl) (by kernel_rfl) (fun _ _ _ h => h) (by kernel_rfl) ?hy6x0 HJ.out ?rest6x0
  case hy6x0 => (intro W' hJ; obtain ⟨j0, j1, j2⟩ := hJ; go_simp; first | done | with_reducible rfl)
  refine wpJ_take (i := 1) (v := ?v7x1) rfl (by kernel_rfl) (by kernel_rfl) (by kernel_rfl) (fun _ _ _ h => h) (by kernel_rfl) ?hy7x1 HJ.out ?rest7x1
  case hy7x1 => (intro W' hJ; obtain ⟨j0, j1, j2⟩ := hJ; go_simp; first | done | with_reducible rfl)
  refine wpJ_take (i := 2) (v := ?v8x2) rfl (by kernel_rfl) (by kernel_rfl) (by kernel_rfl) (fun _ _ _ h => h) (by kernel_rfl) ?hy8x2 HJ.out ?rest8x2
  case hy8x2 => (intro W' hJ; obtain ⟨j0, j1, j2⟩ := hJ; go_simp; first | done | with_reducible rfl)
  refine wpJ_one (i := 3) (by kernel_rfl) rfl (by kernel_rfl) (fun KJ hK => ?_)
  go_simp
  refine (fm_32.inf _).mono ?_
  rintro e v5 ⟨rfl, hb5⟩
  replace Xg : Hid _ := Xg.out.below hb5
  replace Xh : Hid _ := Xh.out.below hb5
  replace hbw := Below.on hbw hb5
  clear hb5
  refine hK _ _ ⟨Xh.out.c0, Xh.out.c1, Xh.out.c2⟩ ?_
  clear hK
  refine wpJ_one (i := 4) (by kernel_rfl) rfl (by kernel_rfl) (fun KJ hK => ?_)
  go_simp
  have hs := fm_32.sgn true 2139095040 v5 (by decide)
  rw [show (if true = true then 2147483648 + 2139095040 else 2139095040) = 4286578688 from rfl] at hs
  refine Calls.mono hs ?_
  clear hs
  rintro e9 v6 ⟨rfl, hb6⟩
  replace Xg : Hid _ := Xg.out.below hb6
  replace Xh : Hid _ := Xh.out.below hb6
  replace hbw := Below.on hbw hb6
  clear hb6
  clear HJ
  have HJ : Hid ((fun W' : World => W'.cell? ⟨gh, 0, none⟩ = some (.int .i64 32) ∧ W'.cell? ⟨gh, 1, none⟩ = some (.int .i64 24) ∧ W'.cell? ⟨gh, 2, none⟩ = some (.int .i64 (-149))) v6) := ⟨Xh.out.c0, Xh.out.c1, Xh.out.c2⟩
  refine hK _ _ HJ.out ?_
  clear hK
  refine wpJ_take (i := 5) (v := ?v9x5) rfl (by kernel_rfl) (by kernel_rfl) (by kernel_rfl) (fun _ _ _ h => h) (by kernel_rfl) ?hy9x5 HJ.out ?rest9x5
  case hy9x5 => (intro W' hJ; obtain ⟨j0, j1, j2⟩ := hJ; go_simp; first | done | with_reducible rfl)
  refine wpJ_take (i := 6) (v := ?v10x6) rfl (by kernel_rfl) (by kernel_rfl) (by kernel_rfl) (fun _ _ _ h => h) (by kernel_rfl) ?hy10x6 HJ.out ?rest10x6
  case hy10x6 => (intro W' hJ; obtain ⟨j0, j1, j2⟩ := hJ; go_simp; first | done | with_reducible rfl)
  refine wpJ_done (by kernel_rfl) ?_ _
  clear HJ
  go_wp2_with fail
  go_ret2
  exact ⟨rfl, hbw⟩
theorem narrow_ok {sz : Int} (hs : sz = 0 ∨ sz = 1 ∨ sz = 2) (ng : Bool) (w : World) (hT : Tab w) : Calls Tryz.prog 58 #[U (exP 9223372036854775808 9218868437227405312 4607182418800017408 sz ng)] w fun en w' => en = .returned (.tuple #[U (exP 2147483648 2139095040 1065353216 sz ng), .int .i64 0]) ∧ Below w.heap.size w w' := by
  rcases hs with rfl | rfl | rfl <;> cases ng
  · exact narrow_0f w hT
  · exact narrow_0t w hT
  · exact narrow_1f w hT
  · exact narrow_1t w hT
  · exact narrow_2f w hT
  · exact narrow_2t w hT
theorem exP_xs {S I O : Nat} {sz : Int} (ng : Bool) (hI : I < S) (hO : O < S) : exP S I O sz (!ng) = xsS S (exP S I O sz ng) := by
  unfold exP xsS
  have h : (if sz = 0 then 0 else if sz = 1 then O else I) < S := by split; omega; split <;> assumption
  generalize (if sz = 0 then 0 else if sz = 1 then O else I) = A at *
  cases ng
  · simp; rw [if_neg (by omega)]; omega
  · simp
theorem xs_xs {S a : Nat} (h : a < 2 * S) : xsS S (xsS S a) = a := by
  unfold xsS
  split <;> split <;> omega
theorem exP_lt {S I O : Nat} {sz : Int} (ng : Bool) (hI : I < S) (hO : O < S) : exP S I O sz ng < 2 * S := by
  unfold exP
  have h : (if sz = 0 then 0 else if sz = 1 then O else I) < S := by split; omega; split <;> assumption
  generalize (if sz = 0 then 0 else if sz = 1 then O else I) = A at *
  cases ng <;> simp <;> omega
theorem exQ_neg {z e : Int} (hf : DFm z e) : (0 ≤ e → exQ (-z) e = exQ z e ∧ exQ z e % 2 = 0) ∧ (e = -1 → exQ (-z) e = 4 - exQ z e ∧ exQ z e % 2 = 1 ∧ 0 ≤ exQ z e ∧ exQ z e < 4) ∧ (e = -2 → (exQ (-z) e % 2 = 0 ↔ ¬ exQ z e % 2 = 0)) := by
  refine ⟨fun h => ?_, fun h => ?_, fun h => ?_⟩
  · unfold exQ
    rw [if_pos h, if_pos h, Int.neg_mul]
    generalize z * ((2 ^ e.toNat : Nat) : Int) = N
    omega
  · have := (hf.odd (by omega)).1
    unfold exQ
    rw [if_neg (by omega), if_pos h, if_neg (by omega), if_pos h]
    omega
  · have := (hf.odd (by omega)).1
    unfold exQ
    rw [if_neg (by omega), if_neg (by omega), if_neg (by omega), if_neg (by omega)]
    omega
theorem exW_eq {fn z e : Int} {S I O : Nat} {neg : Bool} (hok : exOk fn e = true) : ∃ sz ng, (sz = 0 ∨ sz = 1 ∨ sz = 2) ∧ sz = exSz fn (exQ z e) (decide (-1 ≤ e)) ∧ ng = exNg fn (exQ z e) (decide (-1 ≤ e)) neg ∧ exW fn S I O neg z e = exP S I O sz ng := by
  refine ⟨_, _, exSz_or _ _ _, rfl, rfl, ?_⟩
  unfold exW
  rw [if_pos hok]
theorem mir {fn z e : Int} {neg : Bool} (hfn : fn = 4 ∨ fn = 6) (hf : DFm z e) (hok : exOk fn e = true) : exSz fn (exQ (-z) e) (decide (-1 ≤ e)) = exSz fn (exQ z e) (decide (-1 ≤ e)) ∧ exNg fn (exQ (-z) e) (decide (-1 ≤ e)) (!neg) = !(exNg fn (exQ z e) (decide (-1 ≤ e)) neg) := by
  obtain ⟨q1, q2, q3⟩ := exQ_neg hf
  have hc : 0 ≤ e ∨ e = -1 ∨ e = -2 := by
    have := of_decide_eq_true hok
    omega
  rcases hc with he | he | he
  · obtain ⟨a, b⟩ := q1 he
    rw [a, show decide (-1 ≤ e) = true from decide_eq_true (by omega)]
    generalize exQ z e = q at *
    rcases hfn with rfl | rfl
    · unfold exSz exNg; simp [b]
    · unfold exSz exNg; simp [b]
  · obtain ⟨a, b, c, d⟩ := q2 he
    rw [a, show decide (-1 ≤ e) = true from decide_eq_true (by omega)]
    generalize exQ z e = q at *
    obtain rfl | rfl : q = 1 ∨ q = 3 := by omega
    · rcases hfn with rfl | rfl <;> exact ⟨by decide, by cases neg <;> decide⟩
    · rcases hfn with rfl | rfl <;> exact ⟨by decide, by cases neg <;> decide⟩
  · have hq := q3 he
    rw [show decide (-1 ≤ e) = false from decide_eq_false (by omega)]
    refine ⟨rfl, ?_⟩
    unfold exNg
    simp only [Bool.false_eq_true, if_false]
    by_cases h : exQ z e % 2 = 0
    · rw [decide_eq_true h, decide_eq_false (fun h9 => hq.1 h9 h)]; rfl
    · rw [decide_eq_false h, decide_eq_true (hq.2 h)]; rfl
theorem mir5 {z e : Int} {neg t : Bool} (hf : DFm z e) (hok : exOk 5 e = true) {S I O : Nat} : exW 5 S I O t (-z) e = exW 5 S I O neg z e := by
  obtain ⟨q1, q2, q3⟩ := exQ_neg hf
  have hc : 0 ≤ e ∨ e = -1 := by
    have := of_decide_eq_true hok
    omega
  unfold exW
  rw [if_pos hok, if_pos hok]
  rcases hc with he | he
  · obtain ⟨a, b⟩ := q1 he
    rw [a, show decide (-1 ≤ e) = true from decide_eq_true (by omega)]
    generalize exQ z e = q at *
    unfold exSz exNg; simp [b]
  · obtain ⟨a, b, c, d⟩ := q2 he
    rw [a, show decide (-1 ≤ e) = true from decide_eq_true (by omega)]
    generalize exQ z e = q at *
    obtain rfl | rfl : q = 1 ∨ q = 3 := by omega
    · rfl
    · rfl
theorem mirW {fn z e : Int} {neg : Bool} {S I O : Nat} (hfn : fn = 4 ∨ fn = 6) (hf : DFm z e) (hok : exOk fn e = true) (hI : I < S) (hO : O < S) : exW fn S I O neg z e = xsS S (exW fn S I O (!neg) (-z) e) ∧ exW fn S I O (!neg) (-z) e < 2 * S := by
  obtain ⟨m1, m2⟩ := mir (neg := neg) hfn hf hok
  unfold exW
  rw [if_pos hok, if_pos hok, m1, m2, exP_xs _ hI hO, xs_xs (exP_lt _ hI hO)]
  refine ⟨rfl, ?_⟩
  rw [← exP_xs _ hI hO]
  exact exP_lt _ hI hO
theorem xs_dec {S b : Nat} (h : b < 2 * S) : decide (S ≤ xsS S b) = !decide (S ≤ b) := by
  unfold xsS
  by_cases h1 : S ≤ b
  · rw [if_pos h1, decide_eq_true h1]; exact decide_eq_false (by omega)
  · rw [if_neg h1, decide_eq_false h1]; exact decide_eq_true (by omega)
set_option maxRecDepth 20000 in
set_option maxHeartbeats 8000000 in
theorem widened_4 (b : Nat) (hb : b < 2 * 2147483648) (hr : b % 2147483648 < 2139095040) {z e : Int} (hv : VF 2147483648 8388608 (-149) b z e) (hok : exOk 4 e = true) (w : World) (hT : Tab w) :
    Calls Tryz.prog 25 #[.int .i64 32, .int .i64 4, U b, U (exW 4 2147483648 2139095040 1065353216 (decide (2147483648 ≤ b)) z e)] w fun en w' => en = .returned (.bool true) ∧ Below w.heap.size w w' := by
  have hbw : Below w.heap.size w w := Below.refl _ _
  have TB : Hid (Tab w) := hT
  obtain ⟨x, hW, hC⟩ := widen_any (a := b) (by omega)
  obtain ⟨sz, ng, k1, k2, k3, k4⟩ := exW_eq (fn := 4) (z := z) (e := e) (S := 2147483648) (I := 2139095040) (O := 1065353216) (neg := decide (2147483648 ≤ b)) hok
  have hx := hW.fin hr
  have hsg : decide (9223372036854775808 ≤ x) = decide (2147483648 ≤ b) := decide_eq_decide.2 hx.2
  have hxr : x % 9223372036854775808 < 9218868437227405312 := by rw [hx.1]; exact (wV_cls hr).1
  have h64 : exW 4 9223372036854775808 9218868437227405312 4607182418800017408 (decide (9223372036854775808 ≤ x)) z e = exP 9223372036854775808 9218868437227405312 4607182418800017408 sz ng := by rw [hsg, k2, k3]; unfold exW; rw [if_pos hok]
  have HX : Hid (∀ w, Tab w → Calls Tryz.prog 23 #[.int .i64 64, .int .i64 4, U x] w fun en w' => en = .returned (.tuple #[U (exP 9223372036854775808 9218868437227405312 4607182418800017408 sz ng), .bool true, .int .i64 0]) ∧ Below w.heap.size w w') := by
    intro w hT
    have h := exact_f4 jt_64 hW.lt hxr (hW.val hr hv) w hT
    rw [h64, hok] at h
    exact h
  have HC : Hid (∀ w, Tab w → Calls Tryz.prog 57 #[U b] w fun e w' => e = .returned (.tuple #[U x, .int .i64 0]) ∧ Below w.heap.size w w') := hC
  obtain ⟨R, hR⟩ : ∃ R, R = exP 9223372036854775808 9218868437227405312 4607182418800017408 sz ng := ⟨_, rfl⟩
  obtain ⟨R3, hR3⟩ : ∃ R3, R3 = exP 2147483648 2139095040 1065353216 sz ng := ⟨_, rfl⟩
  have HN : Hid (∀ w, Tab w → Calls Tryz.prog 58 #[U R] w fun en w' => en = .returned (.tuple #[U R3, .int .i64 0]) ∧ Below w.heap.size w w') := by rw [hR, hR3]; exact fun w hT => narrow_ok k1 ng w hT
  rw [k4, ← hR3]
  rw [← hR] at HX
  clear hT hb hr hv hok hW hC k1 k2 k3 k4 hx hsg hxr h64 hR hR3
  go_enter Tryz.func25, Tryz.ntmps25
  go_wp2_with fail
  refine (HC.out _ (TB.out.below hbw)).mono ?_
  rintro e v1 ⟨rfl, hb1⟩
  replace hbw := Below.on hbw hb1
  clear hb1
  go_wp2_with fail
  refine (HX.out _ (TB.out.below hbw)).mono ?_
  rintro e v2 ⟨rfl, hb2⟩
  replace hbw := Below.on hbw hb2
  clear hb2
  go_wp2_with fail
  refine (HN.out _ (TB.out.below hbw)).mono ?_
  rintro e v3 ⟨rfl, hb3⟩
  replace hbw := Below.on hbw hb3
  clear hb3
  go_wp2_with fail
  go_ret
  exact ⟨rfl, hbw⟩
set_option maxRecDepth 20000 in
set_option maxHeartbeats 8000000 in
theorem widened_6 (b : Nat) (hb : b < 2 * 2147483648) (hr : b % 2147483648 < 2139095040) {z e : Int} (hv : VF 2147483648 8388608 (-149) b z e) (hok : exOk 6 e = true) (w : World) (hT : Tab w) :
    Calls Tryz.prog 25 #[.int .i64 32, .int .i64 6, U b, U (exW 6 2147483648 2139095040 1065353216 (decide (2147483648 ≤ b)) z e)] w fun en w' => en = .returned (.bool true) ∧ Below w.heap.size w w' := by
  have hbw : Below w.heap.size w w := Below.refl _ _
  have TB : Hid (Tab w) := hT
  obtain ⟨x, hW, hC⟩ := widen_any (a := b) (by omega)
  obtain ⟨sz, ng, k1, k2, k3, k4⟩ := exW_eq (fn := 6) (z := z) (e := e) (S := 2147483648) (I := 2139095040) (O := 1065353216) (neg := decide (2147483648 ≤ b)) hok
  have hx := hW.fin hr
  have hsg : decide (9223372036854775808 ≤ x) = decide (2147483648 ≤ b) := decide_eq_decide.2 hx.2
  have hxr : x % 9223372036854775808 < 9218868437227405312 := by rw [hx.1]; exact (wV_cls hr).1
  have h64 : exW 6 9223372036854775808 9218868437227405312 4607182418800017408 (decide (9223372036854775808 ≤ x)) z e = exP 9223372036854775808 9218868437227405312 4607182418800017408 sz ng := by rw [hsg, k2, k3]; unfold exW; rw [if_pos hok]
  have HX : Hid (∀ w, Tab w → Calls Tryz.prog 23 #[.int .i64 64, .int .i64 6, U x] w fun en w' => en = .returned (.tuple #[U (exP 9223372036854775808 9218868437227405312 4607182418800017408 sz ng), .bool true, .int .i64 0]) ∧ Below w.heap.size w w') := by
    intro w hT
    have h := exact_f6 jt_64 hW.lt hxr (hW.val hr hv) w hT
    rw [h64, hok] at h
    exact h
  have HC : Hid (∀ w, Tab w → Calls Tryz.prog 57 #[U b] w fun e w' => e = .returned (.tuple #[U x, .int .i64 0]) ∧ Below w.heap.size w w') := hC
  obtain ⟨R, hR⟩ : ∃ R, R = exP 9223372036854775808 9218868437227405312 4607182418800017408 sz ng := ⟨_, rfl⟩
  obtain ⟨R3, hR3⟩ : ∃ R3, R3 = exP 2147483648 2139095040 1065353216 sz ng := ⟨_, rfl⟩
  have HN : Hid (∀ w, Tab w → Calls Tryz.prog 58 #[U R] w fun en w' => en = .returned (.tuple #[U R3, .int .i64 0]) ∧ Below w.heap.size w w') := by rw [hR, hR3]; exact fun w hT => narrow_ok k1 ng w hT
  rw [k4, ← hR3]
  rw [← hR] at HX
  clear hT hb hr hv hok hW hC k1 k2 k3 k4 hx hsg hxr h64 hR hR3
  go_enter Tryz.func25, Tryz.ntmps25
  go_wp2_with fail
  refine (HC.out _ (TB.out.below hbw)).mono ?_
  rintro e v1 ⟨rfl, hb1⟩
  replace hbw := Below.on hbw hb1
  clear hb1
  go_wp2_with fail
  refine (HX.out _ (TB.out.below hbw)).mono ?_
  rintro e v2 ⟨rfl, hb2⟩
  replace hbw := Below.on hbw hb2
  clear hb2
  go_wp2_with fail
  refine (HN.out _ (TB.out.below hbw)).mono ?_
  rintro e v3 ⟨rfl, hb3⟩
  replace hbw := Below.on hbw hb3
  clear hb3
  go_wp2_with fail
  go_ret
  exact ⟨rfl, hbw⟩
set_option maxRecDepth 20000 in
set_option maxHeartbeats 8000000 in
theorem widened_d (fn : Int) (b c : Nat) (w : World) :
    Calls Tryz.prog 25 #[.int .i64 64, .int .i64 fn, U b, U c] w fun en w' => en = .returned (.bool true) ∧ Below w.heap.size w w' := by
  have hbw : Below w.heap.size w w := Below.refl _ _
  go_enter Tryz.func25, Tryz.ntmps25
  go_wp2_with fail
  go_ret
  exact ⟨rfl, hbw⟩
end Go.Proofs.YtoalblaklcekeaaGreatDoor

