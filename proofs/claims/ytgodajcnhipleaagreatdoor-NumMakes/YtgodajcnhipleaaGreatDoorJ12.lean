import Derived.Test.YtgodajcnhipleaaGreatDoorJ11
import Derived.Test.YtgodajcnhipleaaGreatDoorJ9
namespace Go.Proofs.YtgodajcnhipleaaGreatDoor
open Go.RowKit Go.Shelf

set_option maxRecDepth 20000 in
set_option maxHeartbeats 8000000 in
theorem plays4_1 {px py : Option Addr} {nx cx ny cy : Nat} {xx yy : List Nat} {w : World} (sx sy : Bool) (nn : Int) (h : At w px nx cx xx) (k : At w py ny cy yy) (hx : nx ≤ 17592186044416) (hy : ny ≤ 17592186044416) (hn0 : -9223372036854775808 ≤ nn) (hn1 : nn ≤ 9223372036854775807) :
    Calls Tryz.prog 16 #[.agg #[.int .i64 1, .bool sx, .slice px nx cx, .bool sy, .slice py ny cy, .int .i64 nn]] w fun e w' => e = .returned (.bool true) ∧ Below w.heap.size w w' := by
  have H : Hid (At w px nx cx xx) := h
  have K : Hid (At w py ny cy yy) := k
  have HB : Hid (nx ≤ 17592186044416 ∧ ny ≤ 17592186044416 ∧ -9223372036854775808 ≤ nn ∧ nn ≤ 9223372036854775807) := ⟨hx, hy, hn0, hn1⟩
  clear h k hx hy hn0 hn1
  go_enter Tryz.func16, Tryz.ntmps16
  go_wp2_with fail
  obtain ⟨W0, hW0⟩ : ∃ W0, W0 = (w.alloc (.cells #[.int .i64 1, .bool sx, .slice px nx cx, .bool sy, .slice py ny cy, .int .i64 nn] 38)) := ⟨_, rfl⟩
  have Xo : Hid (B6q W0 (w.heap.size) (.int .i64 1) (.bool sx) (.slice px nx cx) (.bool sy) (.slice py ny cy) (.int .i64 nn)) := by rw [hW0]; exact ⟨by go_simp, by go_simp, by go_simp, by go_simp, by go_simp, by go_simp, by go_simp, by go_simp, by go_simp, by go_simp, by go_simp, by go_simp⟩
  have hb0 : Below w.heap.size w W0 := by rw [hW0]; exact below1 w _
  rw [← hW0]
  clear hW0
  have hbw : Below w.heap.size w w := Below.refl _ _
  obtain ⟨go, hgo⟩ : ∃ g, g = w.heap.size := ⟨_, rfl⟩
  have HGo : Hid (w.heap.size ≤ go) := by rw [hgo]; show _ ≤ _; omega
  rw [← hgo] at Xo
  try rw [← hgo]
  clear hgo
  replace H : Hid _ := H.out.below hb0
  replace K : Hid _ := K.out.below hb0
  replace hbw := Below.on hbw hb0
  clear hb0
  refine (doc4_1 sx sy nn H.out K.out HB.out.1 HB.out.2.1 HB.out.2.2.1 HB.out.2.2.2).mono ?_
  rintro e v1 ⟨s1, p1, m1, c1, u1, er1, rfl, hA1, hD1, hb1⟩
  replace Xo : Hid _ := Xo.out.below hb1
  replace H : Hid _ := H.out.below hb1
  replace K : Hid _ := K.out.below hb1
  replace hbw := Below.on hbw hb1
  clear hb1
  have A1 : Hid (At v1 p1 m1 c1 u1) := hA1.1
  have D1 : Hid (DocZ nn s1 u1 er1) := hD1
  clear hA1 hD1
  obtain ⟨co0, co1, co2, co3, co4, co5, fo0, fo1, fo2, fo3, fo4, fo5⟩ := Xo.out
  have hneo : go < v1.heap.size := World.block_lt_of_cell? v1 _ co0
  go_wp2_with fail
  clear co0 co1 co2 co3 co4 co5 fo0 fo1 fo2 fo3 fo4 fo5 hneo
  have Xy0 : Hid (Box (v1.alloc (.cells #[.bool s1, .slice p1 m1 c1] 28)) v1.heap.size (.bool s1) (.slice p1 m1 c1)) := Box.new v1 _ _ _
  have hbn : Below v1.heap.size v1 (v1.alloc (.cells #[.bool s1, .slice p1 m1 c1] 28)) := below1 v1 _
  generalize v1.alloc (.cells #[.bool s1, .slice p1 m1 c1] 28) = Wy at *
  have HGy : Hid (w.heap.size ≤ v1.heap.size) := hbw.size
  replace Xo : Hid _ := Xo.out.below hbn
  replace H : Hid _ := H.out.below hbn
  replace K : Hid _ := K.out.below hbn
  replace A1 : Hid _ := A1.out.below hbn
  replace hbw := Below.on hbw hbn
  clear hbn
  generalize v1.heap.size = gy at *
  have Xy := Xy0
  clear Xy0
  obtain ⟨W1, hW1⟩ : ∃ W1, W1 = Wy.drew := ⟨_, rfl⟩
  have hbd : Below Wy.heap.size Wy W1 := by rw [hW1]; exact bDrew1 (Below.refl _ _)
  replace Xo : Hid _ := Xo.out.below hbd
  replace Xy : Hid _ := Xy.out.below hbd
  replace H : Hid _ := H.out.below hbd
  replace K : Hid _ := K.out.below hbd
  replace A1 : Hid _ := A1.out.below hbd
  replace hbw := Below.on hbw hbd
  clear hbd
  have HJ : Hid ((fun W' : World => W'.cell? ⟨go, 0, none⟩ = some (.int .i64 1) ∧ W'.cell? ⟨go, 1, none⟩ = some (.bool sx) ∧ W'.cell? ⟨go, 2, none⟩ = some (.slice px nx cx) ∧ W'.cell? ⟨go, 3, none⟩ = some (.bool sy) ∧ W'.cell? ⟨go, 4, none⟩ = some (.slice py ny cy) ∧ W'.cell? ⟨go, 5, none⟩ = some (.int .i64 nn)) W1) := ⟨Xo.out.c0, Xo.out.c1, Xo.out.c2, Xo.out.c3, Xo.out.c4, Xo.out.c5⟩
  refine wp_region_J (fun W' => W'.cell? ⟨go, 0, none⟩ = some (.int .i64 1) ∧ W'.cell? ⟨go, 1, none⟩ = some (.bool sx) ∧ W'.cell? ⟨go, 2, none⟩ = some (.slice px nx cx) ∧ W'.cell? ⟨go, 3, none⟩ = some (.bool sy) ∧ W'.cell? ⟨go, 4, none⟩ = some (.slice py ny cy) ∧ W'.cell? ⟨go, 5, none⟩ = some (.int .i64 nn)) (by kernel_rfl) ?_
  rw [← hW1]
  clear hW1
  refine wpJ_take (i := 0) (v := ?v1x0) rfl (by kernel_rfl) (by kernel_rfl) (by kernel_rfl) (fun _ _ _ h => h) (by kernel_rfl) ?hy1x0 HJ.out ?rest1x0
  case hy1x0 => (intro W' hJ; obtain ⟨j0, j1, j2, j3, j4, j5⟩ := hJ; go_simp; first | done | with_reducible rfl)
  refine wpJ_take (i := 1) (v := ?v2x1) rfl (by kernel_rfl) (by kernel_rfl) (by kernel_rfl) (fun _ _ _ h => h) (by kernel_rfl) ?hy2x1 HJ.out ?rest2x1
  case hy2x1 => (intro W' hJ; obtain ⟨j0, j1, j2, j3, j4, j5⟩ := hJ; go_simp; first | done | with_reducible rfl)
  refine wpJ_take (i := 2) (v := ?v3x2) rfl (by kernel_rfl) (by kernel_rfl) (by kernel_rfl) (fun _ _ _ h => h) (by kernel_rfl) ?hy3x2 HJ.out ?rest3x2
  case hy3x2 => (intro W' hJ; obtain ⟨j0, j1, j2, j3, j4, j5⟩ := hJ; go_simp; first | done | with_reducible rfl)
  refine wpJ_take (i := 3) (v := ?v4x3) rfl (by kernel_rfl) (by kernel_rfl) (by kernel_rfl) (fun _ _ _ h => h) (by kernel_rfl) ?hy4x3 HJ.out ?rest4x3
  case hy4x3 => (intro W' hJ; obtain ⟨j0, j1, j2, j3, j4, j5⟩ := hJ; go_simp; first | done | with_reducible rfl)
  refine wpJ_take (i := 5) (v := ?v5x5) rfl (by kernel_rfl) (by kernel_rfl) (by kernel_rfl) (fun _ _ _ h => h) (by kernel_rfl) ?hy5x5 HJ.out ?rest5x5
  case hy5x5 => (intro W' hJ; obtain ⟨j0, j1, j2, j3, j4, j5⟩ := hJ; go_simp; first | done | with_reducible rfl)
  refine wpJ_take (i := 6) (v := ?v6x6) rfl (by kernel_rfl) (by kernel_rfl) (by kernel_rfl) (fun _ _ _ h => h) (by kernel_rfl) ?hy6x6 HJ.out ?rest6x6
  case hy6x6 => (intro W' hJ; obtain ⟨j0, j1, j2, j3, j4, j5⟩ := hJ; go_simp; first | done | with_reducible rfl)
  refine wpJ_take (i := 8) (v := ?v7x8) rfl (by kernel_rfl) (by kernel_rfl) (by kernel_rfl) (fun _ _ _ h => h) (by kernel_rfl) ?hy7x8 HJ.out ?rest7x8
  case hy7x8 => (intro W' hJ; obtain ⟨j0, j1, j2, j3, j4, j5⟩ := hJ; go_simp; first | done | with_reducible rfl)
  refine wpJ_take (i := 9) (v := ?v8x9) rfl (by kernel_rfl) (by kernel_rfl) (by kernel_rfl) (fun _ _ _ h => h) (by kernel_rfl) ?hy8x9 HJ.out ?rest8x9
  case hy8x9 => (intro W' hJ; obtain ⟨j0, j1, j2, j3, j4, j5⟩ := hJ; go_simp; first | done | with_reducible rfl)
  refine wpJ_two (i := 4) (k := 15) (by kernel_rfl) rfl rfl (by kernel_rfl) (by kernel_rfl) (fun KJ hK => ?_) (fun KJ hK => ?_)
  · go_simp
    refine (twin4 sx H.out HB.out.1).mono ?_
    rintro e v2 ⟨p2, rfl, hA2, hb2⟩
    replace Xo : Hid _ := Xo.out.below hb2
    replace Xy : Hid _ := Xy.out.below hb2
    replace H : Hid _ := H.out.below hb2
    replace K : Hid _ := K.out.below hb2
    replace A1 : Hid _ := A1.out.below hb2
    replace hbw := Below.on hbw hb2
    clear hb2
    have T2 : Hid (At v2 p2 nx nx xx) := hA2
    clear hA2
    clear HJ
    have HJ : Hid ((fun W' : World => W'.cell? ⟨go, 0, none⟩ = some (.int .i64 1) ∧ W'.cell? ⟨go, 1, none⟩ = some (.bool sx) ∧ W'.cell? ⟨go, 2, none⟩ = some (.slice px nx cx) ∧ W'.cell? ⟨go, 3, none⟩ = some (.bool sy) ∧ W'.cell? ⟨go, 4, none⟩ = some (.slice py ny cy) ∧ W'.cell? ⟨go, 5, none⟩ = some (.int .i64 nn)) v2) := ⟨Xo.out.c0, Xo.out.c1, Xo.out.c2, Xo.out.c3, Xo.out.c4, Xo.out.c5⟩
    refine hK _ _ HJ.out ?_
    clear hK
    refine wpJ_two (i := 7) (k := 15) (by kernel_rfl) rfl rfl (by kernel_rfl) (by kernel_rfl) (fun KJ hK => ?_) (fun KJ hK => ?_)
    · go_simp
      refine (twin4 sy K.out HB.out.2.1).mono ?_
      rintro e v3 ⟨p3, rfl, hA3, hb3⟩
      replace Xo : Hid _ := Xo.out.below hb3
      replace Xy : Hid _ := Xy.out.below hb3
      replace H : Hid _ := H.out.below hb3
      replace K : Hid _ := K.out.below hb3
      replace A1 : Hid _ := A1.out.below hb3
      replace T2 : Hid _ := T2.out.below hb3
      replace hbw := Below.on hbw hb3
      clear hb3
      have T3 : Hid (At v3 p3 ny ny yy) := hA3
      clear hA3
      clear HJ
      have HJ : Hid ((fun W' : World => W'.cell? ⟨go, 0, none⟩ = some (.int .i64 1) ∧ W'.cell? ⟨go, 1, none⟩ = some (.bool sx) ∧ W'.cell? ⟨go, 2, none⟩ = some (.slice px nx cx) ∧ W'.cell? ⟨go, 3, none⟩ = some (.bool sy) ∧ W'.cell? ⟨go, 4, none⟩ = some (.slice py ny cy) ∧ W'.cell? ⟨go, 5, none⟩ = some (.int .i64 nn)) v3) := ⟨Xo.out.c0, Xo.out.c1, Xo.out.c2, Xo.out.c3, Xo.out.c4, Xo.out.c5⟩
      refine hK _ _ HJ.out ?_
      clear hK
      refine wpJ_take (i := 10) (v := ?v9x10) rfl (by kernel_rfl) (by kernel_rfl) (by kernel_rfl) (fun _ _ _ h => h) (by kernel_rfl) ?hy9x10 HJ.out ?rest9x10
      case hy9x10 => (intro W' hJ; obtain ⟨j0, j1, j2, j3, j4, j5⟩ := hJ; go_simp; first | done | with_reducible rfl)
      refine wpJ_two (i := 11) (k := 15) (by kernel_rfl) rfl rfl (by kernel_rfl) (by kernel_rfl) (fun KJ hK => ?_) (fun KJ hK => ?_)
      · go_simp
        refine (number4_1 sx sy nn T2.out T3.out HB.out.1 HB.out.2.1 HB.out.2.2.1 HB.out.2.2.2).mono ?_
        rintro e v4 ⟨s4, p4, m4, c4, u4, er4, rfl, hA4, hD4, hb4⟩
        replace Xo : Hid _ := Xo.out.below hb4
        replace Xy : Hid _ := Xy.out.below hb4
        replace H : Hid _ := H.out.below hb4
        replace K : Hid _ := K.out.below hb4
        replace A1 : Hid _ := A1.out.below hb4
        replace T2 : Hid _ := T2.out.below hb4
        replace T3 : Hid _ := T3.out.below hb4
        replace hbw := Below.on hbw hb4
        clear hb4
        have A4 : Hid (NewAt v3.heap.size v4 p4 m4 c4 u4) := hA4
        have D4 : Hid (DocZ nn s4 u4 er4) := hD4
        clear hA4 hD4
        clear HJ
        have HJ : Hid ((fun W' : World => W'.cell? ⟨go, 0, none⟩ = some (.int .i64 1) ∧ W'.cell? ⟨go, 1, none⟩ = some (.bool sx) ∧ W'.cell? ⟨go, 2, none⟩ = some (.slice px nx cx) ∧ W'.cell? ⟨go, 3, none⟩ = some (.bool sy) ∧ W'.cell? ⟨go, 4, none⟩ = some (.slice py ny cy) ∧ W'.cell? ⟨go, 5, none⟩ = some (.int .i64 nn)) v4) := ⟨Xo.out.c0, Xo.out.c1, Xo.out.c2, Xo.out.c3, Xo.out.c4, Xo.out.c5⟩
        refine hK _ _ HJ.out ?_
        clear hK
        refine wpJ_take (i := 12) (v := ?v10x12) rfl (by kernel_rfl) (by kernel_rfl) (by kernel_rfl) (fun _ _ _ h => h) (by kernel_rfl) ?hy10x12 HJ.out ?rest10x12
        case hy10x12 => (intro W' hJ; obtain ⟨j0, j1, j2, j3, j4, j5⟩ := hJ; go_simp; first | done | with_reducible rfl)
        refine wpJ_take (i := 13) (v := ?v11x13) rfl (by kernel_rfl) (by kernel_rfl) (by kernel_rfl) (fun _ _ _ h => h) (by kernel_rfl) ?hy11x13 HJ.out ?rest11x13
        case hy11x13 => (intro W' hJ; obtain ⟨j0, j1, j2, j3, j4, j5⟩ := hJ; go_simp; first | done | with_reducible rfl)
        refine wpJ_take (i := 14) (v := ?v12x14) rfl (by kernel_rfl) (by kernel_rfl) (by kernel_rfl) (fun _ _ _ h => h) (by kernel_rfl) ?hy12x14 HJ.out ?rest12x14
        case hy12x14 => (intro W' hJ; obtain ⟨j0, j1, j2, j3, j4, j5⟩ := hJ; go_simp; first | done | with_reducible rfl)
        refine wpJ_one (i := 15) (by kernel_rfl) rfl (by kernel_rfl) (fun KJ hK => ?_)
        go_simp
        have HOX : Hid (go < v4.heap.size ∧ gy < v4.heap.size) := ⟨Xo.out.lt, Xy.out.lt⟩
        have HF1 : Hid (Off p1 m1 v4.heap.size) := A1.out.off_new
        have HF4 : Hid (Off p4 m4 v4.heap.size) := A4.out.1.off_new
        have Xx0 : Hid (Box (v4.alloc (.cells #[.bool false, .slice none 0 0] 28)) v4.heap.size (.bool false) (.slice none 0 0)) := Box.new v4 _ _ _
        have hbn : Below v4.heap.size v4 (v4.alloc (.cells #[.bool false, .slice none 0 0] 28)) := below1 v4 _
        generalize v4.alloc (.cells #[.bool false, .slice none 0 0] 28) = Wx at *
        have HGx : Hid (w.heap.size ≤ v4.heap.size) := hbw.size
        replace Xo : Hid _ := Xo.out.below hbn
        replace Xy : Hid _ := Xy.out.below hbn
        replace H : Hid _ := H.out.below hbn
        replace K : Hid _ := K.out.below hbn
        replace A1 : Hid _ := A1.out.below hbn
        replace T2 : Hid _ := T2.out.below hbn
        replace T3 : Hid _ := T3.out.below hbn
        replace A4 : Hid _ := A4.out.below hbn
        replace hbw := Below.on hbw hbn
        clear hbn
        generalize v4.heap.size = gx at *
        have Xx := Xx0
        clear Xx0
        clear HJ
        have HJ : Hid ((fun W' : World => W'.cell? ⟨go, 0, none⟩ = some (.int .i64 1) ∧ W'.cell? ⟨go, 1, none⟩ = some (.bool sx) ∧ W'.cell? ⟨go, 2, none⟩ = some (.slice px nx cx) ∧ W'.cell? ⟨go, 3, none⟩ = some (.bool sy) ∧ W'.cell? ⟨go, 4, none⟩ = some (.slice py ny cy) ∧ W'.cell? ⟨go, 5, none⟩ = some (.int .i64 nn)) Wx) := ⟨Xo.out.c0, Xo.out.c1, Xo.out.c2, Xo.out.c3, Xo.out.c4, Xo.out.c5⟩
        refine hK _ _ HJ.out ?_
        clear hK
        obtain ⟨cx0, cx1, fx0, fx1⟩ := Xx.out
        have hnex : gx < Wx.heap.size := World.block_lt_of_cell? Wx _ cx0
        obtain ⟨co0, co1, co2, co3, co4, co5, fo0, fo1, fo2, fo3, fo4, fo5⟩ := Xo.out
        have hneo : go < Wx.heap.size := World.block_lt_of_cell? Wx _ co0
        obtain ⟨cy0, cy1, fy0, fy1⟩ := Xy.out
        have hney : gy < Wx.heap.size := World.block_lt_of_cell? Wx _ cy0
        have hq1 : go ≠ gx := Nat.ne_of_lt HOX.out.1
        have hq2 : gx ≠ go := fun h => hq1 h.symm
        have hq3 : gy ≠ gx := Nat.ne_of_lt HOX.out.2
        have hq4 : gx ≠ gy := fun h => hq3 h.symm
        refine wpJ_one (i := 16) (by kernel_rfl) rfl (by kernel_rfl) (fun KJ hK => ?_)
        go_simp
        have HJ2 : Hid ((fun W' : World => W'.cell? ⟨go, 0, none⟩ = some (.int .i64 1) ∧ W'.cell? ⟨go, 1, none⟩ = some (.bool sx) ∧ W'.cell? ⟨go, 2, none⟩ = some (.slice px nx cx) ∧ W'.cell? ⟨go, 3, none⟩ = some (.bool sy) ∧ W'.cell? ⟨go, 4, none⟩ = some (.slice py ny cy) ∧ W'.cell? ⟨go, 5, none⟩ = some (.int .i64 nn)) ((Wx.setCell ⟨gx, 0, none⟩ (.bool s4)).setCell ⟨gx, 1, none⟩ (.slice p4 m4 c4))) := ⟨by go_simp, by go_simp, by go_simp, by go_simp, by go_simp, by go_simp⟩
        have Xx2 : Hid (Box ((Wx.setCell ⟨gx, 0, none⟩ (.bool s4)).setCell ⟨gx, 1, none⟩ (.slice p4 m4 c4)) gx (.bool s4) (.slice p4 m4 c4)) := ⟨by go_simp, by go_simp, by go_simp, by go_simp⟩
        have Xy2 : Hid (Box ((Wx.setCell ⟨gx, 0, none⟩ (.bool s4)).setCell ⟨gx, 1, none⟩ (.slice p4 m4 c4)) gy (.bool s1) (.slice p1 m1 c1)) := ⟨by go_simp, by go_simp, by go_simp, by go_simp⟩
        have A12 : Hid (At ((Wx.setCell ⟨gx, 0, none⟩ (.bool s4)).setCell ⟨gx, 1, none⟩ (.slice p4 m4 c4)) p1 m1 c1 u1) := (A1.out.setOff HF1.out _ _).setOff HF1.out _ _
        have A42 : Hid (At ((Wx.setCell ⟨gx, 0, none⟩ (.bool s4)).setCell ⟨gx, 1, none⟩ (.slice p4 m4 c4)) p4 m4 c4 u4) := (A4.out.1.setOff HF4.out _ _).setOff HF4.out _ _
        have hbw2 : Below w.heap.size w ((Wx.setCell ⟨gx, 0, none⟩ (.bool s4)).setCell ⟨gx, 1, none⟩ (.slice p4 m4 c4)) := bSet (bSet hbw _ _ _ HGx.out) _ _ _ HGx.out
        refine hK _ _ HJ2.out ?_
        clear hK HJ
        have HJ := HJ2
        clear HJ2 hbw Xx Xy Xo A1 A4 H K T2 T3
        clear cx0 cx1 fx0 fx1 hnex
        clear co0 co1 co2 co3 co4 co5 fo0 fo1 fo2 fo3 fo4 fo5 hneo
        clear cy0 cy1 fy0 fy1 hney
        clear hq1 hq2 hq3 hq4
        generalize ((Wx.setCell ⟨gx, 0, none⟩ (.bool s4)).setCell ⟨gx, 1, none⟩ (.slice p4 m4 c4)) = Wz at *
        have hbw := hbw2
        have Xx := Xx2
        have Xy := Xy2
        have A1 := A12
        have A4 := A42
        clear hbw2 Xx2 Xy2 A12 A42
        refine wpJ_take (i := 17) (v := ?v13x17) rfl (by kernel_rfl) (by kernel_rfl) (by kernel_rfl) (fun _ _ _ h => h) (by kernel_rfl) ?hy13x17 HJ.out ?rest13x17
        case hy13x17 => (intro W' hJ; obtain ⟨j0, j1, j2, j3, j4, j5⟩ := hJ; go_simp; first | done | with_reducible rfl)
        refine wpJ_done (by kernel_rfl) ?_ _
        clear HJ
        obtain ⟨cx0, cx1, fx0, fx1⟩ := Xx.out
        have hnex : gx < Wz.heap.size := World.block_lt_of_cell? Wz _ cx0
        obtain ⟨cy0, cy1, fy0, fy1⟩ := Xy.out
        have hney : gy < Wz.heap.size := World.block_lt_of_cell? Wz _ cy0
        go_wp2_with fail
        clear cx0 cx1 fx0 fx1 hnex
        clear cy0 cy1 fy0 fy1 hney
        obtain ⟨rfl, rfl, rfl⟩ := DocZ.inj D1.out D4.out
        refine (told4 s1 er1 A4.out A1.out).mono ?_
        rintro e v9 ⟨rfl, hb9⟩
        replace Xy : Hid _ := Xy.out.below hb9
        replace Xx : Hid _ := Xx.out.below hb9
        replace A1 : Hid _ := A1.out.below hb9
        replace A4 : Hid _ := A4.out.below hb9
        replace hbw := Below.on hbw hb9
        clear hb9
        go_wp2_with fail
        go_ret
        exact ⟨rfl, hbw⟩
      · go_simp
        have HOX : Hid (go < v3.heap.size ∧ gy < v3.heap.size) := ⟨Xo.out.lt, Xy.out.lt⟩
        have HF1 : Hid (Off p1 m1 v3.heap.size) := A1.out.off_new
        have Xx0 : Hid (Box (v3.alloc (.cells #[.bool false, .slice none 0 0] 28)) v3.heap.size (.bool false) (.slice none 0 0)) := Box.new v3 _ _ _
        have hbn : Below v3.heap.size v3 (v3.alloc (.cells #[.bool false, .slice none 0 0] 28)) := below1 v3 _
        generalize v3.alloc (.cells #[.bool false, .slice none 0 0] 28) = Wx at *
        have HGx : Hid (w.heap.size ≤ v3.heap.size) := hbw.size
        replace Xo : Hid _ := Xo.out.below hbn
        replace Xy : Hid _ := Xy.out.below hbn
        replace H : Hid _ := H.out.below hbn
        replace K : Hid _ := K.out.below hbn
        replace A1 : Hid _ := A1.out.below hbn
        replace T2 : Hid _ := T2.out.below hbn
        replace T3 : Hid _ := T3.out.below hbn
        replace hbw := Below.on hbw hbn
        clear hbn
        generalize v3.heap.size = gx at *
        have Xx := Xx0
        clear Xx0
        clear HJ
        have HJ : Hid ((fun W' : World => W'.cell? ⟨go, 0, none⟩ = some (.int .i64 1) ∧ W'.cell? ⟨go, 1, none⟩ = some (.bool sx) ∧ W'.cell? ⟨go, 2, none⟩ = some (.slice px nx cx) ∧ W'.cell? ⟨go, 3, none⟩ = some (.bool sy) ∧ W'.cell? ⟨go, 4, none⟩ = some (.slice py ny cy) ∧ W'.cell? ⟨go, 5, none⟩ = some (.int .i64 nn)) Wx) := ⟨Xo.out.c0, Xo.out.c1, Xo.out.c2, Xo.out.c3, Xo.out.c4, Xo.out.c5⟩
        refine hK _ _ HJ.out ?_
        clear hK
        refine wpJ_one (i := 11) (by kernel_rfl) rfl (by kernel_rfl) (fun KJ hK => ?_)
        go_simp
        refine (number4_1 sx sy nn T2.out T3.out HB.out.1 HB.out.2.1 HB.out.2.2.1 HB.out.2.2.2).mono ?_
        rintro e v4 ⟨s4, p4, m4, c4, u4, er4, rfl, hA4, hD4, hb4⟩
        have HX4 : Hid (gx < Wx.heap.size) := Xx.out.lt
        replace Xo : Hid _ := Xo.out.below hb4
        replace Xy : Hid _ := Xy.out.below hb4
        replace Xx : Hid _ := Xx.out.below hb4
        replace H : Hid _ := H.out.below hb4
        replace K : Hid _ := K.out.below hb4
        replace A1 : Hid _ := A1.out.below hb4
        replace T2 : Hid _ := T2.out.below hb4
        replace T3 : Hid _ := T3.out.below hb4
        replace hbw := Below.on hbw hb4
        clear hb4
        have A4 : Hid (NewAt Wx.heap.size v4 p4 m4 c4 u4) := hA4
        have D4 : Hid (DocZ nn s4 u4 er4) := hD4
        clear hA4 hD4
        have HF4 : Hid (Off p4 m4 gx) := A4.out.off HX4.out
        clear HJ
        have HJ : Hid ((fun W' : World => W'.cell? ⟨go, 0, none⟩ = some (.int .i64 1) ∧ W'.cell? ⟨go, 1, none⟩ = some (.bool sx) ∧ W'.cell? ⟨go, 2, none⟩ = some (.slice px nx cx) ∧ W'.cell? ⟨go, 3, none⟩ = some (.bool sy) ∧ W'.cell? ⟨go, 4, none⟩ = some (.slice py ny cy) ∧ W'.cell? ⟨go, 5, none⟩ = some (.int .i64 nn)) v4) := ⟨Xo.out.c0, Xo.out.c1, Xo.out.c2, Xo.out.c3, Xo.out.c4, Xo.out.c5⟩
        refine hK _ _ HJ.out ?_
        clear hK
        refine wpJ_take (i := 12) (v := ?v14x12) rfl (by kernel_rfl) (by kernel_rfl) (by kernel_rfl) (fun _ _ _ h => h) (by kernel_rfl) ?hy14x12 HJ.out ?rest14x12
        case hy14x12 => (intro W' hJ; obtain ⟨j0, j1, j2, j3, j4, j5⟩ := hJ; go_simp; first | done | with_reducible rfl)
        refine wpJ_take (i := 13) (v := ?v15x13) rfl (by kernel_rfl) (by kernel_rfl) (by kernel_rfl) (fun _ _ _ h => h) (by kernel_rfl) ?hy15x13 HJ.out ?rest15x13
        case hy15x13 => (intro W' hJ; obtain ⟨j0, j1, j2, j3, j4, j5⟩ := hJ; go_simp; first | done | with_reducible rfl)
        refine wpJ_take (i := 14) (v := ?v16x14) rfl (by kernel_rfl) (by kernel_rfl) (by kernel_rfl) (fun _ _ _ h => h) (by kernel_rfl) ?hy16x14 HJ.out ?rest16x14
        case hy16x14 => (intro W' hJ; obtain ⟨j0, j1, j2, j3, j4, j5⟩ := hJ; go_simp; first | done | with_reducible rfl)
        obtain ⟨cx0, cx1, fx0, fx1⟩ := Xx.out
        have hnex : gx < v4.heap.size := World.block_lt_of_cell? v4 _ cx0
        obtain ⟨co0, co1, co2, co3, co4, co5, fo0, fo1, fo2, fo3, fo4, fo5⟩ := Xo.out
        have hneo : go < v4.heap.size := World.block_lt_of_cell? v4 _ co0
        obtain ⟨cy0, cy1, fy0, fy1⟩ := Xy.out
        have hney : gy < v4.heap.size := World.block_lt_of_cell? v4 _ cy0
        have hq1 : go ≠ gx := Nat.ne_of_lt HOX.out.1
        have hq2 : gx ≠ go := fun h => hq1 h.symm
        have hq3 : gy ≠ gx := Nat.ne_of_lt HOX.out.2
        have hq4 : gx ≠ gy := fun h => hq3 h.symm
        refine wpJ_one (i := 16) (by kernel_rfl) rfl (by kernel_rfl) (fun KJ hK => ?_)
        go_simp
        have HJ2 : Hid ((fun W' : World => W'.cell? ⟨go, 0, none⟩ = some (.int .i64 1) ∧ W'.cell? ⟨go, 1, none⟩ = some (.bool sx) ∧ W'.cell? ⟨go, 2, none⟩ = some (.slice px nx cx) ∧ W'.cell? ⟨go, 3, none⟩ = some (.bool sy) ∧ W'.cell? ⟨go, 4, none⟩ = some (.slice py ny cy) ∧ W'.cell? ⟨go, 5, none⟩ = some (.int .i64 nn)) ((v4.setCell ⟨gx, 0, none⟩ (.bool s4)).setCell ⟨gx, 1, none⟩ (.slice p4 m4 c4))) := ⟨by go_simp, by go_simp, by go_simp, by go_simp, by go_simp, by go_simp⟩
        have Xx2 : Hid (Box ((v4.setCell ⟨gx, 0, none⟩ (.bool s4)).setCell ⟨gx, 1, none⟩ (.slice p4 m4 c4)) gx (.bool s4) (.slice p4 m4 c4)) := ⟨by go_simp, by go_simp, by go_simp, by go_simp⟩
        have Xy2 : Hid (Box ((v4.setCell ⟨gx, 0, none⟩ (.bool s4)).setCell ⟨gx, 1, none⟩ (.slice p4 m4 c4)) gy (.bool s1) (.slice p1 m1 c1)) := ⟨by go_simp, by go_simp, by go_simp, by go_simp⟩
        have A12 : Hid (At ((v4.setCell ⟨gx, 0, none⟩ (.bool s4)).setCell ⟨gx, 1, none⟩ (.slice p4 m4 c4)) p1 m1 c1 u1) := (A1.out.setOff HF1.out _ _).setOff HF1.out _ _
        have A42 : Hid (At ((v4.setCell ⟨gx, 0, none⟩ (.bool s4)).setCell ⟨gx, 1, none⟩ (.slice p4 m4 c4)) p4 m4 c4 u4) := (A4.out.1.setOff HF4.out _ _).setOff HF4.out _ _
        have hbw2 : Below w.heap.size w ((v4.setCell ⟨gx, 0, none⟩ (.bool s4)).setCell ⟨gx, 1, none⟩ (.slice p4 m4 c4)) := bSet (bSet hbw _ _ _ HGx.out) _ _ _ HGx.out
        refine hK _ _ HJ2.out ?_
        clear hK HJ
        have HJ := HJ2
        clear HJ2 hbw Xx Xy Xo A1 A4 H K T2 T3
        clear cx0 cx1 fx0 fx1 hnex
        clear co0 co1 co2 co3 co4 co5 fo0 fo1 fo2 fo3 fo4 fo5 hneo
        clear cy0 cy1 fy0 fy1 hney
        clear hq1 hq2 hq3 hq4
        generalize ((v4.setCell ⟨gx, 0, none⟩ (.bool s4)).setCell ⟨gx, 1, none⟩ (.slice p4 m4 c4)) = Wz at *
        have hbw := hbw2
        have Xx := Xx2
        have Xy := Xy2
        have A1 := A12
        have A4 := A42
        clear hbw2 Xx2 Xy2 A12 A42
        refine wpJ_take (i := 17) (v := ?v17x17) rfl (by kernel_rfl) (by kernel_rfl) (by kernel_rfl) (fun _ _ _ h => h) (by kernel_rfl) ?hy17x17 HJ.out ?rest17x17
        case hy17x17 => (intro W' hJ; obtain ⟨j0, j1, j2, j3, j4, j5⟩ := hJ; go_simp; first | done | with_reducible rfl)
        refine wpJ_done (by kernel_rfl) ?_ _
        clear HJ
        obtain ⟨cx0, cx1, fx0, fx1⟩ := Xx.out
        have hnex : gx < Wz.heap.size := World.block_lt_of_cell? Wz _ cx0
        obtain ⟨cy0, cy1, fy0, fy1⟩ := Xy.out
        have hney : gy < Wz.heap.size := World.block_lt_of_cell? Wz _ cy0
        go_wp2_with fail
        clear cx0 cx1 fx0 fx1 hnex
        clear cy0 cy1 fy0 fy1 hney
        obtain ⟨rfl, rfl, rfl⟩ := DocZ.inj D1.out D4.out
        refine (told4 s1 er1 A4.out A1.out).mono ?_
        rintro e v9 ⟨rfl, hb9⟩
        replace Xy : Hid _ := Xy.out.below hb9
        replace Xx : Hid _ := Xx.out.below hb9
        replace A1 : Hid _ := A1.out.below hb9
        replace A4 : Hid _ := A4.out.below hb9
        replace hbw := Below.on hbw hb9
        clear hb9
        go_wp2_with fail
        go_ret
        exact ⟨rfl, hbw⟩
    · go_simp
      have HOX : Hid (go < v2.heap.size ∧ gy < v2.heap.size) := ⟨Xo.out.lt, Xy.out.lt⟩
      have HF1 : Hid (Off p1 m1 v2.heap.size) := A1.out.off_new
      have Xx0 : Hid (Box (v2.alloc (.cells #[.bool false, .slice none 0 0] 28)) v2.heap.size (.bool false) (.slice none 0 0)) := Box.new v2 _ _ _
      have hbn : Below v2.heap.size v2 (v2.alloc (.cells #[.bool false, .slice none 0 0] 28)) := below1 v2 _
      generalize v2.alloc (.cells #[.bool false, .slice none 0 0] 28) = Wx at *
      have HGx : Hid (w.heap.size ≤ v2.heap.size) := hbw.size
      replace Xo : Hid _ := Xo.out.below hbn
      replace Xy : Hid _ := Xy.out.below hbn
      replace H : Hid _ := H.out.below hbn
      replace K : Hid _ := K.out.below hbn
      replace A1 : Hid _ := A1.out.below hbn
      replace T2 : Hid _ := T2.out.below hbn
      replace hbw := Below.on hbw hbn
      clear hbn
      generalize v2.heap.size = gx at *
      have Xx := Xx0
      clear Xx0
      clear HJ
      have HJ : Hid ((fun W' : World => W'.cell? ⟨go, 0, none⟩ = some (.int .i64 1) ∧ W'.cell? ⟨go, 1, none⟩ = some (.bool sx) ∧ W'.cell? ⟨go, 2, none⟩ = some (.slice px nx cx) ∧ W'.cell? ⟨go, 3, none⟩ = some (.bool sy) ∧ W'.cell? ⟨go, 4, none⟩ = some (.slice py ny cy) ∧ W'.cell? ⟨go, 5, none⟩ = some (.int .i64 nn)) Wx) := ⟨Xo.out.c0, Xo.out.c1, Xo.out.c2, Xo.out.c3, Xo.out.c4, Xo.out.c5⟩
      refine hK _ _ HJ.out ?_
      clear hK
      refine wpJ_one (i := 7) (by kernel_rfl) rfl (by kernel_rfl) (fun KJ hK => ?_)
      go_simp
      refine (twin4 sy K.out HB.out.2.1).mono ?_
      rintro e v3 ⟨p3, rfl, hA3, hb3⟩
      replace Xo : Hid _ := Xo.out.below hb3
      replace Xy : Hid _ := Xy.out.below hb3
      replace Xx : Hid _ := Xx.out.below hb3
      replace H : Hid _ := H.out.below hb3
      replace K : Hid _ := K.out.below hb3
      replace A1 : Hid _ := A1.out.below hb3
      replace T2 : Hid _ := T2.out.below hb3
      replace hbw := Below.on hbw hb3
      clear hb3
      have T3 : Hid (At v3 p3 ny ny yy) := hA3
      clear hA3
      clear HJ
      have HJ : Hid ((fun W' : World => W'.cell? ⟨go, 0, none⟩ = some (.int .i64 1) ∧ W'.cell? ⟨go, 1, none⟩ = some (.bool sx) ∧ W'.cell? ⟨go, 2, none⟩ = some (.slice px nx cx) ∧ W'.cell? ⟨go, 3, none⟩ = some (.bool sy) ∧ W'.cell? ⟨go, 4, none⟩ = some (.slice py ny cy) ∧ W'.cell? ⟨go, 5, none⟩ = some (.int .i64 nn)) v3) := ⟨Xo.out.c0, Xo.out.c1, Xo.out.c2, Xo.out.c3, Xo.out.c4, Xo.out.c5⟩
      refine hK _ _ HJ.out ?_
      clear hK
      refine wpJ_take (i := 10) (v := ?v18x10) rfl (by kernel_rfl) (by kernel_rfl) (by kernel_rfl) (fun _ _ _ h => h) (by kernel_rfl) ?hy18x10 HJ.out ?rest18x10
      case hy18x10 => (intro W' hJ; obtain ⟨j0, j1, j2, j3, j4, j5⟩ := hJ; go_simp; first | done | with_reducible rfl)
      refine wpJ_one (i := 11) (by kernel_rfl) rfl (by kernel_rfl) (fun KJ hK => ?_)
      go_simp
      refine (number4_1 sx sy nn T2.out T3.out HB.out.1 HB.out.2.1 HB.out.2.2.1 HB.out.2.2.2).mono ?_
      rintro e v4 ⟨s4, p4, m4, c4, u4, er4, rfl, hA4, hD4, hb4⟩
      have HX4 : Hid (gx < v3.heap.size) := Xx.out.lt
      replace Xo : Hid _ := Xo.out.below hb4
      replace Xy : Hid _ := Xy.out.below hb4
      replace Xx : Hid _ := Xx.out.below hb4
      replace H : Hid _ := H.out.below hb4
      replace K : Hid _ := K.out.below hb4
      replace A1 : Hid _ := A1.out.below hb4
      replace T2 : Hid _ := T2.out.below hb4
      replace T3 : Hid _ := T3.out.below hb4
      replace hbw := Below.on hbw hb4
      clear hb4
      have A4 : Hid (NewAt v3.heap.size v4 p4 m4 c4 u4) := hA4
      have D4 : Hid (DocZ nn s4 u4 er4) := hD4
      clear hA4 hD4
      have HF4 : Hid (Off p4 m4 gx) := A4.out.off HX4.out
      clear HJ
      have HJ : Hid ((fun W' : World => W'.cell? ⟨go, 0, none⟩ = some (.int .i64 1) ∧ W'.cell? ⟨go, 1, none⟩ = some (.bool sx) ∧ W'.cell? ⟨go, 2, none⟩ = some (.slice px nx cx) ∧ W'.cell? ⟨go, 3, none⟩ = some (.bool sy) ∧ W'.cell? ⟨go, 4, none⟩ = some (.slice py ny cy) ∧ W'.cell? ⟨go, 5, none⟩ = some (.int .i64 nn)) v4) := ⟨Xo.out.c0, Xo.out.c1, Xo.out.c2, Xo.out.c3, Xo.out.c4, Xo.out.c5⟩
      refine hK _ _ HJ.out ?_
      clear hK
      refine wpJ_take (i := 12) (v := ?v19x12) rfl (by kernel_rfl) (by kernel_rfl) (by kernel_rfl) (fun _ _ _ h => h) (by kernel_rfl) ?hy19x12 HJ.out ?rest19x12
      case hy19x12 => (intro W' hJ; obtain ⟨j0, j1, j2, j3, j4, j5⟩ := hJ; go_simp; first | done | with_reducible rfl)
      refine wpJ_take (i := 13) (v := ?v20x13) rfl (by kernel_rfl) (by kernel_rfl) (by kernel_rfl) (fun _ _ _ h => h) (by kernel_rfl) ?hy20x13 HJ.out ?rest20x13
      case hy20x13 => (intro W' hJ; obtain ⟨j0, j1, j2, j3, j4, j5⟩ := hJ; go_simp; first | done | with_reducible rfl)
      refine wpJ_take (i := 14) (v := ?v21x14) rfl (by kernel_rfl) (by kernel_rfl) (by kernel_rfl) (fun _ _ _ h => h) (by kernel_rfl) ?hy21x14 HJ.out ?rest21x14
      case hy21x14 => (intro W' hJ; obtain ⟨j0, j1, j2, j3, j4, j5⟩ := hJ; go_simp; first | done | with_reducible rfl)
      obtain ⟨cx0, cx1, fx0, fx1⟩ := Xx.out
      have hnex : gx < v4.heap.size := World.block_lt_of_cell? v4 _ cx0
      obtain ⟨co0, co1, co2, co3, co4, co5, fo0, fo1, fo2, fo3, fo4, fo5⟩ := Xo.out
      have hneo : go < v4.heap.size := World.block_lt_of_cell? v4 _ co0
      obtain ⟨cy0, cy1, fy0, fy1⟩ := Xy.out
      have hney : gy < v4.heap.size := World.block_lt_of_cell? v4 _ cy0
      have hq1 : go ≠ gx := Nat.ne_of_lt HOX.out.1
      have hq2 : gx ≠ go := fun h => hq1 h.symm
      have hq3 : gy ≠ gx := Nat.ne_of_lt HOX.out.2
      have hq4 : gx ≠ gy := fun h => hq3 h.symm
      refine wpJ_one (i := 16) (by kernel_rfl) rfl (by kernel_rfl) (fun KJ hK => ?_)
      go_simp
      have HJ2 : Hid ((fun W' : World => W'.cell? ⟨go, 0, none⟩ = some (.int .i64 1) ∧ W'.cell? ⟨go, 1, none⟩ = some (.bool sx) ∧ W'.cell? ⟨go, 2, none⟩ = some (.slice px nx cx) ∧ W'.cell? ⟨go, 3, none⟩ = some (.bool sy) ∧ W'.cell? ⟨go, 4, none⟩ = some (.slice py ny cy) ∧ W'.cell? ⟨go, 5, none⟩ = some (.int .i64 nn)) ((v4.setCell ⟨gx, 0, none⟩ (.bool s4)).setCell ⟨gx, 1, none⟩ (.slice p4 m4 c4))) := ⟨by go_simp, by go_simp, by go_simp, by go_simp, by go_simp, by go_simp⟩
      have Xx2 : Hid (Box ((v4.setCell ⟨gx, 0, none⟩ (.bool s4)).setCell ⟨gx, 1, none⟩ (.slice p4 m4 c4)) gx (.bool s4) (.slice p4 m4 c4)) := ⟨by go_simp, by go_simp, by go_simp, by go_simp⟩
      have Xy2 : Hid (Box ((v4.setCell ⟨gx, 0, none⟩ (.bool s4)).setCell ⟨gx, 1, none⟩ (.slice p4 m4 c4)) gy (.bool s1) (.slice p1 m1 c1)) := ⟨by go_simp, by go_simp, by go_simp, by go_simp⟩
      have A12 : Hid (At ((v4.setCell ⟨gx, 0, none⟩ (.bool s4)).setCell ⟨gx, 1, none⟩ (.slice p4 m4 c4)) p1 m1 c1 u1) := (A1.out.setOff HF1.out _ _).setOff HF1.out _ _
      have A42 : Hid (At ((v4.setCell ⟨gx, 0, none⟩ (.bool s4)).setCell ⟨gx, 1, none⟩ (.slice p4 m4 c4)) p4 m4 c4 u4) := (A4.out.1.setOff HF4.out _ _).setOff HF4.out _ _
      have hbw2 : Below w.heap.size w ((v4.setCell ⟨gx, 0, none⟩ (.bool s4)).setCell ⟨gx, 1, none⟩ (.slice p4 m4 c4)) := bSet (bSet hbw _ _ _ HGx.out) _ _ _ HGx.out
      refine hK _ _ HJ2.out ?_
      clear hK HJ
      have HJ := HJ2
      clear HJ2 hbw Xx Xy Xo A1 A4 H K T2 T3
      clear cx0 cx1 fx0 fx1 hnex
      clear co0 co1 co2 co3 co4 co5 fo0 fo1 fo2 fo3 fo4 fo5 hneo
      clear cy0 cy1 fy0 fy1 hney
      clear hq1 hq2 hq3 hq4
      generalize ((v4.setCell ⟨gx, 0, none⟩ (.bool s4)).setCell ⟨gx, 1, none⟩ (.slice p4 m4 c4)) = Wz at *
      have hbw := hbw2
      have Xx := Xx2
      have Xy := Xy2
      have A1 := A12
      have A4 := A42
      clear hbw2 Xx2 Xy2 A12 A42
      refine wpJ_take (i := 17) (v := ?v22x17) rfl (by kernel_rfl) (by kernel_rfl) (by kernel_rfl) (fun _ _ _ h => h) (by kernel_rfl) ?hy22x17 HJ.out ?rest22x17
      case hy22x17 => (intro W' hJ; obtain ⟨j0, j1, j2, j3, j4, j5⟩ := hJ; go_simp; first | done | with_reducible rfl)
      refine wpJ_done (by kernel_rfl) ?_ _
      clear HJ
      obtain ⟨cx0, cx1, fx0, fx1⟩ := Xx.out
      have hnex : gx < Wz.heap.size := World.block_lt_of_cell? Wz _ cx0
      obtain ⟨cy0, cy1, fy0, fy1⟩ := Xy.out
      have hney : gy < Wz.heap.size := World.block_lt_of_cell? Wz _ cy0
      go_wp2_with fail
      clear cx0 cx1 fx0 fx1 hnex
      clear cy0 cy1 fy0 fy1 hney
      obtain ⟨rfl, rfl, rfl⟩ := DocZ.inj D1.out D4.out
      refine (told4 s1 er1 A4.out A1.out).mono ?_
      rintro e v9 ⟨rfl, hb9⟩
      replace Xy : Hid _ := Xy.out.below hb9
      replace Xx : Hid _ := Xx.out.below hb9
      replace A1 : Hid _ := A1.out.below hb9
      replace A4 : Hid _ := A4.out.below hb9
      replace hbw := Below.on hbw hb9
      clear hb9
      go_wp2_with fail
      go_ret
      exact ⟨rfl, hbw⟩
  · go_simp
    have HOX : Hid (go < W1.heap.size ∧ gy < W1.heap.size) := ⟨Xo.out.lt, Xy.out.lt⟩
    have HF1 : Hid (Off p1 m1 W1.heap.size) := A1.out.off_new
    have Xx0 : Hid (Box (W1.alloc (.cells #[.bool false, .slice none 0 0] 28)) W1.heap.size (.bool false) (.slice none 0 0)) := Box.new W1 _ _ _
    have hbn : Below W1.heap.size W1 (W1.alloc (.cells #[.bool false, .slice none 0 0] 28)) := below1 W1 _
    generalize W1.alloc (.cells #[.bool false, .slice none 0 0] 28) = Wx at *
    have HGx : Hid (w.heap.size ≤ W1.heap.size) := hbw.size
    replace Xo : Hid _ := Xo.out.below hbn
    replace Xy : Hid _ := Xy.out.below hbn
    replace H : Hid _ := H.out.below hbn
    replace K : Hid _ := K.out.below hbn
    replace A1 : Hid _ := A1.out.below hbn
    replace hbw := Below.on hbw hbn
    clear hbn
    generalize W1.heap.size = gx at *
    have Xx := Xx0
    clear Xx0
    clear HJ
    have HJ : Hid ((fun W' : World => W'.cell? ⟨go, 0, none⟩ = some (.int .i64 1) ∧ W'.cell? ⟨go, 1, none⟩ = some (.bool sx) ∧ W'.cell? ⟨go, 2, none⟩ = some (.slice px nx cx) ∧ W'.cell? ⟨go, 3, none⟩ = some (.bool sy) ∧ W'.cell? ⟨go, 4, none⟩ = some (.slice py ny cy) ∧ W'.cell? ⟨go, 5, none⟩ = some (.int .i64 nn)) Wx) := ⟨Xo.out.c0, Xo.out.c1, Xo.out.c2, Xo.out.c3, Xo.out.c4, Xo.out.c5⟩
    refine hK _ _ HJ.out ?_
    clear hK
    refine wpJ_one (i := 4) (by kernel_rfl) rfl (by kernel_rfl) (fun KJ hK => ?_)
    go_simp
    refine (twin4 sx H.out HB.out.1).mono ?_
    rintro e v2 ⟨p2, rfl, hA2, hb2⟩
    replace Xo : Hid _ := Xo.out.below hb2
    replace Xy : Hid _ := Xy.out.below hb2
    replace Xx : Hid _ := Xx.out.below hb2
    replace H : Hid _ := H.out.below hb2
    replace K : Hid _ := K.out.below hb2
    replace A1 : Hid _ := A1.out.below hb2
    replace hbw := Below.on hbw hb2
    clear hb2
    have T2 : Hid (At v2 p2 nx nx xx) := hA2
    clear hA2
    clear HJ
    have HJ : Hid ((fun W' : World => W'.cell? ⟨go, 0, none⟩ = some (.int .i64 1) ∧ W'.cell? ⟨go, 1, none⟩ = some (.bool sx) ∧ W'.cell? ⟨go, 2, none⟩ = some (.slice px nx cx) ∧ W'.cell? ⟨go, 3, none⟩ = some (.bool sy) ∧ W'.cell? ⟨go, 4, none⟩ = some (.slice py ny cy) ∧ W'.cell? ⟨go, 5, none⟩ = some (.int .i64 nn)) v2) := ⟨Xo.out.c0, Xo.out.c1, Xo.out.c2, Xo.out.c3, Xo.out.c4, Xo.out.c5⟩
    refine hK _ _ HJ.out ?_
    clear hK
    refine wpJ_one (i := 7) (by kernel_rfl) rfl (by kernel_rfl) (fun KJ hK => ?_)
    go_simp
    refine (twin4 sy K.out HB.out.2.1).mono ?_
    rintro e v3 ⟨p3, rfl, hA3, hb3⟩
    replace Xo : Hid _ := Xo.out.below hb3
    replace Xy : Hid _ := Xy.out.below hb3
    replace Xx : Hid _ := Xx.out.below hb3
    replace H : Hid _ := H.out.below hb3
    replace K : Hid _ := K.out.below hb3
    replace A1 : Hid _ := A1.out.below hb3
    replace T2 : Hid _ := T2.out.below hb3
    replace hbw := Below.on hbw hb3
    clear hb3
    have T3 : Hid (At v3 p3 ny ny yy) := hA3
    clear hA3
    clear HJ
    have HJ : Hid ((fun W' : World => W'.cell? ⟨go, 0, none⟩ = some (.int .i64 1) ∧ W'.cell? ⟨go, 1, none⟩ = some (.bool sx) ∧ W'.cell? ⟨go, 2, none⟩ = some (.slice px nx cx) ∧ W'.cell? ⟨go, 3, none⟩ = some (.bool sy) ∧ W'.cell? ⟨go, 4, none⟩ = some (.slice py ny cy) ∧ W'.cell? ⟨go, 5, none⟩ = some (.int .i64 nn)) v3) := ⟨Xo.out.c0, Xo.out.c1, Xo.out.c2, Xo.out.c3, Xo.out.c4, Xo.out.c5⟩
    refine hK _ _ HJ.out ?_
    clear hK
    refine wpJ_take (i := 10) (v := ?v23x10) rfl (by kernel_rfl) (by kernel_rfl) (by kernel_rfl) (fun _ _ _ h => h) (by kernel_rfl) ?hy23x10 HJ.out ?rest23x10
    case hy23x10 => (intro W' hJ; obtain ⟨j0, j1, j2, j3, j4, j5⟩ := hJ; go_simp; first | done | with_reducible rfl)
    refine wpJ_one (i := 11) (by kernel_rfl) rfl (by kernel_rfl) (fun KJ hK => ?_)
    go_simp
    refine (number4_1 sx sy nn T2.out T3.out HB.out.1 HB.out.2.1 HB.out.2.2.1 HB.out.2.2.2).mono ?_
    rintro e v4 ⟨s4, p4, m4, c4, u4, er4, rfl, hA4, hD4, hb4⟩
    have HX4 : Hid (gx < v3.heap.size) := Xx.out.lt
    replace Xo : Hid _ := Xo.out.below hb4
    replace Xy : Hid _ := Xy.out.below hb4
    replace Xx : Hid _ := Xx.out.below hb4
    replace H : Hid _ := H.out.below hb4
    replace K : Hid _ := K.out.below hb4
    replace A1 : Hid _ := A1.out.below hb4
    replace T2 : Hid _ := T2.out.below hb4
    replace T3 : Hid _ := T3.out.below hb4
    replace hbw := Below.on hbw hb4
    clear hb4
    have A4 : Hid (NewAt v3.heap.size v4 p4 m4 c4 u4) := hA4
    have D4 : Hid (DocZ nn s4 u4 er4) := hD4
    clear hA4 hD4
    have HF4 : Hid (Off p4 m4 gx) := A4.out.off HX4.out
    clear HJ
    have HJ : Hid ((fun W' : World => W'.cell? ⟨go, 0, none⟩ = some (.int .i64 1) ∧ W'.cell? ⟨go, 1, none⟩ = some (.bool sx) ∧ W'.cell? ⟨go, 2, none⟩ = some (.slice px nx cx) ∧ W'.cell? ⟨go, 3, none⟩ = some (.bool sy) ∧ W'.cell? ⟨go, 4, none⟩ = some (.slice py ny cy) ∧ W'.cell? ⟨go, 5, none⟩ = some (.int .i64 nn)) v4) := ⟨Xo.out.c0, Xo.out.c1, Xo.out.c2, Xo.out.c3, Xo.out.c4, Xo.out.c5⟩
    refine hK _ _ HJ.out ?_
    clear hK
    refine wpJ_take (i := 12) (v := ?v24x12) rfl (by kernel_rfl) (by kernel_rfl) (by kernel_rfl) (fun _ _ _ h => h) (by kernel_rfl) ?hy24x12 HJ.out ?rest24x12
    case hy24x12 => (intro W' hJ; obtain ⟨j0, j1, j2, j3, j4, j5⟩ := hJ; go_simp; first | done | with_reducible rfl)
    refine wpJ_take (i := 13) (v := ?v25x13) rfl (by kernel_rfl) (by kernel_rfl) (by kernel_rfl) (fun _ _ _ h => h) (by kernel_rfl) ?hy25x13 HJ.out ?rest25x13
    case hy25x13 => (intro W' hJ; obtain ⟨j0, j1, j2, j3, j4, j5⟩ := hJ; go_simp; first | done | with_reducible rfl)
    refine wpJ_take (i := 14) (v := ?v26x14) rfl (by kernel_rfl) (by kernel_rfl) (by kernel_rfl) (fun _ _ _ h => h) (by kernel_rfl) ?hy26x14 HJ.out ?rest26x14
    case hy26x14 => (intro W' hJ; obtain ⟨j0, j1, j2, j3, j4, j5⟩ := hJ; go_simp; first | done | with_reducible rfl)
    obtain ⟨cx0, cx1, fx0, fx1⟩ := Xx.out
    have hnex : gx < v4.heap.size := World.block_lt_of_cell? v4 _ cx0
    obtain ⟨co0, co1, co2, co3, co4, co5, fo0, fo1, fo2, fo3, fo4, fo5⟩ := Xo.out
    have hneo : go < v4.heap.size := World.block_lt_of_cell? v4 _ co0
    obtain ⟨cy0, cy1, fy0, fy1⟩ := Xy.out
    have hney : gy < v4.heap.size := World.block_lt_of_cell? v4 _ cy0
    have hq1 : go ≠ gx := Nat.ne_of_lt HOX.out.1
    have hq2 : gx ≠ go := fun h => hq1 h.symm
    have hq3 : gy ≠ gx := Nat.ne_of_lt HOX.out.2
    have hq4 : gx ≠ gy := fun h => hq3 h.symm
    refine wpJ_one (i := 16) (by kernel_rfl) rfl (by kernel_rfl) (fun KJ hK => ?_)
    go_simp
    have HJ2 : Hid ((fun W' : World => W'.cell? ⟨go, 0, none⟩ = some (.int .i64 1) ∧ W'.cell? ⟨go, 1, none⟩ = some (.bool sx) ∧ W'.cell? ⟨go, 2, none⟩ = some (.slice px nx cx) ∧ W'.cell? ⟨go, 3, none⟩ = some (.bool sy) ∧ W'.cell? ⟨go, 4, none⟩ = some (.slice py ny cy) ∧ W'.cell? ⟨go, 5, none⟩ = some (.int .i64 nn)) ((v4.setCell ⟨gx, 0, none⟩ (.bool s4)).setCell ⟨gx, 1, none⟩ (.slice p4 m4 c4))) := ⟨by go_simp, by go_simp, by go_simp, by go_simp, by go_simp, by go_simp⟩
    have Xx2 : Hid (Box ((v4.setCell ⟨gx, 0, none⟩ (.bool s4)).setCell ⟨gx, 1, none⟩ (.slice p4 m4 c4)) gx (.bool s4) (.slice p4 m4 c4)) := ⟨by go_simp, by go_simp, by go_simp, by go_simp⟩
    have Xy2 : Hid (Box ((v4.setCell ⟨gx, 0, none⟩ (.bool s4)).setCell ⟨gx, 1, none⟩ (.slice p4 m4 c4)) gy (.bool s1) (.slice p1 m1 c1)) := ⟨by go_simp, by go_simp, by go_simp, by go_simp⟩
    have A12 : Hid (At ((v4.setCell ⟨gx, 0, none⟩ (.bool s4)).setCell ⟨gx, 1, none⟩ (.slice p4 m4 c4)) p1 m1 c1 u1) := (A1.out.setOff HF1.out _ _).setOff HF1.out _ _
    have A42 : Hid (At ((v4.setCell ⟨gx, 0, none⟩ (.bool s4)).setCell ⟨gx, 1, none⟩ (.slice p4 m4 c4)) p4 m4 c4 u4) := (A4.out.1.setOff HF4.out _ _).setOff HF4.out _ _
    have hbw2 : Below w.heap.size w ((v4.setCell ⟨gx, 0, none⟩ (.bool s4)).setCell ⟨gx, 1, none⟩ (.slice p4 m4 c4)) := bSet (bSet hbw _ _ _ HGx.out) _ _ _ HGx.out
    refine hK _ _ HJ2.out ?_
    clear hK HJ
    have HJ := HJ2
    clear HJ2 hbw Xx Xy Xo A1 A4 H K T2 T3
    clear cx0 cx1 fx0 fx1 hnex
    clear co0 co1 co2 co3 co4 co5 fo0 fo1 fo2 fo3 fo4 fo5 hneo
    clear cy0 cy1 fy0 fy1 hney
    clear hq1 hq2 hq3 hq4
    generalize ((v4.setCell ⟨gx, 0, none⟩ (.bool s4)).setCell ⟨gx, 1, none⟩ (.slice p4 m4 c4)) = Wz at *
    have hbw := hbw2
    have Xx := Xx2
    have Xy := Xy2
    have A1 := A12
    have A4 := A42
    clear hbw2 Xx2 Xy2 A12 A42
    refine wpJ_take (i := 17) (v := ?v27x17) rfl (by kernel_rfl) (by kernel_rfl) (by kernel_rfl) (fun _ _ _ h => h) (by kernel_rfl) ?hy27x17 HJ.out ?rest27x17
    case hy27x17 => (intro W' hJ; obtain ⟨j0, j1, j2, j3, j4, j5⟩ := hJ; go_simp; first | done | with_reducible rfl)
    refine wpJ_done (by kernel_rfl) ?_ _
    clear HJ
    obtain ⟨cx0, cx1, fx0, fx1⟩ := Xx.out
    have hnex : gx < Wz.heap.size := World.block_lt_of_cell? Wz _ cx0
    obtain ⟨cy0, cy1, fy0, fy1⟩ := Xy.out
    have hney : gy < Wz.heap.size := World.block_lt_of_cell? Wz _ cy0
    go_wp2_with fail
    clear cx0 cx1 fx0 fx1 hnex
    clear cy0 cy1 fy0 fy1 hney
    obtain ⟨rfl, rfl, rfl⟩ := DocZ.inj D1.out D4.out
    refine (told4 s1 er1 A4.out A1.out).mono ?_
    rintro e v9 ⟨rfl, hb9⟩
    replace Xy : Hid _ := Xy.out.below hb9
    replace Xx : Hid _ := Xx.out.below hb9
    replace A1 : Hid _ := A1.out.below hb9
    replace A4 : Hid _ := A4.out.below hb9
    replace hbw := Below.on hbw hb9
    clear hb9
    go_wp2_with fail
    go_ret
    exact ⟨rfl, hbw⟩
end Go.Proofs.YtgodajcnhipleaaGreatDoor

namespace Go.Proofs.YtgodajcnhipleaaGreatDoor
open Go.RowKit Go.Shelf

set_option maxRecDepth 20000 in
set_option maxHeartbeats 4000000 in
/-- ref.Fits. -/
theorem rfits {p : Option Addr} {n c : Nat} {xs : List Nat} {w : World} (h : At32 w p n c xs) (hn : n ≤ 35184372088832) :
    Calls Tryz.prog 86 #[.slice p n c] w fun e w' => e = .returned (if valB B32 xs < B64 then .tuple #[U (valB B32 xs), .bool true] else .tuple #[.int .u64 0, .bool false]) ∧ Below w.heap.size w w' := by
  have H : Hid (At32 w p n c xs) := h
  clear h
  obtain ⟨rv, hrv⟩ : ∃ rv : Value, rv = (if valB B32 xs < B64 then .tuple #[U (valB B32 xs), .bool true] else .tuple #[.int .u64 0, .bool false]) := ⟨_, rfl⟩
  rw [← hrv]
  have HRV : Hid (rv = (if valB B32 xs < B64 then .tuple #[U (valB B32 xs), .bool true] else .tuple #[.int .u64 0, .bool false])) := hrv
  clear hrv
  go_enter Tryz.func86, Tryz.ntmps86
  go_wp2_with fail
  refine (rto_any H.out hn).mono ?_
  rintro e w1 ⟨g1, k1, N1, us, rfl, hg1, hA1, hn1, hb1⟩
  have hl := hA1.len
  match k1, us, hl with
  | 0, [], _ =>
    have HV : Hid (valB B32 xs = 0) := by show _ = _; rw [← hn1.val]; rfl
    clear hA1 hn1 hg1
    go_wp2_with fail
    go_ret2
    refine ⟨?_, hb1⟩
    rw [HRV.out, HV.out, if_pos (by rw [B64_eq]; decide)]
    rfl
  | 1, [u], _ =>
    have HV : Hid (valB B32 xs = u ∧ u < B64) := ⟨by rw [← hn1.val]; simp [valB], hA1.dig u (by simp)⟩
    have hc := hA1.cellAt 0 (by omega)
    have hc2 : w1.cell? ⟨g1, 0, none⟩ = some (U u) := hc
    have hlt := World.block_lt_of_cell? w1 _ hc2
    clear hA1 hn1 hg1 hc
    go_wp2_with fail
    go_ret2
    refine ⟨?_, hb1⟩
    rw [HRV.out, HV.out.1, if_pos HV.out.2]
    rfl
  | k + 2, us, hl =>
    have HV : Hid (¬ valB B32 xs < B64) := by
      intro hlt
      have := (hn1.len_le B64_one (k := 1)).2 (by rw [Nat.pow_one]; exact hlt)
      omega
    have h0 : (((k + 2 : Nat) : Int) == 0) = false := by simp; omega
    have h1 : (((k + 2 : Nat) : Int) == 1) = false := by simp; omega
    clear hA1 hn1 hg1
    go_wp2_with fail
    go_ret2
    refine ⟨?_, hb1⟩
    rw [HRV.out, if_neg HV.out]
    rfl
set_option maxRecDepth 20000 in
set_option maxHeartbeats 4000000 in
theorem rint04_b {p : Option Addr} {m : Nat} {w : World} {z : Int} {s : Bool} (h : ZR w s p m z) (hm : m ≤ 50000) (ha : B64 ≤ z.natAbs) :
    Calls Tryz.prog 55 #[.agg #[.bool s, .slice p m m]] w fun e w' => e = .returned (.tuple #[.int .i64 0, .bool false]) ∧ Below w.heap.size w w' := by
  obtain ⟨xs, hA, hN⟩ := h.ex
  have HA : Hid (At32 w p m m xs) := hA
  have HM : Hid (m ≤ 50000) := hm
  obtain ⟨v, hv⟩ : ∃ v, v = valB B32 xs := ⟨_, rfl⟩
  have HV : Hid (v = valB B32 xs) := hv
  have hvz : v = z.natAbs := by rw [hv]; exact hN.val
  clear h hA hm hN hv
  have HVB : Hid (¬ v < B64) := by show ¬ _; omega
  clear ha hvz
  go_enter Tryz.func55, Tryz.ntmps55
  go_wp2_with fail
  obtain ⟨W0, hW0⟩ : ∃ W0, W0 = (w.alloc (.cells #[.bool s, .slice p m m] 70)) := ⟨_, rfl⟩
  have Xa : Hid (Box W0 (w.heap.size) (.bool s) (.slice p m m)) := by rw [hW0]; exact ⟨by go_simp, by go_simp, by go_simp, by go_simp⟩
  have hb0 : Below w.heap.size w W0 := by rw [hW0]; exact below1 w _
  rw [← hW0]
  clear hW0
  have hbw : Below w.heap.size w w := Below.refl _ _
  obtain ⟨ga, hga⟩ : ∃ g, g = w.heap.size := ⟨_, rfl⟩
  have HGa : Hid (w.heap.size ≤ ga) := by rw [hga]; show _ ≤ _; omega
  rw [← hga] at Xa
  try rw [← hga]
  clear hga
  replace HA : Hid _ := HA.out.below hb0
  replace hbw := Below.on hbw hb0
  clear hb0
  refine (rfits HA.out (by have := HM.out; omega)).mono ?_
  rintro e v1 ⟨rfl, hb1⟩
  rw [← HV.out, if_neg HVB.out]
  replace Xa : Hid _ := Xa.out.below hb1
  replace HA : Hid _ := HA.out.below hb1
  replace hbw := Below.on hbw hb1
  clear hb1
  obtain ⟨ca0, ca1, fa0, fa1⟩ := Xa.out
  have hnea : ga < v1.heap.size := World.block_lt_of_cell? v1 _ ca0
  go_wp2_with fail
  clear ca0 ca1 fa0 fa1 hnea
  go_ret2
  refine ⟨?_, hbw⟩
  rfl
set_option maxRecDepth 20000 in
set_option maxHeartbeats 4000000 in
theorem rint04_e {p : Option Addr} {m : Nat} {w : World} {z : Int}  (h : ZR w true p m z) (hm : m ≤ 50000) (ha : z = -9223372036854775808) :
    Calls Tryz.prog 55 #[.agg #[.bool true, .slice p m m]] w fun e w' => e = .returned (.tuple #[.int .i64 (-9223372036854775808), .bool true]) ∧ Below w.heap.size w w' := by
  obtain ⟨xs, hA, hN⟩ := h.ex
  have HA : Hid (At32 w p m m xs) := hA
  have HM : Hid (m ≤ 50000) := hm
  obtain ⟨v, hv⟩ : ∃ v, v = valB B32 xs := ⟨_, rfl⟩
  have HV : Hid (v = valB B32 xs) := hv
  have hvz : v = z.natAbs := by rw [hv]; exact hN.val
  clear h hA hm hN hv
  have HVB : Hid (v < B64) := by show _ < _; rw [B64_eq]; omega
  obtain rfl : v = 9223372036854775808 := by omega
  clear ha hvz
  go_enter Tryz.func55, Tryz.ntmps55
  go_wp2_with fail
  obtain ⟨W0, hW0⟩ : ∃ W0, W0 = (w.alloc (.cells #[.bool true, .slice p m m] 70)) := ⟨_, rfl⟩
  have Xa : Hid (Box W0 (w.heap.size) (.bool true) (.slice p m m)) := by rw [hW0]; exact ⟨by go_simp, by go_simp, by go_simp, by go_simp⟩
  have hb0 : Below w.heap.size w W0 := by rw [hW0]; exact below1 w _
  rw [← hW0]
  clear hW0
  have hbw : Below w.heap.size w w := Below.refl _ _
  obtain ⟨ga, hga⟩ : ∃ g, g = w.heap.size := ⟨_, rfl⟩
  have HGa : Hid (w.heap.size ≤ ga) := by rw [hga]; show _ ≤ _; omega
  rw [← hga] at Xa
  try rw [← hga]
  clear hga
  replace HA : Hid _ := HA.out.below hb0
  replace hbw := Below.on hbw hb0
  clear hb0
  refine (rfits HA.out (by have := HM.out; omega)).mono ?_
  rintro e v1 ⟨rfl, hb1⟩
  rw [← HV.out, if_pos HVB.out]
  replace Xa : Hid _ := Xa.out.below hb1
  replace HA : Hid _ := HA.out.below hb1
  replace hbw := Below.on hbw hb1
  clear hb1
  obtain ⟨ca0, ca1, fa0, fa1⟩ := Xa.out
  have hnea : ga < v1.heap.size := World.block_lt_of_cell? v1 _ ca0
  go_wp2_with fail
  clear ca0 ca1 fa0 fa1 hnea
  go_ret2
  refine ⟨?_, hbw⟩
  rfl
set_option maxRecDepth 20000 in
set_option maxHeartbeats 4000000 in
theorem rint04_g {p : Option Addr} {m : Nat} {w : World} {z : Int}  (h : ZR w true p m z) (hm : m ≤ 50000) (ha : 9223372036854775808 < z.natAbs) (ha2 : z.natAbs < 18446744073709551616) :
    Calls Tryz.prog 55 #[.agg #[.bool true, .slice p m m]] w fun e w' => e = .returned (.tuple #[.int .i64 0, .bool false]) ∧ Below w.heap.size w w' := by
  obtain ⟨xs, hA, hN⟩ := h.ex
  have HA : Hid (At32 w p m m xs) := hA
  have HM : Hid (m ≤ 50000) := hm
  obtain ⟨v, hv⟩ : ∃ v, v = valB B32 xs := ⟨_, rfl⟩
  have HV : Hid (v = valB B32 xs) := hv
  have hvz : v = z.natAbs := by rw [hv]; exact hN.val
  clear h hA hm hN hv
  have HVB : Hid (v < B64) := by show _ < _; rw [B64_eq]; omega
  have f1 : ((v : Int) == 9223372036854775808) = false := by simp; omega
  have f2 : (9223372036854775808 : Int) ≤ (v : Int) := by omega
  have f3 : ¬ (v : Int) < 9223372036854775808 := by omega
  clear ha ha2 hvz
  go_enter Tryz.func55, Tryz.ntmps55
  go_wp2_with fail
  obtain ⟨W0, hW0⟩ : ∃ W0, W0 = (w.alloc (.cells #[.bool true, .slice p m m] 70)) := ⟨_, rfl⟩
  have Xa : Hid (Box W0 (w.heap.size) (.bool true) (.slice p m m)) := by rw [hW0]; exact ⟨by go_simp, by go_simp, by go_simp, by go_simp⟩
  have hb0 : Below w.heap.size w W0 := by rw [hW0]; exact below1 w _
  rw [← hW0]
  clear hW0
  have hbw : Below w.heap.size w w := Below.refl _ _
  obtain ⟨ga, hga⟩ : ∃ g, g = w.heap.size := ⟨_, rfl⟩
  have HGa : Hid (w.heap.size ≤ ga) := by rw [hga]; show _ ≤ _; omega
  rw [← hga] at Xa
  try rw [← hga]
  clear hga
  replace HA : Hid _ := HA.out.below hb0
  replace hbw := Below.on hbw hb0
  clear hb0
  refine (rfits HA.out (by have := HM.out; omega)).mono ?_
  rintro e v1 ⟨rfl, hb1⟩
  rw [← HV.out, if_pos HVB.out]
  replace Xa : Hid _ := Xa.out.below hb1
  replace HA : Hid _ := HA.out.below hb1
  replace hbw := Below.on hbw hb1
  clear hb1
  obtain ⟨ca0, ca1, fa0, fa1⟩ := Xa.out
  have hnea : ga < v1.heap.size := World.block_lt_of_cell? v1 _ ca0
  go_wp2_with fail
  clear ca0 ca1 fa0 fa1 hnea
  go_ret2
  refine ⟨?_, hbw⟩
  rfl
set_option maxRecDepth 20000 in
set_option maxHeartbeats 4000000 in
theorem rint04_h {p : Option Addr} {m : Nat} {w : World} {z : Int}  (h : ZR w false p m z) (hm : m ≤ 50000) (ha : 9223372036854775808 ≤ z.natAbs) (ha2 : z.natAbs < 18446744073709551616) :
    Calls Tryz.prog 55 #[.agg #[.bool false, .slice p m m]] w fun e w' => e = .returned (.tuple #[.int .i64 0, .bool false]) ∧ Below w.heap.size w w' := by
  obtain ⟨xs, hA, hN⟩ := h.ex
  have HA : Hid (At32 w p m m xs) := hA
  have HM : Hid (m ≤ 50000) := hm
  obtain ⟨v, hv⟩ : ∃ v, v = valB B32 xs := ⟨_, rfl⟩
  have HV : Hid (v = valB B32 xs) := hv
  have hvz : v = z.natAbs := by rw [hv]; exact hN.val
  clear h hA hm hN hv
  have HVB : Hid (v < B64) := by show _ < _; rw [B64_eq]; omega
  have f2 : (9223372036854775808 : Int) ≤ (v : Int) := by omega
  have f3 : ¬ (v : Int) < 9223372036854775808 := by omega
  clear ha ha2 hvz
  go_enter Tryz.func55, Tryz.ntmps55
  go_wp2_with fail
  obtain ⟨W0, hW0⟩ : ∃ W0, W0 = (w.alloc (.cells #[.bool false, .slice p m m] 70)) := ⟨_, rfl⟩
  have Xa : Hid (Box W0 (w.heap.size) (.bool false) (.slice p m m)) := by rw [hW0]; exact ⟨by go_simp, by go_simp, by go_simp, by go_simp⟩
  have hb0 : Below w.heap.size w W0 := by rw [hW0]; exact below1 w _
  rw [← hW0]
  clear hW0
  have hbw : Below w.heap.size w w := Below.refl _ _
  obtain ⟨ga, hga⟩ : ∃ g, g = w.heap.size := ⟨_, rfl⟩
  have HGa : Hid (w.heap.size ≤ ga) := by rw [hga]; show _ ≤ _; omega
  rw [← hga] at Xa
  try rw [← hga]
  clear hga
  replace HA : Hid _ := HA.out.below hb0
  replace hbw := Below.on hbw hb0
  clear hb0
  refine (rfits HA.out (by have := HM.out; omega)).mono ?_
  rintro e v1 ⟨rfl, hb1⟩
  rw [← HV.out, if_pos HVB.out]
  replace Xa : Hid _ := Xa.out.below hb1
  replace HA : Hid _ := HA.out.below hb1
  replace hbw := Below.on hbw hb1
  clear hb1
  obtain ⟨ca0, ca1, fa0, fa1⟩ := Xa.out
  have hnea : ga < v1.heap.size := World.block_lt_of_cell? v1 _ ca0
  go_wp2_with fail
  clear ca0 ca1 fa0 fa1 hnea
  go_ret2
  refine ⟨?_, hbw⟩
  rfl
set_option maxRecDepth 20000 in
set_option maxHeartbeats 4000000 in
theorem rint04_n {p : Option Addr} {m : Nat} {w : World} {z : Int}  (h : ZR w true p m z) (hm : m ≤ 50000) (ha : z.natAbs < 9223372036854775808) (ha2 : z = -(z.natAbs : Int)) :
    Calls Tryz.prog 55 #[.agg #[.bool true, .slice p m m]] w fun e w' => e = .returned (.tuple #[.int .i64 z, .bool true]) ∧ Below w.heap.size w w' := by
  obtain ⟨xs, hA, hN⟩ := h.ex
  have HA : Hid (At32 w p m m xs) := hA
  have HM : Hid (m ≤ 50000) := hm
  obtain ⟨v, hv⟩ : ∃ v, v = valB B32 xs := ⟨_, rfl⟩
  have HV : Hid (v = valB B32 xs) := hv
  have hvz : v = z.natAbs := by rw [hv]; exact hN.val
  clear h hA hm hN hv
  have HVB : Hid (v < B64) := by show _ < _; rw [B64_eq]; omega
  have f1 : ((v : Int) == 9223372036854775808) = false := by simp; omega
  have f2 : decide ((9223372036854775808 : Int) ≤ (v : Int)) = false := decide_eq_false (by omega)
  have f3 : decide (9223372036854775808 ≤ v) = false := decide_eq_false (by omega)
  have d4 : ¬ 9223372036854775808 ≤ v := by omega
  have f4 : wrap64 (v : Int) = (v : Int) := by simp only [wrap64]; omega
  have f5 : wrap64 (-(v : Int)) = -(v : Int) := by simp only [wrap64]; omega
  have f6 : z = -(v : Int) := by omega
  have F6 : Hid (z = -(v : Int)) := f6
  clear ha ha2 hvz f6
  go_enter Tryz.func55, Tryz.ntmps55
  go_wp2_with fail
  obtain ⟨W0, hW0⟩ : ∃ W0, W0 = (w.alloc (.cells #[.bool true, .slice p m m] 70)) := ⟨_, rfl⟩
  have Xa : Hid (Box W0 (w.heap.size) (.bool true) (.slice p m m)) := by rw [hW0]; exact ⟨by go_simp, by go_simp, by go_simp, by go_simp⟩
  have hb0 : Below w.heap.size w W0 := by rw [hW0]; exact below1 w _
  rw [← hW0]
  clear hW0
  have hbw : Below w.heap.size w w := Below.refl _ _
  obtain ⟨ga, hga⟩ : ∃ g, g = w.heap.size := ⟨_, rfl⟩
  have HGa : Hid (w.heap.size ≤ ga) := by rw [hga]; show _ ≤ _; omega
  rw [← hga] at Xa
  try rw [← hga]
  clear hga
  replace HA : Hid _ := HA.out.below hb0
  replace hbw := Below.on hbw hb0
  clear hb0
  refine (rfits HA.out (by have := HM.out; omega)).mono ?_
  rintro e v1 ⟨rfl, hb1⟩
  rw [← HV.out, if_pos HVB.out]
  replace Xa : Hid _ := Xa.out.below hb1
  replace HA : Hid _ := HA.out.below hb1
  replace hbw := Below.on hbw hb1
  clear hb1
  obtain ⟨ca0, ca1, fa0, fa1⟩ := Xa.out
  have hnea : ga < v1.heap.size := World.block_lt_of_cell? v1 _ ca0
  go_wp2_with fail
  clear ca0 ca1 fa0 fa1 hnea
  go_ret2
  refine ⟨?_, hbw⟩
  rw [F6.out]
  rfl
set_option maxRecDepth 20000 in
set_option maxHeartbeats 4000000 in
theorem rint04_p {p : Option Addr} {m : Nat} {w : World} {z : Int}  (h : ZR w false p m z) (hm : m ≤ 50000) (ha : z.natAbs < 9223372036854775808) (ha2 : z = (z.natAbs : Int)) :
    Calls Tryz.prog 55 #[.agg #[.bool false, .slice p m m]] w fun e w' => e = .returned (.tuple #[.int .i64 z, .bool true]) ∧ Below w.heap.size w w' := by
  obtain ⟨xs, hA, hN⟩ := h.ex
  have HA : Hid (At32 w p m m xs) := hA
  have HM : Hid (m ≤ 50000) := hm
  obtain ⟨v, hv⟩ : ∃ v, v = valB B32 xs := ⟨_, rfl⟩
  have HV : Hid (v = valB B32 xs) := hv
  have hvz : v = z.natAbs := by rw [hv]; exact hN.val
  clear h hA hm hN hv
  have HVB : Hid (v < B64) := by show _ < _; rw [B64_eq]; omega
  have f2 : decide ((9223372036854775808 : Int) ≤ (v : Int)) = false := decide_eq_false (by omega)
  have f3 : decide (9223372036854775808 ≤ v) = false := decide_eq_false (by omega)
  have d4 : ¬ 9223372036854775808 ≤ v := by omega
  have f4 : wrap64 (v : Int) = (v : Int) := by simp only [wrap64]; omega
  have f6 : z = (v : Int) := by omega
  have F6 : Hid (z = (v : Int)) := f6
  clear ha ha2 hvz f6
  go_enter Tryz.func55, Tryz.ntmps55
  go_wp2_with fail
  obtain ⟨W0, hW0⟩ : ∃ W0, W0 = (w.alloc (.cells #[.bool false, .slice p m m] 70)) := ⟨_, rfl⟩
  have Xa : Hid (Box W0 (w.heap.size) (.bool false) (.slice p m m)) := by rw [hW0]; exact ⟨by go_simp, by go_simp, by go_simp, by go_simp⟩
  have hb0 : Below w.heap.size w W0 := by rw [hW0]; exact below1 w _
  rw [← hW0]
  clear hW0
  have hbw : Below w.heap.size w w := Below.refl _ _
  obtain ⟨ga, hga⟩ : ∃ g, g = w.heap.size := ⟨_, rfl⟩
  have HGa : Hid (w.heap.size ≤ ga) := by rw [hga]; show _ ≤ _; omega
  rw [← hga] at Xa
  try rw [← hga]
  clear hga
  replace HA : Hid _ := HA.out.below hb0
  replace hbw := Below.on hbw hb0
  clear hb0
  refine (rfits HA.out (by have := HM.out; omega)).mono ?_
  rintro e v1 ⟨rfl, hb1⟩
  rw [← HV.out, if_pos HVB.out]
  replace Xa : Hid _ := Xa.out.below hb1
  replace HA : Hid _ := HA.out.below hb1
  replace hbw := Below.on hbw hb1
  clear hb1
  obtain ⟨ca0, ca1, fa0, fa1⟩ := Xa.out
  have hnea : ga < v1.heap.size := World.block_lt_of_cell? v1 _ ca0
  go_wp2_with fail
  clear ca0 ca1 fa0 fa1 hnea
  go_ret2
  refine ⟨?_, hbw⟩
  rw [F6.out]
  rfl
def smR (z : Int) : Value := if -9223372036854775808 ≤ z ∧ z ≤ 9223372036854775807 then .tuple #[.int .i64 z, .bool true] else .tuple #[.int .i64 0, .bool false]
theorem rint04 {p : Option Addr} {m : Nat} {w : World} {z : Int} (s : Bool) (h : ZR w s p m z) (hm : m ≤ 50000) :
    Calls Tryz.prog 55 #[.agg #[.bool s, .slice p m m]] w fun e w' => e = .returned (smR z) ∧ Below w.heap.size w w' := by
  unfold smR
  rcases Nat.lt_or_ge z.natAbs B64 with h1 | h1
  · rw [B64_eq] at h1
    rcases Nat.lt_or_ge z.natAbs 9223372036854775808 with h2 | h2
    · rw [if_pos (by omega)]
      cases s
      · have := of_decide_eq_false h.sg.symm
        exact rint04_p h hm h2 (by omega)
      · have := of_decide_eq_true h.sg.symm
        exact rint04_n h hm h2 (by omega)
    · cases s
      · have := of_decide_eq_false h.sg.symm
        rw [if_neg (by omega)]
        exact rint04_h h hm h2 (by omega)
      · have := of_decide_eq_true h.sg.symm
        rcases Nat.lt_or_ge 9223372036854775808 z.natAbs with h3 | h3
        · rw [if_neg (by omega)]
          exact rint04_g h hm h3 (by omega)
        · have hz : z = -9223372036854775808 := by omega
          rw [if_pos (by omega), hz]
          subst hz
          exact rint04_e h hm rfl
  · rw [if_neg (by rw [B64_eq] at h1; omega)]
    exact rint04_b h hm h1
end Go.Proofs.YtgodajcnhipleaaGreatDoor

namespace Go.Proofs.YtgodajcnhipleaaGreatDoor
open Go.RowKit Go.Shelf

def smV (f : Bool) (z : Int) : Int := if f = true then (if -9223372036854775808 ≤ z ∧ z ≤ 9223372036854775807 then z else 0) else 0
def smE (f : Bool) (z : Int) : Int := if f = true then (if -9223372036854775808 ≤ z ∧ z ≤ 9223372036854775807 then 0 else 5) else 2
set_option maxRecDepth 20000 in
set_option maxHeartbeats 4000000 in
theorem nsmall_bad {p : Option Addr} {m c : Nat} {xs : List Nat} {w : World} (s : Bool) (h : At w p m c xs) (hf : formZ s xs = false) :
    Calls Tryz.prog 13 #[ZV s p m c] w fun e w' => e = .returned (.tuple #[.int .i64 0, .int .i64 2]) ∧ Below w.heap.size w w' := by
  have H : Hid (At w p m c xs) := h
  have HF : Hid (formZ s xs = false) := hf
  clear h hf
  go_enter Tryz.func13, Tryz.ntmps13
  go_wp2_with fail
  obtain ⟨W0, hW0⟩ : ∃ W0, W0 = (w.alloc (.cells #[.bool s, .slice p m c] 28)) := ⟨_, rfl⟩
  have Xx : Hid (Box W0 (w.heap.size) (.bool s) (.slice p m c)) := by rw [hW0]; exact ⟨by go_simp, by go_simp, by go_simp, by go_simp⟩
  have hb0 : Below w.heap.size w W0 := by rw [hW0]; exact below1 w _
  rw [← hW0]
  clear hW0
  have hbw : Below w.heap.size w w := Below.refl _ _
  obtain ⟨gx, hgx⟩ : ∃ g, g = w.heap.size := ⟨_, rfl⟩
  have HGx : Hid (w.heap.size ≤ gx) := by rw [hgx]; show _ ≤ _; omega
  rw [← hgx] at Xx
  try rw [← hgx]
  clear hgx
  replace H : Hid _ := H.out.below hb0
  replace hbw := Below.on hbw hb0
  clear hb0
  refine (numform_f s H.out HF.out).mono ?_
  rintro e w1 ⟨rfl, hb1⟩
  replace Xx : Hid _ := Xx.out.below hb1
  replace H : Hid _ := H.out.below hb1
  replace hbw := Below.on hbw hb1
  clear hb1
  go_wp2_with fail
  go_ret2
  exact ⟨rfl, hbw⟩
theorem nsmall4 {p : Option Addr} {m c : Nat} {xs : List Nat} {w : World} (s : Bool) (h : At w p m c xs) :
    Calls Tryz.prog 13 #[ZV s p m c] w fun e w' => e = .returned (.tuple #[.int .i64 (smV (formZ s xs) (iv s (valB B64 xs))), .int .i64 (smE (formZ s xs) (iv s (valB B64 xs)))]) ∧ Below w.heap.size w w' := by
  unfold smV smE
  cases hf : formZ s xs
  · exact nsmall_bad s h hf
  · have hx := formZ_num h hf
    refine (small_full s hx.1 hx.2).mono fun e w' ⟨he, hb⟩ => ⟨?_, hb⟩
    rw [he, if_pos rfl, if_pos rfl]
    split <;> rfl
set_option maxRecDepth 20000 in
set_option maxHeartbeats 4000000 in
theorem docsmall4_b {p : Option Addr} {m c : Nat} {xs : List Nat} {w : World} (s : Bool) (h : At w p m c xs) (hf : formZ s xs = false) :
    Calls Tryz.prog 31 #[ZV s p m c] w fun e w' => e = .returned (.tuple #[.int .i64 0, .int .i64 2]) ∧ Below w.heap.size w w' := by
  have H : Hid (At w p m c xs) := h
  have HF : Hid (formZ s xs = false) := hf
  clear h hf
  go_enter Tryz.func31, Tryz.ntmps31
  go_wp2_with fail
  obtain ⟨W0, hW0⟩ : ∃ W0, W0 = (w.alloc (.cells #[.bool s, .slice p m c] 28)) := ⟨_, rfl⟩
  have Xx : Hid (Box W0 (w.heap.size) (.bool s) (.slice p m c)) := by rw [hW0]; exact ⟨by go_simp, by go_simp, by go_simp, by go_simp⟩
  have hb0 : Below w.heap.size w W0 := by rw [hW0]; exact below1 w _
  rw [← hW0]
  clear hW0
  have hbw : Below w.heap.size w w := Below.refl _ _
  obtain ⟨gx, hgx⟩ : ∃ g, g = w.heap.size := ⟨_, rfl⟩
  have HGx : Hid (w.heap.size ≤ gx) := by rw [hgx]; show _ ≤ _; omega
  rw [← hgx] at Xx
  try rw [← hgx]
  clear hgx
  replace H : Hid _ := H.out.below hb0
  replace hbw := Below.on hbw hb0
  clear hb0
  refine (docform4 s H.out).mono ?_
  rintro e v1 ⟨rfl, hb1⟩
  rw [HF.out]
  replace Xx : Hid _ := Xx.out.below hb1
  replace H : Hid _ := H.out.below hb1
  replace hbw := Below.on hbw hb1
  clear hb1
  go_wp2_with fail
  go_ret2
  exact ⟨rfl, hbw⟩
set_option maxRecDepth 20000 in
set_option maxHeartbeats 4000000 in
theorem docsmall4_i {p : Option Addr} {m c : Nat} {xs : List Nat} {w : World} (s : Bool) (h : At w p m c xs) (hf : formZ s xs = true) (hr : (-9223372036854775808 ≤ iv s (valB B64 xs) ∧ iv s (valB B64 xs) ≤ 9223372036854775807)) :
    Calls Tryz.prog 31 #[ZV s p m c] w fun e w' => e = .returned (.tuple #[.int .i64 (iv s (valB B64 xs)), .int .i64 0]) ∧ Below w.heap.size w w' := by
  have H : Hid (At w p m c xs) := h
  have HF : Hid (formZ s xs = true) := hf
  obtain ⟨z, hz⟩ : ∃ z, z = iv s (valB B64 xs) := ⟨_, rfl⟩
  rw [← hz] at hr ⊢
  have HZ : Hid (z = iv s (valB B64 xs)) := hz
  have HR : Hid (smR z = .tuple #[.int .i64 z, .bool true]) := if_pos hr
  clear hz hr
  clear h hf
  go_enter Tryz.func31, Tryz.ntmps31
  go_wp2_with fail
  obtain ⟨W0, hW0⟩ : ∃ W0, W0 = (w.alloc (.cells #[.bool s, .slice p m c] 28)) := ⟨_, rfl⟩
  have Xx : Hid (Box W0 (w.heap.size) (.bool s) (.slice p m c)) := by rw [hW0]; exact ⟨by go_simp, by go_simp, by go_simp, by go_simp⟩
  have hb0 : Below w.heap.size w W0 := by rw [hW0]; exact below1 w _
  rw [← hW0]
  clear hW0
  have hbw : Below w.heap.size w w := Below.refl _ _
  obtain ⟨gx, hgx⟩ : ∃ g, g = w.heap.size := ⟨_, rfl⟩
  have HGx : Hid (w.heap.size ≤ gx) := by rw [hgx]; show _ ≤ _; omega
  rw [← hgx] at Xx
  try rw [← hgx]
  clear hgx
  replace H : Hid _ := H.out.below hb0
  replace hbw := Below.on hbw hb0
  clear hb0
  refine (docform4 s H.out).mono ?_
  rintro e v1 ⟨rfl, hb1⟩
  rw [HF.out]
  replace Xx : Hid _ := Xx.out.below hb1
  replace H : Hid _ := H.out.below hb1
  replace hbw := Below.on hbw hb1
  clear hb1
  obtain ⟨cx0, cx1, fx0, fx1⟩ := Xx.out
  have hnex : gx < v1.heap.size := World.block_lt_of_cell? v1 _ cx0
  go_wp2_with fail
  clear cx0 cx1 fx0 fx1 hnex
  have HM : Hid (m ≤ 8192) := by have := formZ_len HF.out; rw [H.out.len] at this; exact this
  refine (rfrom04 s H.out (by have := HM.out; omega)).mono ?_
  rintro e v2 ⟨s2, p2, m2, rfl, hz2, hl2, hb2⟩
  rw [← HZ.out] at hz2
  replace Xx : Hid _ := Xx.out.below hb2
  replace H : Hid _ := H.out.below hb2
  replace hbw := Below.on hbw hb2
  clear hb2
  have Z2 : Hid (ZR v2 s2 p2 m2 z) := hz2
  have HL2 : Hid (m2 ≤ 50000) := by have := HM.out; show m2 ≤ _; omega
  clear hz2 hl2
  go_wp2_with fail
  refine (rint04 s2 Z2.out HL2.out).mono ?_
  rintro e v3 ⟨rfl, hb3⟩
  rw [HR.out]
  replace Xx : Hid _ := Xx.out.below hb3
  replace H : Hid _ := H.out.below hb3
  replace Z2 : Hid _ := Z2.out.below hb3
  replace hbw := Below.on hbw hb3
  clear hb3
  go_wp2_with fail
  go_ret2
  exact ⟨rfl, hbw⟩
set_option maxRecDepth 20000 in
set_option maxHeartbeats 4000000 in
theorem docsmall4_o {p : Option Addr} {m c : Nat} {xs : List Nat} {w : World} (s : Bool) (h : At w p m c xs) (hf : formZ s xs = true) (hr : ¬ (-9223372036854775808 ≤ iv s (valB B64 xs) ∧ iv s (valB B64 xs) ≤ 9223372036854775807)) :
    Calls Tryz.prog 31 #[ZV s p m c] w fun e w' => e = .returned (.tuple #[.int .i64 0, .int .i64 5]) ∧ Below w.heap.size w w' := by
  have H : Hid (At w p m c xs) := h
  have HF : Hid (formZ s xs = true) := hf
  obtain ⟨z, hz⟩ : ∃ z, z = iv s (valB B64 xs) := ⟨_, rfl⟩
  rw [← hz] at hr
  have HZ : Hid (z = iv s (valB B64 xs)) := hz
  have HR : Hid (smR z = .tuple #[.int .i64 0, .bool false]) := if_neg hr
  clear hz hr
  clear h hf
  go_enter Tryz.func31, Tryz.ntmps31
  go_wp2_with fail
  obtain ⟨W0, hW0⟩ : ∃ W0, W0 = (w.alloc (.cells #[.bool s, .slice p m c] 28)) := ⟨_, rfl⟩
  have Xx : Hid (Box W0 (w.heap.size) (.bool s) (.slice p m c)) := by rw [hW0]; exact ⟨by go_simp, by go_simp, by go_simp, by go_simp⟩
  have hb0 : Below w.heap.size w W0 := by rw [hW0]; exact below1 w _
  rw [← hW0]
  clear hW0
  have hbw : Below w.heap.size w w := Below.refl _ _
  obtain ⟨gx, hgx⟩ : ∃ g, g = w.heap.size := ⟨_, rfl⟩
  have HGx : Hid (w.heap.size ≤ gx) := by rw [hgx]; show _ ≤ _; omega
  rw [← hgx] at Xx
  try rw [← hgx]
  clear hgx
  replace H : Hid _ := H.out.below hb0
  replace hbw := Below.on hbw hb0
  clear hb0
  refine (docform4 s H.out).mono ?_
  rintro e v1 ⟨rfl, hb1⟩
  rw [HF.out]
  replace Xx : Hid _ := Xx.out.below hb1
  replace H : Hid _ := H.out.below hb1
  replace hbw := Below.on hbw hb1
  clear hb1
  obtain ⟨cx0, cx1, fx0, fx1⟩ := Xx.out
  have hnex : gx < v1.heap.size := World.block_lt_of_cell? v1 _ cx0
  go_wp2_with fail
  clear cx0 cx1 fx0 fx1 hnex
  have HM : Hid (m ≤ 8192) := by have := formZ_len HF.out; rw [H.out.len] at this; exact this
  refine (rfrom04 s H.out (by have := HM.out; omega)).mono ?_
  rintro e v2 ⟨s2, p2, m2, rfl, hz2, hl2, hb2⟩
  rw [← HZ.out] at hz2
  replace Xx : Hid _ := Xx.out.below hb2
  replace H : Hid _ := H.out.below hb2
  replace hbw := Below.on hbw hb2
  clear hb2
  have Z2 : Hid (ZR v2 s2 p2 m2 z) := hz2
  have HL2 : Hid (m2 ≤ 50000) := by have := HM.out; show m2 ≤ _; omega
  clear hz2 hl2
  go_wp2_with fail
  refine (rint04 s2 Z2.out HL2.out).mono ?_
  rintro e v3 ⟨rfl, hb3⟩
  rw [HR.out]
  replace Xx : Hid _ := Xx.out.below hb3
  replace H : Hid _ := H.out.below hb3
  replace Z2 : Hid _ := Z2.out.below hb3
  replace hbw := Below.on hbw hb3
  clear hb3
  go_wp2_with fail
  go_ret2
  exact ⟨rfl, hbw⟩
theorem docsmall4 {p : Option Addr} {m c : Nat} {xs : List Nat} {w : World} (s : Bool) (h : At w p m c xs) :
    Calls Tryz.prog 31 #[ZV s p m c] w fun e w' => e = .returned (.tuple #[.int .i64 (smV (formZ s xs) (iv s (valB B64 xs))), .int .i64 (smE (formZ s xs) (iv s (valB B64 xs)))]) ∧ Below w.heap.size w w' := by
  unfold smV smE
  cases hf : formZ s xs
  · exact docsmall4_b s h hf
  · by_cases hr : -9223372036854775808 ≤ iv s (valB B64 xs) ∧ iv s (valB B64 xs) ≤ 9223372036854775807
    · rw [if_pos rfl, if_pos rfl, if_pos hr, if_pos hr]
      exact docsmall4_i s h hf hr
    · rw [if_pos rfl, if_pos rfl, if_neg hr, if_neg hr]
      exact docsmall4_o s h hf hr
set_option maxRecDepth 20000 in
set_option maxHeartbeats 8000000 in
theorem plays4_4 {px py : Option Addr} {nx cx ny cy : Nat} {xx yy : List Nat} {w : World} (sx sy : Bool) (nn : Int) (h : At w px nx cx xx) (k : At w py ny cy yy) (hx : nx ≤ 17592186044416) (hy : ny ≤ 17592186044416) (hn0 : -9223372036854775808 ≤ nn) (hn1 : nn ≤ 9223372036854775807) :
    Calls Tryz.prog 16 #[.agg #[.int .i64 4, .bool sx, .slice px nx cx, .bool sy, .slice py ny cy, .int .i64 nn]] w fun e w' => e = .returned (.bool true) ∧ Below w.heap.size w w' := by
  have H : Hid (At w px nx cx xx) := h
  have K : Hid (At w py ny cy yy) := k
  have HB : Hid (nx ≤ 17592186044416 ∧ ny ≤ 17592186044416 ∧ -9223372036854775808 ≤ nn ∧ nn ≤ 9223372036854775807) := ⟨hx, hy, hn0, hn1⟩
  clear h k hx hy hn0 hn1
  go_enter Tryz.func16, Tryz.ntmps16
  go_wp2_with fail
  obtain ⟨W0, hW0⟩ : ∃ W0, W0 = (w.alloc (.cells #[.int .i64 4, .bool sx, .slice px nx cx, .bool sy, .slice py ny cy, .int .i64 nn] 38)) := ⟨_, rfl⟩
  have Xo : Hid (B6q W0 (w.heap.size) (.int .i64 4) (.bool sx) (.slice px nx cx) (.bool sy) (.slice py ny cy) (.int .i64 nn)) := by rw [hW0]; exact ⟨by go_simp, by go_simp, by go_simp, by go_simp, by go_simp, by go_simp, by go_simp, by go_simp, by go_simp, by go_simp, by go_simp, by go_simp⟩
  have hb0 : Below w.heap.size w W0 := by rw [hW0]; exact below1 w _
  rw [← hW0]
  clear hW0
  have hbw : Below w.heap.size w w := Below.refl _ _
  obtain ⟨go, hgo⟩ : ∃ g, g = w.heap.size := ⟨_, rfl⟩
  have HGo : Hid (w.heap.size ≤ go) := by rw [hgo]; show _ ≤ _; omega
  rw [← hgo] at Xo
  try rw [← hgo]
  clear hgo
  replace H : Hid _ := H.out.below hb0
  replace K : Hid _ := K.out.below hb0
  replace hbw := Below.on hbw hb0
  clear hb0
  obtain ⟨fc, hfc⟩ : ∃ fc, fc = smV (formZ sx xx) (iv sx (valB B64 xx)) := ⟨_, rfl⟩
  have HFC : Hid (fc = smV (formZ sx xx) (iv sx (valB B64 xx))) := hfc
  have hbfc : (fc == fc) = true := by simp
  clear hfc
  obtain ⟨fe, hfe⟩ : ∃ fe, fe = smE (formZ sx xx) (iv sx (valB B64 xx)) := ⟨_, rfl⟩
  have HFE : Hid (fe = smE (formZ sx xx) (iv sx (valB B64 xx))) := hfe
  have hbfe : (fe == fe) = true := by simp
  clear hfe
  refine (twin4 sx H.out HB.out.1).mono ?_
  rintro e v2 ⟨p2, rfl, hA2, hb2⟩
  replace Xo : Hid _ := Xo.out.below hb2
  replace H : Hid _ := H.out.below hb2
  replace K : Hid _ := K.out.below hb2
  replace hbw := Below.on hbw hb2
  clear hb2
  have T2 : Hid (At v2 p2 nx nx xx) := hA2
  clear hA2
  go_wp2_with fail
  refine (nsmall4 sx T2.out).mono ?_
  rintro e v4 ⟨rfl, hb4⟩
  rw [← HFC.out, ← HFE.out]
  replace Xo : Hid _ := Xo.out.below hb4
  replace H : Hid _ := H.out.below hb4
  replace K : Hid _ := K.out.below hb4
  replace T2 : Hid _ := T2.out.below hb4
  replace hbw := Below.on hbw hb4
  clear hb4
  obtain ⟨co0, co1, co2, co3, co4, co5, fo0, fo1, fo2, fo3, fo4, fo5⟩ := Xo.out
  have hneo : go < v4.heap.size := World.block_lt_of_cell? v4 _ co0
  go_wp2_with fail
  clear co0 co1 co2 co3 co4 co5 fo0 fo1 fo2 fo3 fo4 fo5 hneo
  refine (docsmall4 sx H.out).mono ?_
  rintro e v5 ⟨rfl, hb5⟩
  rw [← HFC.out, ← HFE.out]
  replace Xo : Hid _ := Xo.out.below hb5
  replace H : Hid _ := H.out.below hb5
  replace K : Hid _ := K.out.below hb5
  replace T2 : Hid _ := T2.out.below hb5
  replace hbw := Below.on hbw hb5
  clear hb5
  obtain ⟨co0, co1, co2, co3, co4, co5, fo0, fo1, fo2, fo3, fo4, fo5⟩ := Xo.out
  have hneo : go < v5.heap.size := World.block_lt_of_cell? v5 _ co0
  go_wp2_with fail
  clear co0 co1 co2 co3 co4 co5 fo0 fo1 fo2 fo3 fo4 fo5 hneo
  go_ret
  exact ⟨rfl, hbw⟩
end Go.Proofs.YtgodajcnhipleaaGreatDoor

namespace Go.Proofs.YtgodajcnhipleaaGreatDoor
open Go.RowKit Go.Shelf

set_option maxRecDepth 20000 in
set_option maxHeartbeats 4000000 in
theorem numMakes_walk {P : Option Addr} {N C : Nat} {its : List Op6} {w : World} (h : Scr4 w P N C its) :
    Calls Tryz.prog 3 #[.slice P N C] w fun e w' => e = .returned (.bool true) ∧ Below w.heap.size w w' := by
  have H : Hid (Scr4 w P N C its) := h
  clear h
  go_enter Tryz.func3, Tryz.ntmps3
  go_wp2_with fail
  refine (awake4_any _).mono ?_
  rintro e w1 ⟨rfl, hb1⟩
  have H1 : Hid (Scr4 w1 P N C its) := H.out.below hb1
  have HB1 : Hid (Below w.heap.size w w1) := hb1
  clear hb1
  go_wp2_with fail
  refine (all4 (T := fun _ => True) H1.out trivial (fun _ _ _ _ => trivial) ?_).mono ?_
  · intro k h5 h9 px py nx cx ny cy xx yy w sx sy nn _ h kk hx hy hn0 hn1
    rcases (by omega : k = 1 ∨ k = 2 ∨ k = 3 ∨ k = 4) with rfl | rfl | rfl | rfl
    · exact plays4_1 sx sy nn h kk hx hy hn0 hn1
    · exact plays4_2 sx sy nn h kk hx hy hn0 hn1
    · exact plays4_3 sx sy nn h kk hx hy hn0 hn1
    · exact plays4_4 sx sy nn h kk hx hy hn0 hn1
  rintro e w3 ⟨rfl, hb3⟩
  have hbw := Below.on HB1.out hb3
  clear hb3
  go_wp2_with fail
  go_ret
  exact ⟨rfl, hbw⟩
end Go.Proofs.YtgodajcnhipleaaGreatDoor

