import Derived.Test.YtgodajcnhipleaaGreatDoorJ18
import Derived.Test.YtgodajcnhipleaaGreatDoorJ13
import Derived.Test.YtgodajcnhipleaaGreatDoorJ11
namespace Go.Proofs.YtgodajcnhipleaaGreatDoor
open Go.RowKit Go.Shelf

set_option maxRecDepth 20000 in
set_option maxHeartbeats 8000000 in
theorem plays4_12 {px py : Option Addr} {nx cx ny cy : Nat} {xx yy : List Nat} {w : World} (sx sy : Bool) (nn : Int) (h : At w px nx cx xx) (k : At w py ny cy yy) (hx : nx ≤ 17592186044416) (hy : ny ≤ 17592186044416) (hn0 : -9223372036854775808 ≤ nn) (hn1 : nn ≤ 9223372036854775807) (hT : Tab w) :
    Calls Tryz.prog 16 #[.agg #[.int .i64 12, .bool sx, .slice px nx cx, .bool sy, .slice py ny cy, .int .i64 nn]] w fun e w' => e = .returned (.bool true) ∧ Below w.heap.size w w' := by
  have H : Hid (At w px nx cx xx) := h
  have K : Hid (At w py ny cy yy) := k
  have HB : Hid (nx ≤ 17592186044416 ∧ ny ≤ 17592186044416 ∧ -9223372036854775808 ≤ nn ∧ nn ≤ 9223372036854775807) := ⟨hx, hy, hn0, hn1⟩
  clear h k hx hy hn0 hn1
  have TB : Hid (Tab w) := hT
  clear hT
  go_enter Tryz.func16, Tryz.ntmps16
  go_wp2_with fail
  obtain ⟨W0, hW0⟩ : ∃ W0, W0 = (w.alloc (.cells #[.int .i64 12, .bool sx, .slice px nx cx, .bool sy, .slice py ny cy, .int .i64 nn] 38)) := ⟨_, rfl⟩
  have Xo : Hid (B6q W0 (w.heap.size) (.int .i64 12) (.bool sx) (.slice px nx cx) (.bool sy) (.slice py ny cy) (.int .i64 nn)) := by rw [hW0]; exact ⟨by go_simp, by go_simp, by go_simp, by go_simp, by go_simp, by go_simp, by go_simp, by go_simp, by go_simp, by go_simp, by go_simp, by go_simp⟩
  have hb0 : Below w.heap.size w W0 := by rw [hW0]; exact below1 w _
  rw [← hW0]
  clear hW0
  have hbw : Below w.heap.size w w := Below.refl _ _
  obtain ⟨go, hgo⟩ : ∃ g, g = w.heap.size := ⟨_, rfl⟩
  have HGo : Hid (w.heap.size ≤ go) := by rw [hgo]; show _ ≤ _; omega
  rw [← hgo] at Xo
  try rw [← hgo]
  clear hgo
  replace H : Hid _ := H.out.below hb0
  replace K : Hid _ := K.out.below hb0
  replace hbw := Below.on hbw hb0
  clear hb0
  refine (doc4_12 sx sy nn H.out K.out HB.out.1 HB.out.2.1 HB.out.2.2.1 HB.out.2.2.2).mono ?_
  rintro e v1 ⟨s1, p1, m1, c1, u1, er1, rfl, hA1, hD1, hb1⟩
  replace Xo : Hid _ := Xo.out.below hb1
  replace H : Hid _ := H.out.below hb1
  replace K : Hid _ := K.out.below hb1
  replace hbw := Below.on hbw hb1
  clear hb1
  have A1 : Hid (At v1 p1 m1 c1 u1) := hA1.1
  have D1 : Hid (ShiftZ rCs sx xx nn s1 u1 er1) := hD1
  clear hA1 hD1
  obtain ⟨co0, co1, co2, co3, co4, co5, fo0, fo1, fo2, fo3, fo4, fo5⟩ := Xo.out
  have hneo : go < v1.heap.size := World.block_lt_of_cell? v1 _ co0
  go_wp2_with fail
  clear co0 co1 co2 co3 co4 co5 fo0 fo1 fo2 fo3 fo4 fo5 hneo
  have Xy0 : Hid (Box (v1.alloc (.cells #[.bool s1, .slice p1 m1 c1] 28)) v1.heap.size (.bool s1) (.slice p1 m1 c1)) := Box.new v1 _ _ _
  have hbn : Below v1.heap.size v1 (v1.alloc (.cells #[.bool s1, .slice p1 m1 c1] 28)) := below1 v1 _
  generalize v1.alloc (.cells #[.bool s1, .slice p1 m1 c1] 28) = Wy at *
  have HGy : Hid (w.heap.size ≤ v1.heap.size) := hbw.size
  replace Xo : Hid _ := Xo.out.below hbn
  replace H : Hid _ := H.out.below hbn
  replace K : Hid _ := K.out.below hbn
  replace A1 : Hid _ := A1.out.below hbn
  replace hbw := Below.on hbw hbn
  clear hbn
  generalize v1.heap.size = gy at *
  have Xy := Xy0
  clear Xy0
  obtain ⟨W1, hW1⟩ : ∃ W1, W1 = Wy.drew := ⟨_, rfl⟩
  have hbd : Below Wy.heap.size Wy W1 := by rw [hW1]; exact bDrew1 (Below.refl _ _)
  replace Xo : Hid _ := Xo.out.below hbd
  replace Xy : Hid _ := Xy.out.below hbd
  replace H : Hid _ := H.out.below hbd
  replace K : Hid _ := K.out.below hbd
  replace A1 : Hid _ := A1.out.below hbd
  replace hbw := Below.on hbw hbd
  clear hbd
  have HJ : Hid ((fun W' : World => W'.cell? ⟨go, 0, none⟩ = some (.int .i64 12) ∧ W'.cell? ⟨go, 1, none⟩ = some (.bool sx) ∧ W'.cell? ⟨go, 2, none⟩ = some (.slice px nx cx) ∧ W'.cell? ⟨go, 3, none⟩ = some (.bool sy) ∧ W'.cell? ⟨go, 4, none⟩ = some (.slice py ny cy) ∧ W'.cell? ⟨go, 5, none⟩ = some (.int .i64 nn)) W1) := ⟨Xo.out.c0, Xo.out.c1, Xo.out.c2, Xo.out.c3, Xo.out.c4, Xo.out.c5⟩
  refine wp_region_J (fun W' => W'.cell? ⟨go, 0, none⟩ = some (.int .i64 12) ∧ W'.cell? ⟨go, 1, none⟩ = some (.bool sx) ∧ W'.cell? ⟨go, 2, none⟩ = some (.slice px nx cx) ∧ W'.cell? ⟨go, 3, none⟩ = some (.bool sy) ∧ W'.cell? ⟨go, 4, none⟩ = some (.slice py ny cy) ∧ W'.cell? ⟨go, 5, none⟩ = some (.int .i64 nn)) (by kernel_rfl) ?_
  rw [← hW1]
  clear hW1
  refine wpJ_take (i := 0) (v := ?v1x0) rfl (by kernel_rfl) (by kernel_rfl) (by kernel_rfl) (fun _ _ _ h => h) (by kernel_rfl) ?hy1x0 HJ.out ?rest1x0
  case hy1x0 => (intro W' hJ; obtain ⟨j0, j1, j2, j3, j4, j5⟩ := hJ; go_simp; first | done | with_reducible rfl)
  refine wpJ_take (i := 1) (v := ?v2x1) rfl (by kernel_rfl) (by kernel_rfl) (by kernel_rfl) (fun _ _ _ h => h) (by kernel_rfl) ?hy2x1 HJ.out ?rest2x1
  case hy2x1 => (intro W' hJ; obtain ⟨j0, j1, j2, j3, j4, j5⟩ := hJ; go_simp; first | done | with_reducible rfl)
  refine wpJ_take (i := 2) (v := ?v3x2) rfl (by kernel_rfl) (by kernel_rfl) (by kernel_rfl) (fun _ _ _ h => h) (by kernel_rfl) ?hy3x2 HJ.out ?rest3x2
  case hy3x2 => (intro W' hJ; obtain ⟨j0, j1, j2, j3, j4, j5⟩ := hJ; go_simp; first | done | with_reducible rfl)
  refine wpJ_take (i := 3) (v := ?v4x3) rfl (by kernel_rfl) (by kernel_rfl) (by kernel_rfl) (fun _ _ _ h => h) (by kernel_rfl) ?hy4x3 HJ.out ?rest4x3
  case hy4x3 => (intro W' hJ; obtain ⟨j0, j1, j2, j3, j4, j5⟩ := hJ; go_simp; first | done | with_reducible rfl)
  refine wpJ_take (i := 5) (v := ?v5x5) rfl (by kernel_rfl) (by kernel_rfl) (by kernel_rfl) (fun _ _ _ h => h) (by kernel_rfl) ?hy5x5 HJ.out ?rest5x5
  case hy5x5 => (intro W' hJ; obtain ⟨j0, j1, j2, j3, j4, j5⟩ := hJ; go_simp; first | done | with_reducible rfl)
  refine wpJ_take (i := 6) (v := ?v6x6) rfl (by kernel_rfl) (by kernel_rfl) (by kernel_rfl) (fun _ _ _ h => h) (by kernel_rfl) ?hy6x6 HJ.out ?rest6x6
  case hy6x6 => (intro W' hJ; obtain ⟨j0, j1, j2, j3, j4, j5⟩ := hJ; go_simp; first | done | with_reducible rfl)
  refine wpJ_take (i := 8) (v := ?v7x8) rfl (by kernel_rfl) (by kernel_rfl) (by kernel_rfl) (fun _ _ _ h => h) (by kernel_rfl) ?hy7x8 HJ.out ?rest7x8
  case hy7x8 => (intro W' hJ; obtain ⟨j0, j1, j2, j3, j4, j5⟩ := hJ; go_simp; first | done | with_reducible rfl)
  refine wpJ_take (i := 9) (v := ?v8x9) rfl (by kernel_rfl) (by kernel_rfl) (by kernel_rfl) (fun _ _ _ h => h) (by kernel_rfl) ?hy8x9 HJ.out ?rest8x9
  case hy8x9 => (intro W' hJ; obtain ⟨j0, j1, j2, j3, j4, j5⟩ := hJ; go_simp; first | done | with_reducible rfl)
  refine wpJ_two (i := 4) (k := 15) (by kernel_rfl) rfl rfl (by kernel_rfl) (by kernel_rfl) (fun KJ hK => ?_) (fun KJ hK => ?_)
  · go_simp
    refine (twin4 sx H.out HB.out.1).mono ?_
    rintro e v2 ⟨p2, rfl, hA2, hb2⟩
    replace Xo : Hid _ := Xo.out.below hb2
    replace Xy : Hid _ := Xy.out.below hb2
    replace H : Hid _ := H.out.below hb2
    replace K : Hid _ := K.out.below hb2
    replace A1 : Hid _ := A1.out.below hb2
    replace hbw := Below.on hbw hb2
    clear hb2
    have T2 : Hid (At v2 p2 nx nx xx) := hA2
    clear hA2
    clear HJ
    have HJ : Hid ((fun W' : World => W'.cell? ⟨go, 0, none⟩ = some (.int .i64 12) ∧ W'.cell? ⟨go, 1, none⟩ = some (.bool sx) ∧ W'.cell? ⟨go, 2, none⟩ = some (.slice px nx cx) ∧ W'.cell? ⟨go, 3, none⟩ = some (.bool sy) ∧ W'.cell? ⟨go, 4, none⟩ = some (.slice py ny cy) ∧ W'.cell? ⟨go, 5, none⟩ = some (.int .i64 nn)) v2) := ⟨Xo.out.c0, Xo.out.c1, Xo.out.c2, Xo.out.c3, Xo.out.c4, Xo.out.c5⟩
    refine hK _ _ HJ.out ?_
    clear hK
    refine wpJ_two (i := 7) (k := 15) (by kernel_rfl) rfl rfl (by kernel_rfl) (by kernel_rfl) (fun KJ hK => ?_) (fun KJ hK => ?_)
    · go_simp
      refine (twin4 sy K.out HB.out.2.1).mono ?_
      rintro e v3 ⟨p3, rfl, hA3, hb3⟩
      replace Xo : Hid _ := Xo.out.below hb3
      replace Xy : Hid _ := Xy.out.below hb3
      replace H : Hid _ := H.out.below hb3
      replace K : Hid _ := K.out.below hb3
      replace A1 : Hid _ := A1.out.below hb3
      replace T2 : Hid _ := T2.out.below hb3
      replace hbw := Below.on hbw hb3
      clear hb3
      have T3 : Hid (At v3 p3 ny ny yy) := hA3
      clear hA3
      clear HJ
      have HJ : Hid ((fun W' : World => W'.cell? ⟨go, 0, none⟩ = some (.int .i64 12) ∧ W'.cell? ⟨go, 1, none⟩ = some (.bool sx) ∧ W'.cell? ⟨go, 2, none⟩ = some (.slice px nx cx) ∧ W'.cell? ⟨go, 3, none⟩ = some (.bool sy) ∧ W'.cell? ⟨go, 4, none⟩ = some (.slice py ny cy) ∧ W'.cell? ⟨go, 5, none⟩ = some (.int .i64 nn)) v3) := ⟨Xo.out.c0, Xo.out.c1, Xo.out.c2, Xo.out.c3, Xo.out.c4, Xo.out.c5⟩
      refine hK _ _ HJ.out ?_
      clear hK
      refine wpJ_take (i := 10) (v := ?v9x10) rfl (by kernel_rfl) (by kernel_rfl) (by kernel_rfl) (fun _ _ _ h => h) (by kernel_rfl) ?hy9x10 HJ.out ?rest9x10
      case hy9x10 => (intro W' hJ; obtain ⟨j0, j1, j2, j3, j4, j5⟩ := hJ; go_simp; first | done | with_reducible rfl)
      refine wpJ_two (i := 11) (k := 15) (by kernel_rfl) rfl rfl (by kernel_rfl) (by kernel_rfl) (fun KJ hK => ?_) (fun KJ hK => ?_)
      · go_simp
        refine (number4_12 sx sy nn T2.out T3.out HB.out.1 HB.out.2.1 HB.out.2.2.1 HB.out.2.2.2 (TB.out.below hbw)).mono ?_
        rintro e v4 ⟨s4, p4, m4, c4, u4, er4, rfl, hA4, hD4, hb4⟩
        replace Xo : Hid _ := Xo.out.below hb4
        replace Xy : Hid _ := Xy.out.below hb4
        replace H : Hid _ := H.out.below hb4
        replace K : Hid _ := K.out.below hb4
        replace A1 : Hid _ := A1.out.below hb4
        replace T2 : Hid _ := T2.out.below hb4
        replace T3 : Hid _ := T3.out.below hb4
        replace hbw := Below.on hbw hb4
        clear hb4
        have A4 : Hid (NewAt v3.heap.size v4 p4 m4 c4 u4) := hA4
        have D4 : Hid (ShiftZ rCs sx xx nn s4 u4 er4) := hD4
        clear hA4 hD4
        clear HJ
        have HJ : Hid ((fun W' : World => W'.cell? ⟨go, 0, none⟩ = some (.int .i64 12) ∧ W'.cell? ⟨go, 1, none⟩ = some (.bool sx) ∧ W'.cell? ⟨go, 2, none⟩ = some (.slice px nx cx) ∧ W'.cell? ⟨go, 3, none⟩ = some (.bool sy) ∧ W'.cell? ⟨go, 4, none⟩ = some (.slice py ny cy) ∧ W'.cell? ⟨go, 5, none⟩ = some (.int .i64 nn)) v4) := ⟨Xo.out.c0, Xo.out.c1, Xo.out.c2, Xo.out.c3, Xo.out.c4, Xo.out.c5⟩
        refine hK _ _ HJ.out ?_
        clear hK
        refine wpJ_take (i := 12) (v := ?v10x12) rfl (by kernel_rfl) (by kernel_rfl) (by kernel_rfl) (fun _ _ _ h => h) (by kernel_rfl) ?hy10x12 HJ.out ?rest10x12
        case hy10x12 => (intro W' hJ; obtain ⟨j0, j1, j2, j3, j4, j5⟩ := hJ; go_simp; first | done | with_reducible rfl)
        refine wpJ_take (i := 13) (v := ?v11x13) rfl (by kernel_rfl) (by kernel_rfl) (by kernel_rfl) (fun _ _ _ h => h) (by kernel_rfl) ?hy11x13 HJ.out ?rest11x13
        case hy11x13 => (intro W' hJ; obtain ⟨j0, j1, j2, j3, j4, j5⟩ := hJ; go_simp; first | done | with_reducible rfl)
        refine wpJ_take (i := 14) (v := ?v12x14) rfl (by kernel_rfl) (by kernel_rfl) (by kernel_rfl) (fun _ _ _ h => h) (by kernel_rfl) ?hy12x14 HJ.out ?rest12x14
        case hy12x14 => (intro W' hJ; obtain ⟨j0, j1, j2, j3, j4, j5⟩ := hJ; go_simp; first | done | with_reducible rfl)
        refine wpJ_one (i := 15) (by kernel_rfl) rfl (by kernel_rfl) (fun KJ hK => ?_)
        go_simp
        have HOX : Hid (go < v4.heap.size ∧ gy < v4.heap.size) := ⟨Xo.out.lt, Xy.out.lt⟩
        have HF1 : Hid (Off p1 m1 v4.heap.size) := A1.out.off_new
        have HF4 : Hid (Off p4 m4 v4.heap.size) := A4.out.1.off_new
        have Xx0 : Hid (Box (v4.alloc (.cells #[.bool false, .slice none 0 0] 28)) v4.heap.size (.bool false) (.slice none 0 0)) := Box.new v4 _ _ _
        have hbn : Below v4.heap.size v4 (v4.alloc (.cells #[.bool false, .slice none 0 0] 28)) := below1 v4 _
        generalize v4.alloc (.cells #[.bool false, .slice none 0 0] 28) = Wx at *
        have HGx : Hid (w.heap.size ≤ v4.heap.size) := hbw.size
        replace Xo : Hid _ := Xo.out.below hbn
        replace Xy : Hid _ := Xy.out.below hbn
        replace H : Hid _ := H.out.below hbn
        replace K : Hid _ := K.out.below hbn
        replace A1 : Hid _ := A1.out.below hbn
        replace T2 : Hid _ := T2.out.below hbn
        replace T3 : Hid _ := T3.out.below hbn
        replace A4 : Hid (NewAt v3.heap.size Wx p4 m4 c4 u4) := A4.out.below hbn
        replace hbw := Below.on hbw hbn
        clear hbn
        generalize v4.heap.size = gx at *
        have Xx := Xx0
        clear Xx0
        refine hK _ _ ⟨Xo.out.c0, Xo.out.c1, Xo.out.c2, Xo.out.c3, Xo.out.c4, Xo.out.c5⟩ ?_
        clear hK
        obtain ⟨cx0, cx1, fx0, fx1⟩ := Xx.out
        have hnex := Xx.out.lt
        obtain ⟨co0, co1, co2, co3, co4, co5, fo0, fo1, fo2, fo3, fo4, fo5⟩ := Xo.out
        have hneo : go < Wx.heap.size := World.block_lt_of_cell? Wx _ co0
        obtain ⟨cy0, cy1, fy0, fy1⟩ := Xy.out
        have hney := Xy.out.lt
        have hq1 : go ≠ gx := Nat.ne_of_lt HOX.out.1
        have hq2 : gx ≠ go := fun h => hq1 h.symm
        have hq3 : gy ≠ gx := Nat.ne_of_lt HOX.out.2
        have hq4 : gx ≠ gy := fun h => hq3 h.symm
        refine wpJ_one (i := 16) (by kernel_rfl) rfl (by kernel_rfl) (fun KJ hK => ?_)
        go_simp
        have HJ2 : Hid ((fun W' : World => W'.cell? ⟨go, 0, none⟩ = some (.int .i64 12) ∧ W'.cell? ⟨go, 1, none⟩ = some (.bool sx) ∧ W'.cell? ⟨go, 2, none⟩ = some (.slice px nx cx) ∧ W'.cell? ⟨go, 3, none⟩ = some (.bool sy) ∧ W'.cell? ⟨go, 4, none⟩ = some (.slice py ny cy) ∧ W'.cell? ⟨go, 5, none⟩ = some (.int .i64 nn)) ((Wx.setCell ⟨gx, 0, none⟩ (.bool s4)).setCell ⟨gx, 1, none⟩ (.slice p4 m4 c4))) := ⟨by go_simp, by go_simp, by go_simp, by go_simp, by go_simp, by go_simp⟩
        have Xx2 : Hid (Box ((Wx.setCell ⟨gx, 0, none⟩ (.bool s4)).setCell ⟨gx, 1, none⟩ (.slice p4 m4 c4)) gx (.bool s4) (.slice p4 m4 c4)) := ⟨by go_simp, by go_simp, by go_simp, by go_simp⟩
        have Xy2 : Hid (Box ((Wx.setCell ⟨gx, 0, none⟩ (.bool s4)).setCell ⟨gx, 1, none⟩ (.slice p4 m4 c4)) gy (.bool s1) (.slice p1 m1 c1)) := ⟨by go_simp, by go_simp, by go_simp, by go_simp⟩
        have A12 : Hid (At ((Wx.setCell ⟨gx, 0, none⟩ (.bool s4)).setCell ⟨gx, 1, none⟩ (.slice p4 m4 c4)) p1 m1 c1 u1) := (A1.out.setOff HF1.out _ _).setOff HF1.out _ _
        have A42 : Hid (At ((Wx.setCell ⟨gx, 0, none⟩ (.bool s4)).setCell ⟨gx, 1, none⟩ (.slice p4 m4 c4)) p4 m4 c4 u4) := (A4.out.1.setOff HF4.out _ _).setOff HF4.out _ _
        have hbw2 : Below w.heap.size w ((Wx.setCell ⟨gx, 0, none⟩ (.bool s4)).setCell ⟨gx, 1, none⟩ (.slice p4 m4 c4)) := bSet (bSet hbw _ _ _ HGx.out) _ _ _ HGx.out
        refine hK _ _ HJ2.out ?_
        clear hK HJ
        have HJ := HJ2
        clear HJ2 hbw Xx Xy Xo A1 A4 H K T2 T3
        clear cx0 cx1 fx0 fx1 hnex
        clear co0 co1 co2 co3 co4 co5 fo0 fo1 fo2 fo3 fo4 fo5 hneo
        clear cy0 cy1 fy0 fy1 hney
        clear hq1 hq2 hq3 hq4
        generalize ((Wx.setCell ⟨gx, 0, none⟩ (.bool s4)).setCell ⟨gx, 1, none⟩ (.slice p4 m4 c4)) = Wz at *
        have hbw := hbw2
        have Xx := Xx2
        have Xy := Xy2
        have A1 := A12
        have A4 := A42
        clear hbw2 Xx2 Xy2 A12 A42
        refine wpJ_take (i := 17) (v := ?v13x17) rfl (by kernel_rfl) (by kernel_rfl) (by kernel_rfl) (fun _ _ _ h => h) (by kernel_rfl) ?hy13x17 HJ.out ?rest13x17
        case hy13x17 => (intro W' hJ; obtain ⟨j0, j1, j2, j3, j4, j5⟩ := hJ; go_simp; first | done | with_reducible rfl)
        refine wpJ_done (by kernel_rfl) ?_ _
        clear HJ
        obtain ⟨cx0, cx1, fx0, fx1⟩ := Xx.out
        have hnex := Xx.out.lt
        obtain ⟨cy0, cy1, fy0, fy1⟩ := Xy.out
        have hney := Xy.out.lt
        go_wp2_with fail
        clear cx0 cx1 fx0 fx1 hnex
        clear cy0 cy1 fy0 fy1 hney
        obtain ⟨rfl, rfl, rfl⟩ := ShiftZ.inj D1.out D4.out
        refine (told4 s1 er1 A4.out A1.out).mono ?_
        rintro e v9 ⟨rfl, hb9⟩
        replace Xy : Hid _ := Xy.out.below hb9
        replace Xx : Hid _ := Xx.out.below hb9
        replace A1 : Hid _ := A1.out.below hb9
        replace A4 : Hid _ := A4.out.below hb9
        replace hbw := Below.on hbw hb9
        clear hb9
        go_wp2_with fail
        go_ret
        exact ⟨rfl, hbw⟩
      · go_simp
        have HOX : Hid (go < v3.heap.size ∧ gy < v3.heap.size) := ⟨Xo.out.lt, Xy.out.lt⟩
        have HF1 : Hid (Off p1 m1 v3.heap.size) := A1.out.off_new
        have Xx0 : Hid (Box (v3.alloc (.cells #[.bool false, .slice none 0 0] 28)) v3.heap.size (.bool false) (.slice none 0 0)) := Box.new v3 _ _ _
        have hbn : Below v3.heap.size v3 (v3.alloc (.cells #[.bool false, .slice none 0 0] 28)) := below1 v3 _
        generalize v3.alloc (.cells #[.bool false, .slice none 0 0] 28) = Wx at *
        have HGx : Hid (w.heap.size ≤ v3.heap.size) := hbw.size
        replace Xo : Hid _ := Xo.out.below hbn
        replace Xy : Hid _ := Xy.out.below hbn
        replace H : Hid _ := H.out.below hbn
        replace K : Hid _ := K.out.below hbn
        replace A1 : Hid _ := A1.out.below hbn
        replace T2 : Hid _ := T2.out.below hbn
        replace T3 : Hid _ := T3.out.below hbn
        replace hbw := Below.on hbw hbn
        clear hbn
        generalize v3.heap.size = gx at *
        have Xx := Xx0
        clear Xx0
        refine hK _ _ ⟨Xo.out.c0, Xo.out.c1, Xo.out.c2, Xo.out.c3, Xo.out.c4, Xo.out.c5⟩ ?_
        clear hK
        refine wpJ_one (i := 11) (by kernel_rfl) rfl (by kernel_rfl) (fun KJ hK => ?_)
        go_simp
        refine (number4_12 sx sy nn T2.out T3.out HB.out.1 HB.out.2.1 HB.out.2.2.1 HB.out.2.2.2 (TB.out.below hbw)).mono ?_
        rintro e v4 ⟨s4, p4, m4, c4, u4, er4, rfl, hA4, hD4, hb4⟩
        have HX4 : Hid (gx < Wx.heap.size) := Xx.out.lt
        replace Xo : Hid _ := Xo.out.below hb4
        replace Xy : Hid _ := Xy.out.below hb4
        replace Xx : Hid _ := Xx.out.below hb4
        replace H : Hid _ := H.out.below hb4
        replace K : Hid _ := K.out.below hb4
        replace A1 : Hid _ := A1.out.below hb4
        replace T2 : Hid _ := T2.out.below hb4
        replace T3 : Hid _ := T3.out.below hb4
        replace hbw := Below.on hbw hb4
        clear hb4
        have A4 : Hid (NewAt Wx.heap.size v4 p4 m4 c4 u4) := hA4
        have D4 : Hid (ShiftZ rCs sx xx nn s4 u4 er4) := hD4
        clear hA4 hD4
        have HF4 : Hid (Off p4 m4 gx) := A4.out.off HX4.out
        clear HJ
        have HJ : Hid ((fun W' : World => W'.cell? ⟨go, 0, none⟩ = some (.int .i64 12) ∧ W'.cell? ⟨go, 1, none⟩ = some (.bool sx) ∧ W'.cell? ⟨go, 2, none⟩ = some (.slice px nx cx) ∧ W'.cell? ⟨go, 3, none⟩ = some (.bool sy) ∧ W'.cell? ⟨go, 4, none⟩ = some (.slice py ny cy) ∧ W'.cell? ⟨go, 5, none⟩ = some (.int .i64 nn)) v4) := ⟨Xo.out.c0, Xo.out.c1, Xo.out.c2, Xo.out.c3, Xo.out.c4, Xo.out.c5⟩
        refine hK _ _ HJ.out ?_
        clear hK
        refine wpJ_take (i := 12) (v := ?v14x12) rfl (by kernel_rfl) (by kernel_rfl) (by kernel_rfl) (fun _ _ _ h => h) (by kernel_rfl) ?hy14x12 HJ.out ?rest14x12
        case hy14x12 => (intro W' hJ; obtain ⟨j0, j1, j2, j3, j4, j5⟩ := hJ; go_simp; first | done | with_reducible rfl)
        refine wpJ_take (i := 13) (v := ?v15x13) rfl (by kernel_rfl) (by kernel_rfl) (by kernel_rfl) (fun _ _ _ h => h) (by kernel_rfl) ?hy15x13 HJ.out ?rest15x13
        case hy15x13 => (intro W' hJ; obtain ⟨j0, j1, j2, j3, j4, j5⟩ := hJ; go_simp; first | done | with_reducible rfl)
        refine wpJ_take (i := 14) (v := ?v16x14) rfl (by kernel_rfl) (by kernel_rfl) (by kernel_rfl) (fun _ _ _ h => h) (by kernel_rfl) ?hy16x14 HJ.out ?rest16x14
        case hy16x14 => (intro W' hJ; obtain ⟨j0, j1, j2, j3, j4, j5⟩ := hJ; go_simp; first | done | with_reducible rfl)
        obtain ⟨cx0, cx1, fx0, fx1⟩ := Xx.out
        have hnex := Xx.out.lt
        obtain ⟨co0, co1, co2, co3, co4, co5, fo0, fo1, fo2, fo3, fo4, fo5⟩ := Xo.out
        have hneo : go < v4.heap.size := World.block_lt_of_cell? v4 _ co0
        obtain ⟨cy0, cy1, fy0, fy1⟩ := Xy.out
        have hney := Xy.out.lt
        have hq1 : go ≠ gx := Nat.ne_of_lt HOX.out.1
        have hq2 : gx ≠ go := fun h => hq1 h.symm
        have hq3 : gy ≠ gx := Nat.ne_of_lt HOX.out.2
        have hq4 : gx ≠ gy := fun h => hq3 h.symm
        refine wpJ_one (i := 16) (by kernel_rfl) rfl (by kernel_rfl) (fun KJ hK => ?_)
        go_simp
        have HJ2 : Hid ((fun W' : World => W'.cell? ⟨go, 0, none⟩ = some (.int .i64 12) ∧ W'.cell? ⟨go, 1, none⟩ = some (.bool sx) ∧ W'.cell? ⟨go, 2, none⟩ = some (.slice px nx cx) ∧ W'.cell? ⟨go, 3, none⟩ = some (.bool sy) ∧ W'.cell? ⟨go, 4, none⟩ = some (.slice py ny cy) ∧ W'.cell? ⟨go, 5, none⟩ = some (.int .i64 nn)) ((v4.setCell ⟨gx, 0, none⟩ (.bool s4)).setCell ⟨gx, 1, none⟩ (.slice p4 m4 c4))) := ⟨by go_simp, by go_simp, by go_simp, by go_simp, by go_simp, by go_simp⟩
        have Xx2 : Hid (Box ((v4.setCell ⟨gx, 0, none⟩ (.bool s4)).setCell ⟨gx, 1, none⟩ (.slice p4 m4 c4)) gx (.bool s4) (.slice p4 m4 c4)) := ⟨by go_simp, by go_simp, by go_simp, by go_simp⟩
        have Xy2 : Hid (Box ((v4.setCell ⟨gx, 0, none⟩ (.bool s4)).setCell ⟨gx, 1, none⟩ (.slice p4 m4 c4)) gy (.bool s1) (.slice p1 m1 c1)) := ⟨by go_simp, by go_simp, by go_simp, by go_simp⟩
        have A12 : Hid (At ((v4.setCell ⟨gx, 0, none⟩ (.bool s4)).setCell ⟨gx, 1, none⟩ (.slice p4 m4 c4)) p1 m1 c1 u1) := (A1.out.setOff HF1.out _ _).setOff HF1.out _ _
        have A42 : Hid (At ((v4.setCell ⟨gx, 0, none⟩ (.bool s4)).setCell ⟨gx, 1, none⟩ (.slice p4 m4 c4)) p4 m4 c4 u4) := (A4.out.1.setOff HF4.out _ _).setOff HF4.out _ _
        have hbw2 : Below w.heap.size w ((v4.setCell ⟨gx, 0, none⟩ (.bool s4)).setCell ⟨gx, 1, none⟩ (.slice p4 m4 c4)) := bSet (bSet hbw _ _ _ HGx.out) _ _ _ HGx.out
        refine hK _ _ HJ2.out ?_
        clear hK HJ
        have HJ := HJ2
        clear HJ2 hbw Xx Xy Xo A1 A4 H K T2 T3
        clear cx0 cx1 fx0 fx1 hnex
        clear co0 co1 co2 co3 co4 co5 fo0 fo1 fo2 fo3 fo4 fo5 hneo
        clear cy0 cy1 fy0 fy1 hney
        clear hq1 hq2 hq3 hq4
        generalize ((v4.setCell ⟨gx, 0, none⟩ (.bool s4)).setCell ⟨gx, 1, none⟩ (.slice p4 m4 c4)) = Wz at *
        have hbw := hbw2
        have Xx := Xx2
        have Xy := Xy2
        have A1 := A12
        have A4 := A42
        clear hbw2 Xx2 Xy2 A12 A42
        refine wpJ_take (i := 17) (v := ?v17x17) rfl (by kernel_rfl) (by kernel_rfl) (by kernel_rfl) (fun _ _ _ h => h) (by kernel_rfl) ?hy17x17 HJ.out ?rest17x17
        case hy17x17 => (intro W' hJ; obtain ⟨j0, j1, j2, j3, j4, j5⟩ := hJ; go_simp; first | done | with_reducible rfl)
        refine wpJ_done (by kernel_rfl) ?_ _
        clear HJ
        obtain ⟨cx0, cx1, fx0, fx1⟩ := Xx.out
        have hnex := Xx.out.lt
        obtain ⟨cy0, cy1, fy0, fy1⟩ := Xy.out
        have hney := Xy.out.lt
        go_wp2_with fail
        clear cx0 cx1 fx0 fx1 hnex
        clear cy0 cy1 fy0 fy1 hney
        obtain ⟨rfl, rfl, rfl⟩ := ShiftZ.inj D1.out D4.out
        refine (told4 s1 er1 A4.out A1.out).mono ?_
        rintro e v9 ⟨rfl, hb9⟩
        replace Xy : Hid _ := Xy.out.below hb9
        replace Xx : Hid _ := Xx.out.below hb9
        replace A1 : Hid _ := A1.out.below hb9
        replace A4 : Hid _ := A4.out.below hb9
        replace hbw := Below.on hbw hb9
        clear hb9
        go_wp2_with fail
        go_ret
        exact ⟨rfl, hbw⟩
    · go_simp
      have HOX : Hid (go < v2.heap.size ∧ gy < v2.heap.size) := ⟨Xo.out.lt, Xy.out.lt⟩
      have HF1 : Hid (Off p1 m1 v2.heap.size) := A1.out.off_new
      have Xx0 : Hid (Box (v2.alloc (.cells #[.bool false, .slice none 0 0] 28)) v2.heap.size (.bool false) (.slice none 0 0)) := Box.new v2 _ _ _
      have hbn : Below v2.heap.size v2 (v2.alloc (.cells #[.bool false, .slice none 0 0] 28)) := below1 v2 _
      generalize v2.alloc (.cells #[.bool false, .slice none 0 0] 28) = Wx at *
      have HGx : Hid (w.heap.size ≤ v2.heap.size) := hbw.size
      replace Xo : Hid _ := Xo.out.below hbn
      replace Xy : Hid _ := Xy.out.below hbn
      replace H : Hid _ := H.out.below hbn
      replace K : Hid _ := K.out.below hbn
      replace A1 : Hid _ := A1.out.below hbn
      replace T2 : Hid _ := T2.out.below hbn
      replace hbw := Below.on hbw hbn
      clear hbn
      generalize v2.heap.size = gx at *
      have Xx := Xx0
      clear Xx0
      refine hK _ _ ⟨Xo.out.c0, Xo.out.c1, Xo.out.c2, Xo.out.c3, Xo.out.c4, Xo.out.c5⟩ ?_
      clear hK
      refine wpJ_one (i := 7) (by kernel_rfl) rfl (by kernel_rfl) (fun KJ hK => ?_)
      go_simp
      refine (twin4 sy K.out HB.out.2.1).mono ?_
      rintro e v3 ⟨p3, rfl, hA3, hb3⟩
      replace Xo : Hid _ := Xo.out.below hb3
      replace Xy : Hid _ := Xy.out.below hb3
      replace Xx : Hid _ := Xx.out.below hb3
      replace H : Hid _ := H.out.below hb3
      replace K : Hid _ := K.out.below hb3
      replace A1 : Hid _ := A1.out.below hb3
      replace T2 : Hid _ := T2.out.below hb3
      replace hbw := Below.on hbw hb3
      clear hb3
      have T3 : Hid (At v3 p3 ny ny yy) := hA3
      clear hA3
      clear HJ
      have HJ : Hid ((fun W' : World => W'.cell? ⟨go, 0, none⟩ = some (.int .i64 12) ∧ W'.cell? ⟨go, 1, none⟩ = some (.bool sx) ∧ W'.cell? ⟨go, 2, none⟩ = some (.slice px nx cx) ∧ W'.cell? ⟨go, 3, none⟩ = some (.bool sy) ∧ W'.cell? ⟨go, 4, none⟩ = some (.slice py ny cy) ∧ W'.cell? ⟨go, 5, none⟩ = some (.int .i64 nn)) v3) := ⟨Xo.out.c0, Xo.out.c1, Xo.out.c2, Xo.out.c3, Xo.out.c4, Xo.out.c5⟩
      refine hK _ _ HJ.out ?_
      clear hK
      refine wpJ_take (i := 10) (v := ?v18x10) rfl (by kernel_rfl) (by kernel_rfl) (by kernel_rfl) (fun _ _ _ h => h) (by kernel_rfl) ?hy18x10 HJ.out ?rest18x10
      case hy18x10 => (intro W' hJ; obtain ⟨j0, j1, j2, j3, j4, j5⟩ := hJ; go_simp; first | done | with_reducible rfl)
      refine wpJ_one (i := 11) (by kernel_rfl) rfl (by kernel_rfl) (fun KJ hK => ?_)
      go_simp
      refine (number4_12 sx sy nn T2.out T3.out HB.out.1 HB.out.2.1 HB.out.2.2.1 HB.out.2.2.2 (TB.out.below hbw)).mono ?_
      rintro e v4 ⟨s4, p4, m4, c4, u4, er4, rfl, hA4, hD4, hb4⟩
      have HX4 : Hid (gx < v3.heap.size) := Xx.out.lt
      replace Xo : Hid _ := Xo.out.below hb4
      replace Xy : Hid _ := Xy.out.below hb4
      replace Xx : Hid _ := Xx.out.below hb4
      replace H : Hid _ := H.out.below hb4
      replace K : Hid _ := K.out.below hb4
      replace A1 : Hid _ := A1.out.below hb4
      replace T2 : Hid _ := T2.out.below hb4
      replace T3 : Hid _ := T3.out.below hb4
      replace hbw := Below.on hbw hb4
      clear hb4
      have A4 : Hid (NewAt v3.heap.size v4 p4 m4 c4 u4) := hA4
      have D4 : Hid (ShiftZ rCs sx xx nn s4 u4 er4) := hD4
      clear hA4 hD4
      have HF4 : Hid (Off p4 m4 gx) := A4.out.off HX4.out
      clear HJ
      have HJ : Hid ((fun W' : World => W'.cell? ⟨go, 0, none⟩ = some (.int .i64 12) ∧ W'.cell? ⟨go, 1, none⟩ = some (.bool sx) ∧ W'.cell? ⟨go, 2, none⟩ = some (.slice px nx cx) ∧ W'.cell? ⟨go, 3, none⟩ = some (.bool sy) ∧ W'.cell? ⟨go, 4, none⟩ = some (.slice py ny cy) ∧ W'.cell? ⟨go, 5, none⟩ = some (.int .i64 nn)) v4) := ⟨Xo.out.c0, Xo.out.c1, Xo.out.c2, Xo.out.c3, Xo.out.c4, Xo.out.c5⟩
      refine hK _ _ HJ.out ?_
      clear hK
      refine wpJ_take (i := 12) (v := ?v19x12) rfl (by kernel_rfl) (by kernel_rfl) (by kernel_rfl) (fun _ _ _ h => h) (by kernel_rfl) ?hy19x12 HJ.out ?rest19x12
      case hy19x12 => (intro W' hJ; obtain ⟨j0, j1, j2, j3, j4, j5⟩ := hJ; go_simp; first | done | with_reducible rfl)
      refine wpJ_take (i := 13) (v := ?v20x13) rfl (by kernel_rfl) (by kernel_rfl) (by kernel_rfl) (fun _ _ _ h => h) (by kernel_rfl) ?hy20x13 HJ.out ?rest20x13
      case hy20x13 => (intro W' hJ; obtain ⟨j0, j1, j2, j3, j4, j5⟩ := hJ; go_simp; first | done | with_reducible rfl)
      refine wpJ_take (i := 14) (v := ?v21x14) rfl (by kernel_rfl) (by kernel_rfl) (by kernel_rfl) (fun _ _ _ h => h) (by kernel_rfl) ?hy21x14 HJ.out ?rest21x14
      case hy21x14 => (intro W' hJ; obtain ⟨j0, j1, j2, j3, j4, j5⟩ := hJ; go_simp; first | done | with_reducible rfl)
      obtain ⟨cx0, cx1, fx0, fx1⟩ := Xx.out
      have hnex := Xx.out.lt
      obtain ⟨co0, co1, co2, co3, co4, co5, fo0, fo1, fo2, fo3, fo4, fo5⟩ := Xo.out
      have hneo : go < v4.heap.size := World.block_lt_of_cell? v4 _ co0
      obtain ⟨cy0, cy1, fy0, fy1⟩ := Xy.out
      have hney := Xy.out.lt
      have hq1 : go ≠ gx := Nat.ne_of_lt HOX.out.1
      have hq2 : gx ≠ go := fun h => hq1 h.symm
      have hq3 : gy ≠ gx := Nat.ne_of_lt HOX.out.2
      have hq4 : gx ≠ gy := fun h => hq3 h.symm
      refine wpJ_one (i := 16) (by kernel_rfl) rfl (by kernel_rfl) (fun KJ hK => ?_)
      go_simp
      have HJ2 : Hid ((fun W' : World => W'.cell? ⟨go, 0, none⟩ = some (.int .i64 12) ∧ W'.cell? ⟨go, 1, none⟩ = some (.bool sx) ∧ W'.cell? ⟨go, 2, none⟩ = some (.slice px nx cx) ∧ W'.cell? ⟨go, 3, none⟩ = some (.bool sy) ∧ W'.cell? ⟨go, 4, none⟩ = some (.slice py ny cy) ∧ W'.cell? ⟨go, 5, none⟩ = some (.int .i64 nn)) ((v4.setCell ⟨gx, 0, none⟩ (.bool s4)).setCell ⟨gx, 1, none⟩ (.slice p4 m4 c4))) := ⟨by go_simp, by go_simp, by go_simp, by go_simp, by go_simp, by go_simp⟩
      have Xx2 : Hid (Box ((v4.setCell ⟨gx, 0, none⟩ (.bool s4)).setCell ⟨gx, 1, none⟩ (.slice p4 m4 c4)) gx (.bool s4) (.slice p4 m4 c4)) := ⟨by go_simp, by go_simp, by go_simp, by go_simp⟩
      have Xy2 : Hid (Box ((v4.setCell ⟨gx, 0, none⟩ (.bool s4)).setCell ⟨gx, 1, none⟩ (.slice p4 m4 c4)) gy (.bool s1) (.slice p1 m1 c1)) := ⟨by go_simp, by go_simp, by go_simp, by go_simp⟩
      have A12 : Hid (At ((v4.setCell ⟨gx, 0, none⟩ (.bool s4)).setCell ⟨gx, 1, none⟩ (.slice p4 m4 c4)) p1 m1 c1 u1) := (A1.out.setOff HF1.out _ _).setOff HF1.out _ _
      have A42 : Hid (At ((v4.setCell ⟨gx, 0, none⟩ (.bool s4)).setCell ⟨gx, 1, none⟩ (.slice p4 m4 c4)) p4 m4 c4 u4) := (A4.out.1.setOff HF4.out _ _).setOff HF4.out _ _
      have hbw2 : Below w.heap.size w ((v4.setCell ⟨gx, 0, none⟩ (.bool s4)).setCell ⟨gx, 1, none⟩ (.slice p4 m4 c4)) := bSet (bSet hbw _ _ _ HGx.out) _ _ _ HGx.out
      refine hK _ _ HJ2.out ?_
      clear hK HJ
      have HJ := HJ2
      clear HJ2 hbw Xx Xy Xo A1 A4 H K T2 T3
      clear cx0 cx1 fx0 fx1 hnex
      clear co0 co1 co2 co3 co4 co5 fo0 fo1 fo2 fo3 fo4 fo5 hneo
      clear cy0 cy1 fy0 fy1 hney
      clear hq1 hq2 hq3 hq4
      generalize ((v4.setCell ⟨gx, 0, none⟩ (.bool s4)).setCell ⟨gx, 1, none⟩ (.slice p4 m4 c4)) = Wz at *
      have hbw := hbw2
      have Xx := Xx2
      have Xy := Xy2
      have A1 := A12
      have A4 := A42
      clear hbw2 Xx2 Xy2 A12 A42
      refine wpJ_take (i := 17) (v := ?v22x17) rfl (by kernel_rfl) (by kernel_rfl) (by kernel_rfl) (fun _ _ _ h => h) (by kernel_rfl) ?hy22x17 HJ.out ?rest22x17
      case hy22x17 => (intro W' hJ; obtain ⟨j0, j1, j2, j3, j4, j5⟩ := hJ; go_simp; first | done | with_reducible rfl)
      refine wpJ_done (by kernel_rfl) ?_ _
      clear HJ
      obtain ⟨cx0, cx1, fx0, fx1⟩ := Xx.out
      have hnex := Xx.out.lt
      obtain ⟨cy0, cy1, fy0, fy1⟩ := Xy.out
      have hney := Xy.out.lt
      go_wp2_with fail
      clear cx0 cx1 fx0 fx1 hnex
      clear cy0 cy1 fy0 fy1 hney
      obtain ⟨rfl, rfl, rfl⟩ := ShiftZ.inj D1.out D4.out
      refine (told4 s1 er1 A4.out A1.out).mono ?_
      rintro e v9 ⟨rfl, hb9⟩
      replace Xy : Hid _ := Xy.out.below hb9
      replace Xx : Hid _ := Xx.out.below hb9
      replace A1 : Hid _ := A1.out.below hb9
      replace A4 : Hid _ := A4.out.below hb9
      replace hbw := Below.on hbw hb9
      clear hb9
      go_wp2_with fail
      go_ret
      exact ⟨rfl, hbw⟩
  · go_simp
    have HOX : Hid (go < W1.heap.size ∧ gy < W1.heap.size) := ⟨Xo.out.lt, Xy.out.lt⟩
    have HF1 : Hid (Off p1 m1 W1.heap.size) := A1.out.off_new
    have Xx0 : Hid (Box (W1.alloc (.cells #[.bool false, .slice none 0 0] 28)) W1.heap.size (.bool false) (.slice none 0 0)) := Box.new W1 _ _ _
    have hbn : Below W1.heap.size W1 (W1.alloc (.cells #[.bool false, .slice none 0 0] 28)) := below1 W1 _
    generalize W1.alloc (.cells #[.bool false, .slice none 0 0] 28) = Wx at *
    have HGx : Hid (w.heap.size ≤ W1.heap.size) := hbw.size
    replace Xo : Hid _ := Xo.out.below hbn
    replace Xy : Hid _ := Xy.out.below hbn
    replace H : Hid _ := H.out.below hbn
    replace K : Hid _ := K.out.below hbn
    replace A1 : Hid _ := A1.out.below hbn
    replace hbw := Below.on hbw hbn
    clear hbn
    generalize W1.heap.size = gx at *
    have Xx := Xx0
    clear Xx0
    refine hK _ _ ⟨Xo.out.c0, Xo.out.c1, Xo.out.c2, Xo.out.c3, Xo.out.c4, Xo.out.c5⟩ ?_
    clear hK
    refine wpJ_one (i := 4) (by kernel_rfl) rfl (by kernel_rfl) (fun KJ hK => ?_)
    go_simp
    refine (twin4 sx H.out HB.out.1).mono ?_
    rintro e v2 ⟨p2, rfl, hA2, hb2⟩
    replace Xo : Hid _ := Xo.out.below hb2
    replace Xy : Hid _ := Xy.out.below hb2
    replace Xx : Hid _ := Xx.out.below hb2
    replace H : Hid _ := H.out.below hb2
    replace K : Hid _ := K.out.below hb2
    replace A1 : Hid _ := A1.out.below hb2
    replace hbw := Below.on hbw hb2
    clear hb2
    have T2 : Hid (At v2 p2 nx nx xx) := hA2
    clear hA2
    refine hK _ _ ⟨Xo.out.c0, Xo.out.c1, Xo.out.c2, Xo.out.c3, Xo.out.c4, Xo.out.c5⟩ ?_
    clear hK
    refine wpJ_one (i := 7) (by kernel_rfl) rfl (by kernel_rfl) (fun KJ hK => ?_)
    go_simp
    refine (twin4 sy K.out HB.out.2.1).mono ?_
    rintro e v3 ⟨p3, rfl, hA3, hb3⟩
    replace Xo : Hid _ := Xo.out.below hb3
    replace Xy : Hid _ := Xy.out.below hb3
    replace Xx : Hid _ := Xx.out.below hb3
    replace H : Hid _ := H.out.below hb3
    replace K : Hid _ := K.out.below hb3
    replace A1 : Hid _ := A1.out.below hb3
    replace T2 : Hid _ := T2.out.below hb3
    replace hbw := Below.on hbw hb3
    clear hb3
    have T3 : Hid (At v3 p3 ny ny yy) := hA3
    clear hA3
    clear HJ
    have HJ : Hid ((fun W' : World => W'.cell? ⟨go, 0, none⟩ = some (.int .i64 12) ∧ W'.cell? ⟨go, 1, none⟩ = some (.bool sx) ∧ W'.cell? ⟨go, 2, none⟩ = some (.slice px nx cx) ∧ W'.cell? ⟨go, 3, none⟩ = some (.bool sy) ∧ W'.cell? ⟨go, 4, none⟩ = some (.slice py ny cy) ∧ W'.cell? ⟨go, 5, none⟩ = some (.int .i64 nn)) v3) := ⟨Xo.out.c0, Xo.out.c1, Xo.out.c2, Xo.out.c3, Xo.out.c4, Xo.out.c5⟩
    refine hK _ _ HJ.out ?_
    clear hK
    refine wpJ_take (i := 10) (v := ?v23x10) rfl (by kernel_rfl) (by kernel_rfl) (by kernel_rfl) (fun _ _ _ h => h) (by kernel_rfl) ?hy23x10 HJ.out ?rest23x10
    case hy23x10 => (intro W' hJ; obtain ⟨j0, j1, j2, j3, j4, j5⟩ := hJ; go_simp; first | done | with_reducible rfl)
    refine wpJ_one (i := 11) (by kernel_rfl) rfl (by kernel_rfl) (fun KJ hK => ?_)
    go_simp
    refine (number4_12 sx sy nn T2.out T3.out HB.out.1 HB.out.2.1 HB.out.2.2.1 HB.out.2.2.2 (TB.out.below hbw)).mono ?_
    rintro e v4 ⟨s4, p4, m4, c4, u4, er4, rfl, hA4, hD4, hb4⟩
    have HX4 : Hid (gx < v3.heap.size) := Xx.out.lt
    replace Xo : Hid _ := Xo.out.below hb4
    replace Xy : Hid _ := Xy.out.below hb4
    replace Xx : Hid _ := Xx.out.below hb4
    replace H : Hid _ := H.out.below hb4
    replace K : Hid _ := K.out.below hb4
    replace A1 : Hid _ := A1.out.below hb4
    replace T2 : Hid _ := T2.out.below hb4
    replace T3 : Hid _ := T3.out.below hb4
    replace hbw := Below.on hbw hb4
    clear hb4
    have A4 : Hid (NewAt v3.heap.size v4 p4 m4 c4 u4) := hA4
    have D4 : Hid (ShiftZ rCs sx xx nn s4 u4 er4) := hD4
    clear hA4 hD4
    have HF4 : Hid (Off p4 m4 gx) := A4.out.off HX4.out
    clear HJ
    have HJ : Hid ((fun W' : World => W'.cell? ⟨go, 0, none⟩ = some (.int .i64 12) ∧ W'.cell? ⟨go, 1, none⟩ = some (.bool sx) ∧ W'.cell? ⟨go, 2, none⟩ = some (.slice px nx cx) ∧ W'.cell? ⟨go, 3, none⟩ = some (.bool sy) ∧ W'.cell? ⟨go, 4, none⟩ = some (.slice py ny cy) ∧ W'.cell? ⟨go, 5, none⟩ = some (.int .i64 nn)) v4) := ⟨Xo.out.c0, Xo.out.c1, Xo.out.c2, Xo.out.c3, Xo.out.c4, Xo.out.c5⟩
    refine hK _ _ HJ.out ?_
    clear hK
    refine wpJ_take (i := 12) (v := ?v24x12) rfl (by kernel_rfl) (by kernel_rfl) (by kernel_rfl) (fun _ _ _ h => h) (by kernel_rfl) ?hy24x12 HJ.out ?rest24x12
    case hy24x12 => (intro W' hJ; obtain ⟨j0, j1, j2, j3, j4, j5⟩ := hJ; go_simp; first | done | with_reducible rfl)
    refine wpJ_take (i := 13) (v := ?v25x13) rfl (by kernel_rfl) (by kernel_rfl) (by kernel_rfl) (fun _ _ _ h => h) (by kernel_rfl) ?hy25x13 HJ.out ?rest25x13
    case hy25x13 => (intro W' hJ; obtain ⟨j0, j1, j2, j3, j4, j5⟩ := hJ; go_simp; first | done | with_reducible rfl)
    refine wpJ_take (i := 14) (v := ?v26x14) rfl (by kernel_rfl) (by kernel_rfl) (by kernel_rfl) (fun _ _ _ h => h) (by kernel_rfl) ?hy26x14 HJ.out ?rest26x14
    case hy26x14 => (intro W' hJ; obtain ⟨j0, j1, j2, j3, j4, j5⟩ := hJ; go_simp; first | done | with_reducible rfl)
    obtain ⟨cx0, cx1, fx0, fx1⟩ := Xx.out
    have hnex := Xx.out.lt
    obtain ⟨co0, co1, co2, co3, co4, co5, fo0, fo1, fo2, fo3, fo4, fo5⟩ := Xo.out
    have hneo : go < v4.heap.size := World.block_lt_of_cell? v4 _ co0
    obtain ⟨cy0, cy1, fy0, fy1⟩ := Xy.out
    have hney := Xy.out.lt
    have hq1 : go ≠ gx := Nat.ne_of_lt HOX.out.1
    have hq2 : gx ≠ go := fun h => hq1 h.symm
    have hq3 : gy ≠ gx := Nat.ne_of_lt HOX.out.2
    have hq4 : gx ≠ gy := fun h => hq3 h.symm
    refine wpJ_one (i := 16) (by kernel_rfl) rfl (by kernel_rfl) (fun KJ hK => ?_)
    go_simp
    have HJ2 : Hid ((fun W' : World => W'.cell? ⟨go, 0, none⟩ = some (.int .i64 12) ∧ W'.cell? ⟨go, 1, none⟩ = some (.bool sx) ∧ W'.cell? ⟨go, 2, none⟩ = some (.slice px nx cx) ∧ W'.cell? ⟨go, 3, none⟩ = some (.bool sy) ∧ W'.cell? ⟨go, 4, none⟩ = some (.slice py ny cy) ∧ W'.cell? ⟨go, 5, none⟩ = some (.int .i64 nn)) ((v4.setCell ⟨gx, 0, none⟩ (.bool s4)).setCell ⟨gx, 1, none⟩ (.slice p4 m4 c4))) := ⟨by go_simp, by go_simp, by go_simp, by go_simp, by go_simp, by go_simp⟩
    have Xx2 : Hid (Box ((v4.setCell ⟨gx, 0, none⟩ (.bool s4)).setCell ⟨gx, 1, none⟩ (.slice p4 m4 c4)) gx (.bool s4) (.slice p4 m4 c4)) := ⟨by go_simp, by go_simp, by go_simp, by go_simp⟩
    have Xy2 : Hid (Box ((v4.setCell ⟨gx, 0, none⟩ (.bool s4)).setCell ⟨gx, 1, none⟩ (.slice p4 m4 c4)) gy (.bool s1) (.slice p1 m1 c1)) := ⟨by go_simp, by go_simp, by go_simp, by go_simp⟩
    have A12 : Hid (At ((v4.setCell ⟨gx, 0, none⟩ (.bool s4)).setCell ⟨gx, 1, none⟩ (.slice p4 m4 c4)) p1 m1 c1 u1) := (A1.out.setOff HF1.out _ _).setOff HF1.out _ _
    have A42 : Hid (At ((v4.setCell ⟨gx, 0, none⟩ (.bool s4)).setCell ⟨gx, 1, none⟩ (.slice p4 m4 c4)) p4 m4 c4 u4) := (A4.out.1.setOff HF4.out _ _).setOff HF4.out _ _
    have hbw2 : Below w.heap.size w ((v4.setCell ⟨gx, 0, none⟩ (.bool s4)).setCell ⟨gx, 1, none⟩ (.slice p4 m4 c4)) := bSet (bSet hbw _ _ _ HGx.out) _ _ _ HGx.out
    refine hK _ _ HJ2.out ?_
    clear hK HJ
    have HJ := HJ2
    clear HJ2 hbw Xx Xy Xo A1 A4 H K T2 T3
    clear cx0 cx1 fx0 fx1 hnex
    clear co0 co1 co2 co3 co4 co5 fo0 fo1 fo2 fo3 fo4 fo5 hneo
    clear cy0 cy1 fy0 fy1 hney
    clear hq1 hq2 hq3 hq4
    generalize ((v4.setCell ⟨gx, 0, none⟩ (.bool s4)).setCell ⟨gx, 1, none⟩ (.slice p4 m4 c4)) = Wz at *
    have hbw := hbw2
    have Xx := Xx2
    have Xy := Xy2
    have A1 := A12
    have A4 := A42
    clear hbw2 Xx2 Xy2 A12 A42
    refine wpJ_take (i := 17) (v := ?v27x17) rfl (by kernel_rfl) (by kernel_rfl) (by kernel_rfl) (fun _ _ _ h => h) (by kernel_rfl) ?hy27x17 HJ.out ?rest27x17
    case hy27x17 => (intro W' hJ; obtain ⟨j0, j1, j2, j3, j4, j5⟩ := hJ; go_simp; first | done | with_reducible rfl)
    refine wpJ_done (by kernel_rfl) ?_ _
    clear HJ
    obtain ⟨cx0, cx1, fx0, fx1⟩ := Xx.out
    have hnex := Xx.out.lt
    obtain ⟨cy0, cy1, fy0, fy1⟩ := Xy.out
    have hney := Xy.out.lt
    go_wp2_with fail
    clear cx0 cx1 fx0 fx1 hnex
    clear cy0 cy1 fy0 fy1 hney
    obtain ⟨rfl, rfl, rfl⟩ := ShiftZ.inj D1.out D4.out
    refine (told4 s1 er1 A4.out A1.out).mono ?_
    rintro e v9 ⟨rfl, hb9⟩
    replace Xy : Hid _ := Xy.out.below hb9
    replace Xx : Hid _ := Xx.out.below hb9
    replace A1 : Hid _ := A1.out.below hb9
    replace A4 : Hid _ := A4.out.below hb9
    replace hbw := Below.on hbw hb9
    clear hb9
    go_wp2_with fail
    go_ret
    exact ⟨rfl, hbw⟩
end Go.Proofs.YtgodajcnhipleaaGreatDoor

namespace Go.Proofs.YtgodajcnhipleaaGreatDoor
open Go.RowKit Go.Shelf

set_option maxRecDepth 20000 in
set_option maxHeartbeats 8000000 in
theorem plays4_13 {px py : Option Addr} {nx cx ny cy : Nat} {xx yy : List Nat} {w : World} (sx sy : Bool) (nn : Int) (h : At w px nx cx xx) (k : At w py ny cy yy) (hx : nx ≤ 17592186044416) (hy : ny ≤ 17592186044416) (hn0 : -9223372036854775808 ≤ nn) (hn1 : nn ≤ 9223372036854775807) (hT : Tab w) :
    Calls Tryz.prog 16 #[.agg #[.int .i64 13, .bool sx, .slice px nx cx, .bool sy, .slice py ny cy, .int .i64 nn]] w fun e w' => e = .returned (.bool true) ∧ Below w.heap.size w w' := by
  have H : Hid (At w px nx cx xx) := h
  have K : Hid (At w py ny cy yy) := k
  have HB : Hid (nx ≤ 17592186044416 ∧ ny ≤ 17592186044416 ∧ -9223372036854775808 ≤ nn ∧ nn ≤ 9223372036854775807) := ⟨hx, hy, hn0, hn1⟩
  clear h k hx hy hn0 hn1
  have TB : Hid (Tab w) := hT
  clear hT
  go_enter Tryz.func16, Tryz.ntmps16
  go_wp2_with fail
  obtain ⟨W0, hW0⟩ : ∃ W0, W0 = (w.alloc (.cells #[.int .i64 13, .bool sx, .slice px nx cx, .bool sy, .slice py ny cy, .int .i64 nn] 38)) := ⟨_, rfl⟩
  have Xo : Hid (B6q W0 (w.heap.size) (.int .i64 13) (.bool sx) (.slice px nx cx) (.bool sy) (.slice py ny cy) (.int .i64 nn)) := by rw [hW0]; exact ⟨by go_simp, by go_simp, by go_simp, by go_simp, by go_simp, by go_simp, by go_simp, by go_simp, by go_simp, by go_simp, by go_simp, by go_simp⟩
  have hb0 : Below w.heap.size w W0 := by rw [hW0]; exact below1 w _
  rw [← hW0]
  clear hW0
  have hbw : Below w.heap.size w w := Below.refl _ _
  obtain ⟨go, hgo⟩ : ∃ g, g = w.heap.size := ⟨_, rfl⟩
  have HGo : Hid (w.heap.size ≤ go) := by rw [hgo]; show _ ≤ _; omega
  rw [← hgo] at Xo
  try rw [← hgo]
  clear hgo
  replace H : Hid _ := H.out.below hb0
  replace K : Hid _ := K.out.below hb0
  replace hbw := Below.on hbw hb0
  clear hb0
  refine (doc4_13 sx sy nn H.out K.out HB.out.1 HB.out.2.1 HB.out.2.2.1 HB.out.2.2.2).mono ?_
  rintro e v1 ⟨s1, p1, m1, c1, u1, er1, rfl, hA1, hD1, hb1⟩
  replace Xo : Hid _ := Xo.out.below hb1
  replace H : Hid _ := H.out.below hb1
  replace K : Hid _ := K.out.below hb1
  replace hbw := Below.on hbw hb1
  clear hb1
  have A1 : Hid (At v1 p1 m1 c1 u1) := hA1.1
  have D1 : Hid (ShiftZ rNs sx xx nn s1 u1 er1) := hD1
  clear hA1 hD1
  obtain ⟨co0, co1, co2, co3, co4, co5, fo0, fo1, fo2, fo3, fo4, fo5⟩ := Xo.out
  have hneo : go < v1.heap.size := World.block_lt_of_cell? v1 _ co0
  go_wp2_with fail
  clear co0 co1 co2 co3 co4 co5 fo0 fo1 fo2 fo3 fo4 fo5 hneo
  have Xy0 : Hid (Box (v1.alloc (.cells #[.bool s1, .slice p1 m1 c1] 28)) v1.heap.size (.bool s1) (.slice p1 m1 c1)) := Box.new v1 _ _ _
  have hbn : Below v1.heap.size v1 (v1.alloc (.cells #[.bool s1, .slice p1 m1 c1] 28)) := below1 v1 _
  generalize v1.alloc (.cells #[.bool s1, .slice p1 m1 c1] 28) = Wy at *
  have HGy : Hid (w.heap.size ≤ v1.heap.size) := hbw.size
  replace Xo : Hid _ := Xo.out.below hbn
  replace H : Hid _ := H.out.below hbn
  replace K : Hid _ := K.out.below hbn
  replace A1 : Hid _ := A1.out.below hbn
  replace hbw := Below.on hbw hbn
  clear hbn
  generalize v1.heap.size = gy at *
  have Xy := Xy0
  clear Xy0
  obtain ⟨W1, hW1⟩ : ∃ W1, W1 = Wy.drew := ⟨_, rfl⟩
  have hbd : Below Wy.heap.size Wy W1 := by rw [hW1]; exact bDrew1 (Below.refl _ _)
  replace Xo : Hid _ := Xo.out.below hbd
  replace Xy : Hid _ := Xy.out.below hbd
  replace H : Hid _ := H.out.below hbd
  replace K : Hid _ := K.out.below hbd
  replace A1 : Hid _ := A1.out.below hbd
  replace hbw := Below.on hbw hbd
  clear hbd
  have HJ : Hid ((fun W' : World => W'.cell? ⟨go, 0, none⟩ = some (.int .i64 13) ∧ W'.cell? ⟨go, 1, none⟩ = some (.bool sx) ∧ W'.cell? ⟨go, 2, none⟩ = some (.slice px nx cx) ∧ W'.cell? ⟨go, 3, none⟩ = some (.bool sy) ∧ W'.cell? ⟨go, 4, none⟩ = some (.slice py ny cy) ∧ W'.cell? ⟨go, 5, none⟩ = some (.int .i64 nn)) W1) := ⟨Xo.out.c0, Xo.out.c1, Xo.out.c2, Xo.out.c3, Xo.out.c4, Xo.out.c5⟩
  refine wp_region_J (fun W' => W'.cell? ⟨go, 0, none⟩ = some (.int .i64 13) ∧ W'.cell? ⟨go, 1, none⟩ = some (.bool sx) ∧ W'.cell? ⟨go, 2, none⟩ = some (.slice px nx cx) ∧ W'.cell? ⟨go, 3, none⟩ = some (.bool sy) ∧ W'.cell? ⟨go, 4, none⟩ = some (.slice py ny cy) ∧ W'.cell? ⟨go, 5, none⟩ = some (.int .i64 nn)) (by kernel_rfl) ?_
  rw [← hW1]
  clear hW1
  refine wpJ_take (i := 0) (v := ?v1x0) rfl (by kernel_rfl) (by kernel_rfl) (by kernel_rfl) (fun _ _ _ h => h) (by kernel_rfl) ?hy1x0 HJ.out ?rest1x0
  case hy1x0 => (intro W' hJ; obtain ⟨j0, j1, j2, j3, j4, j5⟩ := hJ; go_simp; first | done | with_reducible rfl)
  refine wpJ_take (i := 1) (v := ?v2x1) rfl (by kernel_rfl) (by kernel_rfl) (by kernel_rfl) (fun _ _ _ h => h) (by kernel_rfl) ?hy2x1 HJ.out ?rest2x1
  case hy2x1 => (intro W' hJ; obtain ⟨j0, j1, j2, j3, j4, j5⟩ := hJ; go_simp; first | done | with_reducible rfl)
  refine wpJ_take (i := 2) (v := ?v3x2) rfl (by kernel_rfl) (by kernel_rfl) (by kernel_rfl) (fun _ _ _ h => h) (by kernel_rfl) ?hy3x2 HJ.out ?rest3x2
  case hy3x2 => (intro W' hJ; obtain ⟨j0, j1, j2, j3, j4, j5⟩ := hJ; go_simp; first | done | with_reducible rfl)
  refine wpJ_take (i := 3) (v := ?v4x3) rfl (by kernel_rfl) (by kernel_rfl) (by kernel_rfl) (fun _ _ _ h => h) (by kernel_rfl) ?hy4x3 HJ.out ?rest4x3
  case hy4x3 => (intro W' hJ; obtain ⟨j0, j1, j2, j3, j4, j5⟩ := hJ; go_simp; first | done | with_reducible rfl)
  refine wpJ_take (i := 5) (v := ?v5x5) rfl (by kernel_rfl) (by kernel_rfl) (by kernel_rfl) (fun _ _ _ h => h) (by kernel_rfl) ?hy5x5 HJ.out ?rest5x5
  case hy5x5 => (intro W' hJ; obtain ⟨j0, j1, j2, j3, j4, j5⟩ := hJ; go_simp; first | done | with_reducible rfl)
  refine wpJ_take (i := 6) (v := ?v6x6) rfl (by kernel_rfl) (by kernel_rfl) (by kernel_rfl) (fun _ _ _ h => h) (by kernel_rfl) ?hy6x6 HJ.out ?rest6x6
  case hy6x6 => (intro W' hJ; obtain ⟨j0, j1, j2, j3, j4, j5⟩ := hJ; go_simp; first | done | with_reducible rfl)
  refine wpJ_take (i := 8) (v := ?v7x8) rfl (by kernel_rfl) (by kernel_rfl) (by kernel_rfl) (fun _ _ _ h => h) (by kernel_rfl) ?hy7x8 HJ.out ?rest7x8
  case hy7x8 => (intro W' hJ; obtain ⟨j0, j1, j2, j3, j4, j5⟩ := hJ; go_simp; first | done | with_reducible rfl)
  refine wpJ_take (i := 9) (v := ?v8x9) rfl (by kernel_rfl) (by kernel_rfl) (by kernel_rfl) (fun _ _ _ h => h) (by kernel_rfl) ?hy8x9 HJ.out ?rest8x9
  case hy8x9 => (intro W' hJ; obtain ⟨j0, j1, j2, j3, j4, j5⟩ := hJ; go_simp; first | done | with_reducible rfl)
  refine wpJ_two (i := 4) (k := 15) (by kernel_rfl) rfl rfl (by kernel_rfl) (by kernel_rfl) (fun KJ hK => ?_) (fun KJ hK => ?_)
  · go_simp
    refine (twin4 sx H.out HB.out.1).mono ?_
    rintro e v2 ⟨p2, rfl, hA2, hb2⟩
    replace Xo : Hid _ := Xo.out.below hb2
    replace Xy : Hid _ := Xy.out.below hb2
    replace H : Hid _ := H.out.below hb2
    replace K : Hid _ := K.out.below hb2
    replace A1 : Hid _ := A1.out.below hb2
    replace hbw := Below.on hbw hb2
    clear hb2
    have T2 : Hid (At v2 p2 nx nx xx) := hA2
    clear hA2
    clear HJ
    have HJ : Hid ((fun W' : World => W'.cell? ⟨go, 0, none⟩ = some (.int .i64 13) ∧ W'.cell? ⟨go, 1, none⟩ = some (.bool sx) ∧ W'.cell? ⟨go, 2, none⟩ = some (.slice px nx cx) ∧ W'.cell? ⟨go, 3, none⟩ = some (.bool sy) ∧ W'.cell? ⟨go, 4, none⟩ = some (.slice py ny cy) ∧ W'.cell? ⟨go, 5, none⟩ = some (.int .i64 nn)) v2) := ⟨Xo.out.c0, Xo.out.c1, Xo.out.c2, Xo.out.c3, Xo.out.c4, Xo.out.c5⟩
    refine hK _ _ HJ.out ?_
    clear hK
    refine wpJ_two (i := 7) (k := 15) (by kernel_rfl) rfl rfl (by kernel_rfl) (by kernel_rfl) (fun KJ hK => ?_) (fun KJ hK => ?_)
    · go_simp
      refine (twin4 sy K.out HB.out.2.1).mono ?_
      rintro e v3 ⟨p3, rfl, hA3, hb3⟩
      replace Xo : Hid _ := Xo.out.below hb3
      replace Xy : Hid _ := Xy.out.below hb3
      replace H : Hid _ := H.out.below hb3
      replace K : Hid _ := K.out.below hb3
      replace A1 : Hid _ := A1.out.below hb3
      replace T2 : Hid _ := T2.out.below hb3
      replace hbw := Below.on hbw hb3
      clear hb3
      have T3 : Hid (At v3 p3 ny ny yy) := hA3
      clear hA3
      clear HJ
      have HJ : Hid ((fun W' : World => W'.cell? ⟨go, 0, none⟩ = some (.int .i64 13) ∧ W'.cell? ⟨go, 1, none⟩ = some (.bool sx) ∧ W'.cell? ⟨go, 2, none⟩ = some (.slice px nx cx) ∧ W'.cell? ⟨go, 3, none⟩ = some (.bool sy) ∧ W'.cell? ⟨go, 4, none⟩ = some (.slice py ny cy) ∧ W'.cell? ⟨go, 5, none⟩ = some (.int .i64 nn)) v3) := ⟨Xo.out.c0, Xo.out.c1, Xo.out.c2, Xo.out.c3, Xo.out.c4, Xo.out.c5⟩
      refine hK _ _ HJ.out ?_
      clear hK
      refine wpJ_take (i := 10) (v := ?v9x10) rfl (by kernel_rfl) (by kernel_rfl) (by kernel_rfl) (fun _ _ _ h => h) (by kernel_rfl) ?hy9x10 HJ.out ?rest9x10
      case hy9x10 => (intro W' hJ; obtain ⟨j0, j1, j2, j3, j4, j5⟩ := hJ; go_simp; first | done | with_reducible rfl)
      refine wpJ_two (i := 11) (k := 15) (by kernel_rfl) rfl rfl (by kernel_rfl) (by kernel_rfl) (fun KJ hK => ?_) (fun KJ hK => ?_)
      · go_simp
        refine (number4_13 sx sy nn T2.out T3.out HB.out.1 HB.out.2.1 HB.out.2.2.1 HB.out.2.2.2 (TB.out.below hbw)).mono ?_
        rintro e v4 ⟨s4, p4, m4, c4, u4, er4, rfl, hA4, hD4, hb4⟩
        replace Xo : Hid _ := Xo.out.below hb4
        replace Xy : Hid _ := Xy.out.below hb4
        replace H : Hid _ := H.out.below hb4
        replace K : Hid _ := K.out.below hb4
        replace A1 : Hid _ := A1.out.below hb4
        replace T2 : Hid _ := T2.out.below hb4
        replace T3 : Hid _ := T3.out.below hb4
        replace hbw := Below.on hbw hb4
        clear hb4
        have A4 : Hid (NewAt v3.heap.size v4 p4 m4 c4 u4) := hA4
        have D4 : Hid (ShiftZ rNs sx xx nn s4 u4 er4) := hD4
        clear hA4 hD4
        clear HJ
        have HJ : Hid ((fun W' : World => W'.cell? ⟨go, 0, none⟩ = some (.int .i64 13) ∧ W'.cell? ⟨go, 1, none⟩ = some (.bool sx) ∧ W'.cell? ⟨go, 2, none⟩ = some (.slice px nx cx) ∧ W'.cell? ⟨go, 3, none⟩ = some (.bool sy) ∧ W'.cell? ⟨go, 4, none⟩ = some (.slice py ny cy) ∧ W'.cell? ⟨go, 5, none⟩ = some (.int .i64 nn)) v4) := ⟨Xo.out.c0, Xo.out.c1, Xo.out.c2, Xo.out.c3, Xo.out.c4, Xo.out.c5⟩
        refine hK _ _ HJ.out ?_
        clear hK
        refine wpJ_take (i := 12) (v := ?v10x12) rfl (by kernel_rfl) (by kernel_rfl) (by kernel_rfl) (fun _ _ _ h => h) (by kernel_rfl) ?hy10x12 HJ.out ?rest10x12
        case hy10x12 => (intro W' hJ; obtain ⟨j0, j1, j2, j3, j4, j5⟩ := hJ; go_simp; first | done | with_reducible rfl)
        refine wpJ_take (i := 13) (v := ?v11x13) rfl (by kernel_rfl) (by kernel_rfl) (by kernel_rfl) (fun _ _ _ h => h) (by kernel_rfl) ?hy11x13 HJ.out ?rest11x13
        case hy11x13 => (intro W' hJ; obtain ⟨j0, j1, j2, j3, j4, j5⟩ := hJ; go_simp; first | done | with_reducible rfl)
        refine wpJ_take (i := 14) (v := ?v12x14) rfl (by kernel_rfl) (by kernel_rfl) (by kernel_rfl) (fun _ _ _ h => h) (by kernel_rfl) ?hy12x14 HJ.out ?rest12x14
        case hy12x14 => (intro W' hJ; obtain ⟨j0, j1, j2, j3, j4, j5⟩ := hJ; go_simp; first | done | with_reducible rfl)
        refine wpJ_one (i := 15) (by kernel_rfl) rfl (by kernel_rfl) (fun KJ hK => ?_)
        go_simp
        have HOX : Hid (go < v4.heap.size ∧ gy < v4.heap.size) := ⟨Xo.out.lt, Xy.out.lt⟩
        have HF1 : Hid (Off p1 m1 v4.heap.size) := A1.out.off_new
        have HF4 : Hid (Off p4 m4 v4.heap.size) := A4.out.1.off_new
        have Xx0 : Hid (Box (v4.alloc (.cells #[.bool false, .slice none 0 0] 28)) v4.heap.size (.bool false) (.slice none 0 0)) := Box.new v4 _ _ _
        have hbn : Below v4.heap.size v4 (v4.alloc (.cells #[.bool false, .slice none 0 0] 28)) := below1 v4 _
        generalize v4.alloc (.cells #[.bool false, .slice none 0 0] 28) = Wx at *
        have HGx : Hid (w.heap.size ≤ v4.heap.size) := hbw.size
        replace Xo : Hid _ := Xo.out.below hbn
        replace Xy : Hid _ := Xy.out.below hbn
        replace H : Hid _ := H.out.below hbn
        replace K : Hid _ := K.out.below hbn
        replace A1 : Hid _ := A1.out.below hbn
        replace T2 : Hid _ := T2.out.below hbn
        replace T3 : Hid _ := T3.out.below hbn
        replace A4 : Hid (NewAt v3.heap.size Wx p4 m4 c4 u4) := A4.out.below hbn
        replace hbw := Below.on hbw hbn
        clear hbn
        generalize v4.heap.size = gx at *
        have Xx := Xx0
        clear Xx0
        refine hK _ _ ⟨Xo.out.c0, Xo.out.c1, Xo.out.c2, Xo.out.c3, Xo.out.c4, Xo.out.c5⟩ ?_
        clear hK
        obtain ⟨cx0, cx1, fx0, fx1⟩ := Xx.out
        have hnex := Xx.out.lt
        obtain ⟨co0, co1, co2, co3, co4, co5, fo0, fo1, fo2, fo3, fo4, fo5⟩ := Xo.out
        have hneo : go < Wx.heap.size := World.block_lt_of_cell? Wx _ co0
        obtain ⟨cy0, cy1, fy0, fy1⟩ := Xy.out
        have hney := Xy.out.lt
        have hq1 : go ≠ gx := Nat.ne_of_lt HOX.out.1
        have hq2 : gx ≠ go := fun h => hq1 h.symm
        have hq3 : gy ≠ gx := Nat.ne_of_lt HOX.out.2
        have hq4 : gx ≠ gy := fun h => hq3 h.symm
        refine wpJ_one (i := 16) (by kernel_rfl) rfl (by kernel_rfl) (fun KJ hK => ?_)
        go_simp
        have HJ2 : Hid ((fun W' : World => W'.cell? ⟨go, 0, none⟩ = some (.int .i64 13) ∧ W'.cell? ⟨go, 1, none⟩ = some (.bool sx) ∧ W'.cell? ⟨go, 2, none⟩ = some (.slice px nx cx) ∧ W'.cell? ⟨go, 3, none⟩ = some (.bool sy) ∧ W'.cell? ⟨go, 4, none⟩ = some (.slice py ny cy) ∧ W'.cell? ⟨go, 5, none⟩ = some (.int .i64 nn)) ((Wx.setCell ⟨gx, 0, none⟩ (.bool s4)).setCell ⟨gx, 1, none⟩ (.slice p4 m4 c4))) := ⟨by go_simp, by go_simp, by go_simp, by go_simp, by go_simp, by go_simp⟩
        have Xx2 : Hid (Box ((Wx.setCell ⟨gx, 0, none⟩ (.bool s4)).setCell ⟨gx, 1, none⟩ (.slice p4 m4 c4)) gx (.bool s4) (.slice p4 m4 c4)) := ⟨by go_simp, by go_simp, by go_simp, by go_simp⟩
        have Xy2 : Hid (Box ((Wx.setCell ⟨gx, 0, none⟩ (.bool s4)).setCell ⟨gx, 1, none⟩ (.slice p4 m4 c4)) gy (.bool s1) (.slice p1 m1 c1)) := ⟨by go_simp, by go_simp, by go_simp, by go_simp⟩
        have A12 : Hid (At ((Wx.setCell ⟨gx, 0, none⟩ (.bool s4)).setCell ⟨gx, 1, none⟩ (.slice p4 m4 c4)) p1 m1 c1 u1) := (A1.out.setOff HF1.out _ _).setOff HF1.out _ _
        have A42 : Hid (At ((Wx.setCell ⟨gx, 0, none⟩ (.bool s4)).setCell ⟨gx, 1, none⟩ (.slice p4 m4 c4)) p4 m4 c4 u4) := (A4.out.1.setOff HF4.out _ _).setOff HF4.out _ _
        have hbw2 : Below w.heap.size w ((Wx.setCell ⟨gx, 0, none⟩ (.bool s4)).setCell ⟨gx, 1, none⟩ (.slice p4 m4 c4)) := bSet (bSet hbw _ _ _ HGx.out) _ _ _ HGx.out
        refine hK _ _ HJ2.out ?_
        clear hK HJ
        have HJ := HJ2
        clear HJ2 hbw Xx Xy Xo A1 A4 H K T2 T3
        clear cx0 cx1 fx0 fx1 hnex
        clear co0 co1 co2 co3 co4 co5 fo0 fo1 fo2 fo3 fo4 fo5 hneo
        clear cy0 cy1 fy0 fy1 hney
        clear hq1 hq2 hq3 hq4
        generalize ((Wx.setCell ⟨gx, 0, none⟩ (.bool s4)).setCell ⟨gx, 1, none⟩ (.slice p4 m4 c4)) = Wz at *
        have hbw := hbw2
        have Xx := Xx2
        have Xy := Xy2
        have A1 := A12
        have A4 := A42
        clear hbw2 Xx2 Xy2 A12 A42
        refine wpJ_take (i := 17) (v := ?v13x17) rfl (by kernel_rfl) (by kernel_rfl) (by kernel_rfl) (fun _ _ _ h => h) (by kernel_rfl) ?hy13x17 HJ.out ?rest13x17
        case hy13x17 => (intro W' hJ; obtain ⟨j0, j1, j2, j3, j4, j5⟩ := hJ; go_simp; first | done | with_reducible rfl)
        refine wpJ_done (by kernel_rfl) ?_ _
        clear HJ
        obtain ⟨cx0, cx1, fx0, fx1⟩ := Xx.out
        have hnex := Xx.out.lt
        obtain ⟨cy0, cy1, fy0, fy1⟩ := Xy.out
        have hney := Xy.out.lt
        go_wp2_with fail
        clear cx0 cx1 fx0 fx1 hnex
        clear cy0 cy1 fy0 fy1 hney
        obtain ⟨rfl, rfl, rfl⟩ := ShiftZ.inj D1.out D4.out
        refine (told4 s1 er1 A4.out A1.out).mono ?_
        rintro e v9 ⟨rfl, hb9⟩
        replace Xy : Hid _ := Xy.out.below hb9
        replace Xx : Hid _ := Xx.out.below hb9
        replace A1 : Hid _ := A1.out.below hb9
        replace A4 : Hid _ := A4.out.below hb9
        replace hbw := Below.on hbw hb9
        clear hb9
        go_wp2_with fail
        go_ret
        exact ⟨rfl, hbw⟩
      · go_simp
        have HOX : Hid (go < v3.heap.size ∧ gy < v3.heap.size) := ⟨Xo.out.lt, Xy.out.lt⟩
        have HF1 : Hid (Off p1 m1 v3.heap.size) := A1.out.off_new
        have Xx0 : Hid (Box (v3.alloc (.cells #[.bool false, .slice none 0 0] 28)) v3.heap.size (.bool false) (.slice none 0 0)) := Box.new v3 _ _ _
        have hbn : Below v3.heap.size v3 (v3.alloc (.cells #[.bool false, .slice none 0 0] 28)) := below1 v3 _
        generalize v3.alloc (.cells #[.bool false, .slice none 0 0] 28) = Wx at *
        have HGx : Hid (w.heap.size ≤ v3.heap.size) := hbw.size
        replace Xo : Hid _ := Xo.out.below hbn
        replace Xy : Hid _ := Xy.out.below hbn
        replace H : Hid _ := H.out.below hbn
        replace K : Hid _ := K.out.below hbn
        replace A1 : Hid _ := A1.out.below hbn
        replace T2 : Hid _ := T2.out.below hbn
        replace T3 : Hid _ := T3.out.below hbn
        replace hbw := Below.on hbw hbn
        clear hbn
        generalize v3.heap.size = gx at *
        have Xx := Xx0
        clear Xx0
        refine hK _ _ ⟨Xo.out.c0, Xo.out.c1, Xo.out.c2, Xo.out.c3, Xo.out.c4, Xo.out.c5⟩ ?_
        clear hK
        refine wpJ_one (i := 11) (by kernel_rfl) rfl (by kernel_rfl) (fun KJ hK => ?_)
        go_simp
        refine (number4_13 sx sy nn T2.out T3.out HB.out.1 HB.out.2.1 HB.out.2.2.1 HB.out.2.2.2 (TB.out.below hbw)).mono ?_
        rintro e v4 ⟨s4, p4, m4, c4, u4, er4, rfl, hA4, hD4, hb4⟩
        have HX4 : Hid (gx < Wx.heap.size) := Xx.out.lt
        replace Xo : Hid _ := Xo.out.below hb4
        replace Xy : Hid _ := Xy.out.below hb4
        replace Xx : Hid _ := Xx.out.below hb4
        replace H : Hid _ := H.out.below hb4
        replace K : Hid _ := K.out.below hb4
        replace A1 : Hid _ := A1.out.below hb4
        replace T2 : Hid _ := T2.out.below hb4
        replace T3 : Hid _ := T3.out.below hb4
        replace hbw := Below.on hbw hb4
        clear hb4
        have A4 : Hid (NewAt Wx.heap.size v4 p4 m4 c4 u4) := hA4
        have D4 : Hid (ShiftZ rNs sx xx nn s4 u4 er4) := hD4
        clear hA4 hD4
        have HF4 : Hid (Off p4 m4 gx) := A4.out.off HX4.out
        clear HJ
        have HJ : Hid ((fun W' : World => W'.cell? ⟨go, 0, none⟩ = some (.int .i64 13) ∧ W'.cell? ⟨go, 1, none⟩ = some (.bool sx) ∧ W'.cell? ⟨go, 2, none⟩ = some (.slice px nx cx) ∧ W'.cell? ⟨go, 3, none⟩ = some (.bool sy) ∧ W'.cell? ⟨go, 4, none⟩ = some (.slice py ny cy) ∧ W'.cell? ⟨go, 5, none⟩ = some (.int .i64 nn)) v4) := ⟨Xo.out.c0, Xo.out.c1, Xo.out.c2, Xo.out.c3, Xo.out.c4, Xo.out.c5⟩
        refine hK _ _ HJ.out ?_
        clear hK
        refine wpJ_take (i := 12) (v := ?v14x12) rfl (by kernel_rfl) (by kernel_rfl) (by kernel_rfl) (fun _ _ _ h => h) (by kernel_rfl) ?hy14x12 HJ.out ?rest14x12
        case hy14x12 => (intro W' hJ; obtain ⟨j0, j1, j2, j3, j4, j5⟩ := hJ; go_simp; first | done | with_reducible rfl)
        refine wpJ_take (i := 13) (v := ?v15x13) rfl (by kernel_rfl) (by kernel_rfl) (by kernel_rfl) (fun _ _ _ h => h) (by kernel_rfl) ?hy15x13 HJ.out ?rest15x13
        case hy15x13 => (intro W' hJ; obtain ⟨j0, j1, j2, j3, j4, j5⟩ := hJ; go_simp; first | done | with_reducible rfl)
        refine wpJ_take (i := 14) (v := ?v16x14) rfl (by kernel_rfl) (by kernel_rfl) (by kernel_rfl) (fun _ _ _ h => h) (by kernel_rfl) ?hy16x14 HJ.out ?rest16x14
        case hy16x14 => (intro W' hJ; obtain ⟨j0, j1, j2, j3, j4, j5⟩ := hJ; go_simp; first | done | with_reducible rfl)
        obtain ⟨cx0, cx1, fx0, fx1⟩ := Xx.out
        have hnex := Xx.out.lt
        obtain ⟨co0, co1, co2, co3, co4, co5, fo0, fo1, fo2, fo3, fo4, fo5⟩ := Xo.out
        have hneo : go < v4.heap.size := World.block_lt_of_cell? v4 _ co0
        obtain ⟨cy0, cy1, fy0, fy1⟩ := Xy.out
        have hney := Xy.out.lt
        have hq1 : go ≠ gx := Nat.ne_of_lt HOX.out.1
        have hq2 : gx ≠ go := fun h => hq1 h.symm
        have hq3 : gy ≠ gx := Nat.ne_of_lt HOX.out.2
        have hq4 : gx ≠ gy := fun h => hq3 h.symm
        refine wpJ_one (i := 16) (by kernel_rfl) rfl (by kernel_rfl) (fun KJ hK => ?_)
        go_simp
        have HJ2 : Hid ((fun W' : World => W'.cell? ⟨go, 0, none⟩ = some (.int .i64 13) ∧ W'.cell? ⟨go, 1, none⟩ = some (.bool sx) ∧ W'.cell? ⟨go, 2, none⟩ = some (.slice px nx cx) ∧ W'.cell? ⟨go, 3, none⟩ = some (.bool sy) ∧ W'.cell? ⟨go, 4, none⟩ = some (.slice py ny cy) ∧ W'.cell? ⟨go, 5, none⟩ = some (.int .i64 nn)) ((v4.setCell ⟨gx, 0, none⟩ (.bool s4)).setCell ⟨gx, 1, none⟩ (.slice p4 m4 c4))) := ⟨by go_simp, by go_simp, by go_simp, by go_simp, by go_simp, by go_simp⟩
        have Xx2 : Hid (Box ((v4.setCell ⟨gx, 0, none⟩ (.bool s4)).setCell ⟨gx, 1, none⟩ (.slice p4 m4 c4)) gx (.bool s4) (.slice p4 m4 c4)) := ⟨by go_simp, by go_simp, by go_simp, by go_simp⟩
        have Xy2 : Hid (Box ((v4.setCell ⟨gx, 0, none⟩ (.bool s4)).setCell ⟨gx, 1, none⟩ (.slice p4 m4 c4)) gy (.bool s1) (.slice p1 m1 c1)) := ⟨by go_simp, by go_simp, by go_simp, by go_simp⟩
        have A12 : Hid (At ((v4.setCell ⟨gx, 0, none⟩ (.bool s4)).setCell ⟨gx, 1, none⟩ (.slice p4 m4 c4)) p1 m1 c1 u1) := (A1.out.setOff HF1.out _ _).setOff HF1.out _ _
        have A42 : Hid (At ((v4.setCell ⟨gx, 0, none⟩ (.bool s4)).setCell ⟨gx, 1, none⟩ (.slice p4 m4 c4)) p4 m4 c4 u4) := (A4.out.1.setOff HF4.out _ _).setOff HF4.out _ _
        have hbw2 : Below w.heap.size w ((v4.setCell ⟨gx, 0, none⟩ (.bool s4)).setCell ⟨gx, 1, none⟩ (.slice p4 m4 c4)) := bSet (bSet hbw _ _ _ HGx.out) _ _ _ HGx.out
        refine hK _ _ HJ2.out ?_
        clear hK HJ
        have HJ := HJ2
        clear HJ2 hbw Xx Xy Xo A1 A4 H K T2 T3
        clear cx0 cx1 fx0 fx1 hnex
        clear co0 co1 co2 co3 co4 co5 fo0 fo1 fo2 fo3 fo4 fo5 hneo
        clear cy0 cy1 fy0 fy1 hney
        clear hq1 hq2 hq3 hq4
        generalize ((v4.setCell ⟨gx, 0, none⟩ (.bool s4)).setCell ⟨gx, 1, none⟩ (.slice p4 m4 c4)) = Wz at *
        have hbw := hbw2
        have Xx := Xx2
        have Xy := Xy2
        have A1 := A12
        have A4 := A42
        clear hbw2 Xx2 Xy2 A12 A42
        refine wpJ_take (i := 17) (v := ?v17x17) rfl (by kernel_rfl) (by kernel_rfl) (by kernel_rfl) (fun _ _ _ h => h) (by kernel_rfl) ?hy17x17 HJ.out ?rest17x17
        case hy17x17 => (intro W' hJ; obtain ⟨j0, j1, j2, j3, j4, j5⟩ := hJ; go_simp; first | done | with_reducible rfl)
        refine wpJ_done (by kernel_rfl) ?_ _
        clear HJ
        obtain ⟨cx0, cx1, fx0, fx1⟩ := Xx.out
        have hnex := Xx.out.lt
        obtain ⟨cy0, cy1, fy0, fy1⟩ := Xy.out
        have hney := Xy.out.lt
        go_wp2_with fail
        clear cx0 cx1 fx0 fx1 hnex
        clear cy0 cy1 fy0 fy1 hney
        obtain ⟨rfl, rfl, rfl⟩ := ShiftZ.inj D1.out D4.out
        refine (told4 s1 er1 A4.out A1.out).mono ?_
        rintro e v9 ⟨rfl, hb9⟩
        replace Xy : Hid _ := Xy.out.below hb9
        replace Xx : Hid _ := Xx.out.below hb9
        replace A1 : Hid _ := A1.out.below hb9
        replace A4 : Hid _ := A4.out.below hb9
        replace hbw := Below.on hbw hb9
        clear hb9
        go_wp2_with fail
        go_ret
        exact ⟨rfl, hbw⟩
    · go_simp
      have HOX : Hid (go < v2.heap.size ∧ gy < v2.heap.size) := ⟨Xo.out.lt, Xy.out.lt⟩
      have HF1 : Hid (Off p1 m1 v2.heap.size) := A1.out.off_new
      have Xx0 : Hid (Box (v2.alloc (.cells #[.bool false, .slice none 0 0] 28)) v2.heap.size (.bool false) (.slice none 0 0)) := Box.new v2 _ _ _
      have hbn : Below v2.heap.size v2 (v2.alloc (.cells #[.bool false, .slice none 0 0] 28)) := below1 v2 _
      generalize v2.alloc (.cells #[.bool false, .slice none 0 0] 28) = Wx at *
      have HGx : Hid (w.heap.size ≤ v2.heap.size) := hbw.size
      replace Xo : Hid _ := Xo.out.below hbn
      replace Xy : Hid _ := Xy.out.below hbn
      replace H : Hid _ := H.out.below hbn
      replace K : Hid _ := K.out.below hbn
      replace A1 : Hid _ := A1.out.below hbn
      replace T2 : Hid _ := T2.out.below hbn
      replace hbw := Below.on hbw hbn
      clear hbn
      generalize v2.heap.size = gx at *
      have Xx := Xx0
      clear Xx0
      refine hK _ _ ⟨Xo.out.c0, Xo.out.c1, Xo.out.c2, Xo.out.c3, Xo.out.c4, Xo.out.c5⟩ ?_
      clear hK
      refine wpJ_one (i := 7) (by kernel_rfl) rfl (by kernel_rfl) (fun KJ hK => ?_)
      go_simp
      refine (twin4 sy K.out HB.out.2.1).mono ?_
      rintro e v3 ⟨p3, rfl, hA3, hb3⟩
      replace Xo : Hid _ := Xo.out.below hb3
      replace Xy : Hid _ := Xy.out.below hb3
      replace Xx : Hid _ := Xx.out.below hb3
      replace H : Hid _ := H.out.below hb3
      replace K : Hid _ := K.out.below hb3
      replace A1 : Hid _ := A1.out.below hb3
      replace T2 : Hid _ := T2.out.below hb3
      replace hbw := Below.on hbw hb3
      clear hb3
      have T3 : Hid (At v3 p3 ny ny yy) := hA3
      clear hA3
      clear HJ
      have HJ : Hid ((fun W' : World => W'.cell? ⟨go, 0, none⟩ = some (.int .i64 13) ∧ W'.cell? ⟨go, 1, none⟩ = some (.bool sx) ∧ W'.cell? ⟨go, 2, none⟩ = some (.slice px nx cx) ∧ W'.cell? ⟨go, 3, none⟩ = some (.bool sy) ∧ W'.cell? ⟨go, 4, none⟩ = some (.slice py ny cy) ∧ W'.cell? ⟨go, 5, none⟩ = some (.int .i64 nn)) v3) := ⟨Xo.out.c0, Xo.out.c1, Xo.out.c2, Xo.out.c3, Xo.out.c4, Xo.out.c5⟩
      refine hK _ _ HJ.out ?_
      clear hK
      refine wpJ_take (i := 10) (v := ?v18x10) rfl (by kernel_rfl) (by kernel_rfl) (by kernel_rfl) (fun _ _ _ h => h) (by kernel_rfl) ?hy18x10 HJ.out ?rest18x10
      case hy18x10 => (intro W' hJ; obtain ⟨j0, j1, j2, j3, j4, j5⟩ := hJ; go_simp; first | done | with_reducible rfl)
      refine wpJ_one (i := 11) (by kernel_rfl) rfl (by kernel_rfl) (fun KJ hK => ?_)
      go_simp
      refine (number4_13 sx sy nn T2.out T3.out HB.out.1 HB.out.2.1 HB.out.2.2.1 HB.out.2.2.2 (TB.out.below hbw)).mono ?_
      rintro e v4 ⟨s4, p4, m4, c4, u4, er4, rfl, hA4, hD4, hb4⟩
      have HX4 : Hid (gx < v3.heap.size) := Xx.out.lt
      replace Xo : Hid _ := Xo.out.below hb4
      replace Xy : Hid _ := Xy.out.below hb4
      replace Xx : Hid _ := Xx.out.below hb4
      replace H : Hid _ := H.out.below hb4
      replace K : Hid _ := K.out.below hb4
      replace A1 : Hid _ := A1.out.below hb4
      replace T2 : Hid _ := T2.out.below hb4
      replace T3 : Hid _ := T3.out.below hb4
      replace hbw := Below.on hbw hb4
      clear hb4
      have A4 : Hid (NewAt v3.heap.size v4 p4 m4 c4 u4) := hA4
      have D4 : Hid (ShiftZ rNs sx xx nn s4 u4 er4) := hD4
      clear hA4 hD4
      have HF4 : Hid (Off p4 m4 gx) := A4.out.off HX4.out
      clear HJ
      have HJ : Hid ((fun W' : World => W'.cell? ⟨go, 0, none⟩ = some (.int .i64 13) ∧ W'.cell? ⟨go, 1, none⟩ = some (.bool sx) ∧ W'.cell? ⟨go, 2, none⟩ = some (.slice px nx cx) ∧ W'.cell? ⟨go, 3, none⟩ = some (.bool sy) ∧ W'.cell? ⟨go, 4, none⟩ = some (.slice py ny cy) ∧ W'.cell? ⟨go, 5, none⟩ = some (.int .i64 nn)) v4) := ⟨Xo.out.c0, Xo.out.c1, Xo.out.c2, Xo.out.c3, Xo.out.c4, Xo.out.c5⟩
      refine hK _ _ HJ.out ?_
      clear hK
      refine wpJ_take (i := 12) (v := ?v19x12) rfl (by kernel_rfl) (by kernel_rfl) (by kernel_rfl) (fun _ _ _ h => h) (by kernel_rfl) ?hy19x12 HJ.out ?rest19x12
      case hy19x12 => (intro W' hJ; obtain ⟨j0, j1, j2, j3, j4, j5⟩ := hJ; go_simp; first | done | with_reducible rfl)
      refine wpJ_take (i := 13) (v := ?v20x13) rfl (by kernel_rfl) (by kernel_rfl) (by kernel_rfl) (fun _ _ _ h => h) (by kernel_rfl) ?hy20x13 HJ.out ?rest20x13
      case hy20x13 => (intro W' hJ; obtain ⟨j0, j1, j2, j3, j4, j5⟩ := hJ; go_simp; first | done | with_reducible rfl)
      refine wpJ_take (i := 14) (v := ?v21x14) rfl (by kernel_rfl) (by kernel_rfl) (by kernel_rfl) (fun _ _ _ h => h) (by kernel_rfl) ?hy21x14 HJ.out ?rest21x14
      case hy21x14 => (intro W' hJ; obtain ⟨j0, j1, j2, j3, j4, j5⟩ := hJ; go_simp; first | done | with_reducible rfl)
      obtain ⟨cx0, cx1, fx0, fx1⟩ := Xx.out
      have hnex := Xx.out.lt
      obtain ⟨co0, co1, co2, co3, co4, co5, fo0, fo1, fo2, fo3, fo4, fo5⟩ := Xo.out
      have hneo : go < v4.heap.size := World.block_lt_of_cell? v4 _ co0
      obtain ⟨cy0, cy1, fy0, fy1⟩ := Xy.out
      have hney := Xy.out.lt
      have hq1 : go ≠ gx := Nat.ne_of_lt HOX.out.1
      have hq2 : gx ≠ go := fun h => hq1 h.symm
      have hq3 : gy ≠ gx := Nat.ne_of_lt HOX.out.2
      have hq4 : gx ≠ gy := fun h => hq3 h.symm
      refine wpJ_one (i := 16) (by kernel_rfl) rfl (by kernel_rfl) (fun KJ hK => ?_)
      go_simp
      have HJ2 : Hid ((fun W' : World => W'.cell? ⟨go, 0, none⟩ = some (.int .i64 13) ∧ W'.cell? ⟨go, 1, none⟩ = some (.bool sx) ∧ W'.cell? ⟨go, 2, none⟩ = some (.slice px nx cx) ∧ W'.cell? ⟨go, 3, none⟩ = some (.bool sy) ∧ W'.cell? ⟨go, 4, none⟩ = some (.slice py ny cy) ∧ W'.cell? ⟨go, 5, none⟩ = some (.int .i64 nn)) ((v4.setCell ⟨gx, 0, none⟩ (.bool s4)).setCell ⟨gx, 1, none⟩ (.slice p4 m4 c4))) := ⟨by go_simp, by go_simp, by go_simp, by go_simp, by go_simp, by go_simp⟩
      have Xx2 : Hid (Box ((v4.setCell ⟨gx, 0, none⟩ (.bool s4)).setCell ⟨gx, 1, none⟩ (.slice p4 m4 c4)) gx (.bool s4) (.slice p4 m4 c4)) := ⟨by go_simp, by go_simp, by go_simp, by go_simp⟩
      have Xy2 : Hid (Box ((v4.setCell ⟨gx, 0, none⟩ (.bool s4)).setCell ⟨gx, 1, none⟩ (.slice p4 m4 c4)) gy (.bool s1) (.slice p1 m1 c1)) := ⟨by go_simp, by go_simp, by go_simp, by go_simp⟩
      have A12 : Hid (At ((v4.setCell ⟨gx, 0, none⟩ (.bool s4)).setCell ⟨gx, 1, none⟩ (.slice p4 m4 c4)) p1 m1 c1 u1) := (A1.out.setOff HF1.out _ _).setOff HF1.out _ _
      have A42 : Hid (At ((v4.setCell ⟨gx, 0, none⟩ (.bool s4)).setCell ⟨gx, 1, none⟩ (.slice p4 m4 c4)) p4 m4 c4 u4) := (A4.out.1.setOff HF4.out _ _).setOff HF4.out _ _
      have hbw2 : Below w.heap.size w ((v4.setCell ⟨gx, 0, none⟩ (.bool s4)).setCell ⟨gx, 1, none⟩ (.slice p4 m4 c4)) := bSet (bSet hbw _ _ _ HGx.out) _ _ _ HGx.out
      refine hK _ _ HJ2.out ?_
      clear hK HJ
      have HJ := HJ2
      clear HJ2 hbw Xx Xy Xo A1 A4 H K T2 T3
      clear cx0 cx1 fx0 fx1 hnex
      clear co0 co1 co2 co3 co4 co5 fo0 fo1 fo2 fo3 fo4 fo5 hneo
      clear cy0 cy1 fy0 fy1 hney
      clear hq1 hq2 hq3 hq4
      generalize ((v4.setCell ⟨gx, 0, none⟩ (.bool s4)).setCell ⟨gx, 1, none⟩ (.slice p4 m4 c4)) = Wz at *
      have hbw := hbw2
      have Xx := Xx2
      have Xy := Xy2
      have A1 := A12
      have A4 := A42
      clear hbw2 Xx2 Xy2 A12 A42
      refine wpJ_take (i := 17) (v := ?v22x17) rfl (by kernel_rfl) (by kernel_rfl) (by kernel_rfl) (fun _ _ _ h => h) (by kernel_rfl) ?hy22x17 HJ.out ?rest22x17
      case hy22x17 => (intro W' hJ; obtain ⟨j0, j1, j2, j3, j4, j5⟩ := hJ; go_simp; first | done | with_reducible rfl)
      refine wpJ_done (by kernel_rfl) ?_ _
      clear HJ
      obtain ⟨cx0, cx1, fx0, fx1⟩ := Xx.out
      have hnex := Xx.out.lt
      obtain ⟨cy0, cy1, fy0, fy1⟩ := Xy.out
      have hney := Xy.out.lt
      go_wp2_with fail
      clear cx0 cx1 fx0 fx1 hnex
      clear cy0 cy1 fy0 fy1 hney
      obtain ⟨rfl, rfl, rfl⟩ := ShiftZ.inj D1.out D4.out
      refine (told4 s1 er1 A4.out A1.out).mono ?_
      rintro e v9 ⟨rfl, hb9⟩
      replace Xy : Hid _ := Xy.out.below hb9
      replace Xx : Hid _ := Xx.out.below hb9
      replace A1 : Hid _ := A1.out.below hb9
      replace A4 : Hid _ := A4.out.below hb9
      replace hbw := Below.on hbw hb9
      clear hb9
      go_wp2_with fail
      go_ret
      exact ⟨rfl, hbw⟩
  · go_simp
    have HOX : Hid (go < W1.heap.size ∧ gy < W1.heap.size) := ⟨Xo.out.lt, Xy.out.lt⟩
    have HF1 : Hid (Off p1 m1 W1.heap.size) := A1.out.off_new
    have Xx0 : Hid (Box (W1.alloc (.cells #[.bool false, .slice none 0 0] 28)) W1.heap.size (.bool false) (.slice none 0 0)) := Box.new W1 _ _ _
    have hbn : Below W1.heap.size W1 (W1.alloc (.cells #[.bool false, .slice none 0 0] 28)) := below1 W1 _
    generalize W1.alloc (.cells #[.bool false, .slice none 0 0] 28) = Wx at *
    have HGx : Hid (w.heap.size ≤ W1.heap.size) := hbw.size
    replace Xo : Hid _ := Xo.out.below hbn
    replace Xy : Hid _ := Xy.out.below hbn
    replace H : Hid _ := H.out.below hbn
    replace K : Hid _ := K.out.below hbn
    replace A1 : Hid _ := A1.out.below hbn
    replace hbw := Below.on hbw hbn
    clear hbn
    generalize W1.heap.size = gx at *
    have Xx := Xx0
    clear Xx0
    refine hK _ _ ⟨Xo.out.c0, Xo.out.c1, Xo.out.c2, Xo.out.c3, Xo.out.c4, Xo.out.c5⟩ ?_
    clear hK
    refine wpJ_one (i := 4) (by kernel_rfl) rfl (by kernel_rfl) (fun KJ hK => ?_)
    go_simp
    refine (twin4 sx H.out HB.out.1).mono ?_
    rintro e v2 ⟨p2, rfl, hA2, hb2⟩
    replace Xo : Hid _ := Xo.out.below hb2
    replace Xy : Hid _ := Xy.out.below hb2
    replace Xx : Hid _ := Xx.out.below hb2
    replace H : Hid _ := H.out.below hb2
    replace K : Hid _ := K.out.below hb2
    replace A1 : Hid _ := A1.out.below hb2
    replace hbw := Below.on hbw hb2
    clear hb2
    have T2 : Hid (At v2 p2 nx nx xx) := hA2
    clear hA2
    refine hK _ _ ⟨Xo.out.c0, Xo.out.c1, Xo.out.c2, Xo.out.c3, Xo.out.c4, Xo.out.c5⟩ ?_
    clear hK
    refine wpJ_one (i := 7) (by kernel_rfl) rfl (by kernel_rfl) (fun KJ hK => ?_)
    go_simp
    refine (twin4 sy K.out HB.out.2.1).mono ?_
    rintro e v3 ⟨p3, rfl, hA3, hb3⟩
    replace Xo : Hid _ := Xo.out.below hb3
    replace Xy : Hid _ := Xy.out.below hb3
    replace Xx : Hid _ := Xx.out.below hb3
    replace H : Hid _ := H.out.below hb3
    replace K : Hid _ := K.out.below hb3
    replace A1 : Hid _ := A1.out.below hb3
    replace T2 : Hid _ := T2.out.below hb3
    replace hbw := Below.on hbw hb3
    clear hb3
    have T3 : Hid (At v3 p3 ny ny yy) := hA3
    clear hA3
    clear HJ
    have HJ : Hid ((fun W' : World => W'.cell? ⟨go, 0, none⟩ = some (.int .i64 13) ∧ W'.cell? ⟨go, 1, none⟩ = some (.bool sx) ∧ W'.cell? ⟨go, 2, none⟩ = some (.slice px nx cx) ∧ W'.cell? ⟨go, 3, none⟩ = some (.bool sy) ∧ W'.cell? ⟨go, 4, none⟩ = some (.slice py ny cy) ∧ W'.cell? ⟨go, 5, none⟩ = some (.int .i64 nn)) v3) := ⟨Xo.out.c0, Xo.out.c1, Xo.out.c2, Xo.out.c3, Xo.out.c4, Xo.out.c5⟩
    refine hK _ _ HJ.out ?_
    clear hK
    refine wpJ_take (i := 10) (v := ?v23x10) rfl (by kernel_rfl) (by kernel_rfl) (by kernel_rfl) (fun _ _ _ h => h) (by kernel_rfl) ?hy23x10 HJ.out ?rest23x10
    case hy23x10 => (intro W' hJ; obtain ⟨j0, j1, j2, j3, j4, j5⟩ := hJ; go_simp; first | done | with_reducible rfl)
    refine wpJ_one (i := 11) (by kernel_rfl) rfl (by kernel_rfl) (fun KJ hK => ?_)
    go_simp
    refine (number4_13 sx sy nn T2.out T3.out HB.out.1 HB.out.2.1 HB.out.2.2.1 HB.out.2.2.2 (TB.out.below hbw)).mono ?_
    rintro e v4 ⟨s4, p4, m4, c4, u4, er4, rfl, hA4, hD4, hb4⟩
    have HX4 : Hid (gx < v3.heap.size) := Xx.out.lt
    replace Xo : Hid _ := Xo.out.below hb4
    replace Xy : Hid _ := Xy.out.below hb4
    replace Xx : Hid _ := Xx.out.below hb4
    replace H : Hid _ := H.out.below hb4
    replace K : Hid _ := K.out.below hb4
    replace A1 : Hid _ := A1.out.below hb4
    replace T2 : Hid _ := T2.out.below hb4
    replace T3 : Hid _ := T3.out.below hb4
    replace hbw := Below.on hbw hb4
    clear hb4
    have A4 : Hid (NewAt v3.heap.size v4 p4 m4 c4 u4) := hA4
    have D4 : Hid (ShiftZ rNs sx xx nn s4 u4 er4) := hD4
    clear hA4 hD4
    have HF4 : Hid (Off p4 m4 gx) := A4.out.off HX4.out
    clear HJ
    have HJ : Hid ((fun W' : World => W'.cell? ⟨go, 0, none⟩ = some (.int .i64 13) ∧ W'.cell? ⟨go, 1, none⟩ = some (.bool sx) ∧ W'.cell? ⟨go, 2, none⟩ = some (.slice px nx cx) ∧ W'.cell? ⟨go, 3, none⟩ = some (.bool sy) ∧ W'.cell? ⟨go, 4, none⟩ = some (.slice py ny cy) ∧ W'.cell? ⟨go, 5, none⟩ = some (.int .i64 nn)) v4) := ⟨Xo.out.c0, Xo.out.c1, Xo.out.c2, Xo.out.c3, Xo.out.c4, Xo.out.c5⟩
    refine hK _ _ HJ.out ?_
    clear hK
    refine wpJ_take (i := 12) (v := ?v24x12) rfl (by kernel_rfl) (by kernel_rfl) (by kernel_rfl) (fun _ _ _ h => h) (by kernel_rfl) ?hy24x12 HJ.out ?rest24x12
    case hy24x12 => (intro W' hJ; obtain ⟨j0, j1, j2, j3, j4, j5⟩ := hJ; go_simp; first | done | with_reducible rfl)
    refine wpJ_take (i := 13) (v := ?v25x13) rfl (by kernel_rfl) (by kernel_rfl) (by kernel_rfl) (fun _ _ _ h => h) (by kernel_rfl) ?hy25x13 HJ.out ?rest25x13
    case hy25x13 => (intro W' hJ; obtain ⟨j0, j1, j2, j3, j4, j5⟩ := hJ; go_simp; first | done | with_reducible rfl)
    refine wpJ_take (i := 14) (v := ?v26x14) rfl (by kernel_rfl) (by kernel_rfl) (by kernel_rfl) (fun _ _ _ h => h) (by kernel_rfl) ?hy26x14 HJ.out ?rest26x14
    case hy26x14 => (intro W' hJ; obtain ⟨j0, j1, j2, j3, j4, j5⟩ := hJ; go_simp; first | done | with_reducible rfl)
    obtain ⟨cx0, cx1, fx0, fx1⟩ := Xx.out
    have hnex := Xx.out.lt
    obtain ⟨co0, co1, co2, co3, co4, co5, fo0, fo1, fo2, fo3, fo4, fo5⟩ := Xo.out
    have hneo : go < v4.heap.size := World.block_lt_of_cell? v4 _ co0
    obtain ⟨cy0, cy1, fy0, fy1⟩ := Xy.out
    have hney := Xy.out.lt
    have hq1 : go ≠ gx := Nat.ne_of_lt HOX.out.1
    have hq2 : gx ≠ go := fun h => hq1 h.symm
    have hq3 : gy ≠ gx := Nat.ne_of_lt HOX.out.2
    have hq4 : gx ≠ gy := fun h => hq3 h.symm
    refine wpJ_one (i := 16) (by kernel_rfl) rfl (by kernel_rfl) (fun KJ hK => ?_)
    go_simp
    have HJ2 : Hid ((fun W' : World => W'.cell? ⟨go, 0, none⟩ = some (.int .i64 13) ∧ W'.cell? ⟨go, 1, none⟩ = some (.bool sx) ∧ W'.cell? ⟨go, 2, none⟩ = some (.slice px nx cx) ∧ W'.cell? ⟨go, 3, none⟩ = some (.bool sy) ∧ W'.cell? ⟨go, 4, none⟩ = some (.slice py ny cy) ∧ W'.cell? ⟨go, 5, none⟩ = some (.int .i64 nn)) ((v4.setCell ⟨gx, 0, none⟩ (.bool s4)).setCell ⟨gx, 1, none⟩ (.slice p4 m4 c4))) := ⟨by go_simp, by go_simp, by go_simp, by go_simp, by go_simp, by go_simp⟩
    have Xx2 : Hid (Box ((v4.setCell ⟨gx, 0, none⟩ (.bool s4)).setCell ⟨gx, 1, none⟩ (.slice p4 m4 c4)) gx (.bool s4) (.slice p4 m4 c4)) := ⟨by go_simp, by go_simp, by go_simp, by go_simp⟩
    have Xy2 : Hid (Box ((v4.setCell ⟨gx, 0, none⟩ (.bool s4)).setCell ⟨gx, 1, none⟩ (.slice p4 m4 c4)) gy (.bool s1) (.slice p1 m1 c1)) := ⟨by go_simp, by go_simp, by go_simp, by go_simp⟩
    have A12 : Hid (At ((v4.setCell ⟨gx, 0, none⟩ (.bool s4)).setCell ⟨gx, 1, none⟩ (.slice p4 m4 c4)) p1 m1 c1 u1) := (A1.out.setOff HF1.out _ _).setOff HF1.out _ _
    have A42 : Hid (At ((v4.setCell ⟨gx, 0, none⟩ (.bool s4)).setCell ⟨gx, 1, none⟩ (.slice p4 m4 c4)) p4 m4 c4 u4) := (A4.out.1.setOff HF4.out _ _).setOff HF4.out _ _
    have hbw2 : Below w.heap.size w ((v4.setCell ⟨gx, 0, none⟩ (.bool s4)).setCell ⟨gx, 1, none⟩ (.slice p4 m4 c4)) := bSet (bSet hbw _ _ _ HGx.out) _ _ _ HGx.out
    refine hK _ _ HJ2.out ?_
    clear hK HJ
    have HJ := HJ2
    clear HJ2 hbw Xx Xy Xo A1 A4 H K T2 T3
    clear cx0 cx1 fx0 fx1 hnex
    clear co0 co1 co2 co3 co4 co5 fo0 fo1 fo2 fo3 fo4 fo5 hneo
    clear cy0 cy1 fy0 fy1 hney
    clear hq1 hq2 hq3 hq4
    generalize ((v4.setCell ⟨gx, 0, none⟩ (.bool s4)).setCell ⟨gx, 1, none⟩ (.slice p4 m4 c4)) = Wz at *
    have hbw := hbw2
    have Xx := Xx2
    have Xy := Xy2
    have A1 := A12
    have A4 := A42
    clear hbw2 Xx2 Xy2 A12 A42
    refine wpJ_take (i := 17) (v := ?v27x17) rfl (by kernel_rfl) (by kernel_rfl) (by kernel_rfl) (fun _ _ _ h => h) (by kernel_rfl) ?hy27x17 HJ.out ?rest27x17
    case hy27x17 => (intro W' hJ; obtain ⟨j0, j1, j2, j3, j4, j5⟩ := hJ; go_simp; first | done | with_reducible rfl)
    refine wpJ_done (by kernel_rfl) ?_ _
    clear HJ
    obtain ⟨cx0, cx1, fx0, fx1⟩ := Xx.out
    have hnex := Xx.out.lt
    obtain ⟨cy0, cy1, fy0, fy1⟩ := Xy.out
    have hney := Xy.out.lt
    go_wp2_with fail
    clear cx0 cx1 fx0 fx1 hnex
    clear cy0 cy1 fy0 fy1 hney
    obtain ⟨rfl, rfl, rfl⟩ := ShiftZ.inj D1.out D4.out
    refine (told4 s1 er1 A4.out A1.out).mono ?_
    rintro e v9 ⟨rfl, hb9⟩
    replace Xy : Hid _ := Xy.out.below hb9
    replace Xx : Hid _ := Xx.out.below hb9
    replace A1 : Hid _ := A1.out.below hb9
    replace A4 : Hid _ := A4.out.below hb9
    replace hbw := Below.on hbw hb9
    clear hb9
    go_wp2_with fail
    go_ret
    exact ⟨rfl, hbw⟩
end Go.Proofs.YtgodajcnhipleaaGreatDoor

namespace Go.Proofs.YtgodajcnhipleaaGreatDoor
open Go.RowKit Go.Shelf

set_option maxRecDepth 20000 in
set_option maxHeartbeats 8000000 in
theorem halves_any (w : World) (hT : Tab w) : Calls Tryz.prog 9 #[] w fun e w' => e = .returned (.bool true) ∧ Below w.heap.size w w' := by
  have HT : Hid (Tab w) := hT
  clear hT
  go_enter Tryz.func9, Tryz.ntmps9
  go_wp2_with fail
  have hbw : Below w.heap.size w w := Below.refl _ _
  refine (zof (-7) w (by omega) (by omega)).mono ?_
  rintro e v1 ⟨s1, p1, m1, rfl, hz, hb1⟩
  replace HT : Hid (Tab v1) := HT.out.below hb1
  replace hbw := Below.on hbw hb1
  clear hb1
  have Za : Hid (ZN v1 s1 p1 m1 m1 (-7)) := hz
  clear hz
  go_wp2_with fail
  refine (zof (2) v1 (by omega) (by omega)).mono ?_
  rintro e v2 ⟨s2, p2, m2, rfl, hz, hb2⟩
  replace HT : Hid (Tab v2) := HT.out.below hb2
  replace Za : Hid _ := Za.out.below hb2
  replace hbw := Below.on hbw hb2
  clear hb2
  have Zb : Hid (ZN v2 s2 p2 m2 m2 (2)) := hz
  clear hz
  go_wp2_with fail
  refine (zfdiv Za.out Zb.out (by decide)).mono ?_
  rintro e v3 ⟨⟨s3, p3, m3, rfl, hz⟩, hb3⟩
  replace HT : Hid (Tab v3) := HT.out.below hb3
  replace Za : Hid _ := Za.out.below hb3
  replace Zb : Hid _ := Zb.out.below hb3
  replace hbw := Below.on hbw hb3
  clear hb3
  have hz := hz.cast (z' := -4) (by decide)
  have Zx : Hid (ZN v3 s3 p3 m3 m3 (-4)) := hz
  clear hz
  clear Za
  clear Zb
  go_wp2_with fail
  have Xx0 : Hid (Box (v3.alloc (.cells #[.bool s3, .slice p3 m3 m3] 28)) v3.heap.size (.bool s3) (.slice p3 m3 m3)) := Box.new v3 _ _ _
  have hbn : Below v3.heap.size v3 (v3.alloc (.cells #[.bool s3, .slice p3 m3 m3] 28)) := below1 v3 _
  generalize v3.alloc (.cells #[.bool s3, .slice p3 m3 m3] 28) = W3 at *
  have HGx : Hid (w.heap.size ≤ v3.heap.size) := hbw.size
  replace HT : Hid (Tab W3) := HT.out.below hbn
  replace Zx : Hid _ := Zx.out.below hbn
  replace hbw := Below.on hbw hbn
  clear hbn
  generalize v3.heap.size = gx at *
  have Xx := Xx0
  clear Xx0
  refine (zof (7) W3 (by omega) (by omega)).mono ?_
  rintro e v4 ⟨s4, p4, m4, rfl, hz, hb4⟩
  replace Xx : Hid _ := Xx.out.below hb4
  replace HT : Hid (Tab v4) := HT.out.below hb4
  replace Zx : Hid _ := Zx.out.below hb4
  replace hbw := Below.on hbw hb4
  clear hb4
  have Za : Hid (ZN v4 s4 p4 m4 m4 (7)) := hz
  clear hz
  go_wp2_with fail
  rw [show Value.int IntKind.i64 1 = .int .i64 ((1 : Nat) : Int) from rfl]
  refine (zrshr Za.out 1 (by omega) HT.out).mono ?_
  rintro e v5 ⟨⟨s5, p5, m5, rfl, hz⟩, hb5⟩
  replace Xx : Hid _ := Xx.out.below hb5
  replace HT : Hid (Tab v5) := HT.out.below hb5
  replace Zx : Hid _ := Zx.out.below hb5
  replace Za : Hid _ := Za.out.below hb5
  replace hbw := Below.on hbw hb5
  clear hb5
  have hz := hz.cast (z' := 4) (by decide)
  have Zy : Hid (ZN v5 s5 p5 m5 m5 (4)) := hz
  clear hz
  clear Za
  go_wp2_with fail
  have Xy0 : Hid (Box (v5.alloc (.cells #[.bool s5, .slice p5 m5 m5] 28)) v5.heap.size (.bool s5) (.slice p5 m5 m5)) := Box.new v5 _ _ _
  have hbn : Below v5.heap.size v5 (v5.alloc (.cells #[.bool s5, .slice p5 m5 m5] 28)) := below1 v5 _
  generalize v5.alloc (.cells #[.bool s5, .slice p5 m5 m5] 28) = W5 at *
  have HGy : Hid (w.heap.size ≤ v5.heap.size) := hbw.size
  replace Xx : Hid _ := Xx.out.below hbn
  replace HT : Hid (Tab W5) := HT.out.below hbn
  replace Zx : Hid _ := Zx.out.below hbn
  replace Zy : Hid _ := Zy.out.below hbn
  replace hbw := Below.on hbw hbn
  clear hbn
  generalize v5.heap.size = gy at *
  have Xy := Xy0
  clear Xy0
  refine (zof (-7) W5 (by omega) (by omega)).mono ?_
  rintro e v6 ⟨s6, p6, m6, rfl, hz, hb6⟩
  replace Xx : Hid _ := Xx.out.below hb6
  replace Xy : Hid _ := Xy.out.below hb6
  replace HT : Hid (Tab v6) := HT.out.below hb6
  replace Zx : Hid _ := Zx.out.below hb6
  replace Zy : Hid _ := Zy.out.below hb6
  replace hbw := Below.on hbw hb6
  clear hb6
  have Za : Hid (ZN v6 s6 p6 m6 m6 (-7)) := hz
  clear hz
  go_wp2_with fail
  refine (zof (3) v6 (by omega) (by omega)).mono ?_
  rintro e v7 ⟨s7, p7, m7, rfl, hz, hb7⟩
  replace Xx : Hid _ := Xx.out.below hb7
  replace Xy : Hid _ := Xy.out.below hb7
  replace HT : Hid (Tab v7) := HT.out.below hb7
  replace Zx : Hid _ := Zx.out.below hb7
  replace Zy : Hid _ := Zy.out.below hb7
  replace Za : Hid _ := Za.out.below hb7
  replace hbw := Below.on hbw hb7
  clear hb7
  have Zb : Hid (ZN v7 s7 p7 m7 m7 (3)) := hz
  clear hz
  go_wp2_with fail
  refine (zmod Za.out Zb.out (by decide)).mono ?_
  rintro e v8 ⟨⟨s8, p8, m8, rfl, hz⟩, hb8⟩
  replace Xx : Hid _ := Xx.out.below hb8
  replace Xy : Hid _ := Xy.out.below hb8
  replace HT : Hid (Tab v8) := HT.out.below hb8
  replace Zx : Hid _ := Zx.out.below hb8
  replace Zy : Hid _ := Zy.out.below hb8
  replace Za : Hid _ := Za.out.below hb8
  replace Zb : Hid _ := Zb.out.below hb8
  replace hbw := Below.on hbw hb8
  clear hb8
  have hz := hz.cast (z' := 2) (by decide)
  have Zz : Hid (ZN v8 s8 p8 m8 m8 (2)) := hz
  clear hz
  clear Za
  clear Zb
  go_wp2_with fail
  have Xz0 : Hid (Box (v8.alloc (.cells #[.bool s8, .slice p8 m8 m8] 28)) v8.heap.size (.bool s8) (.slice p8 m8 m8)) := Box.new v8 _ _ _
  have hbn : Below v8.heap.size v8 (v8.alloc (.cells #[.bool s8, .slice p8 m8 m8] 28)) := below1 v8 _
  generalize v8.alloc (.cells #[.bool s8, .slice p8 m8 m8] 28) = W8 at *
  have HGz : Hid (w.heap.size ≤ v8.heap.size) := hbw.size
  replace Xx : Hid _ := Xx.out.below hbn
  replace Xy : Hid _ := Xy.out.below hbn
  replace HT : Hid (Tab W8) := HT.out.below hbn
  replace Zx : Hid _ := Zx.out.below hbn
  replace Zy : Hid _ := Zy.out.below hbn
  replace Zz : Hid _ := Zz.out.below hbn
  replace hbw := Below.on hbw hbn
  clear hbn
  generalize v8.heap.size = gz at *
  have Xz := Xz0
  clear Xz0
  obtain ⟨W9, hW9⟩ : ∃ W1, W1 = W8.drew := ⟨_, rfl⟩
  have hbd : Below W8.heap.size W8 W9 := by rw [hW9]; exact bDrew1 (Below.refl _ _)
  replace Xx : Hid _ := Xx.out.below hbd
  replace Xy : Hid _ := Xy.out.below hbd
  replace Xz : Hid _ := Xz.out.below hbd
  replace HT : Hid (Tab W9) := HT.out.below hbd
  replace Zx : Hid _ := Zx.out.below hbd
  replace Zy : Hid _ := Zy.out.below hbd
  replace Zz : Hid _ := Zz.out.below hbd
  replace hbw := Below.on hbw hbd
  clear hbd
  have HJ : Hid ((fun W' : World => W'.cell? ⟨gx, 0, none⟩ = some (.bool s3) ∧ W'.cell? ⟨gx, 1, none⟩ = some (.slice p3 m3 m3) ∧ W'.cell? ⟨gy, 0, none⟩ = some (.bool s5) ∧ W'.cell? ⟨gy, 1, none⟩ = some (.slice p5 m5 m5) ∧ W'.cell? ⟨gz, 0, none⟩ = some (.bool s8) ∧ W'.cell? ⟨gz, 1, none⟩ = some (.slice p8 m8 m8)) W9) := ⟨Xx.out.c0, Xx.out.c1, Xy.out.c0, Xy.out.c1, Xz.out.c0, Xz.out.c1⟩
  refine wp_region_J (fun W' => W'.cell? ⟨gx, 0, none⟩ = some (.bool s3) ∧ W'.cell? ⟨gx, 1, none⟩ = some (.slice p3 m3 m3) ∧ W'.cell? ⟨gy, 0, none⟩ = some (.bool s5) ∧ W'.cell? ⟨gy, 1, none⟩ = some (.slice p5 m5 m5) ∧ W'.cell? ⟨gz, 0, none⟩ = some (.bool s8) ∧ W'.cell? ⟨gz, 1, none⟩ = some (.slice p8 m8 m8)) (by kernel_rfl) ?_
  rw [← hW9]
  clear hW9
  refine wpJ_take (i := 0) (v := ?v1x0) rfl (by kernel_rfl) (by kernel_rfl) (by kernel_rfl) (fun _ _ _ h => h) (by kernel_rfl) ?hy1x0 HJ.out ?rest1x0
  case hy1x0 => (intro W' hJ; obtain ⟨j0, j1, j2, j3, j4, j5⟩ := hJ; go_simp; first | done | with_reducible rfl)
  refine wpJ_take (i := 1) (v := ?v2x1) rfl (by kernel_rfl) (by kernel_rfl) (by kernel_rfl) (fun _ _ _ h => h) (by kernel_rfl) ?hy2x1 HJ.out ?rest2x1
  case hy2x1 => (intro W' hJ; obtain ⟨j0, j1, j2, j3, j4, j5⟩ := hJ; go_simp; first | done | with_reducible rfl)
  refine wpJ_take (i := 2) (v := ?v3x2) rfl (by kernel_rfl) (by kernel_rfl) (by kernel_rfl) (fun _ _ _ h => h) (by kernel_rfl) ?hy3x2 HJ.out ?rest3x2
  case hy3x2 => (intro W' hJ; obtain ⟨j0, j1, j2, j3, j4, j5⟩ := hJ; go_simp; first | done | with_reducible rfl)
  refine wpJ_take (i := 3) (v := ?v4x3) rfl (by kernel_rfl) (by kernel_rfl) (by kernel_rfl) (fun _ _ _ h => h) (by kernel_rfl) ?hy4x3 HJ.out ?rest4x3
  case hy4x3 => (intro W' hJ; obtain ⟨j0, j1, j2, j3, j4, j5⟩ := hJ; go_simp; first | done | with_reducible rfl)
  refine wpJ_take (i := 4) (v := ?v5x4) rfl (by kernel_rfl) (by kernel_rfl) (by kernel_rfl) (fun _ _ _ h => h) (by kernel_rfl) ?hy5x4 HJ.out ?rest5x4
  case hy5x4 => (intro W' hJ; obtain ⟨j0, j1, j2, j3, j4, j5⟩ := hJ; go_simp; first | done | with_reducible rfl)
  refine wpJ_take (i := 5) (v := ?v6x5) rfl (by kernel_rfl) (by kernel_rfl) (by kernel_rfl) (fun _ _ _ h => h) (by kernel_rfl) ?hy6x5 HJ.out ?rest6x5
  case hy6x5 => (intro W' hJ; obtain ⟨j0, j1, j2, j3, j4, j5⟩ := hJ; go_simp; first | done | with_reducible rfl)
  refine wpJ_take (i := 6) (v := ?v7x6) rfl (by kernel_rfl) (by kernel_rfl) (by kernel_rfl) (fun _ _ _ h => h) (by kernel_rfl) ?hy7x6 HJ.out ?rest7x6
  case hy7x6 => (intro W' hJ; obtain ⟨j0, j1, j2, j3, j4, j5⟩ := hJ; go_simp; first | done | with_reducible rfl)
  refine wpJ_take (i := 7) (v := ?v8x7) rfl (by kernel_rfl) (by kernel_rfl) (by kernel_rfl) (fun _ _ _ h => h) (by kernel_rfl) ?hy8x7 HJ.out ?rest8x7
  case hy8x7 => (intro W' hJ; obtain ⟨j0, j1, j2, j3, j4, j5⟩ := hJ; go_simp; first | done | with_reducible rfl)
  refine wpJ_take (i := 8) (v := ?v9x8) rfl (by kernel_rfl) (by kernel_rfl) (by kernel_rfl) (fun _ _ _ h => h) (by kernel_rfl) ?hy9x8 HJ.out ?rest9x8
  case hy9x8 => (intro W' hJ; obtain ⟨j0, j1, j2, j3, j4, j5⟩ := hJ; go_simp; first | done | with_reducible rfl)
  refine wpJ_take (i := 9) (v := ?v10x9) rfl (by kernel_rfl) (by kernel_rfl) (by kernel_rfl) (fun _ _ _ h => h) (by kernel_rfl) ?hy10x9 HJ.out ?rest10x9
  case hy10x9 => (intro W' hJ; obtain ⟨j0, j1, j2, j3, j4, j5⟩ := hJ; go_simp; first | done | with_reducible rfl)
  refine wpJ_take (i := 10) (v := ?v11x10) rfl (by kernel_rfl) (by kernel_rfl) (by kernel_rfl) (fun _ _ _ h => h) (by kernel_rfl) ?hy11x10 HJ.out ?rest11x10
  case hy11x10 => (intro W' hJ; obtain ⟨j0, j1, j2, j3, j4, j5⟩ := hJ; go_simp; first | done | with_reducible rfl)
  refine wpJ_take (i := 11) (v := ?v12x11) rfl (by kernel_rfl) (by kernel_rfl) (by kernel_rfl) (fun _ _ _ h => h) (by kernel_rfl) ?hy12x11 HJ.out ?rest12x11
  case hy12x11 => (intro W' hJ; obtain ⟨j0, j1, j2, j3, j4, j5⟩ := hJ; go_simp; first | done | with_reducible rfl)
  refine wpJ_one (i := 12) (by kernel_rfl) rfl (by kernel_rfl) (fun KJ hK => ?_)
  go_simp
  refine (zdocof (-4) W9 (by omega) (by omega)).mono ?_
  rintro e v10 ⟨s10, p10, m10, c10, rfl, hz, hb10⟩
  replace Xx : Hid _ := Xx.out.below hb10
  replace Xy : Hid _ := Xy.out.below hb10
  replace Xz : Hid _ := Xz.out.below hb10
  replace HT : Hid (Tab v10) := HT.out.below hb10
  replace Zx : Hid _ := Zx.out.below hb10
  replace Zy : Hid _ := Zy.out.below hb10
  replace Zz : Hid _ := Zz.out.below hb10
  replace hbw := Below.on hbw hb10
  clear hb10
  have Zd : Hid (ZN v10 s10 p10 m10 c10 (-4)) := hz
  clear hz
  refine hK _ _ ⟨Xx.out.c0, Xx.out.c1, Xy.out.c0, Xy.out.c1, Xz.out.c0, Xz.out.c1⟩ ?_
  clear hK
  refine wpJ_one (i := 13) (by kernel_rfl) rfl (by kernel_rfl) (fun KJ hK => ?_)
  go_simp
  refine (zsame Zx.out Zd.out).mono ?_
  rintro e v11 ⟨rfl, hb11⟩
  rw [decide_eq_true rfl]
  replace Xx : Hid _ := Xx.out.below hb11
  replace Xy : Hid _ := Xy.out.below hb11
  replace Xz : Hid _ := Xz.out.below hb11
  replace HT : Hid (Tab v11) := HT.out.below hb11
  replace Zx : Hid _ := Zx.out.below hb11
  replace Zy : Hid _ := Zy.out.below hb11
  replace Zz : Hid _ := Zz.out.below hb11
  replace Zd : Hid _ := Zd.out.below hb11
  replace hbw := Below.on hbw hb11
  clear hb11
  clear HJ
  have HJ : Hid ((fun W' : World => W'.cell? ⟨gx, 0, none⟩ = some (.bool s3) ∧ W'.cell? ⟨gx, 1, none⟩ = some (.slice p3 m3 m3) ∧ W'.cell? ⟨gy, 0, none⟩ = some (.bool s5) ∧ W'.cell? ⟨gy, 1, none⟩ = some (.slice p5 m5 m5) ∧ W'.cell? ⟨gz, 0, none⟩ = some (.bool s8) ∧ W'.cell? ⟨gz, 1, none⟩ = some (.slice p8 m8 m8)) v11) := ⟨Xx.out.c0, Xx.out.c1, Xy.out.c0, Xy.out.c1, Xz.out.c0, Xz.out.c1⟩
  refine hK _ _ HJ.out ?_
  clear hK
  refine wpJ_take (i := 14) (v := ?v13x14) rfl (by kernel_rfl) (by kernel_rfl) (by kernel_rfl) (fun _ _ _ h => h) (by kernel_rfl) ?hy13x14 HJ.out ?rest13x14
  case hy13x14 => (intro W' hJ; obtain ⟨j0, j1, j2, j3, j4, j5⟩ := hJ; go_simp; first | done | with_reducible rfl)
  refine wpJ_take (i := 15) (v := ?v14x15) rfl (by kernel_rfl) (by kernel_rfl) (by kernel_rfl) (fun _ _ _ h => h) (by kernel_rfl) ?hy14x15 HJ.out ?rest14x15
  case hy14x15 => (intro W' hJ; obtain ⟨j0, j1, j2, j3, j4, j5⟩ := hJ; go_simp; first | done | with_reducible rfl)
  refine wpJ_take (i := 16) (v := ?v15x16) rfl (by kernel_rfl) (by kernel_rfl) (by kernel_rfl) (fun _ _ _ h => h) (by kernel_rfl) ?hy15x16 HJ.out ?rest15x16
  case hy15x16 => (intro W' hJ; obtain ⟨j0, j1, j2, j3, j4, j5⟩ := hJ; go_simp; first | done | with_reducible rfl)
  refine wpJ_one (i := 17) (by kernel_rfl) rfl (by kernel_rfl) (fun KJ hK => ?_)
  go_simp
  refine (zdocof (4) v11 (by omega) (by omega)).mono ?_
  rintro e v12 ⟨s12, p12, m12, c12, rfl, hz, hb12⟩
  replace Xx : Hid _ := Xx.out.below hb12
  replace Xy : Hid _ := Xy.out.below hb12
  replace Xz : Hid _ := Xz.out.below hb12
  replace HT : Hid (Tab v12) := HT.out.below hb12
  replace Zx : Hid _ := Zx.out.below hb12
  replace Zy : Hid _ := Zy.out.below hb12
  replace Zz : Hid _ := Zz.out.below hb12
  replace Zd : Hid _ := Zd.out.below hb12
  replace hbw := Below.on hbw hb12
  clear hb12
  have Ze : Hid (ZN v12 s12 p12 m12 c12 (4)) := hz
  clear hz
  refine hK _ _ ⟨Xx.out.c0, Xx.out.c1, Xy.out.c0, Xy.out.c1, Xz.out.c0, Xz.out.c1⟩ ?_
  clear hK
  refine wpJ_one (i := 18) (by kernel_rfl) rfl (by kernel_rfl) (fun KJ hK => ?_)
  go_simp
  refine (zsame Zy.out Ze.out).mono ?_
  rintro e v13 ⟨rfl, hb13⟩
  rw [decide_eq_true rfl]
  replace Xx : Hid _ := Xx.out.below hb13
  replace Xy : Hid _ := Xy.out.below hb13
  replace Xz : Hid _ := Xz.out.below hb13
  replace HT : Hid (Tab v13) := HT.out.below hb13
  replace Zx : Hid _ := Zx.out.below hb13
  replace Zy : Hid _ := Zy.out.below hb13
  replace Zz : Hid _ := Zz.out.below hb13
  replace Zd : Hid _ := Zd.out.below hb13
  replace Ze : Hid _ := Ze.out.below hb13
  replace hbw := Below.on hbw hb13
  clear hb13
  clear HJ
  have HJ : Hid ((fun W' : World => W'.cell? ⟨gx, 0, none⟩ = some (.bool s3) ∧ W'.cell? ⟨gx, 1, none⟩ = some (.slice p3 m3 m3) ∧ W'.cell? ⟨gy, 0, none⟩ = some (.bool s5) ∧ W'.cell? ⟨gy, 1, none⟩ = some (.slice p5 m5 m5) ∧ W'.cell? ⟨gz, 0, none⟩ = some (.bool s8) ∧ W'.cell? ⟨gz, 1, none⟩ = some (.slice p8 m8 m8)) v13) := ⟨Xx.out.c0, Xx.out.c1, Xy.out.c0, Xy.out.c1, Xz.out.c0, Xz.out.c1⟩
  refine hK _ _ HJ.out ?_
  clear hK
  refine wpJ_take (i := 19) (v := ?v16x19) rfl (by kernel_rfl) (by kernel_rfl) (by kernel_rfl) (fun _ _ _ h => h) (by kernel_rfl) ?hy16x19 HJ.out ?rest16x19
  case hy16x19 => (intro W' hJ; obtain ⟨j0, j1, j2, j3, j4, j5⟩ := hJ; go_simp; first | done | with_reducible rfl)
  refine wpJ_take (i := 20) (v := ?v17x20) rfl (by kernel_rfl) (by kernel_rfl) (by kernel_rfl) (fun _ _ _ h => h) (by kernel_rfl) ?hy17x20 HJ.out ?rest17x20
  case hy17x20 => (intro W' hJ; obtain ⟨j0, j1, j2, j3, j4, j5⟩ := hJ; go_simp; first | done | with_reducible rfl)
  refine wpJ_take (i := 21) (v := ?v18x21) rfl (by kernel_rfl) (by kernel_rfl) (by kernel_rfl) (fun _ _ _ h => h) (by kernel_rfl) ?hy18x21 HJ.out ?rest18x21
  case hy18x21 => (intro W' hJ; obtain ⟨j0, j1, j2, j3, j4, j5⟩ := hJ; go_simp; first | done | with_reducible rfl)
  refine wpJ_one (i := 22) (by kernel_rfl) rfl (by kernel_rfl) (fun KJ hK => ?_)
  go_simp
  refine (zdocof (2) v13 (by omega) (by omega)).mono ?_
  rintro e v14 ⟨s14, p14, m14, c14, rfl, hz, hb14⟩
  replace Xx : Hid _ := Xx.out.below hb14
  replace Xy : Hid _ := Xy.out.below hb14
  replace Xz : Hid _ := Xz.out.below hb14
  replace HT : Hid (Tab v14) := HT.out.below hb14
  replace Zx : Hid _ := Zx.out.below hb14
  replace Zy : Hid _ := Zy.out.below hb14
  replace Zz : Hid _ := Zz.out.below hb14
  replace Zd : Hid _ := Zd.out.below hb14
  replace Ze : Hid _ := Ze.out.below hb14
  replace hbw := Below.on hbw hb14
  clear hb14
  have Zf : Hid (ZN v14 s14 p14 m14 c14 (2)) := hz
  clear hz
  refine hK _ _ ⟨Xx.out.c0, Xx.out.c1, Xy.out.c0, Xy.out.c1, Xz.out.c0, Xz.out.c1⟩ ?_
  clear hK
  refine wpJ_one (i := 23) (by kernel_rfl) rfl (by kernel_rfl) (fun KJ hK => ?_)
  go_simp
  refine (zsame Zz.out Zf.out).mono ?_
  rintro e v15 ⟨rfl, hb15⟩
  rw [decide_eq_true rfl]
  replace Xx : Hid _ := Xx.out.below hb15
  replace Xy : Hid _ := Xy.out.below hb15
  replace Xz : Hid _ := Xz.out.below hb15
  replace HT : Hid (Tab v15) := HT.out.below hb15
  replace Zx : Hid _ := Zx.out.below hb15
  replace Zy : Hid _ := Zy.out.below hb15
  replace Zz : Hid _ := Zz.out.below hb15
  replace Zd : Hid _ := Zd.out.below hb15
  replace Ze : Hid _ := Ze.out.below hb15
  replace Zf : Hid _ := Zf.out.below hb15
  replace hbw := Below.on hbw hb15
  clear hb15
  clear HJ
  have HJ : Hid ((fun W' : World => W'.cell? ⟨gx, 0, none⟩ = some (.bool s3) ∧ W'.cell? ⟨gx, 1, none⟩ = some (.slice p3 m3 m3) ∧ W'.cell? ⟨gy, 0, none⟩ = some (.bool s5) ∧ W'.cell? ⟨gy, 1, none⟩ = some (.slice p5 m5 m5) ∧ W'.cell? ⟨gz, 0, none⟩ = some (.bool s8) ∧ W'.cell? ⟨gz, 1, none⟩ = some (.slice p8 m8 m8)) v15) := ⟨Xx.out.c0, Xx.out.c1, Xy.out.c0, Xy.out.c1, Xz.out.c0, Xz.out.c1⟩
  refine hK _ _ HJ.out ?_
  clear hK
  refine wpJ_take (i := 24) (v := ?v19x24) rfl (by kernel_rfl) (by kernel_rfl) (by kernel_rfl) (fun _ _ _ h => h) (by kernel_rfl) ?hy19x24 HJ.out ?rest19x24
  case hy19x24 => (intro W' hJ; obtain ⟨j0, j1, j2, j3, j4, j5⟩ := hJ; go_simp; first | done | with_reducible rfl)
  refine wpJ_take (i := 25) (v := ?v20x25) rfl (by kernel_rfl) (by kernel_rfl) (by kernel_rfl) (fun _ _ _ h => h) (by kernel_rfl) ?hy20x25 HJ.out ?rest20x25
  case hy20x25 => (intro W' hJ; obtain ⟨j0, j1, j2, j3, j4, j5⟩ := hJ; go_simp; first | done | with_reducible rfl)
  refine wpJ_done (by kernel_rfl) ?_ _
  clear HJ
  go_wp2_with fail
  go_ret
  exact ⟨rfl, hbw⟩
end Go.Proofs.YtgodajcnhipleaaGreatDoor

namespace Go.Proofs.YtgodajcnhipleaaGreatDoor
open Go.RowKit Go.Shelf

set_option maxRecDepth 20000 in
set_option maxHeartbeats 4000000 in
theorem numShifts_walk {P : Option Addr} {N C : Nat} {its : List Op6} {w : World} (h : Scr4 w P N C its) (hT : Tab w) :
    Calls Tryz.prog 5 #[.slice P N C] w fun e w' => e = .returned (.bool true) ∧ Below w.heap.size w w' := by
  have H : Hid (Scr4 w P N C its) := h
  have TB : Hid (Tab w) := hT
  clear h hT
  go_enter Tryz.func5, Tryz.ntmps5
  go_wp2_with fail
  refine (halves_any _ TB.out).mono ?_
  rintro e w1 ⟨rfl, hb1⟩
  have H1 : Hid (Scr4 w1 P N C its) := H.out.below hb1
  have T1 : Hid (Tab w1) := TB.out.below hb1
  have HB1 : Hid (Below w.heap.size w w1) := hb1
  clear hb1
  go_wp2_with fail
  refine (all4 (T := Tab) H1.out T1.out (fun _ _ h hb => h.below hb) ?_).mono ?_
  · intro k h5 h9 px py nx cx ny cy xx yy w sx sy nn ht h kk hx hy hn0 hn1
    rcases (by omega : k = 10 ∨ k = 11 ∨ k = 12 ∨ k = 13) with rfl | rfl | rfl | rfl
    · exact plays4_10 sx sy nn h kk hx hy hn0 hn1
    · exact plays4_11 sx sy nn h kk hx hy hn0 hn1 ht
    · exact plays4_12 sx sy nn h kk hx hy hn0 hn1 ht
    · exact plays4_13 sx sy nn h kk hx hy hn0 hn1 ht
  rintro e w3 ⟨rfl, hb3⟩
  have hbw := Below.on HB1.out hb3
  clear hb3
  go_wp2_with fail
  go_ret
  exact ⟨rfl, hbw⟩
end Go.Proofs.YtgodajcnhipleaaGreatDoor

