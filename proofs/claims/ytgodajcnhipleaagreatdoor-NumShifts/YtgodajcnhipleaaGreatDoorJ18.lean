import Derived.Test.YtgodajcnhipleaaGreatDoorJ15
import Derived.Test.YtgodajcnhipleaaGreatDoorJ17
namespace Go.Proofs.YtgodajcnhipleaaGreatDoor
open Go.RowKit Go.Shelf

set_option maxRecDepth 20000 in
set_option maxHeartbeats 8000000 in
theorem number4_10 {px py : Option Addr} {nx cx ny cy : Nat} {xx yy : List Nat} {w : World} (sx sy : Bool) (nn : Int) (h : At w px nx cx xx) (k : At w py ny cy yy) (hx : nx ≤ 17592186044416) (hy : ny ≤ 17592186044416) (hn0 : -9223372036854775808 ≤ nn) (hn1 : nn ≤ 9223372036854775807) :
    Calls Tryz.prog 35 #[.agg #[.int .i64 10, .bool sx, .slice px nx cx, .bool sy, .slice py ny cy, .int .i64 nn]] w fun e w' => ∃ s' p' m' c' us er, e = .returned (.tuple #[ZV s' p' m' c', .int .i64 er]) ∧ NewAt w.heap.size w' p' m' c' us ∧ ShiftZ rShl sx xx nn s' us er ∧ Below w.heap.size w w' := by
  have H : Hid (At w px nx cx xx) := h
  have K : Hid (At w py ny cy yy) := k
  have HB : Hid (nx ≤ 17592186044416 ∧ ny ≤ 17592186044416 ∧ -9223372036854775808 ≤ nn ∧ nn ≤ 9223372036854775807) := ⟨hx, hy, hn0, hn1⟩
  clear h k hx hy hn0 hn1
  go_enter Tryz.func35, Tryz.ntmps35
  go_wp2_with fail
  obtain ⟨W0, hW0⟩ : ∃ W0, W0 = (((w.alloc (.cells #[.int .i64 10, .bool sx, .slice px nx cx, .bool sy, .slice py ny cy, .int .i64 nn] 38)).alloc (.cells #[.bool false, .slice none 0 0] 28)).alloc (.cells #[.bool false, .slice none 0 0] 28)) := ⟨_, rfl⟩
  have Xo : Hid (B6q W0 (w.heap.size) (.int .i64 10) (.bool sx) (.slice px nx cx) (.bool sy) (.slice py ny cy) (.int .i64 nn)) := by rw [hW0]; exact ⟨by go_simp, by go_simp, by go_simp, by go_simp, by go_simp, by go_simp, by go_simp, by go_simp, by go_simp, by go_simp, by go_simp, by go_simp⟩
  have Xr : Hid (Box W0 (w.heap.size + 1) (.bool false) (.slice none 0 0)) := by rw [hW0]; exact ⟨by go_simp, by go_simp, by go_simp, by go_simp⟩
  have Xx : Hid (Box W0 (w.heap.size + 1 + 1) (.bool false) (.slice none 0 0)) := by rw [hW0]; exact ⟨by go_simp, by go_simp, by go_simp, by go_simp⟩
  have hb0 : Below w.heap.size w W0 := by rw [hW0]; exact below3 w _ _ _
  rw [← hW0]
  clear hW0
  have hbw : Below w.heap.size w w := Below.refl _ _
  obtain ⟨gx, hgx⟩ : ∃ g, g = w.heap.size + 1 + 1 := ⟨_, rfl⟩
  have HGx : Hid (w.heap.size ≤ gx) := by rw [hgx]; show _ ≤ _; omega
  rw [← hgx] at Xx
  try rw [← hgx]
  obtain ⟨gr, hgr⟩ : ∃ g, g = w.heap.size + 1 := ⟨_, rfl⟩
  have HGr : Hid (w.heap.size ≤ gr) := by rw [hgr]; show _ ≤ _; omega
  rw [← hgr] at Xr
  try rw [← hgr]
  obtain ⟨go, hgo⟩ : ∃ g, g = w.heap.size := ⟨_, rfl⟩
  have HGo : Hid (w.heap.size ≤ go) := by rw [hgo]; show _ ≤ _; omega
  rw [← hgo] at Xo
  try rw [← hgo]
  have HGD : Hid (go ≠ gr ∧ go ≠ gx ∧ gr ≠ go ∧ gr ≠ gx ∧ gx ≠ go ∧ gx ≠ gr) := by rw [hgo, hgr, hgx]; exact ⟨by omega, by omega, by omega, by omega, by omega, by omega⟩
  clear hgo hgr hgx
  replace H : Hid _ := H.out.below hb0
  replace K : Hid _ := K.out.below hb0
  replace hbw := Below.on hbw hb0
  clear hb0
  refine (nshl4 sx H.out nn HB.out.2.2.2).mono ?_
  rintro e v4 ⟨s4, p4, m4, c4, u4, er4, rfl, hA4, hD4, hb4⟩
  have HRL0 : Hid (gr < W0.heap.size ∧ w.heap.size ≤ W0.heap.size ∧ gx < W0.heap.size) := ⟨Xr.out.lt, hbw.size, Xx.out.lt⟩
  replace Xo : Hid _ := Xo.out.below hb4
  replace Xr : Hid _ := Xr.out.below hb4
  replace Xx : Hid _ := Xx.out.below hb4
  replace H : Hid _ := H.out.below hb4
  replace K : Hid _ := K.out.below hb4
  replace hbw := Below.on hbw hb4
  clear hb4
  have A4 : Hid (NewAt W0.heap.size v4 p4 m4 c4 u4) := hA4
  have D4 : Hid (ShiftZ rShl sx xx nn s4 u4 er4) := hD4
  clear hA4 hD4
  obtain ⟨hgd0, hgd1, hgd2, hgd3, hgd4, hgd5⟩ := HGD.out
  obtain ⟨cr0, cr1, fr0, fr1⟩ := Xr.out
  have hner := Xr.out.lt
  obtain ⟨cx0, cx1, fx0, fx1⟩ := Xx.out
  have hnex := Xx.out.lt
  go_wp2_with fail
  refine bodyPost_ret (v := .tuple #[ZV s4 p4 m4 c4, .int .i64 er4]) (by rw [results_cell_tmp rfl]; go_simp) rfl ⟨s4, p4, m4, c4, u4, er4, rfl, ?_, D4.out, ?_⟩
  · exact (A4.out.set2 HRL0.out.2.2 (Nat.le_refl _) _ _).set2 HRL0.out.1 HRL0.out.2.1 _ _
  · exact bSet (bSet (bSet (bSet hbw _ _ _ HGx.out) _ _ _ HGx.out) _ _ _ HGr.out) _ _ _ HGr.out
set_option maxRecDepth 20000 in
set_option maxHeartbeats 8000000 in
theorem number4_11 {px py : Option Addr} {nx cx ny cy : Nat} {xx yy : List Nat} {w : World} (sx sy : Bool) (nn : Int) (h : At w px nx cx xx) (k : At w py ny cy yy) (hx : nx ≤ 17592186044416) (hy : ny ≤ 17592186044416) (hn0 : -9223372036854775808 ≤ nn) (hn1 : nn ≤ 9223372036854775807) (hT : Tab w) :
    Calls Tryz.prog 35 #[.agg #[.int .i64 11, .bool sx, .slice px nx cx, .bool sy, .slice py ny cy, .int .i64 nn]] w fun e w' => ∃ s' p' m' c' us er, e = .returned (.tuple #[ZV s' p' m' c', .int .i64 er]) ∧ NewAt w.heap.size w' p' m' c' us ∧ ShiftZ rFs sx xx nn s' us er ∧ Below w.heap.size w w' := by
  have H : Hid (At w px nx cx xx) := h
  have K : Hid (At w py ny cy yy) := k
  have HB : Hid (nx ≤ 17592186044416 ∧ ny ≤ 17592186044416 ∧ -9223372036854775808 ≤ nn ∧ nn ≤ 9223372036854775807) := ⟨hx, hy, hn0, hn1⟩
  have TB : Hid (Tab w) := hT
  clear h k hx hy hn0 hn1 hT
  go_enter Tryz.func35, Tryz.ntmps35
  go_wp2_with fail
  obtain ⟨W0, hW0⟩ : ∃ W0, W0 = (((w.alloc (.cells #[.int .i64 11, .bool sx, .slice px nx cx, .bool sy, .slice py ny cy, .int .i64 nn] 38)).alloc (.cells #[.bool false, .slice none 0 0] 28)).alloc (.cells #[.bool false, .slice none 0 0] 28)) := ⟨_, rfl⟩
  have Xo : Hid (B6q W0 (w.heap.size) (.int .i64 11) (.bool sx) (.slice px nx cx) (.bool sy) (.slice py ny cy) (.int .i64 nn)) := by rw [hW0]; exact ⟨by go_simp, by go_simp, by go_simp, by go_simp, by go_simp, by go_simp, by go_simp, by go_simp, by go_simp, by go_simp, by go_simp, by go_simp⟩
  have Xr : Hid (Box W0 (w.heap.size + 1) (.bool false) (.slice none 0 0)) := by rw [hW0]; exact ⟨by go_simp, by go_simp, by go_simp, by go_simp⟩
  have Xx : Hid (Box W0 (w.heap.size + 1 + 1) (.bool false) (.slice none 0 0)) := by rw [hW0]; exact ⟨by go_simp, by go_simp, by go_simp, by go_simp⟩
  have hb0 : Below w.heap.size w W0 := by rw [hW0]; exact below3 w _ _ _
  rw [← hW0]
  clear hW0
  have hbw : Below w.heap.size w w := Below.refl _ _
  obtain ⟨gx, hgx⟩ : ∃ g, g = w.heap.size + 1 + 1 := ⟨_, rfl⟩
  have HGx : Hid (w.heap.size ≤ gx) := by rw [hgx]; show _ ≤ _; omega
  rw [← hgx] at Xx
  try rw [← hgx]
  obtain ⟨gr, hgr⟩ : ∃ g, g = w.heap.size + 1 := ⟨_, rfl⟩
  have HGr : Hid (w.heap.size ≤ gr) := by rw [hgr]; show _ ≤ _; omega
  rw [← hgr] at Xr
  try rw [← hgr]
  obtain ⟨go, hgo⟩ : ∃ g, g = w.heap.size := ⟨_, rfl⟩
  have HGo : Hid (w.heap.size ≤ go) := by rw [hgo]; show _ ≤ _; omega
  rw [← hgo] at Xo
  try rw [← hgo]
  have HGD : Hid (go ≠ gr ∧ go ≠ gx ∧ gr ≠ go ∧ gr ≠ gx ∧ gx ≠ go ∧ gx ≠ gr) := by rw [hgo, hgr, hgx]; exact ⟨by omega, by omega, by omega, by omega, by omega, by omega⟩
  clear hgo hgr hgx
  replace H : Hid _ := H.out.below hb0
  replace K : Hid _ := K.out.below hb0
  replace TB : Hid (Tab W0) := TB.out.below hb0
  replace hbw := Below.on hbw hb0
  clear hb0
  refine (nfshr4 sx H.out nn HB.out.2.2.2 TB.out).mono ?_
  rintro e v4 ⟨s4, p4, m4, c4, u4, er4, rfl, hA4, hD4, hb4⟩
  have HRL0 : Hid (gr < W0.heap.size ∧ w.heap.size ≤ W0.heap.size ∧ gx < W0.heap.size) := ⟨Xr.out.lt, hbw.size, Xx.out.lt⟩
  replace Xo : Hid _ := Xo.out.below hb4
  replace Xr : Hid _ := Xr.out.below hb4
  replace Xx : Hid _ := Xx.out.below hb4
  replace H : Hid _ := H.out.below hb4
  replace K : Hid _ := K.out.below hb4
  replace TB : Hid (Tab v4) := TB.out.below hb4
  replace hbw := Below.on hbw hb4
  clear hb4
  have A4 : Hid (NewAt W0.heap.size v4 p4 m4 c4 u4) := hA4
  have D4 : Hid (ShiftZ rFs sx xx nn s4 u4 er4) := hD4
  clear hA4 hD4
  obtain ⟨hgd0, hgd1, hgd2, hgd3, hgd4, hgd5⟩ := HGD.out
  obtain ⟨cr0, cr1, fr0, fr1⟩ := Xr.out
  have hner := Xr.out.lt
  obtain ⟨cx0, cx1, fx0, fx1⟩ := Xx.out
  have hnex := Xx.out.lt
  go_wp2_with fail
  refine bodyPost_ret (v := .tuple #[ZV s4 p4 m4 c4, .int .i64 er4]) (by rw [results_cell_tmp rfl]; go_simp) rfl ⟨s4, p4, m4, c4, u4, er4, rfl, ?_, D4.out, ?_⟩
  · exact (A4.out.set2 HRL0.out.2.2 (Nat.le_refl _) _ _).set2 HRL0.out.1 HRL0.out.2.1 _ _
  · exact bSet (bSet (bSet (bSet hbw _ _ _ HGx.out) _ _ _ HGx.out) _ _ _ HGr.out) _ _ _ HGr.out
set_option maxRecDepth 20000 in
set_option maxHeartbeats 8000000 in
theorem number4_12 {px py : Option Addr} {nx cx ny cy : Nat} {xx yy : List Nat} {w : World} (sx sy : Bool) (nn : Int) (h : At w px nx cx xx) (k : At w py ny cy yy) (hx : nx ≤ 17592186044416) (hy : ny ≤ 17592186044416) (hn0 : -9223372036854775808 ≤ nn) (hn1 : nn ≤ 9223372036854775807) (hT : Tab w) :
    Calls Tryz.prog 35 #[.agg #[.int .i64 12, .bool sx, .slice px nx cx, .bool sy, .slice py ny cy, .int .i64 nn]] w fun e w' => ∃ s' p' m' c' us er, e = .returned (.tuple #[ZV s' p' m' c', .int .i64 er]) ∧ NewAt w.heap.size w' p' m' c' us ∧ ShiftZ rCs sx xx nn s' us er ∧ Below w.heap.size w w' := by
  have H : Hid (At w px nx cx xx) := h
  have K : Hid (At w py ny cy yy) := k
  have HB : Hid (nx ≤ 17592186044416 ∧ ny ≤ 17592186044416 ∧ -9223372036854775808 ≤ nn ∧ nn ≤ 9223372036854775807) := ⟨hx, hy, hn0, hn1⟩
  have TB : Hid (Tab w) := hT
  clear h k hx hy hn0 hn1 hT
  go_enter Tryz.func35, Tryz.ntmps35
  go_wp2_with fail
  obtain ⟨W0, hW0⟩ : ∃ W0, W0 = (((w.alloc (.cells #[.int .i64 12, .bool sx, .slice px nx cx, .bool sy, .slice py ny cy, .int .i64 nn] 38)).alloc (.cells #[.bool false, .slice none 0 0] 28)).alloc (.cells #[.bool false, .slice none 0 0] 28)) := ⟨_, rfl⟩
  have Xo : Hid (B6q W0 (w.heap.size) (.int .i64 12) (.bool sx) (.slice px nx cx) (.bool sy) (.slice py ny cy) (.int .i64 nn)) := by rw [hW0]; exact ⟨by go_simp, by go_simp, by go_simp, by go_simp, by go_simp, by go_simp, by go_simp, by go_simp, by go_simp, by go_simp, by go_simp, by go_simp⟩
  have Xr : Hid (Box W0 (w.heap.size + 1) (.bool false) (.slice none 0 0)) := by rw [hW0]; exact ⟨by go_simp, by go_simp, by go_simp, by go_simp⟩
  have Xx : Hid (Box W0 (w.heap.size + 1 + 1) (.bool false) (.slice none 0 0)) := by rw [hW0]; exact ⟨by go_simp, by go_simp, by go_simp, by go_simp⟩
  have hb0 : Below w.heap.size w W0 := by rw [hW0]; exact below3 w _ _ _
  rw [← hW0]
  clear hW0
  have hbw : Below w.heap.size w w := Below.refl _ _
  obtain ⟨gx, hgx⟩ : ∃ g, g = w.heap.size + 1 + 1 := ⟨_, rfl⟩
  have HGx : Hid (w.heap.size ≤ gx) := by rw [hgx]; show _ ≤ _; omega
  rw [← hgx] at Xx
  try rw [← hgx]
  obtain ⟨gr, hgr⟩ : ∃ g, g = w.heap.size + 1 := ⟨_, rfl⟩
  have HGr : Hid (w.heap.size ≤ gr) := by rw [hgr]; show _ ≤ _; omega
  rw [← hgr] at Xr
  try rw [← hgr]
  obtain ⟨go, hgo⟩ : ∃ g, g = w.heap.size := ⟨_, rfl⟩
  have HGo : Hid (w.heap.size ≤ go) := by rw [hgo]; show _ ≤ _; omega
  rw [← hgo] at Xo
  try rw [← hgo]
  have HGD : Hid (go ≠ gr ∧ go ≠ gx ∧ gr ≠ go ∧ gr ≠ gx ∧ gx ≠ go ∧ gx ≠ gr) := by rw [hgo, hgr, hgx]; exact ⟨by omega, by omega, by omega, by omega, by omega, by omega⟩
  clear hgo hgr hgx
  replace H : Hid _ := H.out.below hb0
  replace K : Hid _ := K.out.below hb0
  replace TB : Hid (Tab W0) := TB.out.below hb0
  replace hbw := Below.on hbw hb0
  clear hb0
  refine (ncshr4 sx H.out nn HB.out.2.2.2 TB.out).mono ?_
  rintro e v4 ⟨s4, p4, m4, c4, u4, er4, rfl, hA4, hD4, hb4⟩
  have HRL0 : Hid (gr < W0.heap.size ∧ w.heap.size ≤ W0.heap.size ∧ gx < W0.heap.size) := ⟨Xr.out.lt, hbw.size, Xx.out.lt⟩
  replace Xo : Hid _ := Xo.out.below hb4
  replace Xr : Hid _ := Xr.out.below hb4
  replace Xx : Hid _ := Xx.out.below hb4
  replace H : Hid _ := H.out.below hb4
  replace K : Hid _ := K.out.below hb4
  replace TB : Hid (Tab v4) := TB.out.below hb4
  replace hbw := Below.on hbw hb4
  clear hb4
  have A4 : Hid (NewAt W0.heap.size v4 p4 m4 c4 u4) := hA4
  have D4 : Hid (ShiftZ rCs sx xx nn s4 u4 er4) := hD4
  clear hA4 hD4
  obtain ⟨hgd0, hgd1, hgd2, hgd3, hgd4, hgd5⟩ := HGD.out
  obtain ⟨cr0, cr1, fr0, fr1⟩ := Xr.out
  have hner := Xr.out.lt
  obtain ⟨cx0, cx1, fx0, fx1⟩ := Xx.out
  have hnex := Xx.out.lt
  go_wp2_with fail
  refine bodyPost_ret (v := .tuple #[ZV s4 p4 m4 c4, .int .i64 er4]) (by rw [results_cell_tmp rfl]; go_simp) rfl ⟨s4, p4, m4, c4, u4, er4, rfl, ?_, D4.out, ?_⟩
  · exact (A4.out.set2 HRL0.out.2.2 (Nat.le_refl _) _ _).set2 HRL0.out.1 HRL0.out.2.1 _ _
  · exact bSet (bSet (bSet (bSet hbw _ _ _ HGx.out) _ _ _ HGx.out) _ _ _ HGr.out) _ _ _ HGr.out
set_option maxRecDepth 20000 in
set_option maxHeartbeats 8000000 in
theorem number4_13 {px py : Option Addr} {nx cx ny cy : Nat} {xx yy : List Nat} {w : World} (sx sy : Bool) (nn : Int) (h : At w px nx cx xx) (k : At w py ny cy yy) (hx : nx ≤ 17592186044416) (hy : ny ≤ 17592186044416) (hn0 : -9223372036854775808 ≤ nn) (hn1 : nn ≤ 9223372036854775807) (hT : Tab w) :
    Calls Tryz.prog 35 #[.agg #[.int .i64 13, .bool sx, .slice px nx cx, .bool sy, .slice py ny cy, .int .i64 nn]] w fun e w' => ∃ s' p' m' c' us er, e = .returned (.tuple #[ZV s' p' m' c', .int .i64 er]) ∧ NewAt w.heap.size w' p' m' c' us ∧ ShiftZ rNs sx xx nn s' us er ∧ Below w.heap.size w w' := by
  have H : Hid (At w px nx cx xx) := h
  have K : Hid (At w py ny cy yy) := k
  have HB : Hid (nx ≤ 17592186044416 ∧ ny ≤ 17592186044416 ∧ -9223372036854775808 ≤ nn ∧ nn ≤ 9223372036854775807) := ⟨hx, hy, hn0, hn1⟩
  have TB : Hid (Tab w) := hT
  clear h k hx hy hn0 hn1 hT
  go_enter Tryz.func35, Tryz.ntmps35
  go_wp2_with fail
  obtain ⟨W0, hW0⟩ : ∃ W0, W0 = (((w.alloc (.cells #[.int .i64 13, .bool sx, .slice px nx cx, .bool sy, .slice py ny cy, .int .i64 nn] 38)).alloc (.cells #[.bool false, .slice none 0 0] 28)).alloc (.cells #[.bool false, .slice none 0 0] 28)) := ⟨_, rfl⟩
  have Xo : Hid (B6q W0 (w.heap.size) (.int .i64 13) (.bool sx) (.slice px nx cx) (.bool sy) (.slice py ny cy) (.int .i64 nn)) := by rw [hW0]; exact ⟨by go_simp, by go_simp, by go_simp, by go_simp, by go_simp, by go_simp, by go_simp, by go_simp, by go_simp, by go_simp, by go_simp, by go_simp⟩
  have Xr : Hid (Box W0 (w.heap.size + 1) (.bool false) (.slice none 0 0)) := by rw [hW0]; exact ⟨by go_simp, by go_simp, by go_simp, by go_simp⟩
  have Xx : Hid (Box W0 (w.heap.size + 1 + 1) (.bool false) (.slice none 0 0)) := by rw [hW0]; exact ⟨by go_simp, by go_simp, by go_simp, by go_simp⟩
  have hb0 : Below w.heap.size w W0 := by rw [hW0]; exact below3 w _ _ _
  rw [← hW0]
  clear hW0
  have hbw : Below w.heap.size w w := Below.refl _ _
  obtain ⟨gx, hgx⟩ : ∃ g, g = w.heap.size + 1 + 1 := ⟨_, rfl⟩
  have HGx : Hid (w.heap.size ≤ gx) := by rw [hgx]; show _ ≤ _; omega
  rw [← hgx] at Xx
  try rw [← hgx]
  obtain ⟨gr, hgr⟩ : ∃ g, g = w.heap.size + 1 := ⟨_, rfl⟩
  have HGr : Hid (w.heap.size ≤ gr) := by rw [hgr]; show _ ≤ _; omega
  rw [← hgr] at Xr
  try rw [← hgr]
  obtain ⟨go, hgo⟩ : ∃ g, g = w.heap.size := ⟨_, rfl⟩
  have HGo : Hid (w.heap.size ≤ go) := by rw [hgo]; show _ ≤ _; omega
  rw [← hgo] at Xo
  try rw [← hgo]
  have HGD : Hid (go ≠ gr ∧ go ≠ gx ∧ gr ≠ go ∧ gr ≠ gx ∧ gx ≠ go ∧ gx ≠ gr) := by rw [hgo, hgr, hgx]; exact ⟨by omega, by omega, by omega, by omega, by omega, by omega⟩
  clear hgo hgr hgx
  replace H : Hid _ := H.out.below hb0
  replace K : Hid _ := K.out.below hb0
  replace TB : Hid (Tab W0) := TB.out.below hb0
  replace hbw := Below.on hbw hb0
  clear hb0
  refine (nrshr4 sx H.out nn HB.out.2.2.2 TB.out).mono ?_
  rintro e v4 ⟨s4, p4, m4, c4, u4, er4, rfl, hA4, hD4, hb4⟩
  have HRL0 : Hid (gr < W0.heap.size ∧ w.heap.size ≤ W0.heap.size ∧ gx < W0.heap.size) := ⟨Xr.out.lt, hbw.size, Xx.out.lt⟩
  replace Xo : Hid _ := Xo.out.below hb4
  replace Xr : Hid _ := Xr.out.below hb4
  replace Xx : Hid _ := Xx.out.below hb4
  replace H : Hid _ := H.out.below hb4
  replace K : Hid _ := K.out.below hb4
  replace TB : Hid (Tab v4) := TB.out.below hb4
  replace hbw := Below.on hbw hb4
  clear hb4
  have A4 : Hid (NewAt W0.heap.size v4 p4 m4 c4 u4) := hA4
  have D4 : Hid (ShiftZ rNs sx xx nn s4 u4 er4) := hD4
  clear hA4 hD4
  obtain ⟨hgd0, hgd1, hgd2, hgd3, hgd4, hgd5⟩ := HGD.out
  obtain ⟨cr0, cr1, fr0, fr1⟩ := Xr.out
  have hner := Xr.out.lt
  obtain ⟨cx0, cx1, fx0, fx1⟩ := Xx.out
  have hnex := Xx.out.lt
  go_wp2_with fail
  refine bodyPost_ret (v := .tuple #[ZV s4 p4 m4 c4, .int .i64 er4]) (by rw [results_cell_tmp rfl]; go_simp) rfl ⟨s4, p4, m4, c4, u4, er4, rfl, ?_, D4.out, ?_⟩
  · exact (A4.out.set2 HRL0.out.2.2 (Nat.le_refl _) _ _).set2 HRL0.out.1 HRL0.out.2.1 _ _
  · exact bSet (bSet (bSet (bSet hbw _ _ _ HGx.out) _ _ _ HGx.out) _ _ _ HGr.out) _ _ _ HGr.out
end Go.Proofs.YtgodajcnhipleaaGreatDoor

namespace Go.Proofs.YtgodajcnhipleaaGreatDoor
open Go.RowKit Go.Shelf

set_option maxRecDepth 20000 in
set_option maxHeartbeats 8000000 in
theorem doc4_10 {px py : Option Addr} {nx cx ny cy : Nat} {xx yy : List Nat} {w : World} (sx sy : Bool) (nn : Int) (h : At w px nx cx xx) (k : At w py ny cy yy) (hx : nx ≤ 17592186044416) (hy : ny ≤ 17592186044416) (hn0 : -9223372036854775808 ≤ nn) (hn1 : nn ≤ 9223372036854775807) :
    Calls Tryz.prog 34 #[.agg #[.int .i64 10, .bool sx, .slice px nx cx, .bool sy, .slice py ny cy, .int .i64 nn]] w fun e w' => ∃ s' p' m' c' us er, e = .returned (.tuple #[ZV s' p' m' c', .int .i64 er]) ∧ NewAt w.heap.size w' p' m' c' us ∧ ShiftZ rShl sx xx nn s' us er ∧ Below w.heap.size w w' := by
  have H : Hid (At w px nx cx xx) := h
  have K : Hid (At w py ny cy yy) := k
  have HB : Hid (nx ≤ 17592186044416 ∧ ny ≤ 17592186044416 ∧ -9223372036854775808 ≤ nn ∧ nn ≤ 9223372036854775807) := ⟨hx, hy, hn0, hn1⟩
  clear h k hx hy hn0 hn1
  go_enter Tryz.func34, Tryz.ntmps34
  go_wp2_with fail
  obtain ⟨W0, hW0⟩ : ∃ W0, W0 = ((w.alloc (.cells #[.int .i64 10, .bool sx, .slice px nx cx, .bool sy, .slice py ny cy, .int .i64 nn] 38)).alloc (.cells #[.bool false, .slice none 0 0] 28)) := ⟨_, rfl⟩
  have Xo : Hid (B6q W0 (w.heap.size) (.int .i64 10) (.bool sx) (.slice px nx cx) (.bool sy) (.slice py ny cy) (.int .i64 nn)) := by rw [hW0]; exact ⟨by go_simp, by go_simp, by go_simp, by go_simp, by go_simp, by go_simp, by go_simp, by go_simp, by go_simp, by go_simp, by go_simp, by go_simp⟩
  have Xr : Hid (Box W0 (w.heap.size + 1) (.bool false) (.slice none 0 0)) := by rw [hW0]; exact ⟨by go_simp, by go_simp, by go_simp, by go_simp⟩
  have hb0 : Below w.heap.size w W0 := by rw [hW0]; exact below2 w _ _
  rw [← hW0]
  clear hW0
  have hbw : Below w.heap.size w w := Below.refl _ _
  obtain ⟨gr, hgr⟩ : ∃ g, g = w.heap.size + 1 := ⟨_, rfl⟩
  have HGr : Hid (w.heap.size ≤ gr) := by rw [hgr]; show _ ≤ _; omega
  rw [← hgr] at Xr
  try rw [← hgr]
  obtain ⟨go, hgo⟩ : ∃ g, g = w.heap.size := ⟨_, rfl⟩
  have HGo : Hid (w.heap.size ≤ go) := by rw [hgo]; show _ ≤ _; omega
  rw [← hgo] at Xo
  try rw [← hgo]
  have HGD : Hid (go ≠ gr ∧ gr ≠ go) := by rw [hgo, hgr]; exact ⟨by omega, by omega⟩
  clear hgo hgr
  replace H : Hid _ := H.out.below hb0
  replace K : Hid _ := K.out.below hb0
  replace hbw := Below.on hbw hb0
  clear hb0
  refine (docshift4_0 sx H.out nn HB.out.2.2.2).mono ?_
  rintro e v4 ⟨s4, p4, m4, c4, u4, er4, rfl, hA4, hD4, hb4⟩
  have HRL0 : Hid (gr < W0.heap.size ∧ w.heap.size ≤ W0.heap.size) := ⟨Xr.out.lt, hbw.size⟩
  replace Xo : Hid _ := Xo.out.below hb4
  replace Xr : Hid _ := Xr.out.below hb4
  replace H : Hid _ := H.out.below hb4
  replace K : Hid _ := K.out.below hb4
  replace hbw := Below.on hbw hb4
  clear hb4
  have A4 : Hid (NewAt W0.heap.size v4 p4 m4 c4 u4) := hA4
  have D4 : Hid (ShiftZ rShl sx xx nn s4 u4 er4) := hD4
  clear hA4 hD4
  obtain ⟨cr0, cr1, fr0, fr1⟩ := Xr.out
  have hner := Xr.out.lt
  go_wp2_with fail
  refine bodyPost_ret (v := .tuple #[ZV s4 p4 m4 c4, .int .i64 er4]) (by rw [results_cell_tmp rfl]; go_simp) rfl ⟨s4, p4, m4, c4, u4, er4, rfl, ?_, D4.out, ?_⟩
  · exact A4.out.set2 HRL0.out.1 HRL0.out.2 _ _
  · exact bSet (bSet hbw _ _ _ HGr.out) _ _ _ HGr.out
set_option maxRecDepth 20000 in
set_option maxHeartbeats 8000000 in
theorem doc4_11 {px py : Option Addr} {nx cx ny cy : Nat} {xx yy : List Nat} {w : World} (sx sy : Bool) (nn : Int) (h : At w px nx cx xx) (k : At w py ny cy yy) (hx : nx ≤ 17592186044416) (hy : ny ≤ 17592186044416) (hn0 : -9223372036854775808 ≤ nn) (hn1 : nn ≤ 9223372036854775807) :
    Calls Tryz.prog 34 #[.agg #[.int .i64 11, .bool sx, .slice px nx cx, .bool sy, .slice py ny cy, .int .i64 nn]] w fun e w' => ∃ s' p' m' c' us er, e = .returned (.tuple #[ZV s' p' m' c', .int .i64 er]) ∧ NewAt w.heap.size w' p' m' c' us ∧ ShiftZ rFs sx xx nn s' us er ∧ Below w.heap.size w w' := by
  have H : Hid (At w px nx cx xx) := h
  have K : Hid (At w py ny cy yy) := k
  have HB : Hid (nx ≤ 17592186044416 ∧ ny ≤ 17592186044416 ∧ -9223372036854775808 ≤ nn ∧ nn ≤ 9223372036854775807) := ⟨hx, hy, hn0, hn1⟩
  clear h k hx hy hn0 hn1
  go_enter Tryz.func34, Tryz.ntmps34
  go_wp2_with fail
  obtain ⟨W0, hW0⟩ : ∃ W0, W0 = ((w.alloc (.cells #[.int .i64 11, .bool sx, .slice px nx cx, .bool sy, .slice py ny cy, .int .i64 nn] 38)).alloc (.cells #[.bool false, .slice none 0 0] 28)) := ⟨_, rfl⟩
  have Xo : Hid (B6q W0 (w.heap.size) (.int .i64 11) (.bool sx) (.slice px nx cx) (.bool sy) (.slice py ny cy) (.int .i64 nn)) := by rw [hW0]; exact ⟨by go_simp, by go_simp, by go_simp, by go_simp, by go_simp, by go_simp, by go_simp, by go_simp, by go_simp, by go_simp, by go_simp, by go_simp⟩
  have Xr : Hid (Box W0 (w.heap.size + 1) (.bool false) (.slice none 0 0)) := by rw [hW0]; exact ⟨by go_simp, by go_simp, by go_simp, by go_simp⟩
  have hb0 : Below w.heap.size w W0 := by rw [hW0]; exact below2 w _ _
  rw [← hW0]
  clear hW0
  have hbw : Below w.heap.size w w := Below.refl _ _
  obtain ⟨gr, hgr⟩ : ∃ g, g = w.heap.size + 1 := ⟨_, rfl⟩
  have HGr : Hid (w.heap.size ≤ gr) := by rw [hgr]; show _ ≤ _; omega
  rw [← hgr] at Xr
  try rw [← hgr]
  obtain ⟨go, hgo⟩ : ∃ g, g = w.heap.size := ⟨_, rfl⟩
  have HGo : Hid (w.heap.size ≤ go) := by rw [hgo]; show _ ≤ _; omega
  rw [← hgo] at Xo
  try rw [← hgo]
  have HGD : Hid (go ≠ gr ∧ gr ≠ go) := by rw [hgo, hgr]; exact ⟨by omega, by omega⟩
  clear hgo hgr
  replace H : Hid _ := H.out.below hb0
  replace K : Hid _ := K.out.below hb0
  replace hbw := Below.on hbw hb0
  clear hb0
  refine (docshift4_1 sx H.out nn HB.out.2.2.2).mono ?_
  rintro e v4 ⟨s4, p4, m4, c4, u4, er4, rfl, hA4, hD4, hb4⟩
  have HRL0 : Hid (gr < W0.heap.size ∧ w.heap.size ≤ W0.heap.size) := ⟨Xr.out.lt, hbw.size⟩
  replace Xo : Hid _ := Xo.out.below hb4
  replace Xr : Hid _ := Xr.out.below hb4
  replace H : Hid _ := H.out.below hb4
  replace K : Hid _ := K.out.below hb4
  replace hbw := Below.on hbw hb4
  clear hb4
  have A4 : Hid (NewAt W0.heap.size v4 p4 m4 c4 u4) := hA4
  have D4 : Hid (ShiftZ rFs sx xx nn s4 u4 er4) := hD4
  clear hA4 hD4
  obtain ⟨cr0, cr1, fr0, fr1⟩ := Xr.out
  have hner := Xr.out.lt
  go_wp2_with fail
  refine bodyPost_ret (v := .tuple #[ZV s4 p4 m4 c4, .int .i64 er4]) (by rw [results_cell_tmp rfl]; go_simp) rfl ⟨s4, p4, m4, c4, u4, er4, rfl, ?_, D4.out, ?_⟩
  · exact A4.out.set2 HRL0.out.1 HRL0.out.2 _ _
  · exact bSet (bSet hbw _ _ _ HGr.out) _ _ _ HGr.out
set_option maxRecDepth 20000 in
set_option maxHeartbeats 8000000 in
theorem doc4_12 {px py : Option Addr} {nx cx ny cy : Nat} {xx yy : List Nat} {w : World} (sx sy : Bool) (nn : Int) (h : At w px nx cx xx) (k : At w py ny cy yy) (hx : nx ≤ 17592186044416) (hy : ny ≤ 17592186044416) (hn0 : -9223372036854775808 ≤ nn) (hn1 : nn ≤ 9223372036854775807) :
    Calls Tryz.prog 34 #[.agg #[.int .i64 12, .bool sx, .slice px nx cx, .bool sy, .slice py ny cy, .int .i64 nn]] w fun e w' => ∃ s' p' m' c' us er, e = .returned (.tuple #[ZV s' p' m' c', .int .i64 er]) ∧ NewAt w.heap.size w' p' m' c' us ∧ ShiftZ rCs sx xx nn s' us er ∧ Below w.heap.size w w' := by
  have H : Hid (At w px nx cx xx) := h
  have K : Hid (At w py ny cy yy) := k
  have HB : Hid (nx ≤ 17592186044416 ∧ ny ≤ 17592186044416 ∧ -9223372036854775808 ≤ nn ∧ nn ≤ 9223372036854775807) := ⟨hx, hy, hn0, hn1⟩
  clear h k hx hy hn0 hn1
  go_enter Tryz.func34, Tryz.ntmps34
  go_wp2_with fail
  obtain ⟨W0, hW0⟩ : ∃ W0, W0 = ((w.alloc (.cells #[.int .i64 12, .bool sx, .slice px nx cx, .bool sy, .slice py ny cy, .int .i64 nn] 38)).alloc (.cells #[.bool false, .slice none 0 0] 28)) := ⟨_, rfl⟩
  have Xo : Hid (B6q W0 (w.heap.size) (.int .i64 12) (.bool sx) (.slice px nx cx) (.bool sy) (.slice py ny cy) (.int .i64 nn)) := by rw [hW0]; exact ⟨by go_simp, by go_simp, by go_simp, by go_simp, by go_simp, by go_simp, by go_simp, by go_simp, by go_simp, by go_simp, by go_simp, by go_simp⟩
  have Xr : Hid (Box W0 (w.heap.size + 1) (.bool false) (.slice none 0 0)) := by rw [hW0]; exact ⟨by go_simp, by go_simp, by go_simp, by go_simp⟩
  have hb0 : Below w.heap.size w W0 := by rw [hW0]; exact below2 w _ _
  rw [← hW0]
  clear hW0
  have hbw : Below w.heap.size w w := Below.refl _ _
  obtain ⟨gr, hgr⟩ : ∃ g, g = w.heap.size + 1 := ⟨_, rfl⟩
  have HGr : Hid (w.heap.size ≤ gr) := by rw [hgr]; show _ ≤ _; omega
  rw [← hgr] at Xr
  try rw [← hgr]
  obtain ⟨go, hgo⟩ : ∃ g, g = w.heap.size := ⟨_, rfl⟩
  have HGo : Hid (w.heap.size ≤ go) := by rw [hgo]; show _ ≤ _; omega
  rw [← hgo] at Xo
  try rw [← hgo]
  have HGD : Hid (go ≠ gr ∧ gr ≠ go) := by rw [hgo, hgr]; exact ⟨by omega, by omega⟩
  clear hgo hgr
  replace H : Hid _ := H.out.below hb0
  replace K : Hid _ := K.out.below hb0
  replace hbw := Below.on hbw hb0
  clear hb0
  refine (docshift4_2 sx H.out nn HB.out.2.2.2).mono ?_
  rintro e v4 ⟨s4, p4, m4, c4, u4, er4, rfl, hA4, hD4, hb4⟩
  have HRL0 : Hid (gr < W0.heap.size ∧ w.heap.size ≤ W0.heap.size) := ⟨Xr.out.lt, hbw.size⟩
  replace Xo : Hid _ := Xo.out.below hb4
  replace Xr : Hid _ := Xr.out.below hb4
  replace H : Hid _ := H.out.below hb4
  replace K : Hid _ := K.out.below hb4
  replace hbw := Below.on hbw hb4
  clear hb4
  have A4 : Hid (NewAt W0.heap.size v4 p4 m4 c4 u4) := hA4
  have D4 : Hid (ShiftZ rCs sx xx nn s4 u4 er4) := hD4
  clear hA4 hD4
  obtain ⟨cr0, cr1, fr0, fr1⟩ := Xr.out
  have hner := Xr.out.lt
  go_wp2_with fail
  refine bodyPost_ret (v := .tuple #[ZV s4 p4 m4 c4, .int .i64 er4]) (by rw [results_cell_tmp rfl]; go_simp) rfl ⟨s4, p4, m4, c4, u4, er4, rfl, ?_, D4.out, ?_⟩
  · exact A4.out.set2 HRL0.out.1 HRL0.out.2 _ _
  · exact bSet (bSet hbw _ _ _ HGr.out) _ _ _ HGr.out
set_option maxRecDepth 20000 in
set_option maxHeartbeats 8000000 in
theorem doc4_13 {px py : Option Addr} {nx cx ny cy : Nat} {xx yy : List Nat} {w : World} (sx sy : Bool) (nn : Int) (h : At w px nx cx xx) (k : At w py ny cy yy) (hx : nx ≤ 17592186044416) (hy : ny ≤ 17592186044416) (hn0 : -9223372036854775808 ≤ nn) (hn1 : nn ≤ 9223372036854775807) :
    Calls Tryz.prog 34 #[.agg #[.int .i64 13, .bool sx, .slice px nx cx, .bool sy, .slice py ny cy, .int .i64 nn]] w fun e w' => ∃ s' p' m' c' us er, e = .returned (.tuple #[ZV s' p' m' c', .int .i64 er]) ∧ NewAt w.heap.size w' p' m' c' us ∧ ShiftZ rNs sx xx nn s' us er ∧ Below w.heap.size w w' := by
  have H : Hid (At w px nx cx xx) := h
  have K : Hid (At w py ny cy yy) := k
  have HB : Hid (nx ≤ 17592186044416 ∧ ny ≤ 17592186044416 ∧ -9223372036854775808 ≤ nn ∧ nn ≤ 9223372036854775807) := ⟨hx, hy, hn0, hn1⟩
  clear h k hx hy hn0 hn1
  go_enter Tryz.func34, Tryz.ntmps34
  go_wp2_with fail
  obtain ⟨W0, hW0⟩ : ∃ W0, W0 = ((w.alloc (.cells #[.int .i64 13, .bool sx, .slice px nx cx, .bool sy, .slice py ny cy, .int .i64 nn] 38)).alloc (.cells #[.bool false, .slice none 0 0] 28)) := ⟨_, rfl⟩
  have Xo : Hid (B6q W0 (w.heap.size) (.int .i64 13) (.bool sx) (.slice px nx cx) (.bool sy) (.slice py ny cy) (.int .i64 nn)) := by rw [hW0]; exact ⟨by go_simp, by go_simp, by go_simp, by go_simp, by go_simp, by go_simp, by go_simp, by go_simp, by go_simp, by go_simp, by go_simp, by go_simp⟩
  have Xr : Hid (Box W0 (w.heap.size + 1) (.bool false) (.slice none 0 0)) := by rw [hW0]; exact ⟨by go_simp, by go_simp, by go_simp, by go_simp⟩
  have hb0 : Below w.heap.size w W0 := by rw [hW0]; exact below2 w _ _
  rw [← hW0]
  clear hW0
  have hbw : Below w.heap.size w w := Below.refl _ _
  obtain ⟨gr, hgr⟩ : ∃ g, g = w.heap.size + 1 := ⟨_, rfl⟩
  have HGr : Hid (w.heap.size ≤ gr) := by rw [hgr]; show _ ≤ _; omega
  rw [← hgr] at Xr
  try rw [← hgr]
  obtain ⟨go, hgo⟩ : ∃ g, g = w.heap.size := ⟨_, rfl⟩
  have HGo : Hid (w.heap.size ≤ go) := by rw [hgo]; show _ ≤ _; omega
  rw [← hgo] at Xo
  try rw [← hgo]
  have HGD : Hid (go ≠ gr ∧ gr ≠ go) := by rw [hgo, hgr]; exact ⟨by omega, by omega⟩
  clear hgo hgr
  replace H : Hid _ := H.out.below hb0
  replace K : Hid _ := K.out.below hb0
  replace hbw := Below.on hbw hb0
  clear hb0
  refine (docshift4_3 sx H.out nn HB.out.2.2.2).mono ?_
  rintro e v4 ⟨s4, p4, m4, c4, u4, er4, rfl, hA4, hD4, hb4⟩
  have HRL0 : Hid (gr < W0.heap.size ∧ w.heap.size ≤ W0.heap.size) := ⟨Xr.out.lt, hbw.size⟩
  replace Xo : Hid _ := Xo.out.below hb4
  replace Xr : Hid _ := Xr.out.below hb4
  replace H : Hid _ := H.out.below hb4
  replace K : Hid _ := K.out.below hb4
  replace hbw := Below.on hbw hb4
  clear hb4
  have A4 : Hid (NewAt W0.heap.size v4 p4 m4 c4 u4) := hA4
  have D4 : Hid (ShiftZ rNs sx xx nn s4 u4 er4) := hD4
  clear hA4 hD4
  obtain ⟨cr0, cr1, fr0, fr1⟩ := Xr.out
  have hner := Xr.out.lt
  go_wp2_with fail
  refine bodyPost_ret (v := .tuple #[ZV s4 p4 m4 c4, .int .i64 er4]) (by rw [results_cell_tmp rfl]; go_simp) rfl ⟨s4, p4, m4, c4, u4, er4, rfl, ?_, D4.out, ?_⟩
  · exact A4.out.set2 HRL0.out.1 HRL0.out.2 _ _
  · exact bSet (bSet hbw _ _ _ HGr.out) _ _ _ HGr.out
end Go.Proofs.YtgodajcnhipleaaGreatDoor

namespace Go.Proofs.YtgodajcnhipleaaGreatDoor
open Go.RowKit Go.Shelf

set_option maxRecDepth 20000 in
set_option maxHeartbeats 8000000 in
theorem plays4_10 {px py : Option Addr} {nx cx ny cy : Nat} {xx yy : List Nat} {w : World} (sx sy : Bool) (nn : Int) (h : At w px nx cx xx) (k : At w py ny cy yy) (hx : nx ≤ 17592186044416) (hy : ny ≤ 17592186044416) (hn0 : -9223372036854775808 ≤ nn) (hn1 : nn ≤ 9223372036854775807) :
    Calls Tryz.prog 16 #[.agg #[.int .i64 10, .bool sx, .slice px nx cx, .bool sy, .slice py ny cy, .int .i64 nn]] w fun e w' => e = .returned (.bool true) ∧ Below w.heap.size w w' := by
  have H : Hid (At w px nx cx xx) := h
  have K : Hid (At w py ny cy yy) := k
  have HB : Hid (nx ≤ 17592186044416 ∧ ny ≤ 17592186044416 ∧ -9223372036854775808 ≤ nn ∧ nn ≤ 9223372036854775807) := ⟨hx, hy, hn0, hn1⟩
  clear h k hx hy hn0 hn1
  go_enter Tryz.func16, Tryz.ntmps16
  go_wp2_with fail
  obtain ⟨W0, hW0⟩ : ∃ W0, W0 = (w.alloc (.cells #[.int .i64 10, .bool sx, .slice px nx cx, .bool sy, .slice py ny cy, .int .i64 nn] 38)) := ⟨_, rfl⟩
  have Xo : Hid (B6q W0 (w.heap.size) (.int .i64 10) (.bool sx) (.slice px nx cx) (.bool sy) (.slice py ny cy) (.int .i64 nn)) := by rw [hW0]; exact ⟨by go_simp, by go_simp, by go_simp, by go_simp, by go_simp, by go_simp, by go_simp, by go_simp, by go_simp, by go_simp, by go_simp, by go_simp⟩
  have hb0 : Below w.heap.size w W0 := by rw [hW0]; exact below1 w _
  rw [← hW0]
  clear hW0
  have hbw : Below w.heap.size w w := Below.refl _ _
  obtain ⟨go, hgo⟩ : ∃ g, g = w.heap.size := ⟨_, rfl⟩
  have HGo : Hid (w.heap.size ≤ go) := by rw [hgo]; show _ ≤ _; omega
  rw [← hgo] at Xo
  try rw [← hgo]
  clear hgo
  replace H : Hid _ := H.out.below hb0
  replace K : Hid _ := K.out.below hb0
  replace hbw := Below.on hbw hb0
  clear hb0
  refine (doc4_10 sx sy nn H.out K.out HB.out.1 HB.out.2.1 HB.out.2.2.1 HB.out.2.2.2).mono ?_
  rintro e v1 ⟨s1, p1, m1, c1, u1, er1, rfl, hA1, hD1, hb1⟩
  replace Xo : Hid _ := Xo.out.below hb1
  replace H : Hid _ := H.out.below hb1
  replace K : Hid _ := K.out.below hb1
  replace hbw := Below.on hbw hb1
  clear hb1
  have A1 : Hid (At v1 p1 m1 c1 u1) := hA1.1
  have D1 : Hid (ShiftZ rShl sx xx nn s1 u1 er1) := hD1
  clear hA1 hD1
  obtain ⟨co0, co1, co2, co3, co4, co5, fo0, fo1, fo2, fo3, fo4, fo5⟩ := Xo.out
  have hneo : go < v1.heap.size := World.block_lt_of_cell? v1 _ co0
  go_wp2_with fail
  clear co0 co1 co2 co3 co4 co5 fo0 fo1 fo2 fo3 fo4 fo5 hneo
  have Xy0 : Hid (Box (v1.alloc (.cells #[.bool s1, .slice p1 m1 c1] 28)) v1.heap.size (.bool s1) (.slice p1 m1 c1)) := Box.new v1 _ _ _
  have hbn : Below v1.heap.size v1 (v1.alloc (.cells #[.bool s1, .slice p1 m1 c1] 28)) := below1 v1 _
  generalize v1.alloc (.cells #[.bool s1, .slice p1 m1 c1] 28) = Wy at *
  have HGy : Hid (w.heap.size ≤ v1.heap.size) := hbw.size
  replace Xo : Hid _ := Xo.out.below hbn
  replace H : Hid _ := H.out.below hbn
  replace K : Hid _ := K.out.below hbn
  replace A1 : Hid _ := A1.out.below hbn
  replace hbw := Below.on hbw hbn
  clear hbn
  generalize v1.heap.size = gy at *
  have Xy := Xy0
  clear Xy0
  obtain ⟨W1, hW1⟩ : ∃ W1, W1 = Wy.drew := ⟨_, rfl⟩
  have hbd : Below Wy.heap.size Wy W1 := by rw [hW1]; exact bDrew1 (Below.refl _ _)
  replace Xo : Hid _ := Xo.out.below hbd
  replace Xy : Hid _ := Xy.out.below hbd
  replace H : Hid _ := H.out.below hbd
  replace K : Hid _ := K.out.below hbd
  replace A1 : Hid _ := A1.out.below hbd
  replace hbw := Below.on hbw hbd
  clear hbd
  have HJ : Hid ((fun W' : World => W'.cell? ⟨go, 0, none⟩ = some (.int .i64 10) ∧ W'.cell? ⟨go, 1, none⟩ = some (.bool sx) ∧ W'.cell? ⟨go, 2, none⟩ = some (.slice px nx cx) ∧ W'.cell? ⟨go, 3, none⟩ = some (.bool sy) ∧ W'.cell? ⟨go, 4, none⟩ = some (.slice py ny cy) ∧ W'.cell? ⟨go, 5, none⟩ = some (.int .i64 nn)) W1) := ⟨Xo.out.c0, Xo.out.c1, Xo.out.c2, Xo.out.c3, Xo.out.c4, Xo.out.c5⟩
  refine wp_region_J (fun W' => W'.cell? ⟨go, 0, none⟩ = some (.int .i64 10) ∧ W'.cell? ⟨go, 1, none⟩ = some (.bool sx) ∧ W'.cell? ⟨go, 2, none⟩ = some (.slice px nx cx) ∧ W'.cell? ⟨go, 3, none⟩ = some (.bool sy) ∧ W'.cell? ⟨go, 4, none⟩ = some (.slice py ny cy) ∧ W'.cell? ⟨go, 5, none⟩ = some (.int .i64 nn)) (by kernel_rfl) ?_
  rw [← hW1]
  clear hW1
  refine wpJ_take (i := 0) (v := ?v1x0) rfl (by kernel_rfl) (by kernel_rfl) (by kernel_rfl) (fun _ _ _ h => h) (by kernel_rfl) ?hy1x0 HJ.out ?rest1x0
  case hy1x0 => (intro W' hJ; obtain ⟨j0, j1, j2, j3, j4, j5⟩ := hJ; go_simp; first | done | with_reducible rfl)
  refine wpJ_take (i := 1) (v := ?v2x1) rfl (by kernel_rfl) (by kernel_rfl) (by kernel_rfl) (fun _ _ _ h => h) (by kernel_rfl) ?hy2x1 HJ.out ?rest2x1
  case hy2x1 => (intro W' hJ; obtain ⟨j0, j1, j2, j3, j4, j5⟩ := hJ; go_simp; first | done | with_reducible rfl)
  refine wpJ_take (i := 2) (v := ?v3x2) rfl (by kernel_rfl) (by kernel_rfl) (by kernel_rfl) (fun _ _ _ h => h) (by kernel_rfl) ?hy3x2 HJ.out ?rest3x2
  case hy3x2 => (intro W' hJ; obtain ⟨j0, j1, j2, j3, j4, j5⟩ := hJ; go_simp; first | done | with_reducible rfl)
  refine wpJ_take (i := 3) (v := ?v4x3) rfl (by kernel_rfl) (by kernel_rfl) (by kernel_rfl) (fun _ _ _ h => h) (by kernel_rfl) ?hy4x3 HJ.out ?rest4x3
  case hy4x3 => (intro W' hJ; obtain ⟨j0, j1, j2, j3, j4, j5⟩ := hJ; go_simp; first | done | with_reducible rfl)
  refine wpJ_take (i := 5) (v := ?v5x5) rfl (by kernel_rfl) (by kernel_rfl) (by kernel_rfl) (fun _ _ _ h => h) (by kernel_rfl) ?hy5x5 HJ.out ?rest5x5
  case hy5x5 => (intro W' hJ; obtain ⟨j0, j1, j2, j3, j4, j5⟩ := hJ; go_simp; first | done | with_reducible rfl)
  refine wpJ_take (i := 6) (v := ?v6x6) rfl (by kernel_rfl) (by kernel_rfl) (by kernel_rfl) (fun _ _ _ h => h) (by kernel_rfl) ?hy6x6 HJ.out ?rest6x6
  case hy6x6 => (intro W' hJ; obtain ⟨j0, j1, j2, j3, j4, j5⟩ := hJ; go_simp; first | done | with_reducible rfl)
  refine wpJ_take (i := 8) (v := ?v7x8) rfl (by kernel_rfl) (by kernel_rfl) (by kernel_rfl) (fun _ _ _ h => h) (by kernel_rfl) ?hy7x8 HJ.out ?rest7x8
  case hy7x8 => (intro W' hJ; obtain ⟨j0, j1, j2, j3, j4, j5⟩ := hJ; go_simp; first | done | with_reducible rfl)
  refine wpJ_take (i := 9) (v := ?v8x9) rfl (by kernel_rfl) (by kernel_rfl) (by kernel_rfl) (fun _ _ _ h => h) (by kernel_rfl) ?hy8x9 HJ.out ?rest8x9
  case hy8x9 => (intro W' hJ; obtain ⟨j0, j1, j2, j3, j4, j5⟩ := hJ; go_simp; first | done | with_reducible rfl)
  refine wpJ_two (i := 4) (k := 15) (by kernel_rfl) rfl rfl (by kernel_rfl) (by kernel_rfl) (fun KJ hK => ?_) (fun KJ hK => ?_)
  · go_simp
    refine (twin4 sx H.out HB.out.1).mono ?_
    rintro e v2 ⟨p2, rfl, hA2, hb2⟩
    replace Xo : Hid _ := Xo.out.below hb2
    replace Xy : Hid _ := Xy.out.below hb2
    replace H : Hid _ := H.out.below hb2
    replace K : Hid _ := K.out.below hb2
    replace A1 : Hid _ := A1.out.below hb2
    replace hbw := Below.on hbw hb2
    clear hb2
    have T2 : Hid (At v2 p2 nx nx xx) := hA2
    clear hA2
    clear HJ
    have HJ : Hid ((fun W' : World => W'.cell? ⟨go, 0, none⟩ = some (.int .i64 10) ∧ W'.cell? ⟨go, 1, none⟩ = some (.bool sx) ∧ W'.cell? ⟨go, 2, none⟩ = some (.slice px nx cx) ∧ W'.cell? ⟨go, 3, none⟩ = some (.bool sy) ∧ W'.cell? ⟨go, 4, none⟩ = some (.slice py ny cy) ∧ W'.cell? ⟨go, 5, none⟩ = some (.int .i64 nn)) v2) := ⟨Xo.out.c0, Xo.out.c1, Xo.out.c2, Xo.out.c3, Xo.out.c4, Xo.out.c5⟩
    refine hK _ _ HJ.out ?_
    clear hK
    refine wpJ_two (i := 7) (k := 15) (by kernel_rfl) rfl rfl (by kernel_rfl) (by kernel_rfl) (fun KJ hK => ?_) (fun KJ hK => ?_)
    · go_simp
      refine (twin4 sy K.out HB.out.2.1).mono ?_
      rintro e v3 ⟨p3, rfl, hA3, hb3⟩
      replace Xo : Hid _ := Xo.out.below hb3
      replace Xy : Hid _ := Xy.out.below hb3
      replace H : Hid _ := H.out.below hb3
      replace K : Hid _ := K.out.below hb3
      replace A1 : Hid _ := A1.out.below hb3
      replace T2 : Hid _ := T2.out.below hb3
      replace hbw := Below.on hbw hb3
      clear hb3
      have T3 : Hid (At v3 p3 ny ny yy) := hA3
      clear hA3
      clear HJ
      have HJ : Hid ((fun W' : World => W'.cell? ⟨go, 0, none⟩ = some (.int .i64 10) ∧ W'.cell? ⟨go, 1, none⟩ = some (.bool sx) ∧ W'.cell? ⟨go, 2, none⟩ = some (.slice px nx cx) ∧ W'.cell? ⟨go, 3, none⟩ = some (.bool sy) ∧ W'.cell? ⟨go, 4, none⟩ = some (.slice py ny cy) ∧ W'.cell? ⟨go, 5, none⟩ = some (.int .i64 nn)) v3) := ⟨Xo.out.c0, Xo.out.c1, Xo.out.c2, Xo.out.c3, Xo.out.c4, Xo.out.c5⟩
      refine hK _ _ HJ.out ?_
      clear hK
      refine wpJ_take (i := 10) (v := ?v9x10) rfl (by kernel_rfl) (by kernel_rfl) (by kernel_rfl) (fun _ _ _ h => h) (by kernel_rfl) ?hy9x10 HJ.out ?rest9x10
      case hy9x10 => (intro W' hJ; obtain ⟨j0, j1, j2, j3, j4, j5⟩ := hJ; go_simp; first | done | with_reducible rfl)
      refine wpJ_two (i := 11) (k := 15) (by kernel_rfl) rfl rfl (by kernel_rfl) (by kernel_rfl) (fun KJ hK => ?_) (fun KJ hK => ?_)
      · go_simp
        refine (number4_10 sx sy nn T2.out T3.out HB.out.1 HB.out.2.1 HB.out.2.2.1 HB.out.2.2.2).mono ?_
        rintro e v4 ⟨s4, p4, m4, c4, u4, er4, rfl, hA4, hD4, hb4⟩
        replace Xo : Hid _ := Xo.out.below hb4
        replace Xy : Hid _ := Xy.out.below hb4
        replace H : Hid _ := H.out.below hb4
        replace K : Hid _ := K.out.below hb4
        replace A1 : Hid _ := A1.out.below hb4
        replace T2 : Hid _ := T2.out.below hb4
        replace T3 : Hid _ := T3.out.below hb4
        replace hbw := Below.on hbw hb4
        clear hb4
        have A4 : Hid (NewAt v3.heap.size v4 p4 m4 c4 u4) := hA4
        have D4 : Hid (ShiftZ rShl sx xx nn s4 u4 er4) := hD4
        clear hA4 hD4
        clear HJ
        have HJ : Hid ((fun W' : World => W'.cell? ⟨go, 0, none⟩ = some (.int .i64 10) ∧ W'.cell? ⟨go, 1, none⟩ = some (.bool sx) ∧ W'.cell? ⟨go, 2, none⟩ = some (.slice px nx cx) ∧ W'.cell? ⟨go, 3, none⟩ = some (.bool sy) ∧ W'.cell? ⟨go, 4, none⟩ = some (.slice py ny cy) ∧ W'.cell? ⟨go, 5, none⟩ = some (.int .i64 nn)) v4) := ⟨Xo.out.c0, Xo.out.c1, Xo.out.c2, Xo.out.c3, Xo.out.c4, Xo.out.c5⟩
        refine hK _ _ HJ.out ?_
        clear hK
        refine wpJ_take (i := 12) (v := ?v10x12) rfl (by kernel_rfl) (by kernel_rfl) (by kernel_rfl) (fun _ _ _ h => h) (by kernel_rfl) ?hy10x12 HJ.out ?rest10x12
        case hy10x12 => (intro W' hJ; obtain ⟨j0, j1, j2, j3, j4, j5⟩ := hJ; go_simp; first | done | with_reducible rfl)
        refine wpJ_take (i := 13) (v := ?v11x13) rfl (by kernel_rfl) (by kernel_rfl) (by kernel_rfl) (fun _ _ _ h => h) (by kernel_rfl) ?hy11x13 HJ.out ?rest11x13
        case hy11x13 => (intro W' hJ; obtain ⟨j0, j1, j2, j3, j4, j5⟩ := hJ; go_simp; first | done | with_reducible rfl)
        refine wpJ_take (i := 14) (v := ?v12x14) rfl (by kernel_rfl) (by kernel_rfl) (by kernel_rfl) (fun _ _ _ h => h) (by kernel_rfl) ?hy12x14 HJ.out ?rest12x14
        case hy12x14 => (intro W' hJ; obtain ⟨j0, j1, j2, j3, j4, j5⟩ := hJ; go_simp; first | done | with_reducible rfl)
        refine wpJ_one (i := 15) (by kernel_rfl) rfl (by kernel_rfl) (fun KJ hK => ?_)
        go_simp
        have HOX : Hid (go < v4.heap.size ∧ gy < v4.heap.size) := ⟨Xo.out.lt, Xy.out.lt⟩
        have HF1 : Hid (Off p1 m1 v4.heap.size) := A1.out.off_new
        have HF4 : Hid (Off p4 m4 v4.heap.size) := A4.out.1.off_new
        have Xx0 : Hid (Box (v4.alloc (.cells #[.bool false, .slice none 0 0] 28)) v4.heap.size (.bool false) (.slice none 0 0)) := Box.new v4 _ _ _
        have hbn : Below v4.heap.size v4 (v4.alloc (.cells #[.bool false, .slice none 0 0] 28)) := below1 v4 _
        generalize v4.alloc (.cells #[.bool false, .slice none 0 0] 28) = Wx at *
        have HGx : Hid (w.heap.size ≤ v4.heap.size) := hbw.size
        replace Xo : Hid _ := Xo.out.below hbn
        replace Xy : Hid _ := Xy.out.below hbn
        replace H : Hid _ := H.out.below hbn
        replace K : Hid _ := K.out.below hbn
        replace A1 : Hid _ := A1.out.below hbn
        replace T2 : Hid _ := T2.out.below hbn
        replace T3 : Hid _ := T3.out.below hbn
        replace A4 : Hid (NewAt v3.heap.size Wx p4 m4 c4 u4) := A4.out.below hbn
        replace hbw := Below.on hbw hbn
        clear hbn
        generalize v4.heap.size = gx at *
        have Xx := Xx0
        clear Xx0
        refine hK _ _ ⟨Xo.out.c0, Xo.out.c1, Xo.out.c2, Xo.out.c3, Xo.out.c4, Xo.out.c5⟩ ?_
        clear hK
        obtain ⟨cx0, cx1, fx0, fx1⟩ := Xx.out
        have hnex := Xx.out.lt
        obtain ⟨co0, co1, co2, co3, co4, co5, fo0, fo1, fo2, fo3, fo4, fo5⟩ := Xo.out
        have hneo : go < Wx.heap.size := World.block_lt_of_cell? Wx _ co0
        obtain ⟨cy0, cy1, fy0, fy1⟩ := Xy.out
        have hney := Xy.out.lt
        have hq1 : go ≠ gx := Nat.ne_of_lt HOX.out.1
        have hq2 : gx ≠ go := fun h => hq1 h.symm
        have hq3 : gy ≠ gx := Nat.ne_of_lt HOX.out.2
        have hq4 : gx ≠ gy := fun h => hq3 h.symm
        refine wpJ_one (i := 16) (by kernel_rfl) rfl (by kernel_rfl) (fun KJ hK => ?_)
        go_simp
        have HJ2 : Hid ((fun W' : World => W'.cell? ⟨go, 0, none⟩ = some (.int .i64 10) ∧ W'.cell? ⟨go, 1, none⟩ = some (.bool sx) ∧ W'.cell? ⟨go, 2, none⟩ = some (.slice px nx cx) ∧ W'.cell? ⟨go, 3, none⟩ = some (.bool sy) ∧ W'.cell? ⟨go, 4, none⟩ = some (.slice py ny cy) ∧ W'.cell? ⟨go, 5, none⟩ = some (.int .i64 nn)) ((Wx.setCell ⟨gx, 0, none⟩ (.bool s4)).setCell ⟨gx, 1, none⟩ (.slice p4 m4 c4))) := ⟨by go_simp, by go_simp, by go_simp, by go_simp, by go_simp, by go_simp⟩
        have Xx2 : Hid (Box ((Wx.setCell ⟨gx, 0, none⟩ (.bool s4)).setCell ⟨gx, 1, none⟩ (.slice p4 m4 c4)) gx (.bool s4) (.slice p4 m4 c4)) := ⟨by go_simp, by go_simp, by go_simp, by go_simp⟩
        have Xy2 : Hid (Box ((Wx.setCell ⟨gx, 0, none⟩ (.bool s4)).setCell ⟨gx, 1, none⟩ (.slice p4 m4 c4)) gy (.bool s1) (.slice p1 m1 c1)) := ⟨by go_simp, by go_simp, by go_simp, by go_simp⟩
        have A12 : Hid (At ((Wx.setCell ⟨gx, 0, none⟩ (.bool s4)).setCell ⟨gx, 1, none⟩ (.slice p4 m4 c4)) p1 m1 c1 u1) := (A1.out.setOff HF1.out _ _).setOff HF1.out _ _
        have A42 : Hid (At ((Wx.setCell ⟨gx, 0, none⟩ (.bool s4)).setCell ⟨gx, 1, none⟩ (.slice p4 m4 c4)) p4 m4 c4 u4) := (A4.out.1.setOff HF4.out _ _).setOff HF4.out _ _
        have hbw2 : Below w.heap.size w ((Wx.setCell ⟨gx, 0, none⟩ (.bool s4)).setCell ⟨gx, 1, none⟩ (.slice p4 m4 c4)) := bSet (bSet hbw _ _ _ HGx.out) _ _ _ HGx.out
        refine hK _ _ HJ2.out ?_
        clear hK HJ
        have HJ := HJ2
        clear HJ2 hbw Xx Xy Xo A1 A4 H K T2 T3
        clear cx0 cx1 fx0 fx1 hnex
        clear co0 co1 co2 co3 co4 co5 fo0 fo1 fo2 fo3 fo4 fo5 hneo
        clear cy0 cy1 fy0 fy1 hney
        clear hq1 hq2 hq3 hq4
        generalize ((Wx.setCell ⟨gx, 0, none⟩ (.bool s4)).setCell ⟨gx, 1, none⟩ (.slice p4 m4 c4)) = Wz at *
        have hbw := hbw2
        have Xx := Xx2
        have Xy := Xy2
        have A1 := A12
        have A4 := A42
        clear hbw2 Xx2 Xy2 A12 A42
        refine wpJ_take (i := 17) (v := ?v13x17) rfl (by kernel_rfl) (by kernel_rfl) (by kernel_rfl) (fun _ _ _ h => h) (by kernel_rfl) ?hy13x17 HJ.out ?rest13x17
        case hy13x17 => (intro W' hJ; obtain ⟨j0, j1, j2, j3, j4, j5⟩ := hJ; go_simp; first | done | with_reducible rfl)
        refine wpJ_done (by kernel_rfl) ?_ _
        clear HJ
        obtain ⟨cx0, cx1, fx0, fx1⟩ := Xx.out
        have hnex := Xx.out.lt
        obtain ⟨cy0, cy1, fy0, fy1⟩ := Xy.out
        have hney := Xy.out.lt
        go_wp2_with fail
        clear cx0 cx1 fx0 fx1 hnex
        clear cy0 cy1 fy0 fy1 hney
        obtain ⟨rfl, rfl, rfl⟩ := ShiftZ.inj D1.out D4.out
        refine (told4 s1 er1 A4.out A1.out).mono ?_
        rintro e v9 ⟨rfl, hb9⟩
        replace Xy : Hid _ := Xy.out.below hb9
        replace Xx : Hid _ := Xx.out.below hb9
        replace A1 : Hid _ := A1.out.below hb9
        replace A4 : Hid _ := A4.out.below hb9
        replace hbw := Below.on hbw hb9
        clear hb9
        go_wp2_with fail
        go_ret
        exact ⟨rfl, hbw⟩
      · go_simp
        have HOX : Hid (go < v3.heap.size ∧ gy < v3.heap.size) := ⟨Xo.out.lt, Xy.out.lt⟩
        have HF1 : Hid (Off p1 m1 v3.heap.size) := A1.out.off_new
        have Xx0 : Hid (Box (v3.alloc (.cells #[.bool false, .slice none 0 0] 28)) v3.heap.size (.bool false) (.slice none 0 0)) := Box.new v3 _ _ _
        have hbn : Below v3.heap.size v3 (v3.alloc (.cells #[.bool false, .slice none 0 0] 28)) := below1 v3 _
        generalize v3.alloc (.cells #[.bool false, .slice none 0 0] 28) = Wx at *
        have HGx : Hid (w.heap.size ≤ v3.heap.size) := hbw.size
        replace Xo : Hid _ := Xo.out.below hbn
        replace Xy : Hid _ := Xy.out.below hbn
        replace H : Hid _ := H.out.below hbn
        replace K : Hid _ := K.out.below hbn
        replace A1 : Hid _ := A1.out.below hbn
        replace T2 : Hid _ := T2.out.below hbn
        replace T3 : Hid _ := T3.out.below hbn
        replace hbw := Below.on hbw hbn
        clear hbn
        generalize v3.heap.size = gx at *
        have Xx := Xx0
        clear Xx0
        refine hK _ _ ⟨Xo.out.c0, Xo.out.c1, Xo.out.c2, Xo.out.c3, Xo.out.c4, Xo.out.c5⟩ ?_
        clear hK
        refine wpJ_one (i := 11) (by kernel_rfl) rfl (by kernel_rfl) (fun KJ hK => ?_)
        go_simp
        refine (number4_10 sx sy nn T2.out T3.out HB.out.1 HB.out.2.1 HB.out.2.2.1 HB.out.2.2.2).mono ?_
        rintro e v4 ⟨s4, p4, m4, c4, u4, er4, rfl, hA4, hD4, hb4⟩
        have HX4 : Hid (gx < Wx.heap.size) := Xx.out.lt
        replace Xo : Hid _ := Xo.out.below hb4
        replace Xy : Hid _ := Xy.out.below hb4
        replace Xx : Hid _ := Xx.out.below hb4
        replace H : Hid _ := H.out.below hb4
        replace K : Hid _ := K.out.below hb4
        replace A1 : Hid _ := A1.out.below hb4
        replace T2 : Hid _ := T2.out.below hb4
        replace T3 : Hid _ := T3.out.below hb4
        replace hbw := Below.on hbw hb4
        clear hb4
        have A4 : Hid (NewAt Wx.heap.size v4 p4 m4 c4 u4) := hA4
        have D4 : Hid (ShiftZ rShl sx xx nn s4 u4 er4) := hD4
        clear hA4 hD4
        have HF4 : Hid (Off p4 m4 gx) := A4.out.off HX4.out
        clear HJ
        have HJ : Hid ((fun W' : World => W'.cell? ⟨go, 0, none⟩ = some (.int .i64 10) ∧ W'.cell? ⟨go, 1, none⟩ = some (.bool sx) ∧ W'.cell? ⟨go, 2, none⟩ = some (.slice px nx cx) ∧ W'.cell? ⟨go, 3, none⟩ = some (.bool sy) ∧ W'.cell? ⟨go, 4, none⟩ = some (.slice py ny cy) ∧ W'.cell? ⟨go, 5, none⟩ = some (.int .i64 nn)) v4) := ⟨Xo.out.c0, Xo.out.c1, Xo.out.c2, Xo.out.c3, Xo.out.c4, Xo.out.c5⟩
        refine hK _ _ HJ.out ?_
        clear hK
        refine wpJ_take (i := 12) (v := ?v14x12) rfl (by kernel_rfl) (by kernel_rfl) (by kernel_rfl) (fun _ _ _ h => h) (by kernel_rfl) ?hy14x12 HJ.out ?rest14x12
        case hy14x12 => (intro W' hJ; obtain ⟨j0, j1, j2, j3, j4, j5⟩ := hJ; go_simp; first | done | with_reducible rfl)
        refine wpJ_take (i := 13) (v := ?v15x13) rfl (by kernel_rfl) (by kernel_rfl) (by kernel_rfl) (fun _ _ _ h => h) (by kernel_rfl) ?hy15x13 HJ.out ?rest15x13
        case hy15x13 => (intro W' hJ; obtain ⟨j0, j1, j2, j3, j4, j5⟩ := hJ; go_simp; first | done | with_reducible rfl)
        refine wpJ_take (i := 14) (v := ?v16x14) rfl (by kernel_rfl) (by kernel_rfl) (by kernel_rfl) (fun _ _ _ h => h) (by kernel_rfl) ?hy16x14 HJ.out ?rest16x14
        case hy16x14 => (intro W' hJ; obtain ⟨j0, j1, j2, j3, j4, j5⟩ := hJ; go_simp; first | done | with_reducible rfl)
        obtain ⟨cx0, cx1, fx0, fx1⟩ := Xx.out
        have hnex := Xx.out.lt
        obtain ⟨co0, co1, co2, co3, co4, co5, fo0, fo1, fo2, fo3, fo4, fo5⟩ := Xo.out
        have hneo : go < v4.heap.size := World.block_lt_of_cell? v4 _ co0
        obtain ⟨cy0, cy1, fy0, fy1⟩ := Xy.out
        have hney := Xy.out.lt
        have hq1 : go ≠ gx := Nat.ne_of_lt HOX.out.1
        have hq2 : gx ≠ go := fun h => hq1 h.symm
        have hq3 : gy ≠ gx := Nat.ne_of_lt HOX.out.2
        have hq4 : gx ≠ gy := fun h => hq3 h.symm
        refine wpJ_one (i := 16) (by kernel_rfl) rfl (by kernel_rfl) (fun KJ hK => ?_)
        go_simp
        have HJ2 : Hid ((fun W' : World => W'.cell? ⟨go, 0, none⟩ = some (.int .i64 10) ∧ W'.cell? ⟨go, 1, none⟩ = some (.bool sx) ∧ W'.cell? ⟨go, 2, none⟩ = some (.slice px nx cx) ∧ W'.cell? ⟨go, 3, none⟩ = some (.bool sy) ∧ W'.cell? ⟨go, 4, none⟩ = some (.slice py ny cy) ∧ W'.cell? ⟨go, 5, none⟩ = some (.int .i64 nn)) ((v4.setCell ⟨gx, 0, none⟩ (.bool s4)).setCell ⟨gx, 1, none⟩ (.slice p4 m4 c4))) := ⟨by go_simp, by go_simp, by go_simp, by go_simp, by go_simp, by go_simp⟩
        have Xx2 : Hid (Box ((v4.setCell ⟨gx, 0, none⟩ (.bool s4)).setCell ⟨gx, 1, none⟩ (.slice p4 m4 c4)) gx (.bool s4) (.slice p4 m4 c4)) := ⟨by go_simp, by go_simp, by go_simp, by go_simp⟩
        have Xy2 : Hid (Box ((v4.setCell ⟨gx, 0, none⟩ (.bool s4)).setCell ⟨gx, 1, none⟩ (.slice p4 m4 c4)) gy (.bool s1) (.slice p1 m1 c1)) := ⟨by go_simp, by go_simp, by go_simp, by go_simp⟩
        have A12 : Hid (At ((v4.setCell ⟨gx, 0, none⟩ (.bool s4)).setCell ⟨gx, 1, none⟩ (.slice p4 m4 c4)) p1 m1 c1 u1) := (A1.out.setOff HF1.out _ _).setOff HF1.out _ _
        have A42 : Hid (At ((v4.setCell ⟨gx, 0, none⟩ (.bool s4)).setCell ⟨gx, 1, none⟩ (.slice p4 m4 c4)) p4 m4 c4 u4) := (A4.out.1.setOff HF4.out _ _).setOff HF4.out _ _
        have hbw2 : Below w.heap.size w ((v4.setCell ⟨gx, 0, none⟩ (.bool s4)).setCell ⟨gx, 1, none⟩ (.slice p4 m4 c4)) := bSet (bSet hbw _ _ _ HGx.out) _ _ _ HGx.out
        refine hK _ _ HJ2.out ?_
        clear hK HJ
        have HJ := HJ2
        clear HJ2 hbw Xx Xy Xo A1 A4 H K T2 T3
        clear cx0 cx1 fx0 fx1 hnex
        clear co0 co1 co2 co3 co4 co5 fo0 fo1 fo2 fo3 fo4 fo5 hneo
        clear cy0 cy1 fy0 fy1 hney
        clear hq1 hq2 hq3 hq4
        generalize ((v4.setCell ⟨gx, 0, none⟩ (.bool s4)).setCell ⟨gx, 1, none⟩ (.slice p4 m4 c4)) = Wz at *
        have hbw := hbw2
        have Xx := Xx2
        have Xy := Xy2
        have A1 := A12
        have A4 := A42
        clear hbw2 Xx2 Xy2 A12 A42
        refine wpJ_take (i := 17) (v := ?v17x17) rfl (by kernel_rfl) (by kernel_rfl) (by kernel_rfl) (fun _ _ _ h => h) (by kernel_rfl) ?hy17x17 HJ.out ?rest17x17
        case hy17x17 => (intro W' hJ; obtain ⟨j0, j1, j2, j3, j4, j5⟩ := hJ; go_simp; first | done | with_reducible rfl)
        refine wpJ_done (by kernel_rfl) ?_ _
        clear HJ
        obtain ⟨cx0, cx1, fx0, fx1⟩ := Xx.out
        have hnex := Xx.out.lt
        obtain ⟨cy0, cy1, fy0, fy1⟩ := Xy.out
        have hney := Xy.out.lt
        go_wp2_with fail
        clear cx0 cx1 fx0 fx1 hnex
        clear cy0 cy1 fy0 fy1 hney
        obtain ⟨rfl, rfl, rfl⟩ := ShiftZ.inj D1.out D4.out
        refine (told4 s1 er1 A4.out A1.out).mono ?_
        rintro e v9 ⟨rfl, hb9⟩
        replace Xy : Hid _ := Xy.out.below hb9
        replace Xx : Hid _ := Xx.out.below hb9
        replace A1 : Hid _ := A1.out.below hb9
        replace A4 : Hid _ := A4.out.below hb9
        replace hbw := Below.on hbw hb9
        clear hb9
        go_wp2_with fail
        go_ret
        exact ⟨rfl, hbw⟩
    · go_simp
      have HOX : Hid (go < v2.heap.size ∧ gy < v2.heap.size) := ⟨Xo.out.lt, Xy.out.lt⟩
      have HF1 : Hid (Off p1 m1 v2.heap.size) := A1.out.off_new
      have Xx0 : Hid (Box (v2.alloc (.cells #[.bool false, .slice none 0 0] 28)) v2.heap.size (.bool false) (.slice none 0 0)) := Box.new v2 _ _ _
      have hbn : Below v2.heap.size v2 (v2.alloc (.cells #[.bool false, .slice none 0 0] 28)) := below1 v2 _
      generalize v2.alloc (.cells #[.bool false, .slice none 0 0] 28) = Wx at *
      have HGx : Hid (w.heap.size ≤ v2.heap.size) := hbw.size
      replace Xo : Hid _ := Xo.out.below hbn
      replace Xy : Hid _ := Xy.out.below hbn
      replace H : Hid _ := H.out.below hbn
      replace K : Hid _ := K.out.below hbn
      replace A1 : Hid _ := A1.out.below hbn
      replace T2 : Hid _ := T2.out.below hbn
      replace hbw := Below.on hbw hbn
      clear hbn
      generalize v2.heap.size = gx at *
      have Xx := Xx0
      clear Xx0
      refine hK _ _ ⟨Xo.out.c0, Xo.out.c1, Xo.out.c2, Xo.out.c3, Xo.out.c4, Xo.out.c5⟩ ?_
      clear hK
      refine wpJ_one (i := 7) (by kernel_rfl) rfl (by kernel_rfl) (fun KJ hK => ?_)
      go_simp
      refine (twin4 sy K.out HB.out.2.1).mono ?_
      rintro e v3 ⟨p3, rfl, hA3, hb3⟩
      replace Xo : Hid _ := Xo.out.below hb3
      replace Xy : Hid _ := Xy.out.below hb3
      replace Xx : Hid _ := Xx.out.below hb3
      replace H : Hid _ := H.out.below hb3
      replace K : Hid _ := K.out.below hb3
      replace A1 : Hid _ := A1.out.below hb3
      replace T2 : Hid _ := T2.out.below hb3
      replace hbw := Below.on hbw hb3
      clear hb3
      have T3 : Hid (At v3 p3 ny ny yy) := hA3
      clear hA3
      clear HJ
      have HJ : Hid ((fun W' : World => W'.cell? ⟨go, 0, none⟩ = some (.int .i64 10) ∧ W'.cell? ⟨go, 1, none⟩ = some (.bool sx) ∧ W'.cell? ⟨go, 2, none⟩ = some (.slice px nx cx) ∧ W'.cell? ⟨go, 3, none⟩ = some (.bool sy) ∧ W'.cell? ⟨go, 4, none⟩ = some (.slice py ny cy) ∧ W'.cell? ⟨go, 5, none⟩ = some (.int .i64 nn)) v3) := ⟨Xo.out.c0, Xo.out.c1, Xo.out.c2, Xo.out.c3, Xo.out.c4, Xo.out.c5⟩
      refine hK _ _ HJ.out ?_
      clear hK
      refine wpJ_take (i := 10) (v := ?v18x10) rfl (by kernel_rfl) (by kernel_rfl) (by kernel_rfl) (fun _ _ _ h => h) (by kernel_rfl) ?hy18x10 HJ.out ?rest18x10
      case hy18x10 => (intro W' hJ; obtain ⟨j0, j1, j2, j3, j4, j5⟩ := hJ; go_simp; first | done | with_reducible rfl)
      refine wpJ_one (i := 11) (by kernel_rfl) rfl (by kernel_rfl) (fun KJ hK => ?_)
      go_simp
      refine (number4_10 sx sy nn T2.out T3.out HB.out.1 HB.out.2.1 HB.out.2.2.1 HB.out.2.2.2).mono ?_
      rintro e v4 ⟨s4, p4, m4, c4, u4, er4, rfl, hA4, hD4, hb4⟩
      have HX4 : Hid (gx < v3.heap.size) := Xx.out.lt
      replace Xo : Hid _ := Xo.out.below hb4
      replace Xy : Hid _ := Xy.out.below hb4
      replace Xx : Hid _ := Xx.out.below hb4
      replace H : Hid _ := H.out.below hb4
      replace K : Hid _ := K.out.below hb4
      replace A1 : Hid _ := A1.out.below hb4
      replace T2 : Hid _ := T2.out.below hb4
      replace T3 : Hid _ := T3.out.below hb4
      replace hbw := Below.on hbw hb4
      clear hb4
      have A4 : Hid (NewAt v3.heap.size v4 p4 m4 c4 u4) := hA4
      have D4 : Hid (ShiftZ rShl sx xx nn s4 u4 er4) := hD4
      clear hA4 hD4
      have HF4 : Hid (Off p4 m4 gx) := A4.out.off HX4.out
      clear HJ
      have HJ : Hid ((fun W' : World => W'.cell? ⟨go, 0, none⟩ = some (.int .i64 10) ∧ W'.cell? ⟨go, 1, none⟩ = some (.bool sx) ∧ W'.cell? ⟨go, 2, none⟩ = some (.slice px nx cx) ∧ W'.cell? ⟨go, 3, none⟩ = some (.bool sy) ∧ W'.cell? ⟨go, 4, none⟩ = some (.slice py ny cy) ∧ W'.cell? ⟨go, 5, none⟩ = some (.int .i64 nn)) v4) := ⟨Xo.out.c0, Xo.out.c1, Xo.out.c2, Xo.out.c3, Xo.out.c4, Xo.out.c5⟩
      refine hK _ _ HJ.out ?_
      clear hK
      refine wpJ_take (i := 12) (v := ?v19x12) rfl (by kernel_rfl) (by kernel_rfl) (by kernel_rfl) (fun _ _ _ h => h) (by kernel_rfl) ?hy19x12 HJ.out ?rest19x12
      case hy19x12 => (intro W' hJ; obtain ⟨j0, j1, j2, j3, j4, j5⟩ := hJ; go_simp; first | done | with_reducible rfl)
      refine wpJ_take (i := 13) (v := ?v20x13) rfl (by kernel_rfl) (by kernel_rfl) (by kernel_rfl) (fun _ _ _ h => h) (by kernel_rfl) ?hy20x13 HJ.out ?rest20x13
      case hy20x13 => (intro W' hJ; obtain ⟨j0, j1, j2, j3, j4, j5⟩ := hJ; go_simp; first | done | with_reducible rfl)
      refine wpJ_take (i := 14) (v := ?v21x14) rfl (by kernel_rfl) (by kernel_rfl) (by kernel_rfl) (fun _ _ _ h => h) (by kernel_rfl) ?hy21x14 HJ.out ?rest21x14
      case hy21x14 => (intro W' hJ; obtain ⟨j0, j1, j2, j3, j4, j5⟩ := hJ; go_simp; first | done | with_reducible rfl)
      obtain ⟨cx0, cx1, fx0, fx1⟩ := Xx.out
      have hnex := Xx.out.lt
      obtain ⟨co0, co1, co2, co3, co4, co5, fo0, fo1, fo2, fo3, fo4, fo5⟩ := Xo.out
      have hneo : go < v4.heap.size := World.block_lt_of_cell? v4 _ co0
      obtain ⟨cy0, cy1, fy0, fy1⟩ := Xy.out
      have hney := Xy.out.lt
      have hq1 : go ≠ gx := Nat.ne_of_lt HOX.out.1
      have hq2 : gx ≠ go := fun h => hq1 h.symm
      have hq3 : gy ≠ gx := Nat.ne_of_lt HOX.out.2
      have hq4 : gx ≠ gy := fun h => hq3 h.symm
      refine wpJ_one (i := 16) (by kernel_rfl) rfl (by kernel_rfl) (fun KJ hK => ?_)
      go_simp
      have HJ2 : Hid ((fun W' : World => W'.cell? ⟨go, 0, none⟩ = some (.int .i64 10) ∧ W'.cell? ⟨go, 1, none⟩ = some (.bool sx) ∧ W'.cell? ⟨go, 2, none⟩ = some (.slice px nx cx) ∧ W'.cell? ⟨go, 3, none⟩ = some (.bool sy) ∧ W'.cell? ⟨go, 4, none⟩ = some (.slice py ny cy) ∧ W'.cell? ⟨go, 5, none⟩ = some (.int .i64 nn)) ((v4.setCell ⟨gx, 0, none⟩ (.bool s4)).setCell ⟨gx, 1, none⟩ (.slice p4 m4 c4))) := ⟨by go_simp, by go_simp, by go_simp, by go_simp, by go_simp, by go_simp⟩
      have Xx2 : Hid (Box ((v4.setCell ⟨gx, 0, none⟩ (.bool s4)).setCell ⟨gx, 1, none⟩ (.slice p4 m4 c4)) gx (.bool s4) (.slice p4 m4 c4)) := ⟨by go_simp, by go_simp, by go_simp, by go_simp⟩
      have Xy2 : Hid (Box ((v4.setCell ⟨gx, 0, none⟩ (.bool s4)).setCell ⟨gx, 1, none⟩ (.slice p4 m4 c4)) gy (.bool s1) (.slice p1 m1 c1)) := ⟨by go_simp, by go_simp, by go_simp, by go_simp⟩
      have A12 : Hid (At ((v4.setCell ⟨gx, 0, none⟩ (.bool s4)).setCell ⟨gx, 1, none⟩ (.slice p4 m4 c4)) p1 m1 c1 u1) := (A1.out.setOff HF1.out _ _).setOff HF1.out _ _
      have A42 : Hid (At ((v4.setCell ⟨gx, 0, none⟩ (.bool s4)).setCell ⟨gx, 1, none⟩ (.slice p4 m4 c4)) p4 m4 c4 u4) := (A4.out.1.setOff HF4.out _ _).setOff HF4.out _ _
      have hbw2 : Below w.heap.size w ((v4.setCell ⟨gx, 0, none⟩ (.bool s4)).setCell ⟨gx, 1, none⟩ (.slice p4 m4 c4)) := bSet (bSet hbw _ _ _ HGx.out) _ _ _ HGx.out
      refine hK _ _ HJ2.out ?_
      clear hK HJ
      have HJ := HJ2
      clear HJ2 hbw Xx Xy Xo A1 A4 H K T2 T3
      clear cx0 cx1 fx0 fx1 hnex
      clear co0 co1 co2 co3 co4 co5 fo0 fo1 fo2 fo3 fo4 fo5 hneo
      clear cy0 cy1 fy0 fy1 hney
      clear hq1 hq2 hq3 hq4
      generalize ((v4.setCell ⟨gx, 0, none⟩ (.bool s4)).setCell ⟨gx, 1, none⟩ (.slice p4 m4 c4)) = Wz at *
      have hbw := hbw2
      have Xx := Xx2
      have Xy := Xy2
      have A1 := A12
      have A4 := A42
      clear hbw2 Xx2 Xy2 A12 A42
      refine wpJ_take (i := 17) (v := ?v22x17) rfl (by kernel_rfl) (by kernel_rfl) (by kernel_rfl) (fun _ _ _ h => h) (by kernel_rfl) ?hy22x17 HJ.out ?rest22x17
      case hy22x17 => (intro W' hJ; obtain ⟨j0, j1, j2, j3, j4, j5⟩ := hJ; go_simp; first | done | with_reducible rfl)
      refine wpJ_done (by kernel_rfl) ?_ _
      clear HJ
      obtain ⟨cx0, cx1, fx0, fx1⟩ := Xx.out
      have hnex := Xx.out.lt
      obtain ⟨cy0, cy1, fy0, fy1⟩ := Xy.out
      have hney := Xy.out.lt
      go_wp2_with fail
      clear cx0 cx1 fx0 fx1 hnex
      clear cy0 cy1 fy0 fy1 hney
      obtain ⟨rfl, rfl, rfl⟩ := ShiftZ.inj D1.out D4.out
      refine (told4 s1 er1 A4.out A1.out).mono ?_
      rintro e v9 ⟨rfl, hb9⟩
      replace Xy : Hid _ := Xy.out.below hb9
      replace Xx : Hid _ := Xx.out.below hb9
      replace A1 : Hid _ := A1.out.below hb9
      replace A4 : Hid _ := A4.out.below hb9
      replace hbw := Below.on hbw hb9
      clear hb9
      go_wp2_with fail
      go_ret
      exact ⟨rfl, hbw⟩
  · go_simp
    have HOX : Hid (go < W1.heap.size ∧ gy < W1.heap.size) := ⟨Xo.out.lt, Xy.out.lt⟩
    have HF1 : Hid (Off p1 m1 W1.heap.size) := A1.out.off_new
    have Xx0 : Hid (Box (W1.alloc (.cells #[.bool false, .slice none 0 0] 28)) W1.heap.size (.bool false) (.slice none 0 0)) := Box.new W1 _ _ _
    have hbn : Below W1.heap.size W1 (W1.alloc (.cells #[.bool false, .slice none 0 0] 28)) := below1 W1 _
    generalize W1.alloc (.cells #[.bool false, .slice none 0 0] 28) = Wx at *
    have HGx : Hid (w.heap.size ≤ W1.heap.size) := hbw.size
    replace Xo : Hid _ := Xo.out.below hbn
    replace Xy : Hid _ := Xy.out.below hbn
    replace H : Hid _ := H.out.below hbn
    replace K : Hid _ := K.out.below hbn
    replace A1 : Hid _ := A1.out.below hbn
    replace hbw := Below.on hbw hbn
    clear hbn
    generalize W1.heap.size = gx at *
    have Xx := Xx0
    clear Xx0
    refine hK _ _ ⟨Xo.out.c0, Xo.out.c1, Xo.out.c2, Xo.out.c3, Xo.out.c4, Xo.out.c5⟩ ?_
    clear hK
    refine wpJ_one (i := 4) (by kernel_rfl) rfl (by kernel_rfl) (fun KJ hK => ?_)
    go_simp
    refine (twin4 sx H.out HB.out.1).mono ?_
    rintro e v2 ⟨p2, rfl, hA2, hb2⟩
    replace Xo : Hid _ := Xo.out.below hb2
    replace Xy : Hid _ := Xy.out.below hb2
    replace Xx : Hid _ := Xx.out.below hb2
    replace H : Hid _ := H.out.below hb2
    replace K : Hid _ := K.out.below hb2
    replace A1 : Hid _ := A1.out.below hb2
    replace hbw := Below.on hbw hb2
    clear hb2
    have T2 : Hid (At v2 p2 nx nx xx) := hA2
    clear hA2
    refine hK _ _ ⟨Xo.out.c0, Xo.out.c1, Xo.out.c2, Xo.out.c3, Xo.out.c4, Xo.out.c5⟩ ?_
    clear hK
    refine wpJ_one (i := 7) (by kernel_rfl) rfl (by kernel_rfl) (fun KJ hK => ?_)
    go_simp
    refine (twin4 sy K.out HB.out.2.1).mono ?_
    rintro e v3 ⟨p3, rfl, hA3, hb3⟩
    replace Xo : Hid _ := Xo.out.below hb3
    replace Xy : Hid _ := Xy.out.below hb3
    replace Xx : Hid _ := Xx.out.below hb3
    replace H : Hid _ := H.out.below hb3
    replace K : Hid _ := K.out.below hb3
    replace A1 : Hid _ := A1.out.below hb3
    replace T2 : Hid _ := T2.out.below hb3
    replace hbw := Below.on hbw hb3
    clear hb3
    have T3 : Hid (At v3 p3 ny ny yy) := hA3
    clear hA3
    clear HJ
    have HJ : Hid ((fun W' : World => W'.cell? ⟨go, 0, none⟩ = some (.int .i64 10) ∧ W'.cell? ⟨go, 1, none⟩ = some (.bool sx) ∧ W'.cell? ⟨go, 2, none⟩ = some (.slice px nx cx) ∧ W'.cell? ⟨go, 3, none⟩ = some (.bool sy) ∧ W'.cell? ⟨go, 4, none⟩ = some (.slice py ny cy) ∧ W'.cell? ⟨go, 5, none⟩ = some (.int .i64 nn)) v3) := ⟨Xo.out.c0, Xo.out.c1, Xo.out.c2, Xo.out.c3, Xo.out.c4, Xo.out.c5⟩
    refine hK _ _ HJ.out ?_
    clear hK
    refine wpJ_take (i := 10) (v := ?v23x10) rfl (by kernel_rfl) (by kernel_rfl) (by kernel_rfl) (fun _ _ _ h => h) (by kernel_rfl) ?hy23x10 HJ.out ?rest23x10
    case hy23x10 => (intro W' hJ; obtain ⟨j0, j1, j2, j3, j4, j5⟩ := hJ; go_simp; first | done | with_reducible rfl)
    refine wpJ_one (i := 11) (by kernel_rfl) rfl (by kernel_rfl) (fun KJ hK => ?_)
    go_simp
    refine (number4_10 sx sy nn T2.out T3.out HB.out.1 HB.out.2.1 HB.out.2.2.1 HB.out.2.2.2).mono ?_
    rintro e v4 ⟨s4, p4, m4, c4, u4, er4, rfl, hA4, hD4, hb4⟩
    have HX4 : Hid (gx < v3.heap.size) := Xx.out.lt
    replace Xo : Hid _ := Xo.out.below hb4
    replace Xy : Hid _ := Xy.out.below hb4
    replace Xx : Hid _ := Xx.out.below hb4
    replace H : Hid _ := H.out.below hb4
    replace K : Hid _ := K.out.below hb4
    replace A1 : Hid _ := A1.out.below hb4
    replace T2 : Hid _ := T2.out.below hb4
    replace T3 : Hid _ := T3.out.below hb4
    replace hbw := Below.on hbw hb4
    clear hb4
    have A4 : Hid (NewAt v3.heap.size v4 p4 m4 c4 u4) := hA4
    have D4 : Hid (ShiftZ rShl sx xx nn s4 u4 er4) := hD4
    clear hA4 hD4
    have HF4 : Hid (Off p4 m4 gx) := A4.out.off HX4.out
    clear HJ
    have HJ : Hid ((fun W' : World => W'.cell? ⟨go, 0, none⟩ = some (.int .i64 10) ∧ W'.cell? ⟨go, 1, none⟩ = some (.bool sx) ∧ W'.cell? ⟨go, 2, none⟩ = some (.slice px nx cx) ∧ W'.cell? ⟨go, 3, none⟩ = some (.bool sy) ∧ W'.cell? ⟨go, 4, none⟩ = some (.slice py ny cy) ∧ W'.cell? ⟨go, 5, none⟩ = some (.int .i64 nn)) v4) := ⟨Xo.out.c0, Xo.out.c1, Xo.out.c2, Xo.out.c3, Xo.out.c4, Xo.out.c5⟩
    refine hK _ _ HJ.out ?_
    clear hK
    refine wpJ_take (i := 12) (v := ?v24x12) rfl (by kernel_rfl) (by kernel_rfl) (by kernel_rfl) (fun _ _ _ h => h) (by kernel_rfl) ?hy24x12 HJ.out ?rest24x12
    case hy24x12 => (intro W' hJ; obtain ⟨j0, j1, j2, j3, j4, j5⟩ := hJ; go_simp; first | done | with_reducible rfl)
    refine wpJ_take (i := 13) (v := ?v25x13) rfl (by kernel_rfl) (by kernel_rfl) (by kernel_rfl) (fun _ _ _ h => h) (by kernel_rfl) ?hy25x13 HJ.out ?rest25x13
    case hy25x13 => (intro W' hJ; obtain ⟨j0, j1, j2, j3, j4, j5⟩ := hJ; go_simp; first | done | with_reducible rfl)
    refine wpJ_take (i := 14) (v := ?v26x14) rfl (by kernel_rfl) (by kernel_rfl) (by kernel_rfl) (fun _ _ _ h => h) (by kernel_rfl) ?hy26x14 HJ.out ?rest26x14
    case hy26x14 => (intro W' hJ; obtain ⟨j0, j1, j2, j3, j4, j5⟩ := hJ; go_simp; first | done | with_reducible rfl)
    obtain ⟨cx0, cx1, fx0, fx1⟩ := Xx.out
    have hnex := Xx.out.lt
    obtain ⟨co0, co1, co2, co3, co4, co5, fo0, fo1, fo2, fo3, fo4, fo5⟩ := Xo.out
    have hneo : go < v4.heap.size := World.block_lt_of_cell? v4 _ co0
    obtain ⟨cy0, cy1, fy0, fy1⟩ := Xy.out
    have hney := Xy.out.lt
    have hq1 : go ≠ gx := Nat.ne_of_lt HOX.out.1
    have hq2 : gx ≠ go := fun h => hq1 h.symm
    have hq3 : gy ≠ gx := Nat.ne_of_lt HOX.out.2
    have hq4 : gx ≠ gy := fun h => hq3 h.symm
    refine wpJ_one (i := 16) (by kernel_rfl) rfl (by kernel_rfl) (fun KJ hK => ?_)
    go_simp
    have HJ2 : Hid ((fun W' : World => W'.cell? ⟨go, 0, none⟩ = some (.int .i64 10) ∧ W'.cell? ⟨go, 1, none⟩ = some (.bool sx) ∧ W'.cell? ⟨go, 2, none⟩ = some (.slice px nx cx) ∧ W'.cell? ⟨go, 3, none⟩ = some (.bool sy) ∧ W'.cell? ⟨go, 4, none⟩ = some (.slice py ny cy) ∧ W'.cell? ⟨go, 5, none⟩ = some (.int .i64 nn)) ((v4.setCell ⟨gx, 0, none⟩ (.bool s4)).setCell ⟨gx, 1, none⟩ (.slice p4 m4 c4))) := ⟨by go_simp, by go_simp, by go_simp, by go_simp, by go_simp, by go_simp⟩
    have Xx2 : Hid (Box ((v4.setCell ⟨gx, 0, none⟩ (.bool s4)).setCell ⟨gx, 1, none⟩ (.slice p4 m4 c4)) gx (.bool s4) (.slice p4 m4 c4)) := ⟨by go_simp, by go_simp, by go_simp, by go_simp⟩
    have Xy2 : Hid (Box ((v4.setCell ⟨gx, 0, none⟩ (.bool s4)).setCell ⟨gx, 1, none⟩ (.slice p4 m4 c4)) gy (.bool s1) (.slice p1 m1 c1)) := ⟨by go_simp, by go_simp, by go_simp, by go_simp⟩
    have A12 : Hid (At ((v4.setCell ⟨gx, 0, none⟩ (.bool s4)).setCell ⟨gx, 1, none⟩ (.slice p4 m4 c4)) p1 m1 c1 u1) := (A1.out.setOff HF1.out _ _).setOff HF1.out _ _
    have A42 : Hid (At ((v4.setCell ⟨gx, 0, none⟩ (.bool s4)).setCell ⟨gx, 1, none⟩ (.slice p4 m4 c4)) p4 m4 c4 u4) := (A4.out.1.setOff HF4.out _ _).setOff HF4.out _ _
    have hbw2 : Below w.heap.size w ((v4.setCell ⟨gx, 0, none⟩ (.bool s4)).setCell ⟨gx, 1, none⟩ (.slice p4 m4 c4)) := bSet (bSet hbw _ _ _ HGx.out) _ _ _ HGx.out
    refine hK _ _ HJ2.out ?_
    clear hK HJ
    have HJ := HJ2
    clear HJ2 hbw Xx Xy Xo A1 A4 H K T2 T3
    clear cx0 cx1 fx0 fx1 hnex
    clear co0 co1 co2 co3 co4 co5 fo0 fo1 fo2 fo3 fo4 fo5 hneo
    clear cy0 cy1 fy0 fy1 hney
    clear hq1 hq2 hq3 hq4
    generalize ((v4.setCell ⟨gx, 0, none⟩ (.bool s4)).setCell ⟨gx, 1, none⟩ (.slice p4 m4 c4)) = Wz at *
    have hbw := hbw2
    have Xx := Xx2
    have Xy := Xy2
    have A1 := A12
    have A4 := A42
    clear hbw2 Xx2 Xy2 A12 A42
    refine wpJ_take (i := 17) (v := ?v27x17) rfl (by kernel_rfl) (by kernel_rfl) (by kernel_rfl) (fun _ _ _ h => h) (by kernel_rfl) ?hy27x17 HJ.out ?rest27x17
    case hy27x17 => (intro W' hJ; obtain ⟨j0, j1, j2, j3, j4, j5⟩ := hJ; go_simp; first | done | with_reducible rfl)
    refine wpJ_done (by kernel_rfl) ?_ _
    clear HJ
    obtain ⟨cx0, cx1, fx0, fx1⟩ := Xx.out
    have hnex := Xx.out.lt
    obtain ⟨cy0, cy1, fy0, fy1⟩ := Xy.out
    have hney := Xy.out.lt
    go_wp2_with fail
    clear cx0 cx1 fx0 fx1 hnex
    clear cy0 cy1 fy0 fy1 hney
    obtain ⟨rfl, rfl, rfl⟩ := ShiftZ.inj D1.out D4.out
    refine (told4 s1 er1 A4.out A1.out).mono ?_
    rintro e v9 ⟨rfl, hb9⟩
    replace Xy : Hid _ := Xy.out.below hb9
    replace Xx : Hid _ := Xx.out.below hb9
    replace A1 : Hid _ := A1.out.below hb9
    replace A4 : Hid _ := A4.out.below hb9
    replace hbw := Below.on hbw hb9
    clear hb9
    go_wp2_with fail
    go_ret
    exact ⟨rfl, hbw⟩
end Go.Proofs.YtgodajcnhipleaaGreatDoor

namespace Go.Proofs.YtgodajcnhipleaaGreatDoor
open Go.RowKit Go.Shelf

set_option maxRecDepth 20000 in
set_option maxHeartbeats 8000000 in
theorem plays4_11 {px py : Option Addr} {nx cx ny cy : Nat} {xx yy : List Nat} {w : World} (sx sy : Bool) (nn : Int) (h : At w px nx cx xx) (k : At w py ny cy yy) (hx : nx ≤ 17592186044416) (hy : ny ≤ 17592186044416) (hn0 : -9223372036854775808 ≤ nn) (hn1 : nn ≤ 9223372036854775807) (hT : Tab w) :
    Calls Tryz.prog 16 #[.agg #[.int .i64 11, .bool sx, .slice px nx cx, .bool sy, .slice py ny cy, .int .i64 nn]] w fun e w' => e = .returned (.bool true) ∧ Below w.heap.size w w' := by
  have H : Hid (At w px nx cx xx) := h
  have K : Hid (At w py ny cy yy) := k
  have HB : Hid (nx ≤ 17592186044416 ∧ ny ≤ 17592186044416 ∧ -9223372036854775808 ≤ nn ∧ nn ≤ 9223372036854775807) := ⟨hx, hy, hn0, hn1⟩
  clear h k hx hy hn0 hn1
  have TB : Hid (Tab w) := hT
  clear hT
  go_enter Tryz.func16, Tryz.ntmps16
  go_wp2_with fail
  obtain ⟨W0, hW0⟩ : ∃ W0, W0 = (w.alloc (.cells #[.int .i64 11, .bool sx, .slice px nx cx, .bool sy, .slice py ny cy, .int .i64 nn] 38)) := ⟨_, rfl⟩
  have Xo : Hid (B6q W0 (w.heap.size) (.int .i64 11) (.bool sx) (.slice px nx cx) (.bool sy) (.slice py ny cy) (.int .i64 nn)) := by rw [hW0]; exact ⟨by go_simp, by go_simp, by go_simp, by go_simp, by go_simp, by go_simp, by go_simp, by go_simp, by go_simp, by go_simp, by go_simp, by go_simp⟩
  have hb0 : Below w.heap.size w W0 := by rw [hW0]; exact below1 w _
  rw [← hW0]
  clear hW0
  have hbw : Below w.heap.size w w := Below.refl _ _
  obtain ⟨go, hgo⟩ : ∃ g, g = w.heap.size := ⟨_, rfl⟩
  have HGo : Hid (w.heap.size ≤ go) := by rw [hgo]; show _ ≤ _; omega
  rw [← hgo] at Xo
  try rw [← hgo]
  clear hgo
  replace H : Hid _ := H.out.below hb0
  replace K : Hid _ := K.out.below hb0
  replace hbw := Below.on hbw hb0
  clear hb0
  refine (doc4_11 sx sy nn H.out K.out HB.out.1 HB.out.2.1 HB.out.2.2.1 HB.out.2.2.2).mono ?_
  rintro e v1 ⟨s1, p1, m1, c1, u1, er1, rfl, hA1, hD1, hb1⟩
  replace Xo : Hid _ := Xo.out.below hb1
  replace H : Hid _ := H.out.below hb1
  replace K : Hid _ := K.out.below hb1
  replace hbw := Below.on hbw hb1
  clear hb1
  have A1 : Hid (At v1 p1 m1 c1 u1) := hA1.1
  have D1 : Hid (ShiftZ rFs sx xx nn s1 u1 er1) := hD1
  clear hA1 hD1
  obtain ⟨co0, co1, co2, co3, co4, co5, fo0, fo1, fo2, fo3, fo4, fo5⟩ := Xo.out
  have hneo : go < v1.heap.size := World.block_lt_of_cell? v1 _ co0
  go_wp2_with fail
  clear co0 co1 co2 co3 co4 co5 fo0 fo1 fo2 fo3 fo4 fo5 hneo
  have Xy0 : Hid (Box (v1.alloc (.cells #[.bool s1, .slice p1 m1 c1] 28)) v1.heap.size (.bool s1) (.slice p1 m1 c1)) := Box.new v1 _ _ _
  have hbn : Below v1.heap.size v1 (v1.alloc (.cells #[.bool s1, .slice p1 m1 c1] 28)) := below1 v1 _
  generalize v1.alloc (.cells #[.bool s1, .slice p1 m1 c1] 28) = Wy at *
  have HGy : Hid (w.heap.size ≤ v1.heap.size) := hbw.size
  replace Xo : Hid _ := Xo.out.below hbn
  replace H : Hid _ := H.out.below hbn
  replace K : Hid _ := K.out.below hbn
  replace A1 : Hid _ := A1.out.below hbn
  replace hbw := Below.on hbw hbn
  clear hbn
  generalize v1.heap.size = gy at *
  have Xy := Xy0
  clear Xy0
  obtain ⟨W1, hW1⟩ : ∃ W1, W1 = Wy.drew := ⟨_, rfl⟩
  have hbd : Below Wy.heap.size Wy W1 := by rw [hW1]; exact bDrew1 (Below.refl _ _)
  replace Xo : Hid _ := Xo.out.below hbd
  replace Xy : Hid _ := Xy.out.below hbd
  replace H : Hid _ := H.out.below hbd
  replace K : Hid _ := K.out.below hbd
  replace A1 : Hid _ := A1.out.below hbd
  replace hbw := Below.on hbw hbd
  clear hbd
  have HJ : Hid ((fun W' : World => W'.cell? ⟨go, 0, none⟩ = some (.int .i64 11) ∧ W'.cell? ⟨go, 1, none⟩ = some (.bool sx) ∧ W'.cell? ⟨go, 2, none⟩ = some (.slice px nx cx) ∧ W'.cell? ⟨go, 3, none⟩ = some (.bool sy) ∧ W'.cell? ⟨go, 4, none⟩ = some (.slice py ny cy) ∧ W'.cell? ⟨go, 5, none⟩ = some (.int .i64 nn)) W1) := ⟨Xo.out.c0, Xo.out.c1, Xo.out.c2, Xo.out.c3, Xo.out.c4, Xo.out.c5⟩
  refine wp_region_J (fun W' => W'.cell? ⟨go, 0, none⟩ = some (.int .i64 11) ∧ W'.cell? ⟨go, 1, none⟩ = some (.bool sx) ∧ W'.cell? ⟨go, 2, none⟩ = some (.slice px nx cx) ∧ W'.cell? ⟨go, 3, none⟩ = some (.bool sy) ∧ W'.cell? ⟨go, 4, none⟩ = some (.slice py ny cy) ∧ W'.cell? ⟨go, 5, none⟩ = some (.int .i64 nn)) (by kernel_rfl) ?_
  rw [← hW1]
  clear hW1
  refine wpJ_take (i := 0) (v := ?v1x0) rfl (by kernel_rfl) (by kernel_rfl) (by kernel_rfl) (fun _ _ _ h => h) (by kernel_rfl) ?hy1x0 HJ.out ?rest1x0
  case hy1x0 => (intro W' hJ; obtain ⟨j0, j1, j2, j3, j4, j5⟩ := hJ; go_simp; first | done | with_reducible rfl)
  refine wpJ_take (i := 1) (v := ?v2x1) rfl (by kernel_rfl) (by kernel_rfl) (by kernel_rfl) (fun _ _ _ h => h) (by kernel_rfl) ?hy2x1 HJ.out ?rest2x1
  case hy2x1 => (intro W' hJ; obtain ⟨j0, j1, j2, j3, j4, j5⟩ := hJ; go_simp; first | done | with_reducible rfl)
  refine wpJ_take (i := 2) (v := ?v3x2) rfl (by kernel_rfl) (by kernel_rfl) (by kernel_rfl) (fun _ _ _ h => h) (by kernel_rfl) ?hy3x2 HJ.out ?rest3x2
  case hy3x2 => (intro W' hJ; obtain ⟨j0, j1, j2, j3, j4, j5⟩ := hJ; go_simp; first | done | with_reducible rfl)
  refine wpJ_take (i := 3) (v := ?v4x3) rfl (by kernel_rfl) (by kernel_rfl) (by kernel_rfl) (fun _ _ _ h => h) (by kernel_rfl) ?hy4x3 HJ.out ?rest4x3
  case hy4x3 => (intro W' hJ; obtain ⟨j0, j1, j2, j3, j4, j5⟩ := hJ; go_simp; first | done | with_reducible rfl)
  refine wpJ_take (i := 5) (v := ?v5x5) rfl (by kernel_rfl) (by kernel_rfl) (by kernel_rfl) (fun _ _ _ h => h) (by kernel_rfl) ?hy5x5 HJ.out ?rest5x5
  case hy5x5 => (intro W' hJ; obtain ⟨j0, j1, j2, j3, j4, j5⟩ := hJ; go_simp; first | done | with_reducible rfl)
  refine wpJ_take (i := 6) (v := ?v6x6) rfl (by kernel_rfl) (by kernel_rfl) (by kernel_rfl) (fun _ _ _ h => h) (by kernel_rfl) ?hy6x6 HJ.out ?rest6x6
  case hy6x6 => (intro W' hJ; obtain ⟨j0, j1, j2, j3, j4, j5⟩ := hJ; go_simp; first | done | with_reducible rfl)
  refine wpJ_take (i := 8) (v := ?v7x8) rfl (by kernel_rfl) (by kernel_rfl) (by kernel_rfl) (fun _ _ _ h => h) (by kernel_rfl) ?hy7x8 HJ.out ?rest7x8
  case hy7x8 => (intro W' hJ; obtain ⟨j0, j1, j2, j3, j4, j5⟩ := hJ; go_simp; first | done | with_reducible rfl)
  refine wpJ_take (i := 9) (v := ?v8x9) rfl (by kernel_rfl) (by kernel_rfl) (by kernel_rfl) (fun _ _ _ h => h) (by kernel_rfl) ?hy8x9 HJ.out ?rest8x9
  case hy8x9 => (intro W' hJ; obtain ⟨j0, j1, j2, j3, j4, j5⟩ := hJ; go_simp; first | done | with_reducible rfl)
  refine wpJ_two (i := 4) (k := 15) (by kernel_rfl) rfl rfl (by kernel_rfl) (by kernel_rfl) (fun KJ hK => ?_) (fun KJ hK => ?_)
  · go_simp
    refine (twin4 sx H.out HB.out.1).mono ?_
    rintro e v2 ⟨p2, rfl, hA2, hb2⟩
    replace Xo : Hid _ := Xo.out.below hb2
    replace Xy : Hid _ := Xy.out.below hb2
    replace H : Hid _ := H.out.below hb2
    replace K : Hid _ := K.out.below hb2
    replace A1 : Hid _ := A1.out.below hb2
    replace hbw := Below.on hbw hb2
    clear hb2
    have T2 : Hid (At v2 p2 nx nx xx) := hA2
    clear hA2
    clear HJ
    have HJ : Hid ((fun W' : World => W'.cell? ⟨go, 0, none⟩ = some (.int .i64 11) ∧ W'.cell? ⟨go, 1, none⟩ = some (.bool sx) ∧ W'.cell? ⟨go, 2, none⟩ = some (.slice px nx cx) ∧ W'.cell? ⟨go, 3, none⟩ = some (.bool sy) ∧ W'.cell? ⟨go, 4, none⟩ = some (.slice py ny cy) ∧ W'.cell? ⟨go, 5, none⟩ = some (.int .i64 nn)) v2) := ⟨Xo.out.c0, Xo.out.c1, Xo.out.c2, Xo.out.c3, Xo.out.c4, Xo.out.c5⟩
    refine hK _ _ HJ.out ?_
    clear hK
    refine wpJ_two (i := 7) (k := 15) (by kernel_rfl) rfl rfl (by kernel_rfl) (by kernel_rfl) (fun KJ hK => ?_) (fun KJ hK => ?_)
    · go_simp
      refine (twin4 sy K.out HB.out.2.1).mono ?_
      rintro e v3 ⟨p3, rfl, hA3, hb3⟩
      replace Xo : Hid _ := Xo.out.below hb3
      replace Xy : Hid _ := Xy.out.below hb3
      replace H : Hid _ := H.out.below hb3
      replace K : Hid _ := K.out.below hb3
      replace A1 : Hid _ := A1.out.below hb3
      replace T2 : Hid _ := T2.out.below hb3
      replace hbw := Below.on hbw hb3
      clear hb3
      have T3 : Hid (At v3 p3 ny ny yy) := hA3
      clear hA3
      clear HJ
      have HJ : Hid ((fun W' : World => W'.cell? ⟨go, 0, none⟩ = some (.int .i64 11) ∧ W'.cell? ⟨go, 1, none⟩ = some (.bool sx) ∧ W'.cell? ⟨go, 2, none⟩ = some (.slice px nx cx) ∧ W'.cell? ⟨go, 3, none⟩ = some (.bool sy) ∧ W'.cell? ⟨go, 4, none⟩ = some (.slice py ny cy) ∧ W'.cell? ⟨go, 5, none⟩ = some (.int .i64 nn)) v3) := ⟨Xo.out.c0, Xo.out.c1, Xo.out.c2, Xo.out.c3, Xo.out.c4, Xo.out.c5⟩
      refine hK _ _ HJ.out ?_
      clear hK
      refine wpJ_take (i := 10) (v := ?v9x10) rfl (by kernel_rfl) (by kernel_rfl) (by kernel_rfl) (fun _ _ _ h => h) (by kernel_rfl) ?hy9x10 HJ.out ?rest9x10
      case hy9x10 => (intro W' hJ; obtain ⟨j0, j1, j2, j3, j4, j5⟩ := hJ; go_simp; first | done | with_reducible rfl)
      refine wpJ_two (i := 11) (k := 15) (by kernel_rfl) rfl rfl (by kernel_rfl) (by kernel_rfl) (fun KJ hK => ?_) (fun KJ hK => ?_)
      · go_simp
        refine (number4_11 sx sy nn T2.out T3.out HB.out.1 HB.out.2.1 HB.out.2.2.1 HB.out.2.2.2 (TB.out.below hbw)).mono ?_
        rintro e v4 ⟨s4, p4, m4, c4, u4, er4, rfl, hA4, hD4, hb4⟩
        replace Xo : Hid _ := Xo.out.below hb4
        replace Xy : Hid _ := Xy.out.below hb4
        replace H : Hid _ := H.out.below hb4
        replace K : Hid _ := K.out.below hb4
        replace A1 : Hid _ := A1.out.below hb4
        replace T2 : Hid _ := T2.out.below hb4
        replace T3 : Hid _ := T3.out.below hb4
        replace hbw := Below.on hbw hb4
        clear hb4
        have A4 : Hid (NewAt v3.heap.size v4 p4 m4 c4 u4) := hA4
        have D4 : Hid (ShiftZ rFs sx xx nn s4 u4 er4) := hD4
        clear hA4 hD4
        clear HJ
        have HJ : Hid ((fun W' : World => W'.cell? ⟨go, 0, none⟩ = some (.int .i64 11) ∧ W'.cell? ⟨go, 1, none⟩ = some (.bool sx) ∧ W'.cell? ⟨go, 2, none⟩ = some (.slice px nx cx) ∧ W'.cell? ⟨go, 3, none⟩ = some (.bool sy) ∧ W'.cell? ⟨go, 4, none⟩ = some (.slice py ny cy) ∧ W'.cell? ⟨go, 5, none⟩ = some (.int .i64 nn)) v4) := ⟨Xo.out.c0, Xo.out.c1, Xo.out.c2, Xo.out.c3, Xo.out.c4, Xo.out.c5⟩
        refine hK _ _ HJ.out ?_
        clear hK
        refine wpJ_take (i := 12) (v := ?v10x12) rfl (by kernel_rfl) (by kernel_rfl) (by kernel_rfl) (fun _ _ _ h => h) (by kernel_rfl) ?hy10x12 HJ.out ?rest10x12
        case hy10x12 => (intro W' hJ; obtain ⟨j0, j1, j2, j3, j4, j5⟩ := hJ; go_simp; first | done | with_reducible rfl)
        refine wpJ_take (i := 13) (v := ?v11x13) rfl (by kernel_rfl) (by kernel_rfl) (by kernel_rfl) (fun _ _ _ h => h) (by kernel_rfl) ?hy11x13 HJ.out ?rest11x13
        case hy11x13 => (intro W' hJ; obtain ⟨j0, j1, j2, j3, j4, j5⟩ := hJ; go_simp; first | done | with_reducible rfl)
        refine wpJ_take (i := 14) (v := ?v12x14) rfl (by kernel_rfl) (by kernel_rfl) (by kernel_rfl) (fun _ _ _ h => h) (by kernel_rfl) ?hy12x14 HJ.out ?rest12x14
        case hy12x14 => (intro W' hJ; obtain ⟨j0, j1, j2, j3, j4, j5⟩ := hJ; go_simp; first | done | with_reducible rfl)
        refine wpJ_one (i := 15) (by kernel_rfl) rfl (by kernel_rfl) (fun KJ hK => ?_)
        go_simp
        have HOX : Hid (go < v4.heap.size ∧ gy < v4.heap.size) := ⟨Xo.out.lt, Xy.out.lt⟩
        have HF1 : Hid (Off p1 m1 v4.heap.size) := A1.out.off_new
        have HF4 : Hid (Off p4 m4 v4.heap.size) := A4.out.1.off_new
        have Xx0 : Hid (Box (v4.alloc (.cells #[.bool false, .slice none 0 0] 28)) v4.heap.size (.bool false) (.slice none 0 0)) := Box.new v4 _ _ _
        have hbn : Below v4.heap.size v4 (v4.alloc (.cells #[.bool false, .slice none 0 0] 28)) := below1 v4 _
        generalize v4.alloc (.cells #[.bool false, .slice none 0 0] 28) = Wx at *
        have HGx : Hid (w.heap.size ≤ v4.heap.size) := hbw.size
        replace Xo : Hid _ := Xo.out.below hbn
        replace Xy : Hid _ := Xy.out.below hbn
        replace H : Hid _ := H.out.below hbn
        replace K : Hid _ := K.out.below hbn
        replace A1 : Hid _ := A1.out.below hbn
        replace T2 : Hid _ := T2.out.below hbn
        replace T3 : Hid _ := T3.out.below hbn
        replace A4 : Hid (NewAt v3.heap.size Wx p4 m4 c4 u4) := A4.out.below hbn
        replace hbw := Below.on hbw hbn
        clear hbn
        generalize v4.heap.size = gx at *
        have Xx := Xx0
        clear Xx0
        refine hK _ _ ⟨Xo.out.c0, Xo.out.c1, Xo.out.c2, Xo.out.c3, Xo.out.c4, Xo.out.c5⟩ ?_
        clear hK
        obtain ⟨cx0, cx1, fx0, fx1⟩ := Xx.out
        have hnex := Xx.out.lt
        obtain ⟨co0, co1, co2, co3, co4, co5, fo0, fo1, fo2, fo3, fo4, fo5⟩ := Xo.out
        have hneo : go < Wx.heap.size := World.block_lt_of_cell? Wx _ co0
        obtain ⟨cy0, cy1, fy0, fy1⟩ := Xy.out
        have hney := Xy.out.lt
        have hq1 : go ≠ gx := Nat.ne_of_lt HOX.out.1
        have hq2 : gx ≠ go := fun h => hq1 h.symm
        have hq3 : gy ≠ gx := Nat.ne_of_lt HOX.out.2
        have hq4 : gx ≠ gy := fun h => hq3 h.symm
        refine wpJ_one (i := 16) (by kernel_rfl) rfl (by kernel_rfl) (fun KJ hK => ?_)
        go_simp
        have HJ2 : Hid ((fun W' : World => W'.cell? ⟨go, 0, none⟩ = some (.int .i64 11) ∧ W'.cell? ⟨go, 1, none⟩ = some (.bool sx) ∧ W'.cell? ⟨go, 2, none⟩ = some (.slice px nx cx) ∧ W'.cell? ⟨go, 3, none⟩ = some (.bool sy) ∧ W'.cell? ⟨go, 4, none⟩ = some (.slice py ny cy) ∧ W'.cell? ⟨go, 5, none⟩ = some (.int .i64 nn)) ((Wx.setCell ⟨gx, 0, none⟩ (.bool s4)).setCell ⟨gx, 1, none⟩ (.slice p4 m4 c4))) := ⟨by go_simp, by go_simp, by go_simp, by go_simp, by go_simp, by go_simp⟩
        have Xx2 : Hid (Box ((Wx.setCell ⟨gx, 0, none⟩ (.bool s4)).setCell ⟨gx, 1, none⟩ (.slice p4 m4 c4)) gx (.bool s4) (.slice p4 m4 c4)) := ⟨by go_simp, by go_simp, by go_simp, by go_simp⟩
        have Xy2 : Hid (Box ((Wx.setCell ⟨gx, 0, none⟩ (.bool s4)).setCell ⟨gx, 1, none⟩ (.slice p4 m4 c4)) gy (.bool s1) (.slice p1 m1 c1)) := ⟨by go_simp, by go_simp, by go_simp, by go_simp⟩
        have A12 : Hid (At ((Wx.setCell ⟨gx, 0, none⟩ (.bool s4)).setCell ⟨gx, 1, none⟩ (.slice p4 m4 c4)) p1 m1 c1 u1) := (A1.out.setOff HF1.out _ _).setOff HF1.out _ _
        have A42 : Hid (At ((Wx.setCell ⟨gx, 0, none⟩ (.bool s4)).setCell ⟨gx, 1, none⟩ (.slice p4 m4 c4)) p4 m4 c4 u4) := (A4.out.1.setOff HF4.out _ _).setOff HF4.out _ _
        have hbw2 : Below w.heap.size w ((Wx.setCell ⟨gx, 0, none⟩ (.bool s4)).setCell ⟨gx, 1, none⟩ (.slice p4 m4 c4)) := bSet (bSet hbw _ _ _ HGx.out) _ _ _ HGx.out
        refine hK _ _ HJ2.out ?_
        clear hK HJ
        have HJ := HJ2
        clear HJ2 hbw Xx Xy Xo A1 A4 H K T2 T3
        clear cx0 cx1 fx0 fx1 hnex
        clear co0 co1 co2 co3 co4 co5 fo0 fo1 fo2 fo3 fo4 fo5 hneo
        clear cy0 cy1 fy0 fy1 hney
        clear hq1 hq2 hq3 hq4
        generalize ((Wx.setCell ⟨gx, 0, none⟩ (.bool s4)).setCell ⟨gx, 1, none⟩ (.slice p4 m4 c4)) = Wz at *
        have hbw := hbw2
        have Xx := Xx2
        have Xy := Xy2
        have A1 := A12
        have A4 := A42
        clear hbw2 Xx2 Xy2 A12 A42
        refine wpJ_take (i := 17) (v := ?v13x17) rfl (by kernel_rfl) (by kernel_rfl) (by kernel_rfl) (fun _ _ _ h => h) (by kernel_rfl) ?hy13x17 HJ.out ?rest13x17
        case hy13x17 => (intro W' hJ; obtain ⟨j0, j1, j2, j3, j4, j5⟩ := hJ; go_simp; first | done | with_reducible rfl)
        refine wpJ_done (by kernel_rfl) ?_ _
        clear HJ
        obtain ⟨cx0, cx1, fx0, fx1⟩ := Xx.out
        have hnex := Xx.out.lt
        obtain ⟨cy0, cy1, fy0, fy1⟩ := Xy.out
        have hney := Xy.out.lt
        go_wp2_with fail
        clear cx0 cx1 fx0 fx1 hnex
        clear cy0 cy1 fy0 fy1 hney
        obtain ⟨rfl, rfl, rfl⟩ := ShiftZ.inj D1.out D4.out
        refine (told4 s1 er1 A4.out A1.out).mono ?_
        rintro e v9 ⟨rfl, hb9⟩
        replace Xy : Hid _ := Xy.out.below hb9
        replace Xx : Hid _ := Xx.out.below hb9
        replace A1 : Hid _ := A1.out.below hb9
        replace A4 : Hid _ := A4.out.below hb9
        replace hbw := Below.on hbw hb9
        clear hb9
        go_wp2_with fail
        go_ret
        exact ⟨rfl, hbw⟩
      · go_simp
        have HOX : Hid (go < v3.heap.size ∧ gy < v3.heap.size) := ⟨Xo.out.lt, Xy.out.lt⟩
        have HF1 : Hid (Off p1 m1 v3.heap.size) := A1.out.off_new
        have Xx0 : Hid (Box (v3.alloc (.cells #[.bool false, .slice none 0 0] 28)) v3.heap.size (.bool false) (.slice none 0 0)) := Box.new v3 _ _ _
        have hbn : Below v3.heap.size v3 (v3.alloc (.cells #[.bool false, .slice none 0 0] 28)) := below1 v3 _
        generalize v3.alloc (.cells #[.bool false, .slice none 0 0] 28) = Wx at *
        have HGx : Hid (w.heap.size ≤ v3.heap.size) := hbw.size
        replace Xo : Hid _ := Xo.out.below hbn
        replace Xy : Hid _ := Xy.out.below hbn
        replace H : Hid _ := H.out.below hbn
        replace K : Hid _ := K.out.below hbn
        replace A1 : Hid _ := A1.out.below hbn
        replace T2 : Hid _ := T2.out.below hbn
        replace T3 : Hid _ := T3.out.below hbn
        replace hbw := Below.on hbw hbn
        clear hbn
        generalize v3.heap.size = gx at *
        have Xx := Xx0
        clear Xx0
        refine hK _ _ ⟨Xo.out.c0, Xo.out.c1, Xo.out.c2, Xo.out.c3, Xo.out.c4, Xo.out.c5⟩ ?_
        clear hK
        refine wpJ_one (i := 11) (by kernel_rfl) rfl (by kernel_rfl) (fun KJ hK => ?_)
        go_simp
        refine (number4_11 sx sy nn T2.out T3.out HB.out.1 HB.out.2.1 HB.out.2.2.1 HB.out.2.2.2 (TB.out.below hbw)).mono ?_
        rintro e v4 ⟨s4, p4, m4, c4, u4, er4, rfl, hA4, hD4, hb4⟩
        have HX4 : Hid (gx < Wx.heap.size) := Xx.out.lt
        replace Xo : Hid _ := Xo.out.below hb4
        replace Xy : Hid _ := Xy.out.below hb4
        replace Xx : Hid _ := Xx.out.below hb4
        replace H : Hid _ := H.out.below hb4
        replace K : Hid _ := K.out.below hb4
        replace A1 : Hid _ := A1.out.below hb4
        replace T2 : Hid _ := T2.out.below hb4
        replace T3 : Hid _ := T3.out.below hb4
        replace hbw := Below.on hbw hb4
        clear hb4
        have A4 : Hid (NewAt Wx.heap.size v4 p4 m4 c4 u4) := hA4
        have D4 : Hid (ShiftZ rFs sx xx nn s4 u4 er4) := hD4
        clear hA4 hD4
        have HF4 : Hid (Off p4 m4 gx) := A4.out.off HX4.out
        clear HJ
        have HJ : Hid ((fun W' : World => W'.cell? ⟨go, 0, none⟩ = some (.int .i64 11) ∧ W'.cell? ⟨go, 1, none⟩ = some (.bool sx) ∧ W'.cell? ⟨go, 2, none⟩ = some (.slice px nx cx) ∧ W'.cell? ⟨go, 3, none⟩ = some (.bool sy) ∧ W'.cell? ⟨go, 4, none⟩ = some (.slice py ny cy) ∧ W'.cell? ⟨go, 5, none⟩ = some (.int .i64 nn)) v4) := ⟨Xo.out.c0, Xo.out.c1, Xo.out.c2, Xo.out.c3, Xo.out.c4, Xo.out.c5⟩
        refine hK _ _ HJ.out ?_
        clear hK
        refine wpJ_take (i := 12) (v := ?v14x12) rfl (by kernel_rfl) (by kernel_rfl) (by kernel_rfl) (fun _ _ _ h => h) (by kernel_rfl) ?hy14x12 HJ.out ?rest14x12
        case hy14x12 => (intro W' hJ; obtain ⟨j0, j1, j2, j3, j4, j5⟩ := hJ; go_simp; first | done | with_reducible rfl)
        refine wpJ_take (i := 13) (v := ?v15x13) rfl (by kernel_rfl) (by kernel_rfl) (by kernel_rfl) (fun _ _ _ h => h) (by kernel_rfl) ?hy15x13 HJ.out ?rest15x13
        case hy15x13 => (intro W' hJ; obtain ⟨j0, j1, j2, j3, j4, j5⟩ := hJ; go_simp; first | done | with_reducible rfl)
        refine wpJ_take (i := 14) (v := ?v16x14) rfl (by kernel_rfl) (by kernel_rfl) (by kernel_rfl) (fun _ _ _ h => h) (by kernel_rfl) ?hy16x14 HJ.out ?rest16x14
        case hy16x14 => (intro W' hJ; obtain ⟨j0, j1, j2, j3, j4, j5⟩ := hJ; go_simp; first | done | with_reducible rfl)
        obtain ⟨cx0, cx1, fx0, fx1⟩ := Xx.out
        have hnex := Xx.out.lt
        obtain ⟨co0, co1, co2, co3, co4, co5, fo0, fo1, fo2, fo3, fo4, fo5⟩ := Xo.out
        have hneo : go < v4.heap.size := World.block_lt_of_cell? v4 _ co0
        obtain ⟨cy0, cy1, fy0, fy1⟩ := Xy.out
        have hney := Xy.out.lt
        have hq1 : go ≠ gx := Nat.ne_of_lt HOX.out.1
        have hq2 : gx ≠ go := fun h => hq1 h.symm
        have hq3 : gy ≠ gx := Nat.ne_of_lt HOX.out.2
        have hq4 : gx ≠ gy := fun h => hq3 h.symm
        refine wpJ_one (i := 16) (by kernel_rfl) rfl (by kernel_rfl) (fun KJ hK => ?_)
        go_simp
        have HJ2 : Hid ((fun W' : World => W'.cell? ⟨go, 0, none⟩ = some (.int .i64 11) ∧ W'.cell? ⟨go, 1, none⟩ = some (.bool sx) ∧ W'.cell? ⟨go, 2, none⟩ = some (.slice px nx cx) ∧ W'.cell? ⟨go, 3, none⟩ = some (.bool sy) ∧ W'.cell? ⟨go, 4, none⟩ = some (.slice py ny cy) ∧ W'.cell? ⟨go, 5, none⟩ = some (.int .i64 nn)) ((v4.setCell ⟨gx, 0, none⟩ (.bool s4)).setCell ⟨gx, 1, none⟩ (.slice p4 m4 c4))) := ⟨by go_simp, by go_simp, by go_simp, by go_simp, by go_simp, by go_simp⟩
        have Xx2 : Hid (Box ((v4.setCell ⟨gx, 0, none⟩ (.bool s4)).setCell ⟨gx, 1, none⟩ (.slice p4 m4 c4)) gx (.bool s4) (.slice p4 m4 c4)) := ⟨by go_simp, by go_simp, by go_simp, by go_simp⟩
        have Xy2 : Hid (Box ((v4.setCell ⟨gx, 0, none⟩ (.bool s4)).setCell ⟨gx, 1, none⟩ (.slice p4 m4 c4)) gy (.bool s1) (.slice p1 m1 c1)) := ⟨by go_simp, by go_simp, by go_simp, by go_simp⟩
        have A12 : Hid (At ((v4.setCell ⟨gx, 0, none⟩ (.bool s4)).setCell ⟨gx, 1, none⟩ (.slice p4 m4 c4)) p1 m1 c1 u1) := (A1.out.setOff HF1.out _ _).setOff HF1.out _ _
        have A42 : Hid (At ((v4.setCell ⟨gx, 0, none⟩ (.bool s4)).setCell ⟨gx, 1, none⟩ (.slice p4 m4 c4)) p4 m4 c4 u4) := (A4.out.1.setOff HF4.out _ _).setOff HF4.out _ _
        have hbw2 : Below w.heap.size w ((v4.setCell ⟨gx, 0, none⟩ (.bool s4)).setCell ⟨gx, 1, none⟩ (.slice p4 m4 c4)) := bSet (bSet hbw _ _ _ HGx.out) _ _ _ HGx.out
        refine hK _ _ HJ2.out ?_
        clear hK HJ
        have HJ := HJ2
        clear HJ2 hbw Xx Xy Xo A1 A4 H K T2 T3
        clear cx0 cx1 fx0 fx1 hnex
        clear co0 co1 co2 co3 co4 co5 fo0 fo1 fo2 fo3 fo4 fo5 hneo
        clear cy0 cy1 fy0 fy1 hney
        clear hq1 hq2 hq3 hq4
        generalize ((v4.setCell ⟨gx, 0, none⟩ (.bool s4)).setCell ⟨gx, 1, none⟩ (.slice p4 m4 c4)) = Wz at *
        have hbw := hbw2
        have Xx := Xx2
        have Xy := Xy2
        have A1 := A12
        have A4 := A42
        clear hbw2 Xx2 Xy2 A12 A42
        refine wpJ_take (i := 17) (v := ?v17x17) rfl (by kernel_rfl) (by kernel_rfl) (by kernel_rfl) (fun _ _ _ h => h) (by kernel_rfl) ?hy17x17 HJ.out ?rest17x17
        case hy17x17 => (intro W' hJ; obtain ⟨j0, j1, j2, j3, j4, j5⟩ := hJ; go_simp; first | done | with_reducible rfl)
        refine wpJ_done (by kernel_rfl) ?_ _
        clear HJ
        obtain ⟨cx0, cx1, fx0, fx1⟩ := Xx.out
        have hnex := Xx.out.lt
        obtain ⟨cy0, cy1, fy0, fy1⟩ := Xy.out
        have hney := Xy.out.lt
        go_wp2_with fail
        clear cx0 cx1 fx0 fx1 hnex
        clear cy0 cy1 fy0 fy1 hney
        obtain ⟨rfl, rfl, rfl⟩ := ShiftZ.inj D1.out D4.out
        refine (told4 s1 er1 A4.out A1.out).mono ?_
        rintro e v9 ⟨rfl, hb9⟩
        replace Xy : Hid _ := Xy.out.below hb9
        replace Xx : Hid _ := Xx.out.below hb9
        replace A1 : Hid _ := A1.out.below hb9
        replace A4 : Hid _ := A4.out.below hb9
        replace hbw := Below.on hbw hb9
        clear hb9
        go_wp2_with fail
        go_ret
        exact ⟨rfl, hbw⟩
    · go_simp
      have HOX : Hid (go < v2.heap.size ∧ gy < v2.heap.size) := ⟨Xo.out.lt, Xy.out.lt⟩
      have HF1 : Hid (Off p1 m1 v2.heap.size) := A1.out.off_new
      have Xx0 : Hid (Box (v2.alloc (.cells #[.bool false, .slice none 0 0] 28)) v2.heap.size (.bool false) (.slice none 0 0)) := Box.new v2 _ _ _
      have hbn : Below v2.heap.size v2 (v2.alloc (.cells #[.bool false, .slice none 0 0] 28)) := below1 v2 _
      generalize v2.alloc (.cells #[.bool false, .slice none 0 0] 28) = Wx at *
      have HGx : Hid (w.heap.size ≤ v2.heap.size) := hbw.size
      replace Xo : Hid _ := Xo.out.below hbn
      replace Xy : Hid _ := Xy.out.below hbn
      replace H : Hid _ := H.out.below hbn
      replace K : Hid _ := K.out.below hbn
      replace A1 : Hid _ := A1.out.below hbn
      replace T2 : Hid _ := T2.out.below hbn
      replace hbw := Below.on hbw hbn
      clear hbn
      generalize v2.heap.size = gx at *
      have Xx := Xx0
      clear Xx0
      refine hK _ _ ⟨Xo.out.c0, Xo.out.c1, Xo.out.c2, Xo.out.c3, Xo.out.c4, Xo.out.c5⟩ ?_
      clear hK
      refine wpJ_one (i := 7) (by kernel_rfl) rfl (by kernel_rfl) (fun KJ hK => ?_)
      go_simp
      refine (twin4 sy K.out HB.out.2.1).mono ?_
      rintro e v3 ⟨p3, rfl, hA3, hb3⟩
      replace Xo : Hid _ := Xo.out.below hb3
      replace Xy : Hid _ := Xy.out.below hb3
      replace Xx : Hid _ := Xx.out.below hb3
      replace H : Hid _ := H.out.below hb3
      replace K : Hid _ := K.out.below hb3
      replace A1 : Hid _ := A1.out.below hb3
      replace T2 : Hid _ := T2.out.below hb3
      replace hbw := Below.on hbw hb3
      clear hb3
      have T3 : Hid (At v3 p3 ny ny yy) := hA3
      clear hA3
      clear HJ
      have HJ : Hid ((fun W' : World => W'.cell? ⟨go, 0, none⟩ = some (.int .i64 11) ∧ W'.cell? ⟨go, 1, none⟩ = some (.bool sx) ∧ W'.cell? ⟨go, 2, none⟩ = some (.slice px nx cx) ∧ W'.cell? ⟨go, 3, none⟩ = some (.bool sy) ∧ W'.cell? ⟨go, 4, none⟩ = some (.slice py ny cy) ∧ W'.cell? ⟨go, 5, none⟩ = some (.int .i64 nn)) v3) := ⟨Xo.out.c0, Xo.out.c1, Xo.out.c2, Xo.out.c3, Xo.out.c4, Xo.out.c5⟩
      refine hK _ _ HJ.out ?_
      clear hK
      refine wpJ_take (i := 10) (v := ?v18x10) rfl (by kernel_rfl) (by kernel_rfl) (by kernel_rfl) (fun _ _ _ h => h) (by kernel_rfl) ?hy18x10 HJ.out ?rest18x10
      case hy18x10 => (intro W' hJ; obtain ⟨j0, j1, j2, j3, j4, j5⟩ := hJ; go_simp; first | done | with_reducible rfl)
      refine wpJ_one (i := 11) (by kernel_rfl) rfl (by kernel_rfl) (fun KJ hK => ?_)
      go_simp
      refine (number4_11 sx sy nn T2.out T3.out HB.out.1 HB.out.2.1 HB.out.2.2.1 HB.out.2.2.2 (TB.out.below hbw)).mono ?_
      rintro e v4 ⟨s4, p4, m4, c4, u4, er4, rfl, hA4, hD4, hb4⟩
      have HX4 : Hid (gx < v3.heap.size) := Xx.out.lt
      replace Xo : Hid _ := Xo.out.below hb4
      replace Xy : Hid _ := Xy.out.below hb4
      replace Xx : Hid _ := Xx.out.below hb4
      replace H : Hid _ := H.out.below hb4
      replace K : Hid _ := K.out.below hb4
      replace A1 : Hid _ := A1.out.below hb4
      replace T2 : Hid _ := T2.out.below hb4
      replace T3 : Hid _ := T3.out.below hb4
      replace hbw := Below.on hbw hb4
      clear hb4
      have A4 : Hid (NewAt v3.heap.size v4 p4 m4 c4 u4) := hA4
      have D4 : Hid (ShiftZ rFs sx xx nn s4 u4 er4) := hD4
      clear hA4 hD4
      have HF4 : Hid (Off p4 m4 gx) := A4.out.off HX4.out
      clear HJ
      have HJ : Hid ((fun W' : World => W'.cell? ⟨go, 0, none⟩ = some (.int .i64 11) ∧ W'.cell? ⟨go, 1, none⟩ = some (.bool sx) ∧ W'.cell? ⟨go, 2, none⟩ = some (.slice px nx cx) ∧ W'.cell? ⟨go, 3, none⟩ = some (.bool sy) ∧ W'.cell? ⟨go, 4, none⟩ = some (.slice py ny cy) ∧ W'.cell? ⟨go, 5, none⟩ = some (.int .i64 nn)) v4) := ⟨Xo.out.c0, Xo.out.c1, Xo.out.c2, Xo.out.c3, Xo.out.c4, Xo.out.c5⟩
      refine hK _ _ HJ.out ?_
      clear hK
      refine wpJ_take (i := 12) (v := ?v19x12) rfl (by kernel_rfl) (by kernel_rfl) (by kernel_rfl) (fun _ _ _ h => h) (by kernel_rfl) ?hy19x12 HJ.out ?rest19x12
      case hy19x12 => (intro W' hJ; obtain ⟨j0, j1, j2, j3, j4, j5⟩ := hJ; go_simp; first | done | with_reducible rfl)
      refine wpJ_take (i := 13) (v := ?v20x13) rfl (by kernel_rfl) (by kernel_rfl) (by kernel_rfl) (fun _ _ _ h => h) (by kernel_rfl) ?hy20x13 HJ.out ?rest20x13
      case hy20x13 => (intro W' hJ; obtain ⟨j0, j1, j2, j3, j4, j5⟩ := hJ; go_simp; first | done | with_reducible rfl)
      refine wpJ_take (i := 14) (v := ?v21x14) rfl (by kernel_rfl) (by kernel_rfl) (by kernel_rfl) (fun _ _ _ h => h) (by kernel_rfl) ?hy21x14 HJ.out ?rest21x14
      case hy21x14 => (intro W' hJ; obtain ⟨j0, j1, j2, j3, j4, j5⟩ := hJ; go_simp; first | done | with_reducible rfl)
      obtain ⟨cx0, cx1, fx0, fx1⟩ := Xx.out
      have hnex := Xx.out.lt
      obtain ⟨co0, co1, co2, co3, co4, co5, fo0, fo1, fo2, fo3, fo4, fo5⟩ := Xo.out
      have hneo : go < v4.heap.size := World.block_lt_of_cell? v4 _ co0
      obtain ⟨cy0, cy1, fy0, fy1⟩ := Xy.out
      have hney := Xy.out.lt
      have hq1 : go ≠ gx := Nat.ne_of_lt HOX.out.1
      have hq2 : gx ≠ go := fun h => hq1 h.symm
      have hq3 : gy ≠ gx := Nat.ne_of_lt HOX.out.2
      have hq4 : gx ≠ gy := fun h => hq3 h.symm
      refine wpJ_one (i := 16) (by kernel_rfl) rfl (by kernel_rfl) (fun KJ hK => ?_)
      go_simp
      have HJ2 : Hid ((fun W' : World => W'.cell? ⟨go, 0, none⟩ = some (.int .i64 11) ∧ W'.cell? ⟨go, 1, none⟩ = some (.bool sx) ∧ W'.cell? ⟨go, 2, none⟩ = some (.slice px nx cx) ∧ W'.cell? ⟨go, 3, none⟩ = some (.bool sy) ∧ W'.cell? ⟨go, 4, none⟩ = some (.slice py ny cy) ∧ W'.cell? ⟨go, 5, none⟩ = some (.int .i64 nn)) ((v4.setCell ⟨gx, 0, none⟩ (.bool s4)).setCell ⟨gx, 1, none⟩ (.slice p4 m4 c4))) := ⟨by go_simp, by go_simp, by go_simp, by go_simp, by go_simp, by go_simp⟩
      have Xx2 : Hid (Box ((v4.setCell ⟨gx, 0, none⟩ (.bool s4)).setCell ⟨gx, 1, none⟩ (.slice p4 m4 c4)) gx (.bool s4) (.slice p4 m4 c4)) := ⟨by go_simp, by go_simp, by go_simp, by go_simp⟩
      have Xy2 : Hid (Box ((v4.setCell ⟨gx, 0, none⟩ (.bool s4)).setCell ⟨gx, 1, none⟩ (.slice p4 m4 c4)) gy (.bool s1) (.slice p1 m1 c1)) := ⟨by go_simp, by go_simp, by go_simp, by go_simp⟩
      have A12 : Hid (At ((v4.setCell ⟨gx, 0, none⟩ (.bool s4)).setCell ⟨gx, 1, none⟩ (.slice p4 m4 c4)) p1 m1 c1 u1) := (A1.out.setOff HF1.out _ _).setOff HF1.out _ _
      have A42 : Hid (At ((v4.setCell ⟨gx, 0, none⟩ (.bool s4)).setCell ⟨gx, 1, none⟩ (.slice p4 m4 c4)) p4 m4 c4 u4) := (A4.out.1.setOff HF4.out _ _).setOff HF4.out _ _
      have hbw2 : Below w.heap.size w ((v4.setCell ⟨gx, 0, none⟩ (.bool s4)).setCell ⟨gx, 1, none⟩ (.slice p4 m4 c4)) := bSet (bSet hbw _ _ _ HGx.out) _ _ _ HGx.out
      refine hK _ _ HJ2.out ?_
      clear hK HJ
      have HJ := HJ2
      clear HJ2 hbw Xx Xy Xo A1 A4 H K T2 T3
      clear cx0 cx1 fx0 fx1 hnex
      clear co0 co1 co2 co3 co4 co5 fo0 fo1 fo2 fo3 fo4 fo5 hneo
      clear cy0 cy1 fy0 fy1 hney
      clear hq1 hq2 hq3 hq4
      generalize ((v4.setCell ⟨gx, 0, none⟩ (.bool s4)).setCell ⟨gx, 1, none⟩ (.slice p4 m4 c4)) = Wz at *
      have hbw := hbw2
      have Xx := Xx2
      have Xy := Xy2
      have A1 := A12
      have A4 := A42
      clear hbw2 Xx2 Xy2 A12 A42
      refine wpJ_take (i := 17) (v := ?v22x17) rfl (by kernel_rfl) (by kernel_rfl) (by kernel_rfl) (fun _ _ _ h => h) (by kernel_rfl) ?hy22x17 HJ.out ?rest22x17
      case hy22x17 => (intro W' hJ; obtain ⟨j0, j1, j2, j3, j4, j5⟩ := hJ; go_simp; first | done | with_reducible rfl)
      refine wpJ_done (by kernel_rfl) ?_ _
      clear HJ
      obtain ⟨cx0, cx1, fx0, fx1⟩ := Xx.out
      have hnex := Xx.out.lt
      obtain ⟨cy0, cy1, fy0, fy1⟩ := Xy.out
      have hney := Xy.out.lt
      go_wp2_with fail
      clear cx0 cx1 fx0 fx1 hnex
      clear cy0 cy1 fy0 fy1 hney
      obtain ⟨rfl, rfl, rfl⟩ := ShiftZ.inj D1.out D4.out
      refine (told4 s1 er1 A4.out A1.out).mono ?_
      rintro e v9 ⟨rfl, hb9⟩
      replace Xy : Hid _ := Xy.out.below hb9
      replace Xx : Hid _ := Xx.out.below hb9
      replace A1 : Hid _ := A1.out.below hb9
      replace A4 : Hid _ := A4.out.below hb9
      replace hbw := Below.on hbw hb9
      clear hb9
      go_wp2_with fail
      go_ret
      exact ⟨rfl, hbw⟩
  · go_simp
    have HOX : Hid (go < W1.heap.size ∧ gy < W1.heap.size) := ⟨Xo.out.lt, Xy.out.lt⟩
    have HF1 : Hid (Off p1 m1 W1.heap.size) := A1.out.off_new
    have Xx0 : Hid (Box (W1.alloc (.cells #[.bool false, .slice none 0 0] 28)) W1.heap.size (.bool false) (.slice none 0 0)) := Box.new W1 _ _ _
    have hbn : Below W1.heap.size W1 (W1.alloc (.cells #[.bool false, .slice none 0 0] 28)) := below1 W1 _
    generalize W1.alloc (.cells #[.bool false, .slice none 0 0] 28) = Wx at *
    have HGx : Hid (w.heap.size ≤ W1.heap.size) := hbw.size
    replace Xo : Hid _ := Xo.out.below hbn
    replace Xy : Hid _ := Xy.out.below hbn
    replace H : Hid _ := H.out.below hbn
    replace K : Hid _ := K.out.below hbn
    replace A1 : Hid _ := A1.out.below hbn
    replace hbw := Below.on hbw hbn
    clear hbn
    generalize W1.heap.size = gx at *
    have Xx := Xx0
    clear Xx0
    refine hK _ _ ⟨Xo.out.c0, Xo.out.c1, Xo.out.c2, Xo.out.c3, Xo.out.c4, Xo.out.c5⟩ ?_
    clear hK
    refine wpJ_one (i := 4) (by kernel_rfl) rfl (by kernel_rfl) (fun KJ hK => ?_)
    go_simp
    refine (twin4 sx H.out HB.out.1).mono ?_
    rintro e v2 ⟨p2, rfl, hA2, hb2⟩
    replace Xo : Hid _ := Xo.out.below hb2
    replace Xy : Hid _ := Xy.out.below hb2
    replace Xx : Hid _ := Xx.out.below hb2
    replace H : Hid _ := H.out.below hb2
    replace K : Hid _ := K.out.below hb2
    replace A1 : Hid _ := A1.out.below hb2
    replace hbw := Below.on hbw hb2
    clear hb2
    have T2 : Hid (At v2 p2 nx nx xx) := hA2
    clear hA2
    refine hK _ _ ⟨Xo.out.c0, Xo.out.c1, Xo.out.c2, Xo.out.c3, Xo.out.c4, Xo.out.c5⟩ ?_
    clear hK
    refine wpJ_one (i := 7) (by kernel_rfl) rfl (by kernel_rfl) (fun KJ hK => ?_)
    go_simp
    refine (twin4 sy K.out HB.out.2.1).mono ?_
    rintro e v3 ⟨p3, rfl, hA3, hb3⟩
    replace Xo : Hid _ := Xo.out.below hb3
    replace Xy : Hid _ := Xy.out.below hb3
    replace Xx : Hid _ := Xx.out.below hb3
    replace H : Hid _ := H.out.below hb3
    replace K : Hid _ := K.out.below hb3
    replace A1 : Hid _ := A1.out.below hb3
    replace T2 : Hid _ := T2.out.below hb3
    replace hbw := Below.on hbw hb3
    clear hb3
    have T3 : Hid (At v3 p3 ny ny yy) := hA3
    clear hA3
    clear HJ
    have HJ : Hid ((fun W' : World => W'.cell? ⟨go, 0, none⟩ = some (.int .i64 11) ∧ W'.cell? ⟨go, 1, none⟩ = some (.bool sx) ∧ W'.cell? ⟨go, 2, none⟩ = some (.slice px nx cx) ∧ W'.cell? ⟨go, 3, none⟩ = some (.bool sy) ∧ W'.cell? ⟨go, 4, none⟩ = some (.slice py ny cy) ∧ W'.cell? ⟨go, 5, none⟩ = some (.int .i64 nn)) v3) := ⟨Xo.out.c0, Xo.out.c1, Xo.out.c2, Xo.out.c3, Xo.out.c4, Xo.out.c5⟩
    refine hK _ _ HJ.out ?_
    clear hK
    refine wpJ_take (i := 10) (v := ?v23x10) rfl (by kernel_rfl) (by kernel_rfl) (by kernel_rfl) (fun _ _ _ h => h) (by kernel_rfl) ?hy23x10 HJ.out ?rest23x10
    case hy23x10 => (intro W' hJ; obtain ⟨j0, j1, j2, j3, j4, j5⟩ := hJ; go_simp; first | done | with_reducible rfl)
    refine wpJ_one (i := 11) (by kernel_rfl) rfl (by kernel_rfl) (fun KJ hK => ?_)
    go_simp
    refine (number4_11 sx sy nn T2.out T3.out HB.out.1 HB.out.2.1 HB.out.2.2.1 HB.out.2.2.2 (TB.out.below hbw)).mono ?_
    rintro e v4 ⟨s4, p4, m4, c4, u4, er4, rfl, hA4, hD4, hb4⟩
    have HX4 : Hid (gx < v3.heap.size) := Xx.out.lt
    replace Xo : Hid _ := Xo.out.below hb4
    replace Xy : Hid _ := Xy.out.below hb4
    replace Xx : Hid _ := Xx.out.below hb4
    replace H : Hid _ := H.out.below hb4
    replace K : Hid _ := K.out.below hb4
    replace A1 : Hid _ := A1.out.below hb4
    replace T2 : Hid _ := T2.out.below hb4
    replace T3 : Hid _ := T3.out.below hb4
    replace hbw := Below.on hbw hb4
    clear hb4
    have A4 : Hid (NewAt v3.heap.size v4 p4 m4 c4 u4) := hA4
    have D4 : Hid (ShiftZ rFs sx xx nn s4 u4 er4) := hD4
    clear hA4 hD4
    have HF4 : Hid (Off p4 m4 gx) := A4.out.off HX4.out
    clear HJ
    have HJ : Hid ((fun W' : World => W'.cell? ⟨go, 0, none⟩ = some (.int .i64 11) ∧ W'.cell? ⟨go, 1, none⟩ = some (.bool sx) ∧ W'.cell? ⟨go, 2, none⟩ = some (.slice px nx cx) ∧ W'.cell? ⟨go, 3, none⟩ = some (.bool sy) ∧ W'.cell? ⟨go, 4, none⟩ = some (.slice py ny cy) ∧ W'.cell? ⟨go, 5, none⟩ = some (.int .i64 nn)) v4) := ⟨Xo.out.c0, Xo.out.c1, Xo.out.c2, Xo.out.c3, Xo.out.c4, Xo.out.c5⟩
    refine hK _ _ HJ.out ?_
    clear hK
    refine wpJ_take (i := 12) (v := ?v24x12) rfl (by kernel_rfl) (by kernel_rfl) (by kernel_rfl) (fun _ _ _ h => h) (by kernel_rfl) ?hy24x12 HJ.out ?rest24x12
    case hy24x12 => (intro W' hJ; obtain ⟨j0, j1, j2, j3, j4, j5⟩ := hJ; go_simp; first | done | with_reducible rfl)
    refine wpJ_take (i := 13) (v := ?v25x13) rfl (by kernel_rfl) (by kernel_rfl) (by kernel_rfl) (fun _ _ _ h => h) (by kernel_rfl) ?hy25x13 HJ.out ?rest25x13
    case hy25x13 => (intro W' hJ; obtain ⟨j0, j1, j2, j3, j4, j5⟩ := hJ; go_simp; first | done | with_reducible rfl)
    refine wpJ_take (i := 14) (v := ?v26x14) rfl (by kernel_rfl) (by kernel_rfl) (by kernel_rfl) (fun _ _ _ h => h) (by kernel_rfl) ?hy26x14 HJ.out ?rest26x14
    case hy26x14 => (intro W' hJ; obtain ⟨j0, j1, j2, j3, j4, j5⟩ := hJ; go_simp; first | done | with_reducible rfl)
    obtain ⟨cx0, cx1, fx0, fx1⟩ := Xx.out
    have hnex := Xx.out.lt
    obtain ⟨co0, co1, co2, co3, co4, co5, fo0, fo1, fo2, fo3, fo4, fo5⟩ := Xo.out
    have hneo : go < v4.heap.size := World.block_lt_of_cell? v4 _ co0
    obtain ⟨cy0, cy1, fy0, fy1⟩ := Xy.out
    have hney := Xy.out.lt
    have hq1 : go ≠ gx := Nat.ne_of_lt HOX.out.1
    have hq2 : gx ≠ go := fun h => hq1 h.symm
    have hq3 : gy ≠ gx := Nat.ne_of_lt HOX.out.2
    have hq4 : gx ≠ gy := fun h => hq3 h.symm
    refine wpJ_one (i := 16) (by kernel_rfl) rfl (by kernel_rfl) (fun KJ hK => ?_)
    go_simp
    have HJ2 : Hid ((fun W' : World => W'.cell? ⟨go, 0, none⟩ = some (.int .i64 11) ∧ W'.cell? ⟨go, 1, none⟩ = some (.bool sx) ∧ W'.cell? ⟨go, 2, none⟩ = some (.slice px nx cx) ∧ W'.cell? ⟨go, 3, none⟩ = some (.bool sy) ∧ W'.cell? ⟨go, 4, none⟩ = some (.slice py ny cy) ∧ W'.cell? ⟨go, 5, none⟩ = some (.int .i64 nn)) ((v4.setCell ⟨gx, 0, none⟩ (.bool s4)).setCell ⟨gx, 1, none⟩ (.slice p4 m4 c4))) := ⟨by go_simp, by go_simp, by go_simp, by go_simp, by go_simp, by go_simp⟩
    have Xx2 : Hid (Box ((v4.setCell ⟨gx, 0, none⟩ (.bool s4)).setCell ⟨gx, 1, none⟩ (.slice p4 m4 c4)) gx (.bool s4) (.slice p4 m4 c4)) := ⟨by go_simp, by go_simp, by go_simp, by go_simp⟩
    have Xy2 : Hid (Box ((v4.setCell ⟨gx, 0, none⟩ (.bool s4)).setCell ⟨gx, 1, none⟩ (.slice p4 m4 c4)) gy (.bool s1) (.slice p1 m1 c1)) := ⟨by go_simp, by go_simp, by go_simp, by go_simp⟩
    have A12 : Hid (At ((v4.setCell ⟨gx, 0, none⟩ (.bool s4)).setCell ⟨gx, 1, none⟩ (.slice p4 m4 c4)) p1 m1 c1 u1) := (A1.out.setOff HF1.out _ _).setOff HF1.out _ _
    have A42 : Hid (At ((v4.setCell ⟨gx, 0, none⟩ (.bool s4)).setCell ⟨gx, 1, none⟩ (.slice p4 m4 c4)) p4 m4 c4 u4) := (A4.out.1.setOff HF4.out _ _).setOff HF4.out _ _
    have hbw2 : Below w.heap.size w ((v4.setCell ⟨gx, 0, none⟩ (.bool s4)).setCell ⟨gx, 1, none⟩ (.slice p4 m4 c4)) := bSet (bSet hbw _ _ _ HGx.out) _ _ _ HGx.out
    refine hK _ _ HJ2.out ?_
    clear hK HJ
    have HJ := HJ2
    clear HJ2 hbw Xx Xy Xo A1 A4 H K T2 T3
    clear cx0 cx1 fx0 fx1 hnex
    clear co0 co1 co2 co3 co4 co5 fo0 fo1 fo2 fo3 fo4 fo5 hneo
    clear cy0 cy1 fy0 fy1 hney
    clear hq1 hq2 hq3 hq4
    generalize ((v4.setCell ⟨gx, 0, none⟩ (.bool s4)).setCell ⟨gx, 1, none⟩ (.slice p4 m4 c4)) = Wz at *
    have hbw := hbw2
    have Xx := Xx2
    have Xy := Xy2
    have A1 := A12
    have A4 := A42
    clear hbw2 Xx2 Xy2 A12 A42
    refine wpJ_take (i := 17) (v := ?v27x17) rfl (by kernel_rfl) (by kernel_rfl) (by kernel_rfl) (fun _ _ _ h => h) (by kernel_rfl) ?hy27x17 HJ.out ?rest27x17
    case hy27x17 => (intro W' hJ; obtain ⟨j0, j1, j2, j3, j4, j5⟩ := hJ; go_simp; first | done | with_reducible rfl)
    refine wpJ_done (by kernel_rfl) ?_ _
    clear HJ
    obtain ⟨cx0, cx1, fx0, fx1⟩ := Xx.out
    have hnex := Xx.out.lt
    obtain ⟨cy0, cy1, fy0, fy1⟩ := Xy.out
    have hney := Xy.out.lt
    go_wp2_with fail
    clear cx0 cx1 fx0 fx1 hnex
    clear cy0 cy1 fy0 fy1 hney
    obtain ⟨rfl, rfl, rfl⟩ := ShiftZ.inj D1.out D4.out
    refine (told4 s1 er1 A4.out A1.out).mono ?_
    rintro e v9 ⟨rfl, hb9⟩
    replace Xy : Hid _ := Xy.out.below hb9
    replace Xx : Hid _ := Xx.out.below hb9
    replace A1 : Hid _ := A1.out.below hb9
    replace A4 : Hid _ := A4.out.below hb9
    replace hbw := Below.on hbw hb9
    clear hb9
    go_wp2_with fail
    go_ret
    exact ⟨rfl, hbw⟩
end Go.Proofs.YtgodajcnhipleaaGreatDoor

