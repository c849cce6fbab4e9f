import Derived.Test.YtfmbifocgljieaaGreatDoorJ16
import Derived.Test.YtfmbifocgljieaaGreatDoorJ17
import Derived.Test.YtfmbifocgljieaaGreatDoorJ13
namespace Go.Proofs.YtfmbifocgljieaaGreatDoor
open Go.RowKit Go.Shelf
set_option maxRecDepth 20000
set_option maxHeartbeats 0
theorem toolong_t {p : Option Addr} {m c : Nat} {w : World} {e : Int} {s : Bool} (hm : 4096 < m) :
    Calls Tryz.prog 32 #[DV s p m c e] w fun en w' => en = .returned (.bool true) ∧ Below w.heap.size w w' := by
  have d1 : decide ((4096 : Int) < (m : Int)) = true := decide_eq_true (by omega)
  clear hm
  go_enter Tryz.func32, Tryz.ntmps32
  go_wp2_with fail
  go_ret
  exact ⟨rfl, below1 w _⟩
theorem long8_t {p : Option Addr} {m c : Nat} {w : World} {e : Int} {s : Bool} (hm : 4096 < m) :
    Calls Tryz.prog 93 #[DV s p m c e] w fun en w' => en = .returned (.bool true) ∧ Below w.heap.size w w' := by
  have d1 : decide ((4096 : Int) < (m : Int)) = true := decide_eq_true (by omega)
  clear hm
  go_enter Tryz.func93, Tryz.ntmps93
  go_wp2_with fail
  go_ret
  exact ⟨rfl, below1 w _⟩
theorem long8_f {p : Option Addr} {m c : Nat} {w : World} {e : Int} {s : Bool} (hm : ¬ 4096 < m) :
    Calls Tryz.prog 93 #[DV s p m c e] w fun en w' => en = .returned (.bool false) ∧ Below w.heap.size w w' := by
  have d1 : decide ((4096 : Int) < (m : Int)) = false := decide_eq_false (by omega)
  clear hm
  go_enter Tryz.func93, Tryz.ntmps93
  go_wp2_with fail
  go_ret
  exact ⟨rfl, below1 w _⟩
theorem quo_x (f : Int) (h1 : f ≠ 32) (h2 : f ≠ 64) {pa pb : Option Addr} {na ca nb cb : Nat} {e g : Int} (s t : Bool) (w : World) :
    Calls Tryz.prog 13 #[.int .i64 f, DV s pa na ca e, DV t pb nb cb g] w fun en w' => en = .returned (.tuple #[.int .u64 0, .int .i64 1]) ∧ Below w.heap.size w w' := by
  have H : Hid (f ≠ 32 ∧ f ≠ 64) := ⟨h1, h2⟩
  clear h1 h2
  go_enter Tryz.func13, Tryz.ntmps13
  go_wp2_with fail
  obtain ⟨W0, hW0⟩ : ∃ W0, W0 = ((w.alloc (.cells #[.bool s, .slice pa na ca, .int .i64 e] 33)).alloc (.cells #[.bool t, .slice pb nb cb, .int .i64 g] 33)) := ⟨_, rfl⟩
  have Xa : Hid (B3q W0 (w.heap.size) (.bool s) (.slice pa na ca) (.int .i64 e)) := by rw [hW0]; exact ⟨by go_simp, by go_simp, by go_simp, by go_simp, by go_simp, by go_simp⟩
  have Xb : Hid (B3q W0 (w.heap.size + 1) (.bool t) (.slice pb nb cb) (.int .i64 g)) := by rw [hW0]; exact ⟨by go_simp, by go_simp, by go_simp, by go_simp, by go_simp, by go_simp⟩
  have hb0 : Below w.heap.size w W0 := by rw [hW0]; exact below2 w _ _
  rw [← hW0]
  clear hW0
  have hbw : Below w.heap.size w w := Below.refl _ _
  obtain ⟨gb, hgb⟩ : ∃ g, g = w.heap.size + 1 := ⟨_, rfl⟩
  have HGb : Hid (w.heap.size ≤ gb) := by rw [hgb]; show _ ≤ _; omega
  rw [← hgb] at Xb
  try rw [← hgb]
  obtain ⟨ga, hga⟩ : ∃ g, g = w.heap.size := ⟨_, rfl⟩
  have HGa : Hid (w.heap.size ≤ ga) := by rw [hga]; show _ ≤ _; omega
  rw [← hga] at Xa
  try rw [← hga]
  have HGD : Hid (ga ≠ gb ∧ gb ≠ ga) := by rw [hga, hgb]; exact ⟨by omega, by omega⟩
  clear hga hgb
  replace hbw := Below.on hbw hb0
  clear hb0
  refine (of_x f H.out.1 H.out.2 _).mono ?_
  rintro e v1 ⟨rfl, hb1⟩
  replace Xa : Hid _ := Xa.out.below hb1
  replace Xb : Hid _ := Xb.out.below hb1
  replace hbw := Below.on hbw hb1
  clear hb1
  obtain ⟨ca0, ca1, ca2, fa0, fa1, fa2⟩ := Xa.out
  have hnea : ga < v1.heap.size := World.block_lt_of_cell? v1 _ ca0
  obtain ⟨cb0, cb1, cb2, fb0, fb1, fb2⟩ := Xb.out
  have hneb : gb < v1.heap.size := World.block_lt_of_cell? v1 _ cb0
  go_wp2_with fail
  clear ca0 ca1 ca2 fa0 fa1 fa2 hnea
  clear cb0 cb1 cb2 fb0 fb1 fb2 hneb
  go_ret2
  refine ⟨rfl, ?_⟩
  first | exact hbw | exact Below.on hbw (below1 _ _)
theorem quo_fa {f p m l : Int} {S I H sd : Nat} {Be : Int} (J : Jn f p m l S I H sd Be) {pa pb : Option Addr} {na ca nb cb : Nat} {xs ys : List Nat} {w : World} {e g : Int} (s t : Bool) (h : At w pa na ca xs) (_k : At w pb nb cb ys) (hf : formD s xs e = false) :
    Calls Tryz.prog 13 #[.int .i64 f, DV s pa na ca e, DV t pb nb cb g] w fun en w' => en = .returned (.tuple #[.int .u64 0, .int .i64 2]) ∧ Below w.heap.size w w' := by
  have HJN : Hid (Jn f p m l S I H sd Be ∧ formD s xs e = false) := ⟨J, hf⟩
  have HA : Hid (At w pa na ca xs) := h
  clear J h hf
  go_enter Tryz.func13, Tryz.ntmps13
  go_wp2_with fail
  obtain ⟨W0, hW0⟩ : ∃ W0, W0 = ((w.alloc (.cells #[.bool s, .slice pa na ca, .int .i64 e] 33)).alloc (.cells #[.bool t, .slice pb nb cb, .int .i64 g] 33)) := ⟨_, rfl⟩
  have Xa : Hid (B3q W0 (w.heap.size) (.bool s) (.slice pa na ca) (.int .i64 e)) := by rw [hW0]; exact ⟨by go_simp, by go_simp, by go_simp, by go_simp, by go_simp, by go_simp⟩
  have Xb : Hid (B3q W0 (w.heap.size + 1) (.bool t) (.slice pb nb cb) (.int .i64 g)) := by rw [hW0]; exact ⟨by go_simp, by go_simp, by go_simp, by go_simp, by go_simp, by go_simp⟩
  have hb0 : Below w.heap.size w W0 := by rw [hW0]; exact below2 w _ _
  rw [← hW0]
  clear hW0
  have hbw : Below w.heap.size w w := Below.refl _ _
  obtain ⟨gb, hgb⟩ : ∃ g, g = w.heap.size + 1 := ⟨_, rfl⟩
  have HGb : Hid (w.heap.size ≤ gb) := by rw [hgb]; show _ ≤ _; omega
  rw [← hgb] at Xb
  try rw [← hgb]
  obtain ⟨ga, hga⟩ : ∃ g, g = w.heap.size := ⟨_, rfl⟩
  have HGa : Hid (w.heap.size ≤ ga) := by rw [hga]; show _ ≤ _; omega
  rw [← hga] at Xa
  try rw [← hga]
  have HGD : Hid (ga ≠ gb ∧ gb ≠ ga) := by rw [hga, hgb]; exact ⟨by omega, by omega⟩
  clear hga hgb
  replace HA : Hid _ := HA.out.below hb0
  replace hbw := Below.on hbw hb0
  clear hb0
  refine (HJN.out.1.jm.pm.fm.of _).mono ?_
  rintro e v1 ⟨rfl, hb1⟩
  replace Xa : Hid _ := Xa.out.below hb1
  replace Xb : Hid _ := Xb.out.below hb1
  replace HA : Hid _ := HA.out.below hb1
  replace hbw := Below.on hbw hb1
  clear hb1
  obtain ⟨ca0, ca1, ca2, fa0, fa1, fa2⟩ := Xa.out
  have hnea : ga < v1.heap.size := World.block_lt_of_cell? v1 _ ca0
  obtain ⟨cb0, cb1, cb2, fb0, fb1, fb2⟩ := Xb.out
  have hneb : gb < v1.heap.size := World.block_lt_of_cell? v1 _ cb0
  go_wp2_with fail
  clear ca0 ca1 ca2 fa0 fa1 fa2 hnea
  clear cb0 cb1 cb2 fb0 fb1 fb2 hneb
  have Xg0 : Hid (B3q (v1.alloc (.cells #[.int .i64 p, .int .i64 m, .int .i64 l] 47)) v1.heap.size (.int .i64 p) (.int .i64 m) (.int .i64 l)) := B3q.new v1 _ _ _ _
  have hbn : Below v1.heap.size v1 (v1.alloc (.cells #[.int .i64 p, .int .i64 m, .int .i64 l] 47)) := below1 v1 _
  generalize v1.alloc (.cells #[.int .i64 p, .int .i64 m, .int .i64 l] 47) = Wg at *
  have HGg : Hid (w.heap.size ≤ v1.heap.size) := hbw.size
  replace Xa : Hid _ := Xa.out.below hbn
  replace Xb : Hid _ := Xb.out.below hbn
  replace HA : Hid _ := HA.out.below hbn
  replace hbw := Below.on hbw hbn
  clear hbn
  generalize v1.heap.size = gg at *
  have Xg := Xg0
  clear Xg0
  refine (dform_f s HA.out HJN.out.2).mono ?_
  rintro e v2 ⟨rfl, hb2⟩
  replace Xa : Hid _ := Xa.out.below hb2
  replace Xb : Hid _ := Xb.out.below hb2
  replace Xg : Hid _ := Xg.out.below hb2
  replace HA : Hid _ := HA.out.below hb2
  replace hbw := Below.on hbw hb2
  clear hb2
  obtain ⟨ca0, ca1, ca2, fa0, fa1, fa2⟩ := Xa.out
  have hnea : ga < v2.heap.size := World.block_lt_of_cell? v2 _ ca0
  obtain ⟨cb0, cb1, cb2, fb0, fb1, fb2⟩ := Xb.out
  have hneb : gb < v2.heap.size := World.block_lt_of_cell? v2 _ cb0
  obtain ⟨cg0, cg1, cg2, fg0, fg1, fg2⟩ := Xg.out
  have hneg : gg < v2.heap.size := World.block_lt_of_cell? v2 _ cg0
  go_wp2_with fail
  clear ca0 ca1 ca2 fa0 fa1 fa2 hnea
  clear cb0 cb1 cb2 fb0 fb1 fb2 hneb
  clear cg0 cg1 cg2 fg0 fg1 fg2 hneg
  go_ret2
  refine ⟨rfl, ?_⟩
  first | exact hbw | exact Below.on hbw (below1 _ _)
theorem quo_fb {f p m l : Int} {S I H sd : Nat} {Be : Int} (J : Jn f p m l S I H sd Be) {pa pb : Option Addr} {na ca nb cb : Nat} {xs ys : List Nat} {w : World} {e g : Int} (s t : Bool) (h : At w pa na ca xs) (k : At w pb nb cb ys) (hf : formD s xs e = true) (hg : formD t ys g = false) :
    Calls Tryz.prog 13 #[.int .i64 f, DV s pa na ca e, DV t pb nb cb g] w fun en w' => en = .returned (.tuple #[.int .u64 0, .int .i64 2]) ∧ Below w.heap.size w w' := by
  have HJN : Hid (Jn f p m l S I H sd Be ∧ formD t ys g = false) := ⟨J, hg⟩
  have A : Hid (DN w s pa na ca e (iv s (valB B64 xs))) := formD_dn h hf
  have HB : Hid (At w pb nb cb ys) := k
  clear J h k hf hg
  go_enter Tryz.func13, Tryz.ntmps13
  go_wp2_with fail
  obtain ⟨W0, hW0⟩ : ∃ W0, W0 = ((w.alloc (.cells #[.bool s, .slice pa na ca, .int .i64 e] 33)).alloc (.cells #[.bool t, .slice pb nb cb, .int .i64 g] 33)) := ⟨_, rfl⟩
  have Xa : Hid (B3q W0 (w.heap.size) (.bool s) (.slice pa na ca) (.int .i64 e)) := by rw [hW0]; exact ⟨by go_simp, by go_simp, by go_simp, by go_simp, by go_simp, by go_simp⟩
  have Xb : Hid (B3q W0 (w.heap.size + 1) (.bool t) (.slice pb nb cb) (.int .i64 g)) := by rw [hW0]; exact ⟨by go_simp, by go_simp, by go_simp, by go_simp, by go_simp, by go_simp⟩
  have hb0 : Below w.heap.size w W0 := by rw [hW0]; exact below2 w _ _
  rw [← hW0]
  clear hW0
  have hbw : Below w.heap.size w w := Below.refl _ _
  obtain ⟨gb, hgb⟩ : ∃ g, g = w.heap.size + 1 := ⟨_, rfl⟩
  have HGb : Hid (w.heap.size ≤ gb) := by rw [hgb]; show _ ≤ _; omega
  rw [← hgb] at Xb
  try rw [← hgb]
  obtain ⟨ga, hga⟩ : ∃ g, g = w.heap.size := ⟨_, rfl⟩
  have HGa : Hid (w.heap.size ≤ ga) := by rw [hga]; show _ ≤ _; omega
  rw [← hga] at Xa
  try rw [← hga]
  have HGD : Hid (ga ≠ gb ∧ gb ≠ ga) := by rw [hga, hgb]; exact ⟨by omega, by omega⟩
  clear hga hgb
  replace HB : Hid _ := HB.out.below hb0
  replace hbw := Below.on hbw hb0
  clear hb0
  refine (HJN.out.1.jm.pm.fm.of _).mono ?_
  rintro e v1 ⟨rfl, hb1⟩
  replace Xa : Hid _ := Xa.out.below hb1
  replace Xb : Hid _ := Xb.out.below hb1
  replace HB : Hid _ := HB.out.below hb1
  replace hbw := Below.on hbw hb1
  clear hb1
  obtain ⟨ca0, ca1, ca2, fa0, fa1, fa2⟩ := Xa.out
  have hnea : ga < v1.heap.size := World.block_lt_of_cell? v1 _ ca0
  obtain ⟨cb0, cb1, cb2, fb0, fb1, fb2⟩ := Xb.out
  have hneb : gb < v1.heap.size := World.block_lt_of_cell? v1 _ cb0
  go_wp2_with fail
  clear ca0 ca1 ca2 fa0 fa1 fa2 hnea
  clear cb0 cb1 cb2 fb0 fb1 fb2 hneb
  have Xg0 : Hid (B3q (v1.alloc (.cells #[.int .i64 p, .int .i64 m, .int .i64 l] 47)) v1.heap.size (.int .i64 p) (.int .i64 m) (.int .i64 l)) := B3q.new v1 _ _ _ _
  have hbn : Below v1.heap.size v1 (v1.alloc (.cells #[.int .i64 p, .int .i64 m, .int .i64 l] 47)) := below1 v1 _
  generalize v1.alloc (.cells #[.int .i64 p, .int .i64 m, .int .i64 l] 47) = Wg at *
  have HGg : Hid (w.heap.size ≤ v1.heap.size) := hbw.size
  replace Xa : Hid _ := Xa.out.below hbn
  replace Xb : Hid _ := Xb.out.below hbn
  replace HB : Hid _ := HB.out.below hbn
  replace hbw := Below.on hbw hbn
  clear hbn
  generalize v1.heap.size = gg at *
  have Xg := Xg0
  clear Xg0
  refine (dform_t (A.out.below hbw)).mono ?_
  rintro e v2 ⟨rfl, hb2⟩
  replace Xa : Hid _ := Xa.out.below hb2
  replace Xb : Hid _ := Xb.out.below hb2
  replace Xg : Hid _ := Xg.out.below hb2
  replace HB : Hid _ := HB.out.below hb2
  replace hbw := Below.on hbw hb2
  clear hb2
  obtain ⟨ca0, ca1, ca2, fa0, fa1, fa2⟩ := Xa.out
  have hnea : ga < v2.heap.size := World.block_lt_of_cell? v2 _ ca0
  obtain ⟨cb0, cb1, cb2, fb0, fb1, fb2⟩ := Xb.out
  have hneb : gb < v2.heap.size := World.block_lt_of_cell? v2 _ cb0
  obtain ⟨cg0, cg1, cg2, fg0, fg1, fg2⟩ := Xg.out
  have hneg : gg < v2.heap.size := World.block_lt_of_cell? v2 _ cg0
  go_wp2_with fail
  clear ca0 ca1 ca2 fa0 fa1 fa2 hnea
  clear cb0 cb1 cb2 fb0 fb1 fb2 hneb
  clear cg0 cg1 cg2 fg0 fg1 fg2 hneg
  refine (dform_f t HB.out HJN.out.2).mono ?_
  rintro e v3 ⟨rfl, hb3⟩
  replace Xa : Hid _ := Xa.out.below hb3
  replace Xb : Hid _ := Xb.out.below hb3
  replace Xg : Hid _ := Xg.out.below hb3
  replace HB : Hid _ := HB.out.below hb3
  replace hbw := Below.on hbw hb3
  clear hb3
  obtain ⟨ca0, ca1, ca2, fa0, fa1, fa2⟩ := Xa.out
  have hnea : ga < v3.heap.size := World.block_lt_of_cell? v3 _ ca0
  obtain ⟨cb0, cb1, cb2, fb0, fb1, fb2⟩ := Xb.out
  have hneb : gb < v3.heap.size := World.block_lt_of_cell? v3 _ cb0
  obtain ⟨cg0, cg1, cg2, fg0, fg1, fg2⟩ := Xg.out
  have hneg : gg < v3.heap.size := World.block_lt_of_cell? v3 _ cg0
  go_wp2_with fail
  clear ca0 ca1 ca2 fa0 fa1 fa2 hnea
  clear cb0 cb1 cb2 fb0 fb1 fb2 hneb
  clear cg0 cg1 cg2 fg0 fg1 fg2 hneg
  go_ret2
  refine ⟨rfl, ?_⟩
  first | exact hbw | exact Below.on hbw (below1 _ _)
theorem quo_e9 {f p m l : Int} {S I H sd : Nat} {Be : Int} (J : Jn f p m l S I H sd Be) {pa pb : Option Addr} {na ca nb cb : Nat} {w : World} {x y e g : Int} {s t : Bool} (h : DN w s pa na ca e x) (k : DN w t pb nb cb g y) (hy : y = 0) :
    Calls Tryz.prog 13 #[.int .i64 f, DV s pa na ca e, DV t pb nb cb g] w fun en w' => en = .returned (.tuple #[.int .u64 0, .int .i64 4]) ∧ Below w.heap.size w w' := by
  have HJN : Hid (Jn f p m l S I H sd Be) := J
  have A : Hid (DN w s pa na ca e x) := h
  have B : Hid (DN w t pb nb cb g y) := k
  have HSY : Hid (sgnI y = 0) := by rw [hy]; rfl
  clear J h k hy
  go_enter Tryz.func13, Tryz.ntmps13
  go_wp2_with fail
  obtain ⟨W0, hW0⟩ : ∃ W0, W0 = ((w.alloc (.cells #[.bool s, .slice pa na ca, .int .i64 e] 33)).alloc (.cells #[.bool t, .slice pb nb cb, .int .i64 g] 33)) := ⟨_, rfl⟩
  have Xa : Hid (B3q W0 (w.heap.size) (.bool s) (.slice pa na ca) (.int .i64 e)) := by rw [hW0]; exact ⟨by go_simp, by go_simp, by go_simp, by go_simp, by go_simp, by go_simp⟩
  have Xb : Hid (B3q W0 (w.heap.size + 1) (.bool t) (.slice pb nb cb) (.int .i64 g)) := by rw [hW0]; exact ⟨by go_simp, by go_simp, by go_simp, by go_simp, by go_simp, by go_simp⟩
  have hb0 : Below w.heap.size w W0 := by rw [hW0]; exact below2 w _ _
  rw [← hW0]
  clear hW0
  have hbw : Below w.heap.size w w := Below.refl _ _
  obtain ⟨gb, hgb⟩ : ∃ g, g = w.heap.size + 1 := ⟨_, rfl⟩
  have HGb : Hid (w.heap.size ≤ gb) := by rw [hgb]; show _ ≤ _; omega
  rw [← hgb] at Xb
  try rw [← hgb]
  obtain ⟨ga, hga⟩ : ∃ g, g = w.heap.size := ⟨_, rfl⟩
  have HGa : Hid (w.heap.size ≤ ga) := by rw [hga]; show _ ≤ _; omega
  rw [← hga] at Xa
  try rw [← hga]
  have HGD : Hid (ga ≠ gb ∧ gb ≠ ga) := by rw [hga, hgb]; exact ⟨by omega, by omega⟩
  clear hga hgb
  replace hbw := Below.on hbw hb0
  clear hb0
  refine (HJN.out.jm.pm.fm.of _).mono ?_
  rintro e v1 ⟨rfl, hb1⟩
  replace Xa : Hid _ := Xa.out.below hb1
  replace Xb : Hid _ := Xb.out.below hb1
  replace hbw := Below.on hbw hb1
  clear hb1
  obtain ⟨ca0, ca1, ca2, fa0, fa1, fa2⟩ := Xa.out
  have hnea : ga < v1.heap.size := World.block_lt_of_cell? v1 _ ca0
  obtain ⟨cb0, cb1, cb2, fb0, fb1, fb2⟩ := Xb.out
  have hneb : gb < v1.heap.size := World.block_lt_of_cell? v1 _ cb0
  go_wp2_with fail
  clear ca0 ca1 ca2 fa0 fa1 fa2 hnea
  clear cb0 cb1 cb2 fb0 fb1 fb2 hneb
  have Xg0 : Hid (B3q (v1.alloc (.cells #[.int .i64 p, .int .i64 m, .int .i64 l] 47)) v1.heap.size (.int .i64 p) (.int .i64 m) (.int .i64 l)) := B3q.new v1 _ _ _ _
  have hbn : Below v1.heap.size v1 (v1.alloc (.cells #[.int .i64 p, .int .i64 m, .int .i64 l] 47)) := below1 v1 _
  generalize v1.alloc (.cells #[.int .i64 p, .int .i64 m, .int .i64 l] 47) = Wg at *
  have HGg : Hid (w.heap.size ≤ v1.heap.size) := hbw.size
  replace Xa : Hid _ := Xa.out.below hbn
  replace Xb : Hid _ := Xb.out.below hbn
  replace hbw := Below.on hbw hbn
  clear hbn
  generalize v1.heap.size = gg at *
  have Xg := Xg0
  clear Xg0
  refine (dform_t (A.out.below hbw)).mono ?_
  rintro e v2 ⟨rfl, hb2⟩
  replace Xa : Hid _ := Xa.out.below hb2
  replace Xb : Hid _ := Xb.out.below hb2
  replace Xg : Hid _ := Xg.out.below hb2
  replace hbw := Below.on hbw hb2
  clear hb2
  obtain ⟨ca0, ca1, ca2, fa0, fa1, fa2⟩ := Xa.out
  have hnea : ga < v2.heap.size := World.block_lt_of_cell? v2 _ ca0
  obtain ⟨cb0, cb1, cb2, fb0, fb1, fb2⟩ := Xb.out
  have hneb : gb < v2.heap.size := World.block_lt_of_cell? v2 _ cb0
  obtain ⟨cg0, cg1, cg2, fg0, fg1, fg2⟩ := Xg.out
  have hneg : gg < v2.heap.size := World.block_lt_of_cell? v2 _ cg0
  go_wp2_with fail
  clear ca0 ca1 ca2 fa0 fa1 fa2 hnea
  clear cb0 cb1 cb2 fb0 fb1 fb2 hneb
  clear cg0 cg1 cg2 fg0 fg1 fg2 hneg
  refine (dform_t (B.out.below hbw)).mono ?_
  rintro e v3 ⟨rfl, hb3⟩
  replace Xa : Hid _ := Xa.out.below hb3
  replace Xb : Hid _ := Xb.out.below hb3
  replace Xg : Hid _ := Xg.out.below hb3
  replace hbw := Below.on hbw hb3
  clear hb3
  obtain ⟨ca0, ca1, ca2, fa0, fa1, fa2⟩ := Xa.out
  have hnea : ga < v3.heap.size := World.block_lt_of_cell? v3 _ ca0
  obtain ⟨cb0, cb1, cb2, fb0, fb1, fb2⟩ := Xb.out
  have hneb : gb < v3.heap.size := World.block_lt_of_cell? v3 _ cb0
  obtain ⟨cg0, cg1, cg2, fg0, fg1, fg2⟩ := Xg.out
  have hneg : gg < v3.heap.size := World.block_lt_of_cell? v3 _ cg0
  go_wp2_with fail
  clear ca0 ca1 ca2 fa0 fa1 fa2 hnea
  clear cb0 cb1 cb2 fb0 fb1 fb2 hneb
  clear cg0 cg1 cg2 fg0 fg1 fg2 hneg
  refine (zsign (B.out.zn.below hbw)).mono ?_
  rintro e v4 ⟨rfl, hb4⟩
  rw [HSY.out]
  replace Xa : Hid _ := Xa.out.below hb4
  replace Xb : Hid _ := Xb.out.below hb4
  replace Xg : Hid _ := Xg.out.below hb4
  replace hbw := Below.on hbw hb4
  clear hb4
  obtain ⟨ca0, ca1, ca2, fa0, fa1, fa2⟩ := Xa.out
  have hnea : ga < v4.heap.size := World.block_lt_of_cell? v4 _ ca0
  obtain ⟨cb0, cb1, cb2, fb0, fb1, fb2⟩ := Xb.out
  have hneb : gb < v4.heap.size := World.block_lt_of_cell? v4 _ cb0
  obtain ⟨cg0, cg1, cg2, fg0, fg1, fg2⟩ := Xg.out
  have hneg : gg < v4.heap.size := World.block_lt_of_cell? v4 _ cg0
  go_wp2_with fail
  clear ca0 ca1 ca2 fa0 fa1 fa2 hnea
  clear cb0 cb1 cb2 fb0 fb1 fb2 hneb
  clear cg0 cg1 cg2 fg0 fg1 fg2 hneg
  go_ret2
  refine ⟨rfl, ?_⟩
  first | exact hbw | exact Below.on hbw (below1 _ _)
theorem quo_l1 {f p m l : Int} {S I H sd : Nat} {Be : Int} (J : Jn f p m l S I H sd Be) {pa pb : Option Addr} {na ca nb cb : Nat} {w : World} {x y e g : Int} {s t : Bool} (h : DN w s pa na ca e x) (k : DN w t pb nb cb g y) (hy : y ≠ 0) (hla : 4096 < na) :
    Calls Tryz.prog 13 #[.int .i64 f, DV s pa na ca e, DV t pb nb cb g] w fun en w' => en = .returned (.tuple #[.int .u64 0, .int .i64 5]) ∧ Below w.heap.size w w' := by
  have HJN : Hid (Jn f p m l S I H sd Be) := J
  have A : Hid (DN w s pa na ca e x) := h
  have B : Hid (DN w t pb nb cb g y) := k
  have hsg : (sgnI y == 0) = false := by
    have : sgnI y ≠ 0 := by rcases sgn3 y with ⟨_, h2⟩ | ⟨h1, _⟩ | ⟨_, h2⟩ <;> omega
    simp [this]
  obtain ⟨sy, hsy⟩ : ∃ sy, sy = sgnI y := ⟨_, rfl⟩
  rw [← hsy] at hsg
  have HSY : Hid (sgnI y = sy) := hsy.symm
  clear hsy
  have HL : Hid (4096 < na) := hla
  clear J h k hy hla
  go_enter Tryz.func13, Tryz.ntmps13
  go_wp2_with fail
  obtain ⟨W0, hW0⟩ : ∃ W0, W0 = ((w.alloc (.cells #[.bool s, .slice pa na ca, .int .i64 e] 33)).alloc (.cells #[.bool t, .slice pb nb cb, .int .i64 g] 33)) := ⟨_, rfl⟩
  have Xa : Hid (B3q W0 (w.heap.size) (.bool s) (.slice pa na ca) (.int .i64 e)) := by rw [hW0]; exact ⟨by go_simp, by go_simp, by go_simp, by go_simp, by go_simp, by go_simp⟩
  have Xb : Hid (B3q W0 (w.heap.size + 1) (.bool t) (.slice pb nb cb) (.int .i64 g)) := by rw [hW0]; exact ⟨by go_simp, by go_simp, by go_simp, by go_simp, by go_simp, by go_simp⟩
  have hb0 : Below w.heap.size w W0 := by rw [hW0]; exact below2 w _ _
  rw [← hW0]
  clear hW0
  have hbw : Below w.heap.size w w := Below.refl _ _
  obtain ⟨gb, hgb⟩ : ∃ g, g = w.heap.size + 1 := ⟨_, rfl⟩
  have HGb : Hid (w.heap.size ≤ gb) := by rw [hgb]; show _ ≤ _; omega
  rw [← hgb] at Xb
  try rw [← hgb]
  obtain ⟨ga, hga⟩ : ∃ g, g = w.heap.size := ⟨_, rfl⟩
  have HGa : Hid (w.heap.size ≤ ga) := by rw [hga]; show _ ≤ _; omega
  rw [← hga] at Xa
  try rw [← hga]
  have HGD : Hid (ga ≠ gb ∧ gb ≠ ga) := by rw [hga, hgb]; exact ⟨by omega, by omega⟩
  clear hga hgb
  replace hbw := Below.on hbw hb0
  clear hb0
  refine (HJN.out.jm.pm.fm.of _).mono ?_
  rintro e v1 ⟨rfl, hb1⟩
  replace Xa : Hid _ := Xa.out.below hb1
  replace Xb : Hid _ := Xb.out.below hb1
  replace hbw := Below.on hbw hb1
  clear hb1
  obtain ⟨ca0, ca1, ca2, fa0, fa1, fa2⟩ := Xa.out
  have hnea : ga < v1.heap.size := World.block_lt_of_cell? v1 _ ca0
  obtain ⟨cb0, cb1, cb2, fb0, fb1, fb2⟩ := Xb.out
  have hneb : gb < v1.heap.size := World.block_lt_of_cell? v1 _ cb0
  go_wp2_with fail
  clear ca0 ca1 ca2 fa0 fa1 fa2 hnea
  clear cb0 cb1 cb2 fb0 fb1 fb2 hneb
  have Xg0 : Hid (B3q (v1.alloc (.cells #[.int .i64 p, .int .i64 m, .int .i64 l] 47)) v1.heap.size (.int .i64 p) (.int .i64 m) (.int .i64 l)) := B3q.new v1 _ _ _ _
  have hbn : Below v1.heap.size v1 (v1.alloc (.cells #[.int .i64 p, .int .i64 m, .int .i64 l] 47)) := below1 v1 _
  generalize v1.alloc (.cells #[.int .i64 p, .int .i64 m, .int .i64 l] 47) = Wg at *
  have HGg : Hid (w.heap.size ≤ v1.heap.size) := hbw.size
  replace Xa : Hid _ := Xa.out.below hbn
  replace Xb : Hid _ := Xb.out.below hbn
  replace hbw := Below.on hbw hbn
  clear hbn
  generalize v1.heap.size = gg at *
  have Xg := Xg0
  clear Xg0
  refine (dform_t (A.out.below hbw)).mono ?_
  rintro e v2 ⟨rfl, hb2⟩
  replace Xa : Hid _ := Xa.out.below hb2
  replace Xb : Hid _ := Xb.out.below hb2
  replace Xg : Hid _ := Xg.out.below hb2
  replace hbw := Below.on hbw hb2
  clear hb2
  obtain ⟨ca0, ca1, ca2, fa0, fa1, fa2⟩ := Xa.out
  have hnea : ga < v2.heap.size := World.block_lt_of_cell? v2 _ ca0
  obtain ⟨cb0, cb1, cb2, fb0, fb1, fb2⟩ := Xb.out
  have hneb : gb < v2.heap.size := World.block_lt_of_cell? v2 _ cb0
  obtain ⟨cg0, cg1, cg2, fg0, fg1, fg2⟩ := Xg.out
  have hneg : gg < v2.heap.size := World.block_lt_of_cell? v2 _ cg0
  go_wp2_with fail
  clear ca0 ca1 ca2 fa0 fa1 fa2 hnea
  clear cb0 cb1 cb2 fb0 fb1 fb2 hneb
  clear cg0 cg1 cg2 fg0 fg1 fg2 hneg
  refine (dform_t (B.out.below hbw)).mono ?_
  rintro e v3 ⟨rfl, hb3⟩
  replace Xa : Hid _ := Xa.out.below hb3
  replace Xb : Hid _ := Xb.out.below hb3
  replace Xg : Hid _ := Xg.out.below hb3
  replace hbw := Below.on hbw hb3
  clear hb3
  obtain ⟨ca0, ca1, ca2, fa0, fa1, fa2⟩ := Xa.out
  have hnea : ga < v3.heap.size := World.block_lt_of_cell? v3 _ ca0
  obtain ⟨cb0, cb1, cb2, fb0, fb1, fb2⟩ := Xb.out
  have hneb : gb < v3.heap.size := World.block_lt_of_cell? v3 _ cb0
  obtain ⟨cg0, cg1, cg2, fg0, fg1, fg2⟩ := Xg.out
  have hneg : gg < v3.heap.size := World.block_lt_of_cell? v3 _ cg0
  go_wp2_with fail
  clear ca0 ca1 ca2 fa0 fa1 fa2 hnea
  clear cb0 cb1 cb2 fb0 fb1 fb2 hneb
  clear cg0 cg1 cg2 fg0 fg1 fg2 hneg
  refine (zsign (B.out.zn.below hbw)).mono ?_
  rintro e v4 ⟨rfl, hb4⟩
  rw [HSY.out]
  replace Xa : Hid _ := Xa.out.below hb4
  replace Xb : Hid _ := Xb.out.below hb4
  replace Xg : Hid _ := Xg.out.below hb4
  replace hbw := Below.on hbw hb4
  clear hb4
  obtain ⟨ca0, ca1, ca2, fa0, fa1, fa2⟩ := Xa.out
  have hnea : ga < v4.heap.size := World.block_lt_of_cell? v4 _ ca0
  obtain ⟨cb0, cb1, cb2, fb0, fb1, fb2⟩ := Xb.out
  have hneb : gb < v4.heap.size := World.block_lt_of_cell? v4 _ cb0
  obtain ⟨cg0, cg1, cg2, fg0, fg1, fg2⟩ := Xg.out
  have hneg : gg < v4.heap.size := World.block_lt_of_cell? v4 _ cg0
  go_wp2_with fail
  clear ca0 ca1 ca2 fa0 fa1 fa2 hnea
  clear cb0 cb1 cb2 fb0 fb1 fb2 hneb
  clear cg0 cg1 cg2 fg0 fg1 fg2 hneg
  refine (toolong_t HL.out).mono ?_
  rintro e v5 ⟨rfl, hb5⟩
  replace Xa : Hid _ := Xa.out.below hb5
  replace Xb : Hid _ := Xb.out.below hb5
  replace Xg : Hid _ := Xg.out.below hb5
  replace hbw := Below.on hbw hb5
  clear hb5
  obtain ⟨ca0, ca1, ca2, fa0, fa1, fa2⟩ := Xa.out
  have hnea : ga < v5.heap.size := World.block_lt_of_cell? v5 _ ca0
  obtain ⟨cb0, cb1, cb2, fb0, fb1, fb2⟩ := Xb.out
  have hneb : gb < v5.heap.size := World.block_lt_of_cell? v5 _ cb0
  obtain ⟨cg0, cg1, cg2, fg0, fg1, fg2⟩ := Xg.out
  have hneg : gg < v5.heap.size := World.block_lt_of_cell? v5 _ cg0
  go_wp2_with fail
  clear ca0 ca1 ca2 fa0 fa1 fa2 hnea
  clear cb0 cb1 cb2 fb0 fb1 fb2 hneb
  clear cg0 cg1 cg2 fg0 fg1 fg2 hneg
  go_ret2
  refine ⟨rfl, ?_⟩
  first | exact hbw | exact Below.on hbw (below1 _ _)
theorem quo_l2 {f p m l : Int} {S I H sd : Nat} {Be : Int} (J : Jn f p m l S I H sd Be) {pa pb : Option Addr} {na ca nb cb : Nat} {w : World} {x y e g : Int} {s t : Bool} (h : DN w s pa na ca e x) (k : DN w t pb nb cb g y) (hy : y ≠ 0) (hla : na ≤ 4096) (hlb : 4096 < nb) :
    Calls Tryz.prog 13 #[.int .i64 f, DV s pa na ca e, DV t pb nb cb g] w fun en w' => en = .returned (.tuple #[.int .u64 0, .int .i64 5]) ∧ Below w.heap.size w w' := by
  have HJN : Hid (Jn f p m l S I H sd Be) := J
  have A : Hid (DN w s pa na ca e x) := h
  have B : Hid (DN w t pb nb cb g y) := k
  have hsg : (sgnI y == 0) = false := by
    have : sgnI y ≠ 0 := by rcases sgn3 y with ⟨_, h2⟩ | ⟨h1, _⟩ | ⟨_, h2⟩ <;> omega
    simp [this]
  obtain ⟨sy, hsy⟩ : ∃ sy, sy = sgnI y := ⟨_, rfl⟩
  rw [← hsy] at hsg
  have HSY : Hid (sgnI y = sy) := hsy.symm
  clear hsy
  have HL : Hid (na ≤ 4096 ∧ 4096 < nb) := ⟨hla, hlb⟩
  clear J h k hy hla hlb
  go_enter Tryz.func13, Tryz.ntmps13
  go_wp2_with fail
  obtain ⟨W0, hW0⟩ : ∃ W0, W0 = ((w.alloc (.cells #[.bool s, .slice pa na ca, .int .i64 e] 33)).alloc (.cells #[.bool t, .slice pb nb cb, .int .i64 g] 33)) := ⟨_, rfl⟩
  have Xa : Hid (B3q W0 (w.heap.size) (.bool s) (.slice pa na ca) (.int .i64 e)) := by rw [hW0]; exact ⟨by go_simp, by go_simp, by go_simp, by go_simp, by go_simp, by go_simp⟩
  have Xb : Hid (B3q W0 (w.heap.size + 1) (.bool t) (.slice pb nb cb) (.int .i64 g)) := by rw [hW0]; exact ⟨by go_simp, by go_simp, by go_simp, by go_simp, by go_simp, by go_simp⟩
  have hb0 : Below w.heap.size w W0 := by rw [hW0]; exact below2 w _ _
  rw [← hW0]
  clear hW0
  have hbw : Below w.heap.size w w := Below.refl _ _
  obtain ⟨gb, hgb⟩ : ∃ g, g = w.heap.size + 1 := ⟨_, rfl⟩
  have HGb : Hid (w.heap.size ≤ gb) := by rw [hgb]; show _ ≤ _; omega
  rw [← hgb] at Xb
  try rw [← hgb]
  obtain ⟨ga, hga⟩ : ∃ g, g = w.heap.size := ⟨_, rfl⟩
  have HGa : Hid (w.heap.size ≤ ga) := by rw [hga]; show _ ≤ _; omega
  rw [← hga] at Xa
  try rw [← hga]
  have HGD : Hid (ga ≠ gb ∧ gb ≠ ga) := by rw [hga, hgb]; exact ⟨by omega, by omega⟩
  clear hga hgb
  replace hbw := Below.on hbw hb0
  clear hb0
  refine (HJN.out.jm.pm.fm.of _).mono ?_
  rintro e v1 ⟨rfl, hb1⟩
  replace Xa : Hid _ := Xa.out.below hb1
  replace Xb : Hid _ := Xb.out.below hb1
  replace hbw := Below.on hbw hb1
  clear hb1
  obtain ⟨ca0, ca1, ca2, fa0, fa1, fa2⟩ := Xa.out
  have hnea : ga < v1.heap.size := World.block_lt_of_cell? v1 _ ca0
  obtain ⟨cb0, cb1, cb2, fb0, fb1, fb2⟩ := Xb.out
  have hneb : gb < v1.heap.size := World.block_lt_of_cell? v1 _ cb0
  go_wp2_with fail
  clear ca0 ca1 ca2 fa0 fa1 fa2 hnea
  clear cb0 cb1 cb2 fb0 fb1 fb2 hneb
  have Xg0 : Hid (B3q (v1.alloc (.cells #[.int .i64 p, .int .i64 m, .int .i64 l] 47)) v1.heap.size (.int .i64 p) (.int .i64 m) (.int .i64 l)) := B3q.new v1 _ _ _ _
  have hbn : Below v1.heap.size v1 (v1.alloc (.cells #[.int .i64 p, .int .i64 m, .int .i64 l] 47)) := below1 v1 _
  generalize v1.alloc (.cells #[.int .i64 p, .int .i64 m, .int .i64 l] 47) = Wg at *
  have HGg : Hid (w.heap.size ≤ v1.heap.size) := hbw.size
  replace Xa : Hid _ := Xa.out.below hbn
  replace Xb : Hid _ := Xb.out.below hbn
  replace hbw := Below.on hbw hbn
  clear hbn
  generalize v1.heap.size = gg at *
  have Xg := Xg0
  clear Xg0
  refine (dform_t (A.out.below hbw)).mono ?_
  rintro e v2 ⟨rfl, hb2⟩
  replace Xa : Hid _ := Xa.out.below hb2
  replace Xb : Hid _ := Xb.out.below hb2
  replace Xg : Hid _ := Xg.out.below hb2
  replace hbw := Below.on hbw hb2
  clear hb2
  obtain ⟨ca0, ca1, ca2, fa0, fa1, fa2⟩ := Xa.out
  have hnea : ga < v2.heap.size := World.block_lt_of_cell? v2 _ ca0
  obtain ⟨cb0, cb1, cb2, fb0, fb1, fb2⟩ := Xb.out
  have hneb : gb < v2.heap.size := World.block_lt_of_cell? v2 _ cb0
  obtain ⟨cg0, cg1, cg2, fg0, fg1, fg2⟩ := Xg.out
  have hneg : gg < v2.heap.size := World.block_lt_of_cell? v2 _ cg0
  go_wp2_with fail
  clear ca0 ca1 ca2 fa0 fa1 fa2 hnea
  clear cb0 cb1 cb2 fb0 fb1 fb2 hneb
  clear cg0 cg1 cg2 fg0 fg1 fg2 hneg
  refine (dform_t (B.out.below hbw)).mono ?_
  rintro e v3 ⟨rfl, hb3⟩
  replace Xa : Hid _ := Xa.out.below hb3
  replace Xb : Hid _ := Xb.out.below hb3
  replace Xg : Hid _ := Xg.out.below hb3
  replace hbw := Below.on hbw hb3
  clear hb3
  obtain ⟨ca0, ca1, ca2, fa0, fa1, fa2⟩ := Xa.out
  have hnea : ga < v3.heap.size := World.block_lt_of_cell? v3 _ ca0
  obtain ⟨cb0, cb1, cb2, fb0, fb1, fb2⟩ := Xb.out
  have hneb : gb < v3.heap.size := World.block_lt_of_cell? v3 _ cb0
  obtain ⟨cg0, cg1, cg2, fg0, fg1, fg2⟩ := Xg.out
  have hneg : gg < v3.heap.size := World.block_lt_of_cell? v3 _ cg0
  go_wp2_with fail
  clear ca0 ca1 ca2 fa0 fa1 fa2 hnea
  clear cb0 cb1 cb2 fb0 fb1 fb2 hneb
  clear cg0 cg1 cg2 fg0 fg1 fg2 hneg
  refine (zsign (B.out.zn.below hbw)).mono ?_
  rintro e v4 ⟨rfl, hb4⟩
  rw [HSY.out]
  replace Xa : Hid _ := Xa.out.below hb4
  replace Xb : Hid _ := Xb.out.below hb4
  replace Xg : Hid _ := Xg.out.below hb4
  replace hbw := Below.on hbw hb4
  clear hb4
  obtain ⟨ca0, ca1, ca2, fa0, fa1, fa2⟩ := Xa.out
  have hnea : ga < v4.heap.size := World.block_lt_of_cell? v4 _ ca0
  obtain ⟨cb0, cb1, cb2, fb0, fb1, fb2⟩ := Xb.out
  have hneb : gb < v4.heap.size := World.block_lt_of_cell? v4 _ cb0
  obtain ⟨cg0, cg1, cg2, fg0, fg1, fg2⟩ := Xg.out
  have hneg : gg < v4.heap.size := World.block_lt_of_cell? v4 _ cg0
  go_wp2_with fail
  clear ca0 ca1 ca2 fa0 fa1 fa2 hnea
  clear cb0 cb1 cb2 fb0 fb1 fb2 hneb
  clear cg0 cg1 cg2 fg0 fg1 fg2 hneg
  refine (toolong HL.out.1).mono ?_
  rintro e v5 ⟨rfl, hb5⟩
  replace Xa : Hid _ := Xa.out.below hb5
  replace Xb : Hid _ := Xb.out.below hb5
  replace Xg : Hid _ := Xg.out.below hb5
  replace hbw := Below.on hbw hb5
  clear hb5
  obtain ⟨ca0, ca1, ca2, fa0, fa1, fa2⟩ := Xa.out
  have hnea : ga < v5.heap.size := World.block_lt_of_cell? v5 _ ca0
  obtain ⟨cb0, cb1, cb2, fb0, fb1, fb2⟩ := Xb.out
  have hneb : gb < v5.heap.size := World.block_lt_of_cell? v5 _ cb0
  obtain ⟨cg0, cg1, cg2, fg0, fg1, fg2⟩ := Xg.out
  have hneg : gg < v5.heap.size := World.block_lt_of_cell? v5 _ cg0
  go_wp2_with fail
  clear ca0 ca1 ca2 fa0 fa1 fa2 hnea
  clear cb0 cb1 cb2 fb0 fb1 fb2 hneb
  clear cg0 cg1 cg2 fg0 fg1 fg2 hneg
  refine (toolong_t HL.out.2).mono ?_
  rintro e v6 ⟨rfl, hb6⟩
  replace Xa : Hid _ := Xa.out.below hb6
  replace Xb : Hid _ := Xb.out.below hb6
  replace Xg : Hid _ := Xg.out.below hb6
  replace hbw := Below.on hbw hb6
  clear hb6
  obtain ⟨ca0, ca1, ca2, fa0, fa1, fa2⟩ := Xa.out
  have hnea : ga < v6.heap.size := World.block_lt_of_cell? v6 _ ca0
  obtain ⟨cb0, cb1, cb2, fb0, fb1, fb2⟩ := Xb.out
  have hneb : gb < v6.heap.size := World.block_lt_of_cell? v6 _ cb0
  obtain ⟨cg0, cg1, cg2, fg0, fg1, fg2⟩ := Xg.out
  have hneg : gg < v6.heap.size := World.block_lt_of_cell? v6 _ cg0
  go_wp2_with fail
  clear ca0 ca1 ca2 fa0 fa1 fa2 hnea
  clear cb0 cb1 cb2 fb0 fb1 fb2 hneb
  clear cg0 cg1 cg2 fg0 fg1 fg2 hneg
  go_ret2
  refine ⟨rfl, ?_⟩
  first | exact hbw | exact Below.on hbw (below1 _ _)
theorem rot_x (f : Int) (h1 : f ≠ 32) (h2 : f ≠ 64) {pa : Option Addr} {na ca : Nat} {e : Int} (s : Bool) (w : World) :
    Calls Tryz.prog 14 #[.int .i64 f, DV s pa na ca e] w fun en w' => en = .returned (.tuple #[.int .u64 0, .int .i64 1]) ∧ Below w.heap.size w w' := by
  have H : Hid (f ≠ 32 ∧ f ≠ 64) := ⟨h1, h2⟩
  clear h1 h2
  go_enter Tryz.func14, Tryz.ntmps14
  go_wp2_with fail
  obtain ⟨W0, hW0⟩ : ∃ W0, W0 = (w.alloc (.cells #[.bool s, .slice pa na ca, .int .i64 e] 33)) := ⟨_, rfl⟩
  have Xa : Hid (B3q W0 (w.heap.size) (.bool s) (.slice pa na ca) (.int .i64 e)) := by rw [hW0]; exact ⟨by go_simp, by go_simp, by go_simp, by go_simp, by go_simp, by go_simp⟩
  have hb0 : Below w.heap.size w W0 := by rw [hW0]; exact below1 w _
  rw [← hW0]
  clear hW0
  have hbw : Below w.heap.size w w := Below.refl _ _
  obtain ⟨ga, hga⟩ : ∃ g, g = w.heap.size := ⟨_, rfl⟩
  have HGa : Hid (w.heap.size ≤ ga) := by rw [hga]; show _ ≤ _; omega
  rw [← hga] at Xa
  try rw [← hga]
  clear hga
  replace hbw := Below.on hbw hb0
  clear hb0
  refine (of_x f H.out.1 H.out.2 _).mono ?_
  rintro e v1 ⟨rfl, hb1⟩
  replace Xa : Hid _ := Xa.out.below hb1
  replace hbw := Below.on hbw hb1
  clear hb1
  obtain ⟨ca0, ca1, ca2, fa0, fa1, fa2⟩ := Xa.out
  have hnea : ga < v1.heap.size := World.block_lt_of_cell? v1 _ ca0
  go_wp2_with fail
  clear ca0 ca1 ca2 fa0 fa1 fa2 hnea
  go_ret2
  refine ⟨rfl, ?_⟩
  first | exact hbw | exact Below.on hbw (below1 _ _)
theorem rot_f {f p m l : Int} {S I H sd : Nat} {Be : Int} (J : Jn f p m l S I H sd Be) {pa : Option Addr} {na ca : Nat} {xs : List Nat} {w : World} {e : Int} (s : Bool) (h : At w pa na ca xs) (hf : formD s xs e = false) :
    Calls Tryz.prog 14 #[.int .i64 f, DV s pa na ca e] w fun en w' => en = .returned (.tuple #[.int .u64 0, .int .i64 2]) ∧ Below w.heap.size w w' := by
  have HJN : Hid (Jn f p m l S I H sd Be ∧ formD s xs e = false) := ⟨J, hf⟩
  have HA : Hid (At w pa na ca xs) := h
  clear J h hf
  go_enter Tryz.func14, Tryz.ntmps14
  go_wp2_with fail
  obtain ⟨W0, hW0⟩ : ∃ W0, W0 = (w.alloc (.cells #[.bool s, .slice pa na ca, .int .i64 e] 33)) := ⟨_, rfl⟩
  have Xa : Hid (B3q W0 (w.heap.size) (.bool s) (.slice pa na ca) (.int .i64 e)) := by rw [hW0]; exact ⟨by go_simp, by go_simp, by go_simp, by go_simp, by go_simp, by go_simp⟩
  have hb0 : Below w.heap.size w W0 := by rw [hW0]; exact below1 w _
  rw [← hW0]
  clear hW0
  have hbw : Below w.heap.size w w := Below.refl _ _
  obtain ⟨ga, hga⟩ : ∃ g, g = w.heap.size := ⟨_, rfl⟩
  have HGa : Hid (w.heap.size ≤ ga) := by rw [hga]; show _ ≤ _; omega
  rw [← hga] at Xa
  try rw [← hga]
  clear hga
  replace HA : Hid _ := HA.out.below hb0
  replace hbw := Below.on hbw hb0
  clear hb0
  refine (HJN.out.1.jm.pm.fm.of _).mono ?_
  rintro e v1 ⟨rfl, hb1⟩
  replace Xa : Hid _ := Xa.out.below hb1
  replace HA : Hid _ := HA.out.below hb1
  replace hbw := Below.on hbw hb1
  clear hb1
  obtain ⟨ca0, ca1, ca2, fa0, fa1, fa2⟩ := Xa.out
  have hnea : ga < v1.heap.size := World.block_lt_of_cell? v1 _ ca0
  go_wp2_with fail
  clear ca0 ca1 ca2 fa0 fa1 fa2 hnea
  have Xg0 : Hid (B3q (v1.alloc (.cells #[.int .i64 p, .int .i64 m, .int .i64 l] 47)) v1.heap.size (.int .i64 p) (.int .i64 m) (.int .i64 l)) := B3q.new v1 _ _ _ _
  have hbn : Below v1.heap.size v1 (v1.alloc (.cells #[.int .i64 p, .int .i64 m, .int .i64 l] 47)) := below1 v1 _
  generalize v1.alloc (.cells #[.int .i64 p, .int .i64 m, .int .i64 l] 47) = Wg at *
  have HGg : Hid (w.heap.size ≤ v1.heap.size) := hbw.size
  replace Xa : Hid _ := Xa.out.below hbn
  replace HA : Hid _ := HA.out.below hbn
  replace hbw := Below.on hbw hbn
  clear hbn
  generalize v1.heap.size = gg at *
  have Xg := Xg0
  clear Xg0
  refine (dform_f s HA.out HJN.out.2).mono ?_
  rintro e v2 ⟨rfl, hb2⟩
  replace Xa : Hid _ := Xa.out.below hb2
  replace Xg : Hid _ := Xg.out.below hb2
  replace HA : Hid _ := HA.out.below hb2
  replace hbw := Below.on hbw hb2
  clear hb2
  obtain ⟨ca0, ca1, ca2, fa0, fa1, fa2⟩ := Xa.out
  have hnea : ga < v2.heap.size := World.block_lt_of_cell? v2 _ ca0
  obtain ⟨cg0, cg1, cg2, fg0, fg1, fg2⟩ := Xg.out
  have hneg : gg < v2.heap.size := World.block_lt_of_cell? v2 _ cg0
  go_wp2_with fail
  clear ca0 ca1 ca2 fa0 fa1 fa2 hnea
  clear cg0 cg1 cg2 fg0 fg1 fg2 hneg
  go_ret2
  refine ⟨rfl, ?_⟩
  first | exact hbw | exact Below.on hbw (below1 _ _)
theorem rot_s9 {f p m l : Int} {S I H sd : Nat} {Be : Int} (J : Jn f p m l S I H sd Be) {pa : Option Addr} {na ca : Nat} {w : World} {x e : Int} {s : Bool} (h : DN w s pa na ca e x) (hx : x < 0) :
    Calls Tryz.prog 14 #[.int .i64 f, DV s pa na ca e] w fun en w' => en = .returned (.tuple #[.int .u64 0, .int .i64 3]) ∧ Below w.heap.size w w' := by
  have HJN : Hid (Jn f p m l S I H sd Be) := J
  have A : Hid (DN w s pa na ca e x) := h
  have HSX : Hid (sgnI x = -1) := by show sgnI x = -1; rcases sgn3 x with ⟨_, h2⟩ | ⟨h1, _⟩ | ⟨h1, h2⟩ <;> omega
  clear J h hx
  go_enter Tryz.func14, Tryz.ntmps14
  go_wp2_with fail
  obtain ⟨W0, hW0⟩ : ∃ W0, W0 = (w.alloc (.cells #[.bool s, .slice pa na ca, .int .i64 e] 33)) := ⟨_, rfl⟩
  have Xa : Hid (B3q W0 (w.heap.size) (.bool s) (.slice pa na ca) (.int .i64 e)) := by rw [hW0]; exact ⟨by go_simp, by go_simp, by go_simp, by go_simp, by go_simp, by go_simp⟩
  have hb0 : Below w.heap.size w W0 := by rw [hW0]; exact below1 w _
  rw [← hW0]
  clear hW0
  have hbw : Below w.heap.size w w := Below.refl _ _
  obtain ⟨ga, hga⟩ : ∃ g, g = w.heap.size := ⟨_, rfl⟩
  have HGa : Hid (w.heap.size ≤ ga) := by rw [hga]; show _ ≤ _; omega
  rw [← hga] at Xa
  try rw [← hga]
  clear hga
  replace hbw := Below.on hbw hb0
  clear hb0
  refine (HJN.out.jm.pm.fm.of _).mono ?_
  rintro e v1 ⟨rfl, hb1⟩
  replace Xa : Hid _ := Xa.out.below hb1
  replace hbw := Below.on hbw hb1
  clear hb1
  obtain ⟨ca0, ca1, ca2, fa0, fa1, fa2⟩ := Xa.out
  have hnea : ga < v1.heap.size := World.block_lt_of_cell? v1 _ ca0
  go_wp2_with fail
  clear ca0 ca1 ca2 fa0 fa1 fa2 hnea
  have Xg0 : Hid (B3q (v1.alloc (.cells #[.int .i64 p, .int .i64 m, .int .i64 l] 47)) v1.heap.size (.int .i64 p) (.int .i64 m) (.int .i64 l)) := B3q.new v1 _ _ _ _
  have hbn : Below v1.heap.size v1 (v1.alloc (.cells #[.int .i64 p, .int .i64 m, .int .i64 l] 47)) := below1 v1 _
  generalize v1.alloc (.cells #[.int .i64 p, .int .i64 m, .int .i64 l] 47) = Wg at *
  have HGg : Hid (w.heap.size ≤ v1.heap.size) := hbw.size
  replace Xa : Hid _ := Xa.out.below hbn
  replace hbw := Below.on hbw hbn
  clear hbn
  generalize v1.heap.size = gg at *
  have Xg := Xg0
  clear Xg0
  refine (dform_t (A.out.below hbw)).mono ?_
  rintro e v2 ⟨rfl, hb2⟩
  replace Xa : Hid _ := Xa.out.below hb2
  replace Xg : Hid _ := Xg.out.below hb2
  replace hbw := Below.on hbw hb2
  clear hb2
  obtain ⟨ca0, ca1, ca2, fa0, fa1, fa2⟩ := Xa.out
  have hnea : ga < v2.heap.size := World.block_lt_of_cell? v2 _ ca0
  obtain ⟨cg0, cg1, cg2, fg0, fg1, fg2⟩ := Xg.out
  have hneg : gg < v2.heap.size := World.block_lt_of_cell? v2 _ cg0
  go_wp2_with fail
  clear ca0 ca1 ca2 fa0 fa1 fa2 hnea
  clear cg0 cg1 cg2 fg0 fg1 fg2 hneg
  refine (zsign (A.out.zn.below hbw)).mono ?_
  rintro e v4 ⟨rfl, hb4⟩
  rw [HSX.out]
  replace Xa : Hid _ := Xa.out.below hb4
  replace Xg : Hid _ := Xg.out.below hb4
  replace hbw := Below.on hbw hb4
  clear hb4
  obtain ⟨ca0, ca1, ca2, fa0, fa1, fa2⟩ := Xa.out
  have hnea : ga < v4.heap.size := World.block_lt_of_cell? v4 _ ca0
  obtain ⟨cg0, cg1, cg2, fg0, fg1, fg2⟩ := Xg.out
  have hneg : gg < v4.heap.size := World.block_lt_of_cell? v4 _ cg0
  go_wp2_with fail
  clear ca0 ca1 ca2 fa0 fa1 fa2 hnea
  clear cg0 cg1 cg2 fg0 fg1 fg2 hneg
  go_ret2
  refine ⟨rfl, ?_⟩
  first | exact hbw | exact Below.on hbw (below1 _ _)
theorem rot_l {f p m l : Int} {S I H sd : Nat} {Be : Int} (J : Jn f p m l S I H sd Be) {pa : Option Addr} {na ca : Nat} {w : World} {x e : Int} {s : Bool} (h : DN w s pa na ca e x) (hx : ¬ x < 0) (hla : 4096 < na) :
    Calls Tryz.prog 14 #[.int .i64 f, DV s pa na ca e] w fun en w' => en = .returned (.tuple #[.int .u64 0, .int .i64 5]) ∧ Below w.heap.size w w' := by
  have HJN : Hid (Jn f p m l S I H sd Be) := J
  have A : Hid (DN w s pa na ca e x) := h
  obtain ⟨sy, hsy⟩ : ∃ sy, sy = sgnI x := ⟨_, rfl⟩
  have hsg : decide (sy < 0) = false := by rw [hsy]; exact decide_eq_false (by rcases sgn3 x with ⟨_, h2⟩ | ⟨h1, _⟩ | ⟨_, h2⟩ <;> omega)
  have hsg2 : ¬ sy < 0 := of_decide_eq_false hsg
  have HSX : Hid (sgnI x = sy) := hsy.symm
  clear hsy
  have HL : Hid (4096 < na) := hla
  clear J h hx hla
  go_enter Tryz.func14, Tryz.ntmps14
  go_wp2_with fail
  obtain ⟨W0, hW0⟩ : ∃ W0, W0 = (w.alloc (.cells #[.bool s, .slice pa na ca, .int .i64 e] 33)) := ⟨_, rfl⟩
  have Xa : Hid (B3q W0 (w.heap.size) (.bool s) (.slice pa na ca) (.int .i64 e)) := by rw [hW0]; exact ⟨by go_simp, by go_simp, by go_simp, by go_simp, by go_simp, by go_simp⟩
  have hb0 : Below w.heap.size w W0 := by rw [hW0]; exact below1 w _
  rw [← hW0]
  clear hW0
  have hbw : Below w.heap.size w w := Below.refl _ _
  obtain ⟨ga, hga⟩ : ∃ g, g = w.heap.size := ⟨_, rfl⟩
  have HGa : Hid (w.heap.size ≤ ga) := by rw [hga]; show _ ≤ _; omega
  rw [← hga] at Xa
  try rw [← hga]
  clear hga
  replace hbw := Below.on hbw hb0
  clear hb0
  refine (HJN.out.jm.pm.fm.of _).mono ?_
  rintro e v1 ⟨rfl, hb1⟩
  replace Xa : Hid _ := Xa.out.below hb1
  replace hbw := Below.on hbw hb1
  clear hb1
  obtain ⟨ca0, ca1, ca2, fa0, fa1, fa2⟩ := Xa.out
  have hnea : ga < v1.heap.size := World.block_lt_of_cell? v1 _ ca0
  go_wp2_with fail
  clear ca0 ca1 ca2 fa0 fa1 fa2 hnea
  have Xg0 : Hid (B3q (v1.alloc (.cells #[.int .i64 p, .int .i64 m, .int .i64 l] 47)) v1.heap.size (.int .i64 p) (.int .i64 m) (.int .i64 l)) := B3q.new v1 _ _ _ _
  have hbn : Below v1.heap.size v1 (v1.alloc (.cells #[.int .i64 p, .int .i64 m, .int .i64 l] 47)) := below1 v1 _
  generalize v1.alloc (.cells #[.int .i64 p, .int .i64 m, .int .i64 l] 47) = Wg at *
  have HGg : Hid (w.heap.size ≤ v1.heap.size) := hbw.size
  replace Xa : Hid _ := Xa.out.below hbn
  replace hbw := Below.on hbw hbn
  clear hbn
  generalize v1.heap.size = gg at *
  have Xg := Xg0
  clear Xg0
  refine (dform_t (A.out.below hbw)).mono ?_
  rintro e v2 ⟨rfl, hb2⟩
  replace Xa : Hid _ := Xa.out.below hb2
  replace Xg : Hid _ := Xg.out.below hb2
  replace hbw := Below.on hbw hb2
  clear hb2
  obtain ⟨ca0, ca1, ca2, fa0, fa1, fa2⟩ := Xa.out
  have hnea : ga < v2.heap.size := World.block_lt_of_cell? v2 _ ca0
  obtain ⟨cg0, cg1, cg2, fg0, fg1, fg2⟩ := Xg.out
  have hneg : gg < v2.heap.size := World.block_lt_of_cell? v2 _ cg0
  go_wp2_with fail
  clear ca0 ca1 ca2 fa0 fa1 fa2 hnea
  clear cg0 cg1 cg2 fg0 fg1 fg2 hneg
  refine (zsign (A.out.zn.below hbw)).mono ?_
  rintro e v4 ⟨rfl, hb4⟩
  rw [HSX.out]
  replace Xa : Hid _ := Xa.out.below hb4
  replace Xg : Hid _ := Xg.out.below hb4
  replace hbw := Below.on hbw hb4
  clear hb4
  obtain ⟨ca0, ca1, ca2, fa0, fa1, fa2⟩ := Xa.out
  have hnea : ga < v4.heap.size := World.block_lt_of_cell? v4 _ ca0
  obtain ⟨cg0, cg1, cg2, fg0, fg1, fg2⟩ := Xg.out
  have hneg : gg < v4.heap.size := World.block_lt_of_cell? v4 _ cg0
  go_wp2_with fail
  clear ca0 ca1 ca2 fa0 fa1 fa2 hnea
  clear cg0 cg1 cg2 fg0 fg1 fg2 hneg
  refine (toolong_t HL.out).mono ?_
  rintro e v5 ⟨rfl, hb5⟩
  replace Xa : Hid _ := Xa.out.below hb5
  replace Xg : Hid _ := Xg.out.below hb5
  replace hbw := Below.on hbw hb5
  clear hb5
  obtain ⟨ca0, ca1, ca2, fa0, fa1, fa2⟩ := Xa.out
  have hnea : ga < v5.heap.size := World.block_lt_of_cell? v5 _ ca0
  obtain ⟨cg0, cg1, cg2, fg0, fg1, fg2⟩ := Xg.out
  have hneg : gg < v5.heap.size := World.block_lt_of_cell? v5 _ cg0
  go_wp2_with fail
  clear ca0 ca1 ca2 fa0 fa1 fa2 hnea
  clear cg0 cg1 cg2 fg0 fg1 fg2 hneg
  go_ret2
  refine ⟨rfl, ?_⟩
  first | exact hbw | exact Below.on hbw (below1 _ _)
theorem chk_x (f : Int) (h1 : f ≠ 32) (h2 : f ≠ 64) {pa pb : Option Addr} {na ca nb cb : Nat} {e g : Int} (s t : Bool) (w : World) :
    Calls Tryz.prog 92 #[.int .i64 f, DV s pa na ca e, DV t pb nb cb g] w fun en w' => en = .returned (.int .i64 1) ∧ Below w.heap.size w w' := by
  have H : Hid (f ≠ 32 ∧ f ≠ 64) := ⟨h1, h2⟩
  clear h1 h2
  go_enter Tryz.func92, Tryz.ntmps92
  go_wp2_with fail
  obtain ⟨W0, hW0⟩ : ∃ W0, W0 = ((w.alloc (.cells #[.bool s, .slice pa na ca, .int .i64 e] 33)).alloc (.cells #[.bool t, .slice pb nb cb, .int .i64 g] 33)) := ⟨_, rfl⟩
  have Xa : Hid (B3q W0 (w.heap.size) (.bool s) (.slice pa na ca) (.int .i64 e)) := by rw [hW0]; exact ⟨by go_simp, by go_simp, by go_simp, by go_simp, by go_simp, by go_simp⟩
  have Xb : Hid (B3q W0 (w.heap.size + 1) (.bool t) (.slice pb nb cb) (.int .i64 g)) := by rw [hW0]; exact ⟨by go_simp, by go_simp, by go_simp, by go_simp, by go_simp, by go_simp⟩
  have hb0 : Below w.heap.size w W0 := by rw [hW0]; exact below2 w _ _
  rw [← hW0]
  clear hW0
  have hbw : Below w.heap.size w w := Below.refl _ _
  obtain ⟨gb, hgb⟩ : ∃ g, g = w.heap.size + 1 := ⟨_, rfl⟩
  have HGb : Hid (w.heap.size ≤ gb) := by rw [hgb]; show _ ≤ _; omega
  rw [← hgb] at Xb
  try rw [← hgb]
  obtain ⟨ga, hga⟩ : ∃ g, g = w.heap.size := ⟨_, rfl⟩
  have HGa : Hid (w.heap.size ≤ ga) := by rw [hga]; show _ ≤ _; omega
  rw [← hga] at Xa
  try rw [← hga]
  have HGD : Hid (ga ≠ gb ∧ gb ≠ ga) := by rw [hga, hgb]; exact ⟨by omega, by omega⟩
  clear hga hgb
  replace hbw := Below.on hbw hb0
  clear hb0
  refine (rof_x f H.out.1 H.out.2 _).mono ?_
  rintro e v1 ⟨rfl, hb1⟩
  replace Xa : Hid _ := Xa.out.below hb1
  replace Xb : Hid _ := Xb.out.below hb1
  replace hbw := Below.on hbw hb1
  clear hb1
  obtain ⟨ca0, ca1, ca2, fa0, fa1, fa2⟩ := Xa.out
  have hnea : ga < v1.heap.size := World.block_lt_of_cell? v1 _ ca0
  obtain ⟨cb0, cb1, cb2, fb0, fb1, fb2⟩ := Xb.out
  have hneb : gb < v1.heap.size := World.block_lt_of_cell? v1 _ cb0
  go_wp2_with fail
  clear ca0 ca1 ca2 fa0 fa1 fa2 hnea
  clear cb0 cb1 cb2 fb0 fb1 fb2 hneb
  go_ret
  refine ⟨rfl, ?_⟩
  first | exact hbw | exact Below.on hbw (below1 _ _)
theorem chk_fa {f : Int} {S : Nat} {P E G : Int} {I Q : Nat} (R : Rf f S P E G I Q) {pa pb : Option Addr} {na ca nb cb : Nat} {xs ys : List Nat} {w : World} {e g : Int} (s t : Bool) (h : At w pa na ca xs) (_k : At w pb nb cb ys) (hf : formD s xs e = false) :
    Calls Tryz.prog 92 #[.int .i64 f, DV s pa na ca e, DV t pb nb cb g] w fun en w' => en = .returned (.int .i64 2) ∧ Below w.heap.size w w' := by
  have HR : Hid (Rf f S P E G I Q ∧ formD s xs e = false) := ⟨R, hf⟩
  have HA : Hid (At w pa na ca xs) := h
  clear R h hf
  go_enter Tryz.func92, Tryz.ntmps92
  go_wp2_with fail
  obtain ⟨W0, hW0⟩ : ∃ W0, W0 = ((w.alloc (.cells #[.bool s, .slice pa na ca, .int .i64 e] 33)).alloc (.cells #[.bool t, .slice pb nb cb, .int .i64 g] 33)) := ⟨_, rfl⟩
  have Xa : Hid (B3q W0 (w.heap.size) (.bool s) (.slice pa na ca) (.int .i64 e)) := by rw [hW0]; exact ⟨by go_simp, by go_simp, by go_simp, by go_simp, by go_simp, by go_simp⟩
  have Xb : Hid (B3q W0 (w.heap.size + 1) (.bool t) (.slice pb nb cb) (.int .i64 g)) := by rw [hW0]; exact ⟨by go_simp, by go_simp, by go_simp, by go_simp, by go_simp, by go_simp⟩
  have hb0 : Below w.heap.size w W0 := by rw [hW0]; exact below2 w _ _
  rw [← hW0]
  clear hW0
  have hbw : Below w.heap.size w w := Below.refl _ _
  obtain ⟨gb, hgb⟩ : ∃ g, g = w.heap.size + 1 := ⟨_, rfl⟩
  have HGb : Hid (w.heap.size ≤ gb) := by rw [hgb]; show _ ≤ _; omega
  rw [← hgb] at Xb
  try rw [← hgb]
  obtain ⟨ga, hga⟩ : ∃ g, g = w.heap.size := ⟨_, rfl⟩
  have HGa : Hid (w.heap.size ≤ ga) := by rw [hga]; show _ ≤ _; omega
  rw [← hga] at Xa
  try rw [← hga]
  have HGD : Hid (ga ≠ gb ∧ gb ≠ ga) := by rw [hga, hgb]; exact ⟨by omega, by omega⟩
  clear hga hgb
  replace HA : Hid _ := HA.out.below hb0
  replace hbw := Below.on hbw hb0
  clear hb0
  refine (HR.out.1.of _).mono ?_
  rintro e v1 ⟨rfl, hb1⟩
  replace Xa : Hid _ := Xa.out.below hb1
  replace Xb : Hid _ := Xb.out.below hb1
  replace HA : Hid _ := HA.out.below hb1
  replace hbw := Below.on hbw hb1
  clear hb1
  obtain ⟨ca0, ca1, ca2, fa0, fa1, fa2⟩ := Xa.out
  have hnea : ga < v1.heap.size := World.block_lt_of_cell? v1 _ ca0
  obtain ⟨cb0, cb1, cb2, fb0, fb1, fb2⟩ := Xb.out
  have hneb : gb < v1.heap.size := World.block_lt_of_cell? v1 _ cb0
  go_wp2_with fail
  clear ca0 ca1 ca2 fa0 fa1 fa2 hnea
  clear cb0 cb1 cb2 fb0 fb1 fb2 hneb
  have Xk0 : Hid (B6q (v1.alloc (.cells #[U S, .int .i64 P, .int .i64 E, .int .i64 G, U I, U Q] 126)) v1.heap.size (U S) (.int .i64 P) (.int .i64 E) (.int .i64 G) (U I) (U Q)) := B6q.new v1 _ _ _ _ _ _ _
  have hbn : Below v1.heap.size v1 (v1.alloc (.cells #[U S, .int .i64 P, .int .i64 E, .int .i64 G, U I, U Q] 126)) := below1 v1 _
  generalize v1.alloc (.cells #[U S, .int .i64 P, .int .i64 E, .int .i64 G, U I, U Q] 126) = Wk at *
  have HGk : Hid (w.heap.size ≤ v1.heap.size) := hbw.size
  replace Xa : Hid _ := Xa.out.below hbn
  replace Xb : Hid _ := Xb.out.below hbn
  replace HA : Hid _ := HA.out.below hbn
  replace hbw := Below.on hbw hbn
  clear hbn
  generalize v1.heap.size = gk at *
  have Xk := Xk0
  clear Xk0
  refine (docformd s HA.out).mono ?_
  rintro e v2 ⟨rfl, hb2⟩
  rw [HR.out.2]
  replace Xa : Hid _ := Xa.out.below hb2
  replace Xb : Hid _ := Xb.out.below hb2
  replace Xk : Hid _ := Xk.out.below hb2
  replace HA : Hid _ := HA.out.below hb2
  replace hbw := Below.on hbw hb2
  clear hb2
  obtain ⟨ca0, ca1, ca2, fa0, fa1, fa2⟩ := Xa.out
  have hnea : ga < v2.heap.size := World.block_lt_of_cell? v2 _ ca0
  obtain ⟨cb0, cb1, cb2, fb0, fb1, fb2⟩ := Xb.out
  have hneb : gb < v2.heap.size := World.block_lt_of_cell? v2 _ cb0
  go_wp2_with fail
  clear ca0 ca1 ca2 fa0 fa1 fa2 hnea
  clear cb0 cb1 cb2 fb0 fb1 fb2 hneb
  go_ret
  refine ⟨rfl, ?_⟩
  first | exact hbw | exact Below.on hbw (below1 _ _)
theorem chk_fb {f : Int} {S : Nat} {P E G : Int} {I Q : Nat} (R : Rf f S P E G I Q) {pa pb : Option Addr} {na ca nb cb : Nat} {xs ys : List Nat} {w : World} {e g : Int} (s t : Bool) (h : At w pa na ca xs) (k : At w pb nb cb ys) (hf : formD s xs e = true) (hg : formD t ys g = false) :
    Calls Tryz.prog 92 #[.int .i64 f, DV s pa na ca e, DV t pb nb cb g] w fun en w' => en = .returned (.int .i64 2) ∧ Below w.heap.size w w' := by
  have HR : Hid (Rf f S P E G I Q ∧ formD s xs e = true ∧ formD t ys g = false) := ⟨R, hf, hg⟩
  have HA : Hid (At w pa na ca xs) := h
  have HB : Hid (At w pb nb cb ys) := k
  clear R h hf k hg
  go_enter Tryz.func92, Tryz.ntmps92
  go_wp2_with fail
  obtain ⟨W0, hW0⟩ : ∃ W0, W0 = ((w.alloc (.cells #[.bool s, .slice pa na ca, .int .i64 e] 33)).alloc (.cells #[.bool t, .slice pb nb cb, .int .i64 g] 33)) := ⟨_, rfl⟩
  have Xa : Hid (B3q W0 (w.heap.size) (.bool s) (.slice pa na ca) (.int .i64 e)) := by rw [hW0]; exact ⟨by go_simp, by go_simp, by go_simp, by go_simp, by go_simp, by go_simp⟩
  have Xb : Hid (B3q W0 (w.heap.size + 1) (.bool t) (.slice pb nb cb) (.int .i64 g)) := by rw [hW0]; exact ⟨by go_simp, by go_simp, by go_simp, by go_simp, by go_simp, by go_simp⟩
  have hb0 : Below w.heap.size w W0 := by rw [hW0]; exact below2 w _ _
  rw [← hW0]
  clear hW0
  have hbw : Below w.heap.size w w := Below.refl _ _
  obtain ⟨gb, hgb⟩ : ∃ g, g = w.heap.size + 1 := ⟨_, rfl⟩
  have HGb : Hid (w.heap.size ≤ gb) := by rw [hgb]; show _ ≤ _; omega
  rw [← hgb] at Xb
  try rw [← hgb]
  obtain ⟨ga, hga⟩ : ∃ g, g = w.heap.size := ⟨_, rfl⟩
  have HGa : Hid (w.heap.size ≤ ga) := by rw [hga]; show _ ≤ _; omega
  rw [← hga] at Xa
  try rw [← hga]
  have HGD : Hid (ga ≠ gb ∧ gb ≠ ga) := by rw [hga, hgb]; exact ⟨by omega, by omega⟩
  clear hga hgb
  replace HA : Hid _ := HA.out.below hb0
  replace HB : Hid _ := HB.out.below hb0
  replace hbw := Below.on hbw hb0
  clear hb0
  refine (HR.out.1.of _).mono ?_
  rintro e v1 ⟨rfl, hb1⟩
  replace Xa : Hid _ := Xa.out.below hb1
  replace Xb : Hid _ := Xb.out.below hb1
  replace HA : Hid _ := HA.out.below hb1
  replace HB : Hid _ := HB.out.below hb1
  replace hbw := Below.on hbw hb1
  clear hb1
  obtain ⟨ca0, ca1, ca2, fa0, fa1, fa2⟩ := Xa.out
  have hnea : ga < v1.heap.size := World.block_lt_of_cell? v1 _ ca0
  obtain ⟨cb0, cb1, cb2, fb0, fb1, fb2⟩ := Xb.out
  have hneb : gb < v1.heap.size := World.block_lt_of_cell? v1 _ cb0
  go_wp2_with fail
  clear ca0 ca1 ca2 fa0 fa1 fa2 hnea
  clear cb0 cb1 cb2 fb0 fb1 fb2 hneb
  have Xk0 : Hid (B6q (v1.alloc (.cells #[U S, .int .i64 P, .int .i64 E, .int .i64 G, U I, U Q] 126)) v1.heap.size (U S) (.int .i64 P) (.int .i64 E) (.int .i64 G) (U I) (U Q)) := B6q.new v1 _ _ _ _ _ _ _
  have hbn : Below v1.heap.size v1 (v1.alloc (.cells #[U S, .int .i64 P, .int .i64 E, .int .i64 G, U I, U Q] 126)) := below1 v1 _
  generalize v1.alloc (.cells #[U S, .int .i64 P, .int .i64 E, .int .i64 G, U I, U Q] 126) = Wk at *
  have HGk : Hid (w.heap.size ≤ v1.heap.size) := hbw.size
  replace Xa : Hid _ := Xa.out.below hbn
  replace Xb : Hid _ := Xb.out.below hbn
  replace HA : Hid _ := HA.out.below hbn
  replace HB : Hid _ := HB.out.below hbn
  replace hbw := Below.on hbw hbn
  clear hbn
  generalize v1.heap.size = gk at *
  have Xk := Xk0
  clear Xk0
  refine (docformd s HA.out).mono ?_
  rintro e v2 ⟨rfl, hb2⟩
  rw [HR.out.2.1]
  replace Xa : Hid _ := Xa.out.below hb2
  replace Xb : Hid _ := Xb.out.below hb2
  replace Xk : Hid _ := Xk.out.below hb2
  replace HA : Hid _ := HA.out.below hb2
  replace HB : Hid _ := HB.out.below hb2
  replace hbw := Below.on hbw hb2
  clear hb2
  obtain ⟨ca0, ca1, ca2, fa0, fa1, fa2⟩ := Xa.out
  have hnea : ga < v2.heap.size := World.block_lt_of_cell? v2 _ ca0
  obtain ⟨cb0, cb1, cb2, fb0, fb1, fb2⟩ := Xb.out
  have hneb : gb < v2.heap.size := World.block_lt_of_cell? v2 _ cb0
  go_wp2_with fail
  clear ca0 ca1 ca2 fa0 fa1 fa2 hnea
  clear cb0 cb1 cb2 fb0 fb1 fb2 hneb
  refine (docformd t HB.out).mono ?_
  rintro e v3 ⟨rfl, hb3⟩
  rw [HR.out.2.2]
  replace Xa : Hid _ := Xa.out.below hb3
  replace Xb : Hid _ := Xb.out.below hb3
  replace Xk : Hid _ := Xk.out.below hb3
  replace HA : Hid _ := HA.out.below hb3
  replace HB : Hid _ := HB.out.below hb3
  replace hbw := Below.on hbw hb3
  clear hb3
  obtain ⟨ca0, ca1, ca2, fa0, fa1, fa2⟩ := Xa.out
  have hnea : ga < v3.heap.size := World.block_lt_of_cell? v3 _ ca0
  obtain ⟨cb0, cb1, cb2, fb0, fb1, fb2⟩ := Xb.out
  have hneb : gb < v3.heap.size := World.block_lt_of_cell? v3 _ cb0
  go_wp2_with fail
  clear ca0 ca1 ca2 fa0 fa1 fa2 hnea
  clear cb0 cb1 cb2 fb0 fb1 fb2 hneb
  go_ret
  refine ⟨rfl, ?_⟩
  first | exact hbw | exact Below.on hbw (below1 _ _)
theorem chk_ok {f : Int} {S : Nat} {P E G : Int} {I Q : Nat} (R : Rf f S P E G I Q) {pa pb : Option Addr} {na ca nb cb : Nat} {xs ys : List Nat} {w : World} {e g : Int} (s t : Bool) (h : At w pa na ca xs) (k : At w pb nb cb ys) (hf : formD s xs e = true) (hg : formD t ys g = true) :
    Calls Tryz.prog 92 #[.int .i64 f, DV s pa na ca e, DV t pb nb cb g] w fun en w' => en = .returned (.int .i64 0) ∧ Below w.heap.size w w' := by
  have HR : Hid (Rf f S P E G I Q ∧ formD s xs e = true ∧ formD t ys g = true) := ⟨R, hf, hg⟩
  have HA : Hid (At w pa na ca xs) := h
  have HB : Hid (At w pb nb cb ys) := k
  clear R h hf k hg
  go_enter Tryz.func92, Tryz.ntmps92
  go_wp2_with fail
  obtain ⟨W0, hW0⟩ : ∃ W0, W0 = ((w.alloc (.cells #[.bool s, .slice pa na ca, .int .i64 e] 33)).alloc (.cells #[.bool t, .slice pb nb cb, .int .i64 g] 33)) := ⟨_, rfl⟩
  have Xa : Hid (B3q W0 (w.heap.size) (.bool s) (.slice pa na ca) (.int .i64 e)) := by rw [hW0]; exact ⟨by go_simp, by go_simp, by go_simp, by go_simp, by go_simp, by go_simp⟩
  have Xb : Hid (B3q W0 (w.heap.size + 1) (.bool t) (.slice pb nb cb) (.int .i64 g)) := by rw [hW0]; exact ⟨by go_simp, by go_simp, by go_simp, by go_simp, by go_simp, by go_simp⟩
  have hb0 : Below w.heap.size w W0 := by rw [hW0]; exact below2 w _ _
  rw [← hW0]
  clear hW0
  have hbw : Below w.heap.size w w := Below.refl _ _
  obtain ⟨gb, hgb⟩ : ∃ g, g = w.heap.size + 1 := ⟨_, rfl⟩
  have HGb : Hid (w.heap.size ≤ gb) := by rw [hgb]; show _ ≤ _; omega
  rw [← hgb] at Xb
  try rw [← hgb]
  obtain ⟨ga, hga⟩ : ∃ g, g = w.heap.size := ⟨_, rfl⟩
  have HGa : Hid (w.heap.size ≤ ga) := by rw [hga]; show _ ≤ _; omega
  rw [← hga] at Xa
  try rw [← hga]
  have HGD : Hid (ga ≠ gb ∧ gb ≠ ga) := by rw [hga, hgb]; exact ⟨by omega, by omega⟩
  clear hga hgb
  replace HA : Hid _ := HA.out.below hb0
  replace HB : Hid _ := HB.out.below hb0
  replace hbw := Below.on hbw hb0
  clear hb0
  refine (HR.out.1.of _).mono ?_
  rintro e v1 ⟨rfl, hb1⟩
  replace Xa : Hid _ := Xa.out.below hb1
  replace Xb : Hid _ := Xb.out.below hb1
  replace HA : Hid _ := HA.out.below hb1
  replace HB : Hid _ := HB.out.below hb1
  replace hbw := Below.on hbw hb1
  clear hb1
  obtain ⟨ca0, ca1, ca2, fa0, fa1, fa2⟩ := Xa.out
  have hnea : ga < v1.heap.size := World.block_lt_of_cell? v1 _ ca0
  obtain ⟨cb0, cb1, cb2, fb0, fb1, fb2⟩ := Xb.out
  have hneb : gb < v1.heap.size := World.block_lt_of_cell? v1 _ cb0
  go_wp2_with fail
  clear ca0 ca1 ca2 fa0 fa1 fa2 hnea
  clear cb0 cb1 cb2 fb0 fb1 fb2 hneb
  have Xk0 : Hid (B6q (v1.alloc (.cells #[U S, .int .i64 P, .int .i64 E, .int .i64 G, U I, U Q] 126)) v1.heap.size (U S) (.int .i64 P) (.int .i64 E) (.int .i64 G) (U I) (U Q)) := B6q.new v1 _ _ _ _ _ _ _
  have hbn : Below v1.heap.size v1 (v1.alloc (.cells #[U S, .int .i64 P, .int .i64 E, .int .i64 G, U I, U Q] 126)) := below1 v1 _
  generalize v1.alloc (.cells #[U S, .int .i64 P, .int .i64 E, .int .i64 G, U I, U Q] 126) = Wk at *
  have HGk : Hid (w.heap.size ≤ v1.heap.size) := hbw.size
  replace Xa : Hid _ := Xa.out.below hbn
  replace Xb : Hid _ := Xb.out.below hbn
  replace HA : Hid _ := HA.out.below hbn
  replace HB : Hid _ := HB.out.below hbn
  replace hbw := Below.on hbw hbn
  clear hbn
  generalize v1.heap.size = gk at *
  have Xk := Xk0
  clear Xk0
  refine (docformd s HA.out).mono ?_
  rintro e v2 ⟨rfl, hb2⟩
  rw [HR.out.2.1]
  replace Xa : Hid _ := Xa.out.below hb2
  replace Xb : Hid _ := Xb.out.below hb2
  replace Xk : Hid _ := Xk.out.below hb2
  replace HA : Hid _ := HA.out.below hb2
  replace HB : Hid _ := HB.out.below hb2
  replace hbw := Below.on hbw hb2
  clear hb2
  obtain ⟨ca0, ca1, ca2, fa0, fa1, fa2⟩ := Xa.out
  have hnea : ga < v2.heap.size := World.block_lt_of_cell? v2 _ ca0
  obtain ⟨cb0, cb1, cb2, fb0, fb1, fb2⟩ := Xb.out
  have hneb : gb < v2.heap.size := World.block_lt_of_cell? v2 _ cb0
  go_wp2_with fail
  clear ca0 ca1 ca2 fa0 fa1 fa2 hnea
  clear cb0 cb1 cb2 fb0 fb1 fb2 hneb
  refine (docformd t HB.out).mono ?_
  rintro e v3 ⟨rfl, hb3⟩
  rw [HR.out.2.2]
  replace Xa : Hid _ := Xa.out.below hb3
  replace Xb : Hid _ := Xb.out.below hb3
  replace Xk : Hid _ := Xk.out.below hb3
  replace HA : Hid _ := HA.out.below hb3
  replace HB : Hid _ := HB.out.below hb3
  replace hbw := Below.on hbw hb3
  clear hb3
  obtain ⟨ca0, ca1, ca2, fa0, fa1, fa2⟩ := Xa.out
  have hnea : ga < v3.heap.size := World.block_lt_of_cell? v3 _ ca0
  obtain ⟨cb0, cb1, cb2, fb0, fb1, fb2⟩ := Xb.out
  have hneb : gb < v3.heap.size := World.block_lt_of_cell? v3 _ cb0
  go_wp2_with fail
  clear ca0 ca1 ca2 fa0 fa1 fa2 hnea
  clear cb0 cb1 cb2 fb0 fb1 fb2 hneb
  go_ret
  refine ⟨rfl, ?_⟩
  first | exact hbw | exact Below.on hbw (below1 _ _)
theorem ctl0 {er : Int} (he : er ≠ 0) : (er == 0) = false ∧ (er != 0) = true := by constructor <;> simp [he]
theorem docquo_e {f : Int} {pa pb : Option Addr} {na ca nb cb : Nat} {xs ys : List Nat} {w : World} {e g : Int} (s t : Bool) (h : At w pa na ca xs) (k : At w pb nb cb ys) {er : Int} (hc : ∀ (w : World), At w pa na ca xs → At w pb nb cb ys → Calls Tryz.prog 92 #[.int .i64 f, DV s pa na ca e, DV t pb nb cb g] w fun en w' => en = .returned (.int .i64 er) ∧ Below w.heap.size w w') (he : er ≠ 0) :
    Calls Tryz.prog 55 #[.int .i64 f, DV s pa na ca e, DV t pb nb cb g] w fun en w' => en = .returned (.tuple #[.int .u64 0, .int .i64 er]) ∧ Below w.heap.size w w' := by
  have HCK : Hid (∀ (w : World), At w pa na ca xs → At w pb nb cb ys → Calls Tryz.prog 92 #[.int .i64 f, DV s pa na ca e, DV t pb nb cb g] w fun en w' => en = .returned (.int .i64 er) ∧ Below w.heap.size w w') := hc
  have e1 := (ctl0 he).1
  have e2 := (ctl0 he).2
  have HA : Hid (At w pa na ca xs) := h
  have HB : Hid (At w pb nb cb ys) := k
  clear h k hc he
  go_enter Tryz.func55, Tryz.ntmps55
  go_wp2_with fail
  obtain ⟨W0, hW0⟩ : ∃ W0, W0 = ((w.alloc (.cells #[.bool s, .slice pa na ca, .int .i64 e] 33)).alloc (.cells #[.bool t, .slice pb nb cb, .int .i64 g] 33)) := ⟨_, rfl⟩
  have Xa : Hid (B3q W0 (w.heap.size) (.bool s) (.slice pa na ca) (.int .i64 e)) := by rw [hW0]; exact ⟨by go_simp, by go_simp, by go_simp, by go_simp, by go_simp, by go_simp⟩
  have Xb : Hid (B3q W0 (w.heap.size + 1) (.bool t) (.slice pb nb cb) (.int .i64 g)) := by rw [hW0]; exact ⟨by go_simp, by go_simp, by go_simp, by go_simp, by go_simp, by go_simp⟩
  have hb0 : Below w.heap.size w W0 := by rw [hW0]; exact below2 w _ _
  rw [← hW0]
  clear hW0
  have hbw : Below w.heap.size w w := Below.refl _ _
  obtain ⟨gb, hgb⟩ : ∃ g, g = w.heap.size + 1 := ⟨_, rfl⟩
  have HGb : Hid (w.heap.size ≤ gb) := by rw [hgb]; show _ ≤ _; omega
  rw [← hgb] at Xb
  try rw [← hgb]
  obtain ⟨ga, hga⟩ : ∃ g, g = w.heap.size := ⟨_, rfl⟩
  have HGa : Hid (w.heap.size ≤ ga) := by rw [hga]; show _ ≤ _; omega
  rw [← hga] at Xa
  try rw [← hga]
  have HGD : Hid (ga ≠ gb ∧ gb ≠ ga) := by rw [hga, hgb]; exact ⟨by omega, by omega⟩
  clear hga hgb
  replace HA : Hid _ := HA.out.below hb0
  replace HB : Hid _ := HB.out.below hb0
  replace hbw := Below.on hbw hb0
  clear hb0
  refine (HCK.out _ HA.out HB.out).mono ?_
  rintro e v1 ⟨rfl, hb1⟩
  replace Xa : Hid _ := Xa.out.below hb1
  replace Xb : Hid _ := Xb.out.below hb1
  replace HA : Hid _ := HA.out.below hb1
  replace HB : Hid _ := HB.out.below hb1
  replace hbw := Below.on hbw hb1
  clear hb1
  obtain ⟨ca0, ca1, ca2, fa0, fa1, fa2⟩ := Xa.out
  have hnea : ga < v1.heap.size := World.block_lt_of_cell? v1 _ ca0
  obtain ⟨cb0, cb1, cb2, fb0, fb1, fb2⟩ := Xb.out
  have hneb : gb < v1.heap.size := World.block_lt_of_cell? v1 _ cb0
  go_wp2_with fail
  clear ca0 ca1 ca2 fa0 fa1 fa2 hnea
  clear cb0 cb1 cb2 fb0 fb1 fb2 hneb
  go_ret2
  refine ⟨rfl, ?_⟩
  first | exact hbw | exact Below.on hbw (below1 _ _)
theorem docrot_e {f : Int} {pa : Option Addr} {na ca : Nat} {xs : List Nat} {w : World} {e : Int} (s : Bool) (h : At w pa na ca xs) {er : Int} (hc : ∀ (w : World), At w pa na ca xs → Calls Tryz.prog 92 #[.int .i64 f, DV s pa na ca e, DV s pa na ca e] w fun en w' => en = .returned (.int .i64 er) ∧ Below w.heap.size w w') (he : er ≠ 0) :
    Calls Tryz.prog 56 #[.int .i64 f, DV s pa na ca e] w fun en w' => en = .returned (.tuple #[.int .u64 0, .int .i64 er]) ∧ Below w.heap.size w w' := by
  have HCK : Hid (∀ (w : World), At w pa na ca xs → Calls Tryz.prog 92 #[.int .i64 f, DV s pa na ca e, DV s pa na ca e] w fun en w' => en = .returned (.int .i64 er) ∧ Below w.heap.size w w') := hc
  have e1 := (ctl0 he).1
  have e2 := (ctl0 he).2
  have HA : Hid (At w pa na ca xs) := h
  clear h hc he
  go_enter Tryz.func56, Tryz.ntmps56
  go_wp2_with fail
  obtain ⟨W0, hW0⟩ : ∃ W0, W0 = (w.alloc (.cells #[.bool s, .slice pa na ca, .int .i64 e] 33)) := ⟨_, rfl⟩
  have Xa : Hid (B3q W0 (w.heap.size) (.bool s) (.slice pa na ca) (.int .i64 e)) := by rw [hW0]; exact ⟨by go_simp, by go_simp, by go_simp, by go_simp, by go_simp, by go_simp⟩
  have hb0 : Below w.heap.size w W0 := by rw [hW0]; exact below1 w _
  rw [← hW0]
  clear hW0
  have hbw : Below w.heap.size w w := Below.refl _ _
  obtain ⟨ga, hga⟩ : ∃ g, g = w.heap.size := ⟨_, rfl⟩
  have HGa : Hid (w.heap.size ≤ ga) := by rw [hga]; show _ ≤ _; omega
  rw [← hga] at Xa
  try rw [← hga]
  clear hga
  replace HA : Hid _ := HA.out.below hb0
  replace hbw := Below.on hbw hb0
  clear hb0
  refine (HCK.out _ HA.out).mono ?_
  rintro e v1 ⟨rfl, hb1⟩
  replace Xa : Hid _ := Xa.out.below hb1
  replace HA : Hid _ := HA.out.below hb1
  replace hbw := Below.on hbw hb1
  clear hb1
  obtain ⟨ca0, ca1, ca2, fa0, fa1, fa2⟩ := Xa.out
  have hnea : ga < v1.heap.size := World.block_lt_of_cell? v1 _ ca0
  go_wp2_with fail
  clear ca0 ca1 ca2 fa0 fa1 fa2 hnea
  go_ret2
  refine ⟨rfl, ?_⟩
  first | exact hbw | exact Below.on hbw (below1 _ _)
theorem docquo_z {f : Int} {pa pb : Option Addr} {na ca nb cb : Nat} {xs ys : List Nat} {w : World} {e g : Int} (s t : Bool) (h : At w pa na ca xs) (k : At w pb nb cb ys) (hc : ∀ (w : World), At w pa na ca xs → At w pb nb cb ys → Calls Tryz.prog 92 #[.int .i64 f, DV s pa na ca e, DV t pb nb cb g] w fun en w' => en = .returned (.int .i64 0) ∧ Below w.heap.size w w') (hb : nb = 0) :
    Calls Tryz.prog 55 #[.int .i64 f, DV s pa na ca e, DV t pb nb cb g] w fun en w' => en = .returned (.tuple #[.int .u64 0, .int .i64 4]) ∧ Below w.heap.size w w' := by
  have HCK : Hid (∀ (w : World), At w pa na ca xs → At w pb nb cb ys → Calls Tryz.prog 92 #[.int .i64 f, DV s pa na ca e, DV t pb nb cb g] w fun en w' => en = .returned (.int .i64 0) ∧ Below w.heap.size w w') := hc
  have HA : Hid (At w pa na ca xs) := h
  have HB : Hid (At w pb nb cb ys) := k
  subst hb
  clear h k hc 
  go_enter Tryz.func55, Tryz.ntmps55
  go_wp2_with fail
  obtain ⟨W0, hW0⟩ : ∃ W0, W0 = ((w.alloc (.cells #[.bool s, .slice pa na ca, .int .i64 e] 33)).alloc (.cells #[.bool t, .slice pb 0 cb, .int .i64 g] 33)) := ⟨_, rfl⟩
  have Xa : Hid (B3q W0 (w.heap.size) (.bool s) (.slice pa na ca) (.int .i64 e)) := by rw [hW0]; exact ⟨by go_simp, by go_simp, by go_simp, by go_simp, by go_simp, by go_simp⟩
  have Xb : Hid (B3q W0 (w.heap.size + 1) (.bool t) (.slice pb 0 cb) (.int .i64 g)) := by rw [hW0]; exact ⟨by go_simp, by go_simp, by go_simp, by go_simp, by go_simp, by go_simp⟩
  have hb0 : Below w.heap.size w W0 := by rw [hW0]; exact below2 w _ _
  rw [← hW0]
  clear hW0
  have hbw : Below w.heap.size w w := Below.refl _ _
  obtain ⟨gb, hgb⟩ : ∃ g, g = w.heap.size + 1 := ⟨_, rfl⟩
  have HGb : Hid (w.heap.size ≤ gb) := by rw [hgb]; show _ ≤ _; omega
  rw [← hgb] at Xb
  try rw [← hgb]
  obtain ⟨ga, hga⟩ : ∃ g, g = w.heap.size := ⟨_, rfl⟩
  have HGa : Hid (w.heap.size ≤ ga) := by rw [hga]; show _ ≤ _; omega
  rw [← hga] at Xa
  try rw [← hga]
  have HGD : Hid (ga ≠ gb ∧ gb ≠ ga) := by rw [hga, hgb]; exact ⟨by omega, by omega⟩
  clear hga hgb
  replace HA : Hid _ := HA.out.below hb0
  replace HB : Hid _ := HB.out.below hb0
  replace hbw := Below.on hbw hb0
  clear hb0
  refine (HCK.out _ HA.out HB.out).mono ?_
  rintro e v1 ⟨rfl, hb1⟩
  replace Xa : Hid _ := Xa.out.below hb1
  replace Xb : Hid _ := Xb.out.below hb1
  replace HA : Hid _ := HA.out.below hb1
  replace HB : Hid _ := HB.out.below hb1
  replace hbw := Below.on hbw hb1
  clear hb1
  obtain ⟨ca0, ca1, ca2, fa0, fa1, fa2⟩ := Xa.out
  have hnea : ga < v1.heap.size := World.block_lt_of_cell? v1 _ ca0
  obtain ⟨cb0, cb1, cb2, fb0, fb1, fb2⟩ := Xb.out
  have hneb : gb < v1.heap.size := World.block_lt_of_cell? v1 _ cb0
  go_wp2_with fail
  clear ca0 ca1 ca2 fa0 fa1 fa2 hnea
  clear cb0 cb1 cb2 fb0 fb1 fb2 hneb
  refine (nought8_z).mono ?_
  rintro e v2 ⟨rfl, hb2⟩
  replace Xa : Hid _ := Xa.out.below hb2
  replace Xb : Hid _ := Xb.out.below hb2
  replace HA : Hid _ := HA.out.below hb2
  replace HB : Hid _ := HB.out.below hb2
  replace hbw := Below.on hbw hb2
  clear hb2
  obtain ⟨ca0, ca1, ca2, fa0, fa1, fa2⟩ := Xa.out
  have hnea : ga < v2.heap.size := World.block_lt_of_cell? v2 _ ca0
  obtain ⟨cb0, cb1, cb2, fb0, fb1, fb2⟩ := Xb.out
  have hneb : gb < v2.heap.size := World.block_lt_of_cell? v2 _ cb0
  go_wp2_with fail
  clear ca0 ca1 ca2 fa0 fa1 fa2 hnea
  clear cb0 cb1 cb2 fb0 fb1 fb2 hneb
  go_ret2
  refine ⟨rfl, ?_⟩
  first | exact hbw | exact Below.on hbw (below1 _ _)
theorem docquo_l1 {f : Int} {pa pb : Option Addr} {na ca nb cb : Nat} {xs ys : List Nat} {w : World} {e g : Int} (s t : Bool) (h : At w pa na ca xs) (k : At w pb nb cb ys) (hc : ∀ (w : World), At w pa na ca xs → At w pb nb cb ys → Calls Tryz.prog 92 #[.int .i64 f, DV s pa na ca e, DV t pb nb cb g] w fun en w' => en = .returned (.int .i64 0) ∧ Below w.heap.size w w') (hb : 0 < nb) (hl : 4096 < na) :
    Calls Tryz.prog 55 #[.int .i64 f, DV s pa na ca e, DV t pb nb cb g] w fun en w' => en = .returned (.tuple #[.int .u64 0, .int .i64 5]) ∧ Below w.heap.size w w' := by
  have HCK : Hid (∀ (w : World), At w pa na ca xs → At w pb nb cb ys → Calls Tryz.prog 92 #[.int .i64 f, DV s pa na ca e, DV t pb nb cb g] w fun en w' => en = .returned (.int .i64 0) ∧ Below w.heap.size w w') := hc
  have HA : Hid (At w pa na ca xs) := h
  have HB : Hid (At w pb nb cb ys) := k
  have HL : Hid (0 < nb ∧ 4096 < na) := ⟨hb, hl⟩
  clear h k hc hb hl
  go_enter Tryz.func55, Tryz.ntmps55
  go_wp2_with fail
  obtain ⟨W0, hW0⟩ : ∃ W0, W0 = ((w.alloc (.cells #[.bool s, .slice pa na ca, .int .i64 e] 33)).alloc (.cells #[.bool t, .slice pb nb cb, .int .i64 g] 33)) := ⟨_, rfl⟩
  have Xa : Hid (B3q W0 (w.heap.size) (.bool s) (.slice pa na ca) (.int .i64 e)) := by rw [hW0]; exact ⟨by go_simp, by go_simp, by go_simp, by go_simp, by go_simp, by go_simp⟩
  have Xb : Hid (B3q W0 (w.heap.size + 1) (.bool t) (.slice pb nb cb) (.int .i64 g)) := by rw [hW0]; exact ⟨by go_simp, by go_simp, by go_simp, by go_simp, by go_simp, by go_simp⟩
  have hb0 : Below w.heap.size w W0 := by rw [hW0]; exact below2 w _ _
  rw [← hW0]
  clear hW0
  have hbw : Below w.heap.size w w := Below.refl _ _
  obtain ⟨gb, hgb⟩ : ∃ g, g = w.heap.size + 1 := ⟨_, rfl⟩
  have HGb : Hid (w.heap.size ≤ gb) := by rw [hgb]; show _ ≤ _; omega
  rw [← hgb] at Xb
  try rw [← hgb]
  obtain ⟨ga, hga⟩ : ∃ g, g = w.heap.size := ⟨_, rfl⟩
  have HGa : Hid (w.heap.size ≤ ga) := by rw [hga]; show _ ≤ _; omega
  rw [← hga] at Xa
  try rw [← hga]
  have HGD : Hid (ga ≠ gb ∧ gb ≠ ga) := by rw [hga, hgb]; exact ⟨by omega, by omega⟩
  clear hga hgb
  replace HA : Hid _ := HA.out.below hb0
  replace HB : Hid _ := HB.out.below hb0
  replace hbw := Below.on hbw hb0
  clear hb0
  refine (HCK.out _ HA.out HB.out).mono ?_
  rintro e v1 ⟨rfl, hb1⟩
  replace Xa : Hid _ := Xa.out.below hb1
  replace Xb : Hid _ := Xb.out.below hb1
  replace HA : Hid _ := HA.out.below hb1
  replace HB : Hid _ := HB.out.below hb1
  replace hbw := Below.on hbw hb1
  clear hb1
  obtain ⟨ca0, ca1, ca2, fa0, fa1, fa2⟩ := Xa.out
  have hnea : ga < v1.heap.size := World.block_lt_of_cell? v1 _ ca0
  obtain ⟨cb0, cb1, cb2, fb0, fb1, fb2⟩ := Xb.out
  have hneb : gb < v1.heap.size := World.block_lt_of_cell? v1 _ cb0
  go_wp2_with fail
  clear ca0 ca1 ca2 fa0 fa1 fa2 hnea
  clear cb0 cb1 cb2 fb0 fb1 fb2 hneb
  refine (nought5 HL.out.1).mono ?_
  rintro e v2 ⟨rfl, hb2⟩
  replace Xa : Hid _ := Xa.out.below hb2
  replace Xb : Hid _ := Xb.out.below hb2
  replace HA : Hid _ := HA.out.below hb2
  replace HB : Hid _ := HB.out.below hb2
  replace hbw := Below.on hbw hb2
  clear hb2
  obtain ⟨ca0, ca1, ca2, fa0, fa1, fa2⟩ := Xa.out
  have hnea : ga < v2.heap.size := World.block_lt_of_cell? v2 _ ca0
  obtain ⟨cb0, cb1, cb2, fb0, fb1, fb2⟩ := Xb.out
  have hneb : gb < v2.heap.size := World.block_lt_of_cell? v2 _ cb0
  go_wp2_with fail
  clear ca0 ca1 ca2 fa0 fa1 fa2 hnea
  clear cb0 cb1 cb2 fb0 fb1 fb2 hneb
  refine (long8_t HL.out.2).mono ?_
  rintro e v3 ⟨rfl, hb3⟩
  replace Xa : Hid _ := Xa.out.below hb3
  replace Xb : Hid _ := Xb.out.below hb3
  replace HA : Hid _ := HA.out.below hb3
  replace HB : Hid _ := HB.out.below hb3
  replace hbw := Below.on hbw hb3
  clear hb3
  obtain ⟨ca0, ca1, ca2, fa0, fa1, fa2⟩ := Xa.out
  have hnea : ga < v3.heap.size := World.block_lt_of_cell? v3 _ ca0
  obtain ⟨cb0, cb1, cb2, fb0, fb1, fb2⟩ := Xb.out
  have hneb : gb < v3.heap.size := World.block_lt_of_cell? v3 _ cb0
  go_wp2_with fail
  clear ca0 ca1 ca2 fa0 fa1 fa2 hnea
  clear cb0 cb1 cb2 fb0 fb1 fb2 hneb
  go_ret2
  refine ⟨rfl, ?_⟩
  first | exact hbw | exact Below.on hbw (below1 _ _)
theorem docquo_l2 {f : Int} {pa pb : Option Addr} {na ca nb cb : Nat} {xs ys : List Nat} {w : World} {e g : Int} (s t : Bool) (h : At w pa na ca xs) (k : At w pb nb cb ys) (hc : ∀ (w : World), At w pa na ca xs → At w pb nb cb ys → Calls Tryz.prog 92 #[.int .i64 f, DV s pa na ca e, DV t pb nb cb g] w fun en w' => en = .returned (.int .i64 0) ∧ Below w.heap.size w w') (hb : 0 < nb) (hl : ¬ 4096 < na) (hl2 : 4096 < nb) :
    Calls Tryz.prog 55 #[.int .i64 f, DV s pa na ca e, DV t pb nb cb g] w fun en w' => en = .returned (.tuple #[.int .u64 0, .int .i64 5]) ∧ Below w.heap.size w w' := by
  have HCK : Hid (∀ (w : World), At w pa na ca xs → At w pb nb cb ys → Calls Tryz.prog 92 #[.int .i64 f, DV s pa na ca e, DV t pb nb cb g] w fun en w' => en = .returned (.int .i64 0) ∧ Below w.heap.size w w') := hc
  have HA : Hid (At w pa na ca xs) := h
  have HB : Hid (At w pb nb cb ys) := k
  have HL : Hid (0 < nb ∧ ¬ 4096 < na ∧ 4096 < nb) := ⟨hb, hl, hl2⟩
  clear h k hc hb hl hl2
  go_enter Tryz.func55, Tryz.ntmps55
  go_wp2_with fail
  obtain ⟨W0, hW0⟩ : ∃ W0, W0 = ((w.alloc (.cells #[.bool s, .slice pa na ca, .int .i64 e] 33)).alloc (.cells #[.bool t, .slice pb nb cb, .int .i64 g] 33)) := ⟨_, rfl⟩
  have Xa : Hid (B3q W0 (w.heap.size) (.bool s) (.slice pa na ca) (.int .i64 e)) := by rw [hW0]; exact ⟨by go_simp, by go_simp, by go_simp, by go_simp, by go_simp, by go_simp⟩
  have Xb : Hid (B3q W0 (w.heap.size + 1) (.bool t) (.slice pb nb cb) (.int .i64 g)) := by rw [hW0]; exact ⟨by go_simp, by go_simp, by go_simp, by go_simp, by go_simp, by go_simp⟩
  have hb0 : Below w.heap.size w W0 := by rw [hW0]; exact below2 w _ _
  rw [← hW0]
  clear hW0
  have hbw : Below w.heap.size w w := Below.refl _ _
  obtain ⟨gb, hgb⟩ : ∃ g, g = w.heap.size + 1 := ⟨_, rfl⟩
  have HGb : Hid (w.heap.size ≤ gb) := by rw [hgb]; show _ ≤ _; omega
  rw [← hgb] at Xb
  try rw [← hgb]
  obtain ⟨ga, hga⟩ : ∃ g, g = w.heap.size := ⟨_, rfl⟩
  have HGa : Hid (w.heap.size ≤ ga) := by rw [hga]; show _ ≤ _; omega
  rw [← hga] at Xa
  try rw [← hga]
  have HGD : Hid (ga ≠ gb ∧ gb ≠ ga) := by rw [hga, hgb]; exact ⟨by omega, by omega⟩
  clear hga hgb
  replace HA : Hid _ := HA.out.below hb0
  replace HB : Hid _ := HB.out.below hb0
  replace hbw := Below.on hbw hb0
  clear hb0
  refine (HCK.out _ HA.out HB.out).mono ?_
  rintro e v1 ⟨rfl, hb1⟩
  replace Xa : Hid _ := Xa.out.below hb1
  replace Xb : Hid _ := Xb.out.below hb1
  replace HA : Hid _ := HA.out.below hb1
  replace HB : Hid _ := HB.out.below hb1
  replace hbw := Below.on hbw hb1
  clear hb1
  obtain ⟨ca0, ca1, ca2, fa0, fa1, fa2⟩ := Xa.out
  have hnea : ga < v1.heap.size := World.block_lt_of_cell? v1 _ ca0
  obtain ⟨cb0, cb1, cb2, fb0, fb1, fb2⟩ := Xb.out
  have hneb : gb < v1.heap.size := World.block_lt_of_cell? v1 _ cb0
  go_wp2_with fail
  clear ca0 ca1 ca2 fa0 fa1 fa2 hnea
  clear cb0 cb1 cb2 fb0 fb1 fb2 hneb
  refine (nought5 HL.out.1).mono ?_
  rintro e v2 ⟨rfl, hb2⟩
  replace Xa : Hid _ := Xa.out.below hb2
  replace Xb : Hid _ := Xb.out.below hb2
  replace HA : Hid _ := HA.out.below hb2
  replace HB : Hid _ := HB.out.below hb2
  replace hbw := Below.on hbw hb2
  clear hb2
  obtain ⟨ca0, ca1, ca2, fa0, fa1, fa2⟩ := Xa.out
  have hnea : ga < v2.heap.size := World.block_lt_of_cell? v2 _ ca0
  obtain ⟨cb0, cb1, cb2, fb0, fb1, fb2⟩ := Xb.out
  have hneb : gb < v2.heap.size := World.block_lt_of_cell? v2 _ cb0
  go_wp2_with fail
  clear ca0 ca1 ca2 fa0 fa1 fa2 hnea
  clear cb0 cb1 cb2 fb0 fb1 fb2 hneb
  refine (long8_f HL.out.2.1).mono ?_
  rintro e v3 ⟨rfl, hb3⟩
  replace Xa : Hid _ := Xa.out.below hb3
  replace Xb : Hid _ := Xb.out.below hb3
  replace HA : Hid _ := HA.out.below hb3
  replace HB : Hid _ := HB.out.below hb3
  replace hbw := Below.on hbw hb3
  clear hb3
  obtain ⟨ca0, ca1, ca2, fa0, fa1, fa2⟩ := Xa.out
  have hnea : ga < v3.heap.size := World.block_lt_of_cell? v3 _ ca0
  obtain ⟨cb0, cb1, cb2, fb0, fb1, fb2⟩ := Xb.out
  have hneb : gb < v3.heap.size := World.block_lt_of_cell? v3 _ cb0
  go_wp2_with fail
  clear ca0 ca1 ca2 fa0 fa1 fa2 hnea
  clear cb0 cb1 cb2 fb0 fb1 fb2 hneb
  refine (long8_t HL.out.2.2).mono ?_
  rintro e v4 ⟨rfl, hb4⟩
  replace Xa : Hid _ := Xa.out.below hb4
  replace Xb : Hid _ := Xb.out.below hb4
  replace HA : Hid _ := HA.out.below hb4
  replace HB : Hid _ := HB.out.below hb4
  replace hbw := Below.on hbw hb4
  clear hb4
  obtain ⟨ca0, ca1, ca2, fa0, fa1, fa2⟩ := Xa.out
  have hnea : ga < v4.heap.size := World.block_lt_of_cell? v4 _ ca0
  obtain ⟨cb0, cb1, cb2, fb0, fb1, fb2⟩ := Xb.out
  have hneb : gb < v4.heap.size := World.block_lt_of_cell? v4 _ cb0
  go_wp2_with fail
  clear ca0 ca1 ca2 fa0 fa1 fa2 hnea
  clear cb0 cb1 cb2 fb0 fb1 fb2 hneb
  go_ret2
  refine ⟨rfl, ?_⟩
  first | exact hbw | exact Below.on hbw (below1 _ _)
theorem docquo_n0 {f : Int} {pa pb : Option Addr} {na ca nb cb : Nat} {xs ys : List Nat} {w : World} {e g : Int} (s t : Bool) (h : At w pa na ca xs) (k : At w pb nb cb ys) (hc : ∀ (w : World), At w pa na ca xs → At w pb nb cb ys → Calls Tryz.prog 92 #[.int .i64 f, DV s pa na ca e, DV t pb nb cb g] w fun en w' => en = .returned (.int .i64 0) ∧ Below w.heap.size w w') (hb : 0 < nb) (hl : na = 0) (hl2 : ¬ 4096 < nb) :
    Calls Tryz.prog 55 #[.int .i64 f, DV s pa na ca e, DV t pb nb cb g] w fun en w' => en = .returned (.tuple #[.int .u64 0, .int .i64 0]) ∧ Below w.heap.size w w' := by
  have HCK : Hid (∀ (w : World), At w pa na ca xs → At w pb nb cb ys → Calls Tryz.prog 92 #[.int .i64 f, DV s pa na ca e, DV t pb nb cb g] w fun en w' => en = .returned (.int .i64 0) ∧ Below w.heap.size w w') := hc
  have HA : Hid (At w pa na ca xs) := h
  have HB : Hid (At w pb nb cb ys) := k
  have HL : Hid (0 < nb ∧ ¬ 4096 < nb) := ⟨hb, hl2⟩
  subst hl
  clear h k hc hb hl2
  go_enter Tryz.func55, Tryz.ntmps55
  go_wp2_with fail
  obtain ⟨W0, hW0⟩ : ∃ W0, W0 = ((w.alloc (.cells #[.bool s, .slice pa 0 ca, .int .i64 e] 33)).alloc (.cells #[.bool t, .slice pb nb cb, .int .i64 g] 33)) := ⟨_, rfl⟩
  have Xa : Hid (B3q W0 (w.heap.size) (.bool s) (.slice pa 0 ca) (.int .i64 e)) := by rw [hW0]; exact ⟨by go_simp, by go_simp, by go_simp, by go_simp, by go_simp, by go_simp⟩
  have Xb : Hid (B3q W0 (w.heap.size + 1) (.bool t) (.slice pb nb cb) (.int .i64 g)) := by rw [hW0]; exact ⟨by go_simp, by go_simp, by go_simp, by go_simp, by go_simp, by go_simp⟩
  have hb0 : Below w.heap.size w W0 := by rw [hW0]; exact below2 w _ _
  rw [← hW0]
  clear hW0
  have hbw : Below w.heap.size w w := Below.refl _ _
  obtain ⟨gb, hgb⟩ : ∃ g, g = w.heap.size + 1 := ⟨_, rfl⟩
  have HGb : Hid (w.heap.size ≤ gb) := by rw [hgb]; show _ ≤ _; omega
  rw [← hgb] at Xb
  try rw [← hgb]
  obtain ⟨ga, hga⟩ : ∃ g, g = w.heap.size := ⟨_, rfl⟩
  have HGa : Hid (w.heap.size ≤ ga) := by rw [hga]; show _ ≤ _; omega
  rw [← hga] at Xa
  try rw [← hga]
  have HGD : Hid (ga ≠ gb ∧ gb ≠ ga) := by rw [hga, hgb]; exact ⟨by omega, by omega⟩
  clear hga hgb
  replace HA : Hid _ := HA.out.below hb0
  replace HB : Hid _ := HB.out.below hb0
  replace hbw := Below.on hbw hb0
  clear hb0
  refine (HCK.out _ HA.out HB.out).mono ?_
  rintro e v1 ⟨rfl, hb1⟩
  replace Xa : Hid _ := Xa.out.below hb1
  replace Xb : Hid _ := Xb.out.below hb1
  replace HA : Hid _ := HA.out.below hb1
  replace HB : Hid _ := HB.out.below hb1
  replace hbw := Below.on hbw hb1
  clear hb1
  obtain ⟨ca0, ca1, ca2, fa0, fa1, fa2⟩ := Xa.out
  have hnea : ga < v1.heap.size := World.block_lt_of_cell? v1 _ ca0
  obtain ⟨cb0, cb1, cb2, fb0, fb1, fb2⟩ := Xb.out
  have hneb : gb < v1.heap.size := World.block_lt_of_cell? v1 _ cb0
  go_wp2_with fail
  clear ca0 ca1 ca2 fa0 fa1 fa2 hnea
  clear cb0 cb1 cb2 fb0 fb1 fb2 hneb
  refine (nought5 HL.out.1).mono ?_
  rintro e v2 ⟨rfl, hb2⟩
  replace Xa : Hid _ := Xa.out.below hb2
  replace Xb : Hid _ := Xb.out.below hb2
  replace HA : Hid _ := HA.out.below hb2
  replace HB : Hid _ := HB.out.below hb2
  replace hbw := Below.on hbw hb2
  clear hb2
  obtain ⟨ca0, ca1, ca2, fa0, fa1, fa2⟩ := Xa.out
  have hnea : ga < v2.heap.size := World.block_lt_of_cell? v2 _ ca0
  obtain ⟨cb0, cb1, cb2, fb0, fb1, fb2⟩ := Xb.out
  have hneb : gb < v2.heap.size := World.block_lt_of_cell? v2 _ cb0
  go_wp2_with fail
  clear ca0 ca1 ca2 fa0 fa1 fa2 hnea
  clear cb0 cb1 cb2 fb0 fb1 fb2 hneb
  refine (long8_f (by decide)).mono ?_
  rintro e v3 ⟨rfl, hb3⟩
  replace Xa : Hid _ := Xa.out.below hb3
  replace Xb : Hid _ := Xb.out.below hb3
  replace HA : Hid _ := HA.out.below hb3
  replace HB : Hid _ := HB.out.below hb3
  replace hbw := Below.on hbw hb3
  clear hb3
  obtain ⟨ca0, ca1, ca2, fa0, fa1, fa2⟩ := Xa.out
  have hnea : ga < v3.heap.size := World.block_lt_of_cell? v3 _ ca0
  obtain ⟨cb0, cb1, cb2, fb0, fb1, fb2⟩ := Xb.out
  have hneb : gb < v3.heap.size := World.block_lt_of_cell? v3 _ cb0
  go_wp2_with fail
  clear ca0 ca1 ca2 fa0 fa1 fa2 hnea
  clear cb0 cb1 cb2 fb0 fb1 fb2 hneb
  refine (long8_f HL.out.2).mono ?_
  rintro e v4 ⟨rfl, hb4⟩
  replace Xa : Hid _ := Xa.out.below hb4
  replace Xb : Hid _ := Xb.out.below hb4
  replace HA : Hid _ := HA.out.below hb4
  replace HB : Hid _ := HB.out.below hb4
  replace hbw := Below.on hbw hb4
  clear hb4
  obtain ⟨ca0, ca1, ca2, fa0, fa1, fa2⟩ := Xa.out
  have hnea : ga < v4.heap.size := World.block_lt_of_cell? v4 _ ca0
  obtain ⟨cb0, cb1, cb2, fb0, fb1, fb2⟩ := Xb.out
  have hneb : gb < v4.heap.size := World.block_lt_of_cell? v4 _ cb0
  go_wp2_with fail
  clear ca0 ca1 ca2 fa0 fa1 fa2 hnea
  clear cb0 cb1 cb2 fb0 fb1 fb2 hneb
  refine (nought8_z).mono ?_
  rintro e v5 ⟨rfl, hb5⟩
  replace Xa : Hid _ := Xa.out.below hb5
  replace Xb : Hid _ := Xb.out.below hb5
  replace HA : Hid _ := HA.out.below hb5
  replace HB : Hid _ := HB.out.below hb5
  replace hbw := Below.on hbw hb5
  clear hb5
  obtain ⟨ca0, ca1, ca2, fa0, fa1, fa2⟩ := Xa.out
  have hnea : ga < v5.heap.size := World.block_lt_of_cell? v5 _ ca0
  obtain ⟨cb0, cb1, cb2, fb0, fb1, fb2⟩ := Xb.out
  have hneb : gb < v5.heap.size := World.block_lt_of_cell? v5 _ cb0
  go_wp2_with fail
  clear ca0 ca1 ca2 fa0 fa1 fa2 hnea
  clear cb0 cb1 cb2 fb0 fb1 fb2 hneb
  go_ret2
  refine ⟨rfl, ?_⟩
  first | exact hbw | exact Below.on hbw (below1 _ _)
theorem docrot_s {f : Int} {pa : Option Addr} {na ca : Nat} {xs : List Nat} {w : World} {e : Int} {s : Bool} (h : At w pa na ca xs) (hc : ∀ (w : World), At w pa na ca xs → Calls Tryz.prog 92 #[.int .i64 f, DV s pa na ca e, DV s pa na ca e] w fun en w' => en = .returned (.int .i64 0) ∧ Below w.heap.size w w') (hs : s = true) :
    Calls Tryz.prog 56 #[.int .i64 f, DV s pa na ca e] w fun en w' => en = .returned (.tuple #[.int .u64 0, .int .i64 3]) ∧ Below w.heap.size w w' := by
  have HCK : Hid (∀ (w : World), At w pa na ca xs → Calls Tryz.prog 92 #[.int .i64 f, DV s pa na ca e, DV s pa na ca e] w fun en w' => en = .returned (.int .i64 0) ∧ Below w.heap.size w w') := hc
  have HA : Hid (At w pa na ca xs) := h
  subst hs
  clear h hc 
  go_enter Tryz.func56, Tryz.ntmps56
  go_wp2_with fail
  obtain ⟨W0, hW0⟩ : ∃ W0, W0 = (w.alloc (.cells #[.bool true, .slice pa na ca, .int .i64 e] 33)) := ⟨_, rfl⟩
  have Xa : Hid (B3q W0 (w.heap.size) (.bool true) (.slice pa na ca) (.int .i64 e)) := by rw [hW0]; exact ⟨by go_simp, by go_simp, by go_simp, by go_simp, by go_simp, by go_simp⟩
  have hb0 : Below w.heap.size w W0 := by rw [hW0]; exact below1 w _
  rw [← hW0]
  clear hW0
  have hbw : Below w.heap.size w w := Below.refl _ _
  obtain ⟨ga, hga⟩ : ∃ g, g = w.heap.size := ⟨_, rfl⟩
  have HGa : Hid (w.heap.size ≤ ga) := by rw [hga]; show _ ≤ _; omega
  rw [← hga] at Xa
  try rw [← hga]
  clear hga
  replace HA : Hid _ := HA.out.below hb0
  replace hbw := Below.on hbw hb0
  clear hb0
  refine (HCK.out _ HA.out).mono ?_
  rintro e v1 ⟨rfl, hb1⟩
  replace Xa : Hid _ := Xa.out.below hb1
  replace HA : Hid _ := HA.out.below hb1
  replace hbw := Below.on hbw hb1
  clear hb1
  obtain ⟨ca0, ca1, ca2, fa0, fa1, fa2⟩ := Xa.out
  have hnea : ga < v1.heap.size := World.block_lt_of_cell? v1 _ ca0
  go_wp2_with fail
  clear ca0 ca1 ca2 fa0 fa1 fa2 hnea
  go_ret2
  refine ⟨rfl, ?_⟩
  first | exact hbw | exact Below.on hbw (below1 _ _)
theorem docrot_l {f : Int} {pa : Option Addr} {na ca : Nat} {xs : List Nat} {w : World} {e : Int} {s : Bool} (h : At w pa na ca xs) (hc : ∀ (w : World), At w pa na ca xs → Calls Tryz.prog 92 #[.int .i64 f, DV s pa na ca e, DV s pa na ca e] w fun en w' => en = .returned (.int .i64 0) ∧ Below w.heap.size w w') (hs : s = false) (hl : 4096 < na) :
    Calls Tryz.prog 56 #[.int .i64 f, DV s pa na ca e] w fun en w' => en = .returned (.tuple #[.int .u64 0, .int .i64 5]) ∧ Below w.heap.size w w' := by
  have HCK : Hid (∀ (w : World), At w pa na ca xs → Calls Tryz.prog 92 #[.int .i64 f, DV s pa na ca e, DV s pa na ca e] w fun en w' => en = .returned (.int .i64 0) ∧ Below w.heap.size w w') := hc
  have HA : Hid (At w pa na ca xs) := h
  subst hs
  have HL : Hid (4096 < na) := hl
  clear h hc hl
  go_enter Tryz.func56, Tryz.ntmps56
  go_wp2_with fail
  obtain ⟨W0, hW0⟩ : ∃ W0, W0 = (w.alloc (.cells #[.bool false, .slice pa na ca, .int .i64 e] 33)) := ⟨_, rfl⟩
  have Xa : Hid (B3q W0 (w.heap.size) (.bool false) (.slice pa na ca) (.int .i64 e)) := by rw [hW0]; exact ⟨by go_simp, by go_simp, by go_simp, by go_simp, by go_simp, by go_simp⟩
  have hb0 : Below w.heap.size w W0 := by rw [hW0]; exact below1 w _
  rw [← hW0]
  clear hW0
  have hbw : Below w.heap.size w w := Below.refl _ _
  obtain ⟨ga, hga⟩ : ∃ g, g = w.heap.size := ⟨_, rfl⟩
  have HGa : Hid (w.heap.size ≤ ga) := by rw [hga]; show _ ≤ _; omega
  rw [← hga] at Xa
  try rw [← hga]
  clear hga
  replace HA : Hid _ := HA.out.below hb0
  replace hbw := Below.on hbw hb0
  clear hb0
  refine (HCK.out _ HA.out).mono ?_
  rintro e v1 ⟨rfl, hb1⟩
  replace Xa : Hid _ := Xa.out.below hb1
  replace HA : Hid _ := HA.out.below hb1
  replace hbw := Below.on hbw hb1
  clear hb1
  obtain ⟨ca0, ca1, ca2, fa0, fa1, fa2⟩ := Xa.out
  have hnea : ga < v1.heap.size := World.block_lt_of_cell? v1 _ ca0
  go_wp2_with fail
  clear ca0 ca1 ca2 fa0 fa1 fa2 hnea
  refine (long8_t HL.out).mono ?_
  rintro e v3 ⟨rfl, hb3⟩
  replace Xa : Hid _ := Xa.out.below hb3
  replace HA : Hid _ := HA.out.below hb3
  replace hbw := Below.on hbw hb3
  clear hb3
  obtain ⟨ca0, ca1, ca2, fa0, fa1, fa2⟩ := Xa.out
  have hnea : ga < v3.heap.size := World.block_lt_of_cell? v3 _ ca0
  go_wp2_with fail
  clear ca0 ca1 ca2 fa0 fa1 fa2 hnea
  go_ret2
  refine ⟨rfl, ?_⟩
  first | exact hbw | exact Below.on hbw (below1 _ _)
theorem docrot_z {f : Int} {pa : Option Addr} {na ca : Nat} {xs : List Nat} {w : World} {e : Int} {s : Bool} (h : At w pa na ca xs) (hc : ∀ (w : World), At w pa na ca xs → Calls Tryz.prog 92 #[.int .i64 f, DV s pa na ca e, DV s pa na ca e] w fun en w' => en = .returned (.int .i64 0) ∧ Below w.heap.size w w') (hs : s = false) (hl : na = 0) :
    Calls Tryz.prog 56 #[.int .i64 f, DV s pa na ca e] w fun en w' => en = .returned (.tuple #[.int .u64 0, .int .i64 0]) ∧ Below w.heap.size w w' := by
  have HCK : Hid (∀ (w : World), At w pa na ca xs → Calls Tryz.prog 92 #[.int .i64 f, DV s pa na ca e, DV s pa na ca e] w fun en w' => en = .returned (.int .i64 0) ∧ Below w.heap.size w w') := hc
  have HA : Hid (At w pa na ca xs) := h
  subst hs
  subst hl
  clear h hc 
  go_enter Tryz.func56, Tryz.ntmps56
  go_wp2_with fail
  obtain ⟨W0, hW0⟩ : ∃ W0, W0 = (w.alloc (.cells #[.bool false, .slice pa 0 ca, .int .i64 e] 33)) := ⟨_, rfl⟩
  have Xa : Hid (B3q W0 (w.heap.size) (.bool false) (.slice pa 0 ca) (.int .i64 e)) := by rw [hW0]; exact ⟨by go_simp, by go_simp, by go_simp, by go_simp, by go_simp, by go_simp⟩
  have hb0 : Below w.heap.size w W0 := by rw [hW0]; exact below1 w _
  rw [← hW0]
  clear hW0
  have hbw : Below w.heap.size w w := Below.refl _ _
  obtain ⟨ga, hga⟩ : ∃ g, g = w.heap.size := ⟨_, rfl⟩
  have HGa : Hid (w.heap.size ≤ ga) := by rw [hga]; show _ ≤ _; omega
  rw [← hga] at Xa
  try rw [← hga]
  clear hga
  replace HA : Hid _ := HA.out.below hb0
  replace hbw := Below.on hbw hb0
  clear hb0
  refine (HCK.out _ HA.out).mono ?_
  rintro e v1 ⟨rfl, hb1⟩
  replace Xa : Hid _ := Xa.out.below hb1
  replace HA : Hid _ := HA.out.below hb1
  replace hbw := Below.on hbw hb1
  clear hb1
  obtain ⟨ca0, ca1, ca2, fa0, fa1, fa2⟩ := Xa.out
  have hnea : ga < v1.heap.size := World.block_lt_of_cell? v1 _ ca0
  go_wp2_with fail
  clear ca0 ca1 ca2 fa0 fa1 fa2 hnea
  refine (long8_f (by decide)).mono ?_
  rintro e v3 ⟨rfl, hb3⟩
  replace Xa : Hid _ := Xa.out.below hb3
  replace HA : Hid _ := HA.out.below hb3
  replace hbw := Below.on hbw hb3
  clear hb3
  obtain ⟨ca0, ca1, ca2, fa0, fa1, fa2⟩ := Xa.out
  have hnea : ga < v3.heap.size := World.block_lt_of_cell? v3 _ ca0
  go_wp2_with fail
  clear ca0 ca1 ca2 fa0 fa1 fa2 hnea
  refine (nought8_z).mono ?_
  rintro e v5 ⟨rfl, hb5⟩
  replace Xa : Hid _ := Xa.out.below hb5
  replace HA : Hid _ := HA.out.below hb5
  replace hbw := Below.on hbw hb5
  clear hb5
  obtain ⟨ca0, ca1, ca2, fa0, fa1, fa2⟩ := Xa.out
  have hnea : ga < v5.heap.size := World.block_lt_of_cell? v5 _ ca0
  go_wp2_with fail
  clear ca0 ca1 ca2 fa0 fa1 fa2 hnea
  go_ret2
  refine ⟨rfl, ?_⟩
  first | exact hbw | exact Below.on hbw (below1 _ _)
def QtP (S H I : Nat) (l : Int) (neg : Bool) (n d : Nat) (e : Int) (en : Ending) : Prop := ∃ Z, en = .returned (.tuple #[U (if neg then S + Z else Z), .int .i64 0]) ∧ Trc (fun z => cmpN (dN n e) (dN (hv H z * d) (l - 1))) I Z
def RtP (H I : Nat) (l : Int) (n : Nat) (e : Int) (en : Ending) : Prop := ∃ Z, en = .returned (.tuple #[U Z, .int .i64 0]) ∧ Trc (fun z => cmpN (dN n e) (dN (hv H z * hv H z * 1) (2 * (l - 1)))) I Z
theorem hold_rot {p1 p2 : Option Addr} {m1 m2 b : Nat} {E f : Int} (hb : b ≠ 0) (hE : -1074 ≤ E ∧ E ≤ -149) (hf : -2500000 ≤ f ∧ f ≤ 2500000) (hl : m2 ≤ 16000) : HoldF (.agg #[.slice p1 m1 m1, .slice p2 m2 m2, .int .i64 f, .bool true]) (fun t => dN (t * t * 1) (2 * (E - 1))) (dN b f) E p1 p2 m1 m2 b 1 := by
  intro mn t e W p m h1 h2 h3 h4 h5 h6
  have := holdr h1 h2 h3 hb (by decide) e f (by omega) hf ⟨h4, hl⟩
  rwa [show dN (mn * mn * 1) (2 * e) = dN (mn * 2 ^ t * (mn * 2 ^ t) * 1) (2 * (E - 1)) by
    rw [Nat.mul_one, Nat.mul_one, ← dN_up (a := mn * mn) (t := t + t) (e := 2 * (E - 1)) (f := 2 * e) (by omega) (by omega)]
    congr 1
    rw [Nat.pow_add, Nat.mul_mul_mul_comm]] at this
theorem up_rot {E : Int} : Up fun t => dN (t * t * 1) (2 * (E - 1)) := fun a b h => dN_mono (by rw [Nat.mul_one, Nat.mul_one]; exact Nat.mul_lt_mul_of_lt_of_le h (Nat.le_of_lt h) (by omega)) _
theorem num_pos {w : World} {p : Option Addr} {n c a : Nat} {xs : List Nat} (h : Num w p n c xs a) (ha : a ≠ 0) : 0 < n := by
  rcases Nat.eq_zero_or_pos n with h0 | h0
  · exfalso
    subst h0
    have h1 := h.nf.val
    rw [List.eq_nil_of_length_eq_zero h.at_.len] at h1
    simp [valB] at h1
    omega
  · exact h0
theorem docquo_n {f : Int} {S : Nat} {P E G : Int} {I Q H : Nat} (R : Rf f S P E G I Q) (K : Sk S P E G I Q H) {pa pb : Option Addr} {na ca nb cb : Nat} {w : World} {x y e g : Int} {s t : Bool} (h : DN w s pa na ca e x) (k : DN w t pb nb cb g y) (hx : x ≠ 0) (hy : y ≠ 0) (hla : na ≤ 4096) (hlb : nb ≤ 4096) :
    Calls Tryz.prog 55 #[.int .i64 f, DV s pa na ca e, DV t pb nb cb g] w fun en w' => QtP S H I E (s != t) x.natAbs y.natAbs (e - g) en ∧ Below w.heap.size w w' := by
  obtain ⟨xs, hX⟩ := h.zn.ex
  have he : -1048576 ≤ e ∧ e ≤ 1048576 := by rcases h.fm with ⟨_, h2⟩ | ⟨_, h2, h3⟩ <;> omega
  obtain ⟨ys, hY⟩ := k.zn.ex
  have hg : -1048576 ≤ g ∧ g ≤ 1048576 := by rcases k.fm with ⟨_, h2⟩ | ⟨_, h2, h3⟩ <;> omega
  obtain ⟨ex, hex⟩ : ∃ ex : Int, ex = e - g := ⟨_, rfl⟩
  have w1 : IntKind.i64.wrap (e - g) = ex := by rw [hex]; exact (jx (by omega) (by omega)).1
  have w2 : wrap64 (e - g) = ex := by rw [hex]; exact (jx (by omega) (by omega)).2
  rw [← hex]
  obtain ⟨ng, hng⟩ : ∃ ng, ng = (s != t) := ⟨_, rfl⟩
  rw [← hng]
  have n1 : (s != t) = ng := hng.symm
  have n2 : (!(s == t)) = ng := by rw [hng]; cases s <;> cases t <;> rfl
  have HR : Hid (Rf f S P E G I Q ∧ formD s xs e = true ∧ formD t ys g = true ∧ 0 < na ∧ 0 < nb ∧ na ≤ 4096 ∧ nb ≤ 4096 ∧ x.natAbs ≠ 0 ∧ y.natAbs ≠ 0 ∧ (-2500000 ≤ ex ∧ ex ≤ 2500000) ∧ valB B64 xs = x.natAbs ∧ valB B64 ys = y.natAbs) := ⟨R, dn_formD h hX, dn_formD k hY, num_pos hX (by omega), num_pos hY (by omega), hla, hlb, by omega, by omega, by omega, hX.nf.val, hY.nf.val⟩
  have HK : Hid (Sk S P E G I Q H) := K
  have HA : Hid (At w pa na ca xs) := hX.at_
  have HB : Hid (At w pb nb cb ys) := hY.at_
  clear R h k hx hy hX hY hla hlb he hg K hex hng
  go_enter Tryz.func55, Tryz.ntmps55
  go_wp2_with fail
  obtain ⟨W0, hW0⟩ : ∃ W0, W0 = ((w.alloc (.cells #[.bool s, .slice pa na ca, .int .i64 e] 33)).alloc (.cells #[.bool t, .slice pb nb cb, .int .i64 g] 33)) := ⟨_, rfl⟩
  have Xa : Hid (B3q W0 (w.heap.size) (.bool s) (.slice pa na ca) (.int .i64 e)) := by rw [hW0]; exact ⟨by go_simp, by go_simp, by go_simp, by go_simp, by go_simp, by go_simp⟩
  have Xb : Hid (B3q W0 (w.heap.size + 1) (.bool t) (.slice pb nb cb) (.int .i64 g)) := by rw [hW0]; exact ⟨by go_simp, by go_simp, by go_simp, by go_simp, by go_simp, by go_simp⟩
  have hb0 : Below w.heap.size w W0 := by rw [hW0]; exact below2 w _ _
  rw [← hW0]
  clear hW0
  have hbw : Below w.heap.size w w := Below.refl _ _
  obtain ⟨gb, hgb⟩ : ∃ g, g = w.heap.size + 1 := ⟨_, rfl⟩
  have HGb : Hid (w.heap.size ≤ gb) := by rw [hgb]; show _ ≤ _; omega
  rw [← hgb] at Xb
  try rw [← hgb]
  obtain ⟨ga, hga⟩ : ∃ g, g = w.heap.size := ⟨_, rfl⟩
  have HGa : Hid (w.heap.size ≤ ga) := by rw [hga]; show _ ≤ _; omega
  rw [← hga] at Xa
  try rw [← hga]
  have HGD : Hid (ga ≠ gb ∧ gb ≠ ga) := by rw [hga, hgb]; exact ⟨by omega, by omega⟩
  clear hga hgb
  replace HA : Hid _ := HA.out.below hb0
  replace HB : Hid _ := HB.out.below hb0
  replace hbw := Below.on hbw hb0
  clear hb0
  refine (chk_ok HR.out.1 s t HA.out HB.out HR.out.2.1 HR.out.2.2.1).mono ?_
  rintro e v1 ⟨rfl, hb1⟩
  replace Xa : Hid _ := Xa.out.below hb1
  replace Xb : Hid _ := Xb.out.below hb1
  replace HA : Hid _ := HA.out.below hb1
  replace HB : Hid _ := HB.out.below hb1
  replace hbw := Below.on hbw hb1
  clear hb1
  obtain ⟨ca0, ca1, ca2, fa0, fa1, fa2⟩ := Xa.out
  have hnea : ga < v1.heap.size := World.block_lt_of_cell? v1 _ ca0
  obtain ⟨cb0, cb1, cb2, fb0, fb1, fb2⟩ := Xb.out
  have hneb : gb < v1.heap.size := World.block_lt_of_cell? v1 _ cb0
  go_wp2_with fail
  clear ca0 ca1 ca2 fa0 fa1 fa2 hnea
  clear cb0 cb1 cb2 fb0 fb1 fb2 hneb
  refine (nought5 HR.out.2.2.2.2.1).mono ?_
  rintro e v2 ⟨rfl, hb2⟩
  replace Xa : Hid _ := Xa.out.below hb2
  replace Xb : Hid _ := Xb.out.below hb2
  replace HA : Hid _ := HA.out.below hb2
  replace HB : Hid _ := HB.out.below hb2
  replace hbw := Below.on hbw hb2
  clear hb2
  obtain ⟨ca0, ca1, ca2, fa0, fa1, fa2⟩ := Xa.out
  have hnea : ga < v2.heap.size := World.block_lt_of_cell? v2 _ ca0
  obtain ⟨cb0, cb1, cb2, fb0, fb1, fb2⟩ := Xb.out
  have hneb : gb < v2.heap.size := World.block_lt_of_cell? v2 _ cb0
  go_wp2_with fail
  clear ca0 ca1 ca2 fa0 fa1 fa2 hnea
  clear cb0 cb1 cb2 fb0 fb1 fb2 hneb
  refine (long8_f (by have := HR.out.2.2.2.2.2.1; omega)).mono ?_
  rintro e v3 ⟨rfl, hb3⟩
  replace Xa : Hid _ := Xa.out.below hb3
  replace Xb : Hid _ := Xb.out.below hb3
  replace HA : Hid _ := HA.out.below hb3
  replace HB : Hid _ := HB.out.below hb3
  replace hbw := Below.on hbw hb3
  clear hb3
  obtain ⟨ca0, ca1, ca2, fa0, fa1, fa2⟩ := Xa.out
  have hnea : ga < v3.heap.size := World.block_lt_of_cell? v3 _ ca0
  obtain ⟨cb0, cb1, cb2, fb0, fb1, fb2⟩ := Xb.out
  have hneb : gb < v3.heap.size := World.block_lt_of_cell? v3 _ cb0
  go_wp2_with fail
  clear ca0 ca1 ca2 fa0 fa1 fa2 hnea
  clear cb0 cb1 cb2 fb0 fb1 fb2 hneb
  refine (long8_f (by have := HR.out.2.2.2.2.2.2.1; omega)).mono ?_
  rintro e v4 ⟨rfl, hb4⟩
  replace Xa : Hid _ := Xa.out.below hb4
  replace Xb : Hid _ := Xb.out.below hb4
  replace HA : Hid _ := HA.out.below hb4
  replace HB : Hid _ := HB.out.below hb4
  replace hbw := Below.on hbw hb4
  clear hb4
  obtain ⟨ca0, ca1, ca2, fa0, fa1, fa2⟩ := Xa.out
  have hnea : ga < v4.heap.size := World.block_lt_of_cell? v4 _ ca0
  obtain ⟨cb0, cb1, cb2, fb0, fb1, fb2⟩ := Xb.out
  have hneb : gb < v4.heap.size := World.block_lt_of_cell? v4 _ cb0
  go_wp2_with fail
  clear ca0 ca1 ca2 fa0 fa1 fa2 hnea
  clear cb0 cb1 cb2 fb0 fb1 fb2 hneb
  refine (nought5 HR.out.2.2.2.1).mono ?_
  rintro e v5 ⟨rfl, hb5⟩
  replace Xa : Hid _ := Xa.out.below hb5
  replace Xb : Hid _ := Xb.out.below hb5
  replace HA : Hid _ := HA.out.below hb5
  replace HB : Hid _ := HB.out.below hb5
  replace hbw := Below.on hbw hb5
  clear hb5
  obtain ⟨ca0, ca1, ca2, fa0, fa1, fa2⟩ := Xa.out
  have hnea : ga < v5.heap.size := World.block_lt_of_cell? v5 _ ca0
  obtain ⟨cb0, cb1, cb2, fb0, fb1, fb2⟩ := Xb.out
  have hneb : gb < v5.heap.size := World.block_lt_of_cell? v5 _ cb0
  go_wp2_with fail
  clear ca0 ca1 ca2 fa0 fa1 fa2 hnea
  clear cb0 cb1 cb2 fb0 fb1 fb2 hneb
  refine (HR.out.1.of _).mono ?_
  rintro e v6 ⟨rfl, hb6⟩
  replace Xa : Hid _ := Xa.out.below hb6
  replace Xb : Hid _ := Xb.out.below hb6
  replace HA : Hid _ := HA.out.below hb6
  replace HB : Hid _ := HB.out.below hb6
  replace hbw := Below.on hbw hb6
  clear hb6
  obtain ⟨ca0, ca1, ca2, fa0, fa1, fa2⟩ := Xa.out
  have hnea : ga < v6.heap.size := World.block_lt_of_cell? v6 _ ca0
  obtain ⟨cb0, cb1, cb2, fb0, fb1, fb2⟩ := Xb.out
  have hneb : gb < v6.heap.size := World.block_lt_of_cell? v6 _ cb0
  go_wp2_with fail
  clear ca0 ca1 ca2 fa0 fa1 fa2 hnea
  clear cb0 cb1 cb2 fb0 fb1 fb2 hneb
  have Xk0 : Hid (B6q (v6.alloc (.cells #[U S, .int .i64 P, .int .i64 E, .int .i64 G, U I, U Q] 126)) v6.heap.size (U S) (.int .i64 P) (.int .i64 E) (.int .i64 G) (U I) (U Q)) := B6q.new v6 _ _ _ _ _ _ _
  have hbn : Below v6.heap.size v6 (v6.alloc (.cells #[U S, .int .i64 P, .int .i64 E, .int .i64 G, U I, U Q] 126)) := below1 v6 _
  generalize v6.alloc (.cells #[U S, .int .i64 P, .int .i64 E, .int .i64 G, U I, U Q] 126) = Wk at *
  have HGk : Hid (w.heap.size ≤ v6.heap.size) := hbw.size
  replace Xa : Hid _ := Xa.out.below hbn
  replace Xb : Hid _ := Xb.out.below hbn
  replace HA : Hid _ := HA.out.below hbn
  replace HB : Hid _ := HB.out.below hbn
  replace hbw := Below.on hbw hbn
  clear hbn
  generalize v6.heap.size = gk at *
  have Xk := Xk0
  clear Xk0
  obtain ⟨Wr, hWr⟩ : ∃ W1, W1 = Wk.drew := ⟨_, rfl⟩
  have hbd : Below Wk.heap.size Wk Wr := by rw [hWr]; exact bDrew1 (Below.refl _ _)
  replace Xa : Hid _ := Xa.out.below hbd
  replace Xb : Hid _ := Xb.out.below hbd
  replace Xk : Hid _ := Xk.out.below hbd
  replace HA : Hid _ := HA.out.below hbd
  replace HB : Hid _ := HB.out.below hbd
  replace hbw := Below.on hbw hbd
  clear hbd
  have HJ : Hid ((fun W' : World => W'.cell? ⟨gk, 0, none⟩ = some (U S) ∧ W'.cell? ⟨gk, 1, none⟩ = some (.int .i64 P) ∧ W'.cell? ⟨gk, 2, none⟩ = some (.int .i64 E) ∧ W'.cell? ⟨gk, 3, none⟩ = some (.int .i64 G) ∧ W'.cell? ⟨gk, 4, none⟩ = some (U I) ∧ W'.cell? ⟨gk, 5, none⟩ = some (U Q) ∧ W'.cell? ⟨ga, 0, none⟩ = some (.bool s) ∧ W'.cell? ⟨ga, 1, none⟩ = some (.slice pa na ca) ∧ W'.cell? ⟨ga, 2, none⟩ = some (.int .i64 e) ∧ W'.cell? ⟨gb, 0, none⟩ = some (.bool t) ∧ W'.cell? ⟨gb, 1, none⟩ = some (.slice pb nb cb) ∧ W'.cell? ⟨gb, 2, none⟩ = some (.int .i64 g)) Wr) := ⟨Xk.out.c0, Xk.out.c1, Xk.out.c2, Xk.out.c3, Xk.out.c4, Xk.out.c5, Xa.out.c0, Xa.out.c1, Xa.out.c2, Xb.out.c0, Xb.out.c1, Xb.out.c2⟩
  refine wp_region_J (fun W' => W'.cell? ⟨gk, 0, none⟩ = some (U S) ∧ W'.cell? ⟨gk, 1, none⟩ = some (.int .i64 P) ∧ W'.cell? ⟨gk, 2, none⟩ = some (.int .i64 E) ∧ W'.cell? ⟨gk, 3, none⟩ = some (.int .i64 G) ∧ W'.cell? ⟨gk, 4, none⟩ = some (U I) ∧ W'.cell? ⟨gk, 5, none⟩ = some (U Q) ∧ W'.cell? ⟨ga, 0, none⟩ = some (.bool s) ∧ W'.cell? ⟨ga, 1, none⟩ = some (.slice pa na ca) ∧ W'.cell? ⟨ga, 2, none⟩ = some (.int .i64 e) ∧ W'.cell? ⟨gb, 0, none⟩ = some (.bool t) ∧ W'.cell? ⟨gb, 1, none⟩ = some (.slice pb nb cb) ∧ W'.cell? ⟨gb, 2, none⟩ = some (.int .i64 g)) (by kernel_rfl) ?_
  rw [← hWr]
  clear hWr
  refine wpJ_tq 0 rfl HJ.out ?_
  refine wpJ_tq 1 rfl HJ.out ?_
  refine wpJ_tq 2 rfl HJ.out ?_
  refine wpJ_tq 3 rfl HJ.out ?_
  refine wpJ_tq 5 rfl HJ.out ?_
  go_simp
  refine wpJ_tq 6 rfl HJ.out ?_
  refine wpJ_tq 7 rfl HJ.out ?_
  refine wpJ_tq 9 rfl HJ.out ?_
  refine wpJ_tq 10 rfl HJ.out ?_
  refine wpJ_tq 11 rfl HJ.out ?_
  go_simp
  refine wpJ_tq 12 rfl HJ.out ?_
  refine wpJ_tq 13 rfl HJ.out ?_
  refine wpJ_on 4 rfl fun KJ hK => ?_
  go_simp
  refine (rl_from HA.out (by have := HR.out; omega)).mono ?_
  rintro en v11 ⟨p11, m11, rfl, hn11, hl11, hb11⟩
  rw [HR.out.2.2.2.2.2.2.2.2.2.2.1] at hn11
  replace Xa : Hid _ := Xa.out.below hb11
  replace Xb : Hid _ := Xb.out.below hb11
  replace Xk : Hid _ := Xk.out.below hb11
  replace HA : Hid _ := HA.out.below hb11
  replace HB : Hid _ := HB.out.below hb11
  replace hbw := Below.on hbw hb11
  clear hb11
  have N11 : Hid (RL v11 p11 m11 x.natAbs) := hn11
  have HL11 : Hid (m11 ≤ 2 * na) := hl11
  clear hn11 hl11
  refine hK _ _ ⟨Xk.out.c0, Xk.out.c1, Xk.out.c2, Xk.out.c3, Xk.out.c4, Xk.out.c5, Xa.out.c0, Xa.out.c1, Xa.out.c2, Xb.out.c0, Xb.out.c1, Xb.out.c2⟩ ?_
  clear hK
  refine wpJ_on 8 rfl fun KJ hK => ?_
  go_simp
  refine (rl_from HB.out (by have := HR.out; omega)).mono ?_
  rintro en v12 ⟨p12, m12, rfl, hn12, hl12, hb12⟩
  rw [HR.out.2.2.2.2.2.2.2.2.2.2.2] at hn12
  replace Xa : Hid _ := Xa.out.below hb12
  replace Xb : Hid _ := Xb.out.below hb12
  replace Xk : Hid _ := Xk.out.below hb12
  replace HA : Hid _ := HA.out.below hb12
  replace HB : Hid _ := HB.out.below hb12
  replace N11 : Hid (RL v12 p11 m11 x.natAbs) := N11.out.below hb12
  replace hbw := Below.on hbw hb12
  clear hb12
  have N12 : Hid (RL v12 p12 m12 y.natAbs) := hn12
  have HL12 : Hid (m12 ≤ 2 * nb) := hl12
  clear hn12 hl12
  clear HJ
  have HJ : Hid ((fun W' : World => W'.cell? ⟨gk, 0, none⟩ = some (U S) ∧ W'.cell? ⟨gk, 1, none⟩ = some (.int .i64 P) ∧ W'.cell? ⟨gk, 2, none⟩ = some (.int .i64 E) ∧ W'.cell? ⟨gk, 3, none⟩ = some (.int .i64 G) ∧ W'.cell? ⟨gk, 4, none⟩ = some (U I) ∧ W'.cell? ⟨gk, 5, none⟩ = some (U Q) ∧ W'.cell? ⟨ga, 0, none⟩ = some (.bool s) ∧ W'.cell? ⟨ga, 1, none⟩ = some (.slice pa na ca) ∧ W'.cell? ⟨ga, 2, none⟩ = some (.int .i64 e) ∧ W'.cell? ⟨gb, 0, none⟩ = some (.bool t) ∧ W'.cell? ⟨gb, 1, none⟩ = some (.slice pb nb cb) ∧ W'.cell? ⟨gb, 2, none⟩ = some (.int .i64 g)) v12) := ⟨Xk.out.c0, Xk.out.c1, Xk.out.c2, Xk.out.c3, Xk.out.c4, Xk.out.c5, Xa.out.c0, Xa.out.c1, Xa.out.c2, Xb.out.c0, Xb.out.c1, Xb.out.c2⟩
  refine hK _ _ HJ.out ?_
  clear hK
  refine wpJ_tq 14 rfl HJ.out ?_
  refine wpJ_on 15 rfl fun KJ hK => ?_
  go_simp
  refine (size_g HK.out N11.out N12.out (up_quo (d := y.natAbs) (E := E) HR.out.2.2.2.2.2.2.2.2.1) (by show dN (0 * y.natAbs) (E - 1) ≤ _; rw [Nat.zero_mul, dN_zero]; exact Nat.zero_le _) (hold_quo HR.out.2.2.2.2.2.2.2.1 HR.out.2.2.2.2.2.2.2.2.1 HK.out.lo HR.out.2.2.2.2.2.2.2.2.2.1 (by have := HL12.out; have := HR.out.2.2.2.2.2.2.1; omega))).mono ?_
  rintro en v13 ⟨Z, rfl, ht6, hb13⟩
  have HT6 : Hid (Trc (fun z => cmpN (dN x.natAbs ex) (dN (hv H z * y.natAbs) (E - 1))) I Z) := ht6
  clear ht6
  replace Xa : Hid _ := Xa.out.below hb13
  replace Xb : Hid _ := Xb.out.below hb13
  replace Xk : Hid _ := Xk.out.below hb13
  replace HA : Hid _ := HA.out.below hb13
  replace HB : Hid _ := HB.out.below hb13
  replace N11 : Hid (RL v13 p11 m11 x.natAbs) := N11.out.below hb13
  replace N12 : Hid (RL v13 p12 m12 y.natAbs) := N12.out.below hb13
  replace hbw := Below.on hbw hb13
  clear hb13
  clear HJ
  have HJ : Hid ((fun W' : World => W'.cell? ⟨gk, 0, none⟩ = some (U S) ∧ W'.cell? ⟨gk, 1, none⟩ = some (.int .i64 P) ∧ W'.cell? ⟨gk, 2, none⟩ = some (.int .i64 E) ∧ W'.cell? ⟨gk, 3, none⟩ = some (.int .i64 G) ∧ W'.cell? ⟨gk, 4, none⟩ = some (U I) ∧ W'.cell? ⟨gk, 5, none⟩ = some (U Q) ∧ W'.cell? ⟨ga, 0, none⟩ = some (.bool s) ∧ W'.cell? ⟨ga, 1, none⟩ = some (.slice pa na ca) ∧ W'.cell? ⟨ga, 2, none⟩ = some (.int .i64 e) ∧ W'.cell? ⟨gb, 0, none⟩ = some (.bool t) ∧ W'.cell? ⟨gb, 1, none⟩ = some (.slice pb nb cb) ∧ W'.cell? ⟨gb, 2, none⟩ = some (.int .i64 g)) v13) := ⟨Xk.out.c0, Xk.out.c1, Xk.out.c2, Xk.out.c3, Xk.out.c4, Xk.out.c5, Xa.out.c0, Xa.out.c1, Xa.out.c2, Xb.out.c0, Xb.out.c1, Xb.out.c2⟩
  refine hK _ _ HJ.out ?_
  clear hK
  refine wpJ_tq 16 rfl HJ.out ?_
  go_simp
  refine wpJ_done (by kernel_rfl) ?_ _
  clear HJ
  obtain ⟨ca0, ca1, ca2, fa0, fa1, fa2⟩ := Xa.out
  have hnea : ga < v13.heap.size := World.block_lt_of_cell? v13 _ ca0
  obtain ⟨cb0, cb1, cb2, fb0, fb1, fb2⟩ := Xb.out
  have hneb : gb < v13.heap.size := World.block_lt_of_cell? v13 _ cb0
  obtain ⟨ck0, ck1, ck2, ck3, ck4, ck5, fk0, fk1, fk2, fk3, fk4, fk5⟩ := Xk.out
  have hnek : gk < v13.heap.size := World.block_lt_of_cell? v13 _ ck0
  go_wp2_with fail
  clear ca0 ca1 ca2 fa0 fa1 fa2 hnea
  clear cb0 cb1 cb2 fb0 fb1 fb2 hneb
  clear ck0 ck1 ck2 ck3 ck4 ck5 fk0 fk1 fk2 fk3 fk4 fk5 hnek
  refine (signed_g ng Z (by have h1 := HT6.out.1; have h2 := HK.out.hI; omega) _).mono ?_
  rintro e v14 ⟨rfl, hb14⟩
  obtain ⟨r, hr⟩ : ∃ r, r = (if ng then S + Z else Z) := ⟨_, rfl⟩
  rw [← hr]
  have HRR : Hid (r = (if ng then S + Z else Z)) := hr
  clear hr
  replace Xa : Hid _ := Xa.out.below hb14
  replace Xb : Hid _ := Xb.out.below hb14
  replace Xk : Hid _ := Xk.out.below hb14
  replace HA : Hid _ := HA.out.below hb14
  replace HB : Hid _ := HB.out.below hb14
  replace N11 : Hid (RL v14 p11 m11 x.natAbs) := N11.out.below hb14
  replace N12 : Hid (RL v14 p12 m12 y.natAbs) := N12.out.below hb14
  replace hbw := Below.on hbw hb14
  clear hb14
  obtain ⟨ca0, ca1, ca2, fa0, fa1, fa2⟩ := Xa.out
  have hnea : ga < v14.heap.size := World.block_lt_of_cell? v14 _ ca0
  obtain ⟨cb0, cb1, cb2, fb0, fb1, fb2⟩ := Xb.out
  have hneb : gb < v14.heap.size := World.block_lt_of_cell? v14 _ cb0
  obtain ⟨ck0, ck1, ck2, ck3, ck4, ck5, fk0, fk1, fk2, fk3, fk4, fk5⟩ := Xk.out
  have hnek : gk < v14.heap.size := World.block_lt_of_cell? v14 _ ck0
  go_wp2_with fail
  clear ca0 ca1 ca2 fa0 fa1 fa2 hnea
  clear cb0 cb1 cb2 fb0 fb1 fb2 hneb
  clear ck0 ck1 ck2 ck3 ck4 ck5 fk0 fk1 fk2 fk3 fk4 fk5 hnek
  go_ret2
  exact ⟨⟨Z, by rw [← HRR.out]; rfl, HT6.out⟩, hbw⟩
theorem docrot_n {f : Int} {S : Nat} {P E G : Int} {I Q H : Nat} (R : Rf f S P E G I Q) (K : Sk S P E G I Q H) {pa : Option Addr} {na ca : Nat} {w : World} {x e : Int} (h : DN w false pa na ca e x) (hx : x ≠ 0) (hla : na ≤ 4096) :
    Calls Tryz.prog 56 #[.int .i64 f, DV false pa na ca e] w fun en w' => RtP H I E x.natAbs e en ∧ Below w.heap.size w w' := by
  obtain ⟨xs, hX⟩ := h.zn.ex
  have he : -1048576 ≤ e ∧ e ≤ 1048576 := by rcases h.fm with ⟨_, h2⟩ | ⟨_, h2, h3⟩ <;> omega
  have HR : Hid (Rf f S P E G I Q ∧ formD false xs e = true ∧ 0 < na ∧ na ≤ 4096 ∧ x.natAbs ≠ 0 ∧ (-2500000 ≤ e ∧ e ≤ 2500000) ∧ valB B64 xs = x.natAbs) := ⟨R, dn_formD h hX, num_pos hX (by omega), hla, by omega, by omega, hX.nf.val⟩
  have HK : Hid (Sk S P E G I Q H) := K
  have HA : Hid (At w pa na ca xs) := hX.at_
  clear R h hx hX hla he K
  go_enter Tryz.func56, Tryz.ntmps56
  go_wp2_with fail
  obtain ⟨W0, hW0⟩ : ∃ W0, W0 = (w.alloc (.cells #[.bool false, .slice pa na ca, .int .i64 e] 33)) := ⟨_, rfl⟩
  have Xa : Hid (B3q W0 (w.heap.size) (.bool false) (.slice pa na ca) (.int .i64 e)) := by rw [hW0]; exact ⟨by go_simp, by go_simp, by go_simp, by go_simp, by go_simp, by go_simp⟩
  have hb0 : Below w.heap.size w W0 := by rw [hW0]; exact below1 w _
  rw [← hW0]
  clear hW0
  have hbw : Below w.heap.size w w := Below.refl _ _
  obtain ⟨ga, hga⟩ : ∃ g, g = w.heap.size := ⟨_, rfl⟩
  have HGa : Hid (w.heap.size ≤ ga) := by rw [hga]; show _ ≤ _; omega
  rw [← hga] at Xa
  try rw [← hga]
  clear hga
  replace HA : Hid _ := HA.out.below hb0
  replace hbw := Below.on hbw hb0
  clear hb0
  refine (chk_ok HR.out.1 false false HA.out HA.out HR.out.2.1 HR.out.2.1).mono ?_
  rintro e v1 ⟨rfl, hb1⟩
  replace Xa : Hid _ := Xa.out.below hb1
  replace HA : Hid _ := HA.out.below hb1
  replace hbw := Below.on hbw hb1
  clear hb1
  obtain ⟨ca0, ca1, ca2, fa0, fa1, fa2⟩ := Xa.out
  have hnea : ga < v1.heap.size := World.block_lt_of_cell? v1 _ ca0
  go_wp2_with fail
  clear ca0 ca1 ca2 fa0 fa1 fa2 hnea
  refine (long8_f (by have := HR.out.2.2.2.1; omega)).mono ?_
  rintro e v3 ⟨rfl, hb3⟩
  replace Xa : Hid _ := Xa.out.below hb3
  replace HA : Hid _ := HA.out.below hb3
  replace hbw := Below.on hbw hb3
  clear hb3
  obtain ⟨ca0, ca1, ca2, fa0, fa1, fa2⟩ := Xa.out
  have hnea : ga < v3.heap.size := World.block_lt_of_cell? v3 _ ca0
  go_wp2_with fail
  clear ca0 ca1 ca2 fa0 fa1 fa2 hnea
  refine (nought5 HR.out.2.2.1).mono ?_
  rintro e v5 ⟨rfl, hb5⟩
  replace Xa : Hid _ := Xa.out.below hb5
  replace HA : Hid _ := HA.out.below hb5
  replace hbw := Below.on hbw hb5
  clear hb5
  obtain ⟨ca0, ca1, ca2, fa0, fa1, fa2⟩ := Xa.out
  have hnea : ga < v5.heap.size := World.block_lt_of_cell? v5 _ ca0
  go_wp2_with fail
  clear ca0 ca1 ca2 fa0 fa1 fa2 hnea
  refine (HR.out.1.of _).mono ?_
  rintro e v6 ⟨rfl, hb6⟩
  replace Xa : Hid _ := Xa.out.below hb6
  replace HA : Hid _ := HA.out.below hb6
  replace hbw := Below.on hbw hb6
  clear hb6
  obtain ⟨ca0, ca1, ca2, fa0, fa1, fa2⟩ := Xa.out
  have hnea : ga < v6.heap.size := World.block_lt_of_cell? v6 _ ca0
  go_wp2_with fail
  clear ca0 ca1 ca2 fa0 fa1 fa2 hnea
  have Xk0 : Hid (B6q (v6.alloc (.cells #[U S, .int .i64 P, .int .i64 E, .int .i64 G, U I, U Q] 126)) v6.heap.size (U S) (.int .i64 P) (.int .i64 E) (.int .i64 G) (U I) (U Q)) := B6q.new v6 _ _ _ _ _ _ _
  have hbn : Below v6.heap.size v6 (v6.alloc (.cells #[U S, .int .i64 P, .int .i64 E, .int .i64 G, U I, U Q] 126)) := below1 v6 _
  generalize v6.alloc (.cells #[U S, .int .i64 P, .int .i64 E, .int .i64 G, U I, U Q] 126) = Wk at *
  have HGk : Hid (w.heap.size ≤ v6.heap.size) := hbw.size
  replace Xa : Hid _ := Xa.out.below hbn
  replace HA : Hid _ := HA.out.below hbn
  replace hbw := Below.on hbw hbn
  clear hbn
  generalize v6.heap.size = gk at *
  have Xk := Xk0
  clear Xk0
  obtain ⟨Wr, hWr⟩ : ∃ W1, W1 = Wk.drew := ⟨_, rfl⟩
  have hbd : Below Wk.heap.size Wk Wr := by rw [hWr]; exact bDrew1 (Below.refl _ _)
  replace Xa : Hid _ := Xa.out.below hbd
  replace Xk : Hid _ := Xk.out.below hbd
  replace HA : Hid _ := HA.out.below hbd
  replace hbw := Below.on hbw hbd
  clear hbd
  have HJ : Hid ((fun W' : World => W'.cell? ⟨gk, 0, none⟩ = some (U S) ∧ W'.cell? ⟨gk, 1, none⟩ = some (.int .i64 P) ∧ W'.cell? ⟨gk, 2, none⟩ = some (.int .i64 E) ∧ W'.cell? ⟨gk, 3, none⟩ = some (.int .i64 G) ∧ W'.cell? ⟨gk, 4, none⟩ = some (U I) ∧ W'.cell? ⟨gk, 5, none⟩ = some (U Q) ∧ W'.cell? ⟨ga, 1, none⟩ = some (.slice pa na ca) ∧ W'.cell? ⟨ga, 2, none⟩ = some (.int .i64 e)) Wr) := ⟨Xk.out.c0, Xk.out.c1, Xk.out.c2, Xk.out.c3, Xk.out.c4, Xk.out.c5, Xa.out.c1, Xa.out.c2⟩
  refine wp_region_J (fun W' => W'.cell? ⟨gk, 0, none⟩ = some (U S) ∧ W'.cell? ⟨gk, 1, none⟩ = some (.int .i64 P) ∧ W'.cell? ⟨gk, 2, none⟩ = some (.int .i64 E) ∧ W'.cell? ⟨gk, 3, none⟩ = some (.int .i64 G) ∧ W'.cell? ⟨gk, 4, none⟩ = some (U I) ∧ W'.cell? ⟨gk, 5, none⟩ = some (U Q) ∧ W'.cell? ⟨ga, 1, none⟩ = some (.slice pa na ca) ∧ W'.cell? ⟨ga, 2, none⟩ = some (.int .i64 e)) (by kernel_rfl) ?_
  rw [← hWr]
  clear hWr
  refine wpJ_tq 0 rfl HJ.out ?_
  refine wpJ_tq 1 rfl HJ.out ?_
  refine wpJ_tq 2 rfl HJ.out ?_
  refine wpJ_tq 3 rfl HJ.out ?_
  refine wpJ_tq 6 rfl HJ.out ?_
  go_simp
  refine wpJ_tq 7 rfl HJ.out ?_
  refine wpJ_on 4 rfl fun KJ hK => ?_
  go_simp
  refine (rl_from HA.out (by have := HR.out; omega)).mono ?_
  rintro en v11 ⟨p11, m11, rfl, hn11, hl11, hb11⟩
  rw [HR.out.2.2.2.2.2.2] at hn11
  replace Xa : Hid _ := Xa.out.below hb11
  replace Xk : Hid _ := Xk.out.below hb11
  replace HA : Hid _ := HA.out.below hb11
  replace hbw := Below.on hbw hb11
  clear hb11
  have N11 : Hid (RL v11 p11 m11 x.natAbs) := hn11
  have HL11 : Hid (m11 ≤ 2 * na) := hl11
  clear hn11 hl11
  refine hK _ _ ⟨Xk.out.c0, Xk.out.c1, Xk.out.c2, Xk.out.c3, Xk.out.c4, Xk.out.c5, Xa.out.c1, Xa.out.c2⟩ ?_
  clear hK
  refine wpJ_on 5 rfl fun KJ hK => ?_
  go_simp
  refine (rl_word 1 (by decide) _).mono ?_
  rintro en v12 ⟨p12, m12, rfl, hn12, hl12, hb12⟩
  replace Xa : Hid _ := Xa.out.below hb12
  replace Xk : Hid _ := Xk.out.below hb12
  replace HA : Hid _ := HA.out.below hb12
  replace N11 : Hid (RL v12 p11 m11 x.natAbs) := N11.out.below hb12
  replace hbw := Below.on hbw hb12
  clear hb12
  have N12 : Hid (RL v12 p12 m12 (1)) := hn12
  have HL12 : Hid (m12 ≤ 2) := hl12
  clear hn12 hl12
  clear HJ
  have HJ : Hid ((fun W' : World => W'.cell? ⟨gk, 0, none⟩ = some (U S) ∧ W'.cell? ⟨gk, 1, none⟩ = some (.int .i64 P) ∧ W'.cell? ⟨gk, 2, none⟩ = some (.int .i64 E) ∧ W'.cell? ⟨gk, 3, none⟩ = some (.int .i64 G) ∧ W'.cell? ⟨gk, 4, none⟩ = some (U I) ∧ W'.cell? ⟨gk, 5, none⟩ = some (U Q) ∧ W'.cell? ⟨ga, 1, none⟩ = some (.slice pa na ca) ∧ W'.cell? ⟨ga, 2, none⟩ = some (.int .i64 e)) v12) := ⟨Xk.out.c0, Xk.out.c1, Xk.out.c2, Xk.out.c3, Xk.out.c4, Xk.out.c5, Xa.out.c1, Xa.out.c2⟩
  refine hK _ _ HJ.out ?_
  clear hK
  refine wpJ_tq 8 rfl HJ.out ?_
  refine wpJ_on 9 rfl fun KJ hK => ?_
  go_simp
  refine (size_g HK.out N11.out N12.out (up_rot (E := E)) (by show dN 0 (2 * (E - 1)) ≤ _; rw [dN_zero]; exact Nat.zero_le _) (hold_rot HR.out.2.2.2.2.1 HK.out.lo HR.out.2.2.2.2.2.1 (by have := HL12.out; omega))).mono ?_
  rintro en v13 ⟨Z, rfl, ht6, hb13⟩
  have HT6 : Hid (Trc (fun z => cmpN (dN x.natAbs e) (dN (hv H z * hv H z * 1) (2 * (E - 1)))) I Z) := ht6
  clear ht6
  replace Xa : Hid _ := Xa.out.below hb13
  replace Xk : Hid _ := Xk.out.below hb13
  replace HA : Hid _ := HA.out.below hb13
  replace N11 : Hid (RL v13 p11 m11 x.natAbs) := N11.out.below hb13
  replace N12 : Hid (RL v13 p12 m12 (1)) := N12.out.below hb13
  replace hbw := Below.on hbw hb13
  clear hb13
  clear HJ
  have HJ : Hid ((fun W' : World => W'.cell? ⟨gk, 0, none⟩ = some (U S) ∧ W'.cell? ⟨gk, 1, none⟩ = some (.int .i64 P) ∧ W'.cell? ⟨gk, 2, none⟩ = some (.int .i64 E) ∧ W'.cell? ⟨gk, 3, none⟩ = some (.int .i64 G) ∧ W'.cell? ⟨gk, 4, none⟩ = some (U I) ∧ W'.cell? ⟨gk, 5, none⟩ = some (U Q) ∧ W'.cell? ⟨ga, 1, none⟩ = some (.slice pa na ca) ∧ W'.cell? ⟨ga, 2, none⟩ = some (.int .i64 e)) v13) := ⟨Xk.out.c0, Xk.out.c1, Xk.out.c2, Xk.out.c3, Xk.out.c4, Xk.out.c5, Xa.out.c1, Xa.out.c2⟩
  refine hK _ _ HJ.out ?_
  clear hK
  refine wpJ_tq 10 rfl HJ.out ?_
  refine wpJ_tq 11 rfl HJ.out ?_
  go_simp
  refine wpJ_done (by kernel_rfl) ?_ _
  clear HJ
  obtain ⟨ca0, ca1, ca2, fa0, fa1, fa2⟩ := Xa.out
  have hnea : ga < v13.heap.size := World.block_lt_of_cell? v13 _ ca0
  obtain ⟨ck0, ck1, ck2, ck3, ck4, ck5, fk0, fk1, fk2, fk3, fk4, fk5⟩ := Xk.out
  have hnek : gk < v13.heap.size := World.block_lt_of_cell? v13 _ ck0
  go_wp2_with fail
  clear ca0 ca1 ca2 fa0 fa1 fa2 hnea
  clear ck0 ck1 ck2 ck3 ck4 ck5 fk0 fk1 fk2 fk3 fk4 fk5 hnek
  go_ret2
  exact ⟨⟨Z, rfl, HT6.out⟩, hbw⟩
end Go.Proofs.YtfmbifocgljieaaGreatDoor
