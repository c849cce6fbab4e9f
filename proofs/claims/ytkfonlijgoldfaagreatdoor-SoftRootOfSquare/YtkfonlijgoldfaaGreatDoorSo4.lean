import Derived.Test.YtkfonlijgoldfaaGreatDoorJ18
import Derived.Test.YtkfonlijgoldfaaGreatDoorJ17
import Derived.Test.YtkfonlijgoldfaaGreatDoorJ13
namespace Go.Proofs.YtkfonlijgoldfaaGreatDoor
open Go.RowKit Go.Shelf

theorem OpV.iface {w : World} {v : Value} {o : Opd} (h : OpV w v o) : ∃ t x, v = .iface t x := by
  rcases h with ⟨h, _⟩ | ⟨s, h, _⟩ | ⟨s, h, _⟩ | ⟨s, p, m, c, e, x, h, _⟩ <;> exact ⟨_, _, h⟩
theorem ta_nan_nan (v : Value) (w : World) : Sem.run Tryz.prog (Instr.typeAssert (.iface 63 v) 45 63 true) w = .ok (.tuple #[v, .bool true]) w := by kernel_rfl
theorem ta_nan_inf (v : Value) (w : World) : Sem.run Tryz.prog (Instr.typeAssert (.iface 63 v) 45 61 true) w = .ok (.tuple #[.agg #[.bool false], .bool false]) w := by kernel_rfl
theorem ta_nan_no (v : Value) (w : World) : Sem.run Tryz.prog (Instr.typeAssert (.iface 63 v) 45 64 true) w = .ok (.tuple #[.agg #[.bool false], .bool false]) w := by kernel_rfl
theorem ta_nan_fin (v : Value) (w : World) : Sem.run Tryz.prog (Instr.typeAssert (.iface 63 v) 45 71 true) w = .ok (.tuple #[.agg #[.bool false, .slice none 0 0, .int .i64 0], .bool false]) w := by kernel_rfl
theorem ta_inf_nan (v : Value) (w : World) : Sem.run Tryz.prog (Instr.typeAssert (.iface 61 v) 45 63 true) w = .ok (.tuple #[.agg #[], .bool false]) w := by kernel_rfl
theorem ta_inf_inf (v : Value) (w : World) : Sem.run Tryz.prog (Instr.typeAssert (.iface 61 v) 45 61 true) w = .ok (.tuple #[v, .bool true]) w := by kernel_rfl
theorem ta_inf_no (v : Value) (w : World) : Sem.run Tryz.prog (Instr.typeAssert (.iface 61 v) 45 64 true) w = .ok (.tuple #[.agg #[.bool false], .bool false]) w := by kernel_rfl
theorem ta_inf_fin (v : Value) (w : World) : Sem.run Tryz.prog (Instr.typeAssert (.iface 61 v) 45 71 true) w = .ok (.tuple #[.agg #[.bool false, .slice none 0 0, .int .i64 0], .bool false]) w := by kernel_rfl
theorem ta_no_nan (v : Value) (w : World) : Sem.run Tryz.prog (Instr.typeAssert (.iface 64 v) 45 63 true) w = .ok (.tuple #[.agg #[], .bool false]) w := by kernel_rfl
theorem ta_no_inf (v : Value) (w : World) : Sem.run Tryz.prog (Instr.typeAssert (.iface 64 v) 45 61 true) w = .ok (.tuple #[.agg #[.bool false], .bool false]) w := by kernel_rfl
theorem ta_no_no (v : Value) (w : World) : Sem.run Tryz.prog (Instr.typeAssert (.iface 64 v) 45 64 true) w = .ok (.tuple #[v, .bool true]) w := by kernel_rfl
theorem ta_no_fin (v : Value) (w : World) : Sem.run Tryz.prog (Instr.typeAssert (.iface 64 v) 45 71 true) w = .ok (.tuple #[.agg #[.bool false, .slice none 0 0, .int .i64 0], .bool false]) w := by kernel_rfl
theorem ta_fin_nan (v : Value) (w : World) : Sem.run Tryz.prog (Instr.typeAssert (.iface 71 v) 45 63 true) w = .ok (.tuple #[.agg #[], .bool false]) w := by kernel_rfl
theorem ta_fin_inf (v : Value) (w : World) : Sem.run Tryz.prog (Instr.typeAssert (.iface 71 v) 45 61 true) w = .ok (.tuple #[.agg #[.bool false], .bool false]) w := by kernel_rfl
theorem ta_fin_no (v : Value) (w : World) : Sem.run Tryz.prog (Instr.typeAssert (.iface 71 v) 45 64 true) w = .ok (.tuple #[.agg #[.bool false], .bool false]) w := by kernel_rfl
theorem ta_fin_fin (v : Value) (w : World) : Sem.run Tryz.prog (Instr.typeAssert (.iface 71 v) 45 71 true) w = .ok (.tuple #[v, .bool true]) w := by kernel_rfl
set_option maxRecDepth 20000 in
set_option maxHeartbeats 8000000 in
theorem sum_nan_nan  (w : World) :
    Calls Tryz.prog 19 #[VNan, VNan] w fun en w' => en = .returned VNan ∧ Below w.heap.size w w' := by
  have hanan := ta_nan_nan
  have hainf := ta_nan_inf
  have hano := ta_nan_no
  have hafin := ta_nan_fin
  go_enter Tryz.func19, Tryz.ntmps19
  go_wp2_with fail
  go_ret
  exact ⟨rfl, by first | exact Below.refl _ _ | exact below1 w _ | exact below2 w _ _ | exact below3 w _ _ _⟩
set_option maxRecDepth 20000 in
set_option maxHeartbeats 8000000 in
theorem sum_nan_inf (s2 : Bool) (w : World) :
    Calls Tryz.prog 19 #[VNan, VInf s2] w fun en w' => en = .returned VNan ∧ Below w.heap.size w w' := by
  have hanan := ta_nan_nan
  have hainf := ta_nan_inf
  have hano := ta_nan_no
  have hafin := ta_nan_fin
  have hbnan := ta_inf_nan
  have hbinf := ta_inf_inf
  have hbno := ta_inf_no
  have hbfin := ta_inf_fin
  go_enter Tryz.func19, Tryz.ntmps19
  go_wp2_with fail
  go_ret
  exact ⟨rfl, by first | exact Below.refl _ _ | exact below1 w _ | exact below2 w _ _ | exact below3 w _ _ _⟩
set_option maxRecDepth 20000 in
set_option maxHeartbeats 8000000 in
theorem sum_nan_no (s2 : Bool) (w : World) :
    Calls Tryz.prog 19 #[VNan, VNo s2] w fun en w' => en = .returned VNan ∧ Below w.heap.size w w' := by
  have hanan := ta_nan_nan
  have hainf := ta_nan_inf
  have hano := ta_nan_no
  have hafin := ta_nan_fin
  have hbnan := ta_no_nan
  have hbinf := ta_no_inf
  have hbno := ta_no_no
  have hbfin := ta_no_fin
  go_enter Tryz.func19, Tryz.ntmps19
  go_wp2_with fail
  go_ret
  exact ⟨rfl, by first | exact Below.refl _ _ | exact below1 w _ | exact below2 w _ _ | exact below3 w _ _ _⟩
set_option maxRecDepth 20000 in
set_option maxHeartbeats 8000000 in
theorem sum_nan_fin (s2 : Bool) (p2 : Option Addr) (m2 c2 : Nat) (e2 : Int) (w : World) :
    Calls Tryz.prog 19 #[VNan, VFin s2 p2 m2 c2 e2] w fun en w' => en = .returned VNan ∧ Below w.heap.size w w' := by
  have hanan := ta_nan_nan
  have hainf := ta_nan_inf
  have hano := ta_nan_no
  have hafin := ta_nan_fin
  have hbnan := ta_fin_nan
  have hbinf := ta_fin_inf
  have hbno := ta_fin_no
  have hbfin := ta_fin_fin
  go_enter Tryz.func19, Tryz.ntmps19
  go_wp2_with fail
  go_ret
  exact ⟨rfl, by first | exact Below.refl _ _ | exact below1 w _ | exact below2 w _ _ | exact below3 w _ _ _⟩
set_option maxRecDepth 20000 in
set_option maxHeartbeats 8000000 in
theorem sum_inf_nan (s1 : Bool) (w : World) :
    Calls Tryz.prog 19 #[VInf s1, VNan] w fun en w' => en = .returned VNan ∧ Below w.heap.size w w' := by
  have hanan := ta_inf_nan
  have hainf := ta_inf_inf
  have hano := ta_inf_no
  have hafin := ta_inf_fin
  have hbnan := ta_nan_nan
  have hbinf := ta_nan_inf
  have hbno := ta_nan_no
  have hbfin := ta_nan_fin
  go_enter Tryz.func19, Tryz.ntmps19
  go_wp2_with fail
  go_ret
  exact ⟨rfl, by first | exact Below.refl _ _ | exact below1 w _ | exact below2 w _ _ | exact below3 w _ _ _⟩
set_option maxRecDepth 20000 in
set_option maxHeartbeats 8000000 in
theorem sum_inf_inf (s1 : Bool) (s2 : Bool) (w : World) :
    Calls Tryz.prog 19 #[VInf s1, VInf s2] w fun en w' => en = .returned (if s1 = s2 then VInf s1 else VNan) ∧ Below w.heap.size w w' := by
  have hanan := ta_inf_nan
  have hainf := ta_inf_inf
  have hano := ta_inf_no
  have hafin := ta_inf_fin
  go_enter Tryz.func19, Tryz.ntmps19
  go_wp2_with fail
  all_goals first | (go_ret; refine ⟨?_, ?_⟩; (first | rfl | (cases s1 <;> cases s2 <;> first | rfl | simp_all)); first | exact Below.refl _ _ | exact below1 w _ | exact below2 w _ _ | exact below3 w _ _ _) | skip
set_option maxRecDepth 20000 in
set_option maxHeartbeats 8000000 in
theorem sum_inf_no (s1 : Bool) (s2 : Bool) (w : World) :
    Calls Tryz.prog 19 #[VInf s1, VNo s2] w fun en w' => en = .returned (VInf s1) ∧ Below w.heap.size w w' := by
  have hanan := ta_inf_nan
  have hainf := ta_inf_inf
  have hano := ta_inf_no
  have hafin := ta_inf_fin
  have hbnan := ta_no_nan
  have hbinf := ta_no_inf
  have hbno := ta_no_no
  have hbfin := ta_no_fin
  go_enter Tryz.func19, Tryz.ntmps19
  go_wp2_with fail
  go_ret
  exact ⟨rfl, by first | exact Below.refl _ _ | exact below1 w _ | exact below2 w _ _ | exact below3 w _ _ _⟩
set_option maxRecDepth 20000 in
set_option maxHeartbeats 8000000 in
theorem sum_inf_fin (s1 : Bool) (s2 : Bool) (p2 : Option Addr) (m2 c2 : Nat) (e2 : Int) (w : World) :
    Calls Tryz.prog 19 #[VInf s1, VFin s2 p2 m2 c2 e2] w fun en w' => en = .returned (VInf s1) ∧ Below w.heap.size w w' := by
  have hanan := ta_inf_nan
  have hainf := ta_inf_inf
  have hano := ta_inf_no
  have hafin := ta_inf_fin
  have hbnan := ta_fin_nan
  have hbinf := ta_fin_inf
  have hbno := ta_fin_no
  have hbfin := ta_fin_fin
  go_enter Tryz.func19, Tryz.ntmps19
  go_wp2_with fail
  go_ret
  exact ⟨rfl, by first | exact Below.refl _ _ | exact below1 w _ | exact below2 w _ _ | exact below3 w _ _ _⟩
set_option maxRecDepth 20000 in
set_option maxHeartbeats 8000000 in
theorem sum_no_nan (s1 : Bool) (w : World) :
    Calls Tryz.prog 19 #[VNo s1, VNan] w fun en w' => en = .returned VNan ∧ Below w.heap.size w w' := by
  have hanan := ta_no_nan
  have hainf := ta_no_inf
  have hano := ta_no_no
  have hafin := ta_no_fin
  have hbnan := ta_nan_nan
  have hbinf := ta_nan_inf
  have hbno := ta_nan_no
  have hbfin := ta_nan_fin
  go_enter Tryz.func19, Tryz.ntmps19
  go_wp2_with fail
  go_ret
  exact ⟨rfl, by first | exact Below.refl _ _ | exact below1 w _ | exact below2 w _ _ | exact below3 w _ _ _⟩
set_option maxRecDepth 20000 in
set_option maxHeartbeats 8000000 in
theorem sum_no_inf (s1 : Bool) (s2 : Bool) (w : World) :
    Calls Tryz.prog 19 #[VNo s1, VInf s2] w fun en w' => en = .returned (VInf s2) ∧ Below w.heap.size w w' := by
  have hanan := ta_no_nan
  have hainf := ta_no_inf
  have hano := ta_no_no
  have hafin := ta_no_fin
  have hbnan := ta_inf_nan
  have hbinf := ta_inf_inf
  have hbno := ta_inf_no
  have hbfin := ta_inf_fin
  go_enter Tryz.func19, Tryz.ntmps19
  go_wp2_with fail
  go_ret
  exact ⟨rfl, by first | exact Below.refl _ _ | exact below1 w _ | exact below2 w _ _ | exact below3 w _ _ _⟩
set_option maxRecDepth 20000 in
set_option maxHeartbeats 8000000 in
theorem sum_no_no_t (s2 : Bool) (w : World) :
    Calls Tryz.prog 19 #[VNo true, VNo s2] w fun en w' => en = .returned (VNo s2) ∧ Below w.heap.size w w' := by
  have hanan := ta_no_nan
  have hainf := ta_no_inf
  have hano := ta_no_no
  have hafin := ta_no_fin
  go_enter Tryz.func19, Tryz.ntmps19
  go_wp2_with fail
  go_ret
  exact ⟨rfl, by first | exact Below.refl _ _ | exact below1 w _ | exact below2 w _ _ | exact below3 w _ _ _⟩
set_option maxRecDepth 20000 in
set_option maxHeartbeats 8000000 in
theorem sum_no_no_f (s2 : Bool) (w : World) :
    Calls Tryz.prog 19 #[VNo false, VNo s2] w fun en w' => en = .returned (VNo false) ∧ Below w.heap.size w w' := by
  have hanan := ta_no_nan
  have hainf := ta_no_inf
  have hano := ta_no_no
  have hafin := ta_no_fin
  go_enter Tryz.func19, Tryz.ntmps19
  go_wp2_with fail
  go_ret
  exact ⟨rfl, by first | exact Below.refl _ _ | exact below1 w _ | exact below2 w _ _ | exact below3 w _ _ _⟩
theorem sum_no_no (s1 s2 : Bool) (w : World) :
    Calls Tryz.prog 19 #[VNo s1, VNo s2] w fun en w' => en = .returned (VNo (s1 && s2)) ∧ Below w.heap.size w w' := by
  cases s1
  · exact sum_no_no_f s2 w
  · exact sum_no_no_t s2 w
set_option maxRecDepth 20000 in
set_option maxHeartbeats 8000000 in
theorem sum_no_fin (s1 : Bool) (s2 : Bool) (p2 : Option Addr) (m2 c2 : Nat) (e2 : Int) (w : World) :
    Calls Tryz.prog 19 #[VNo s1, VFin s2 p2 m2 c2 e2] w fun en w' => en = .returned (VFin s2 p2 m2 c2 e2) ∧ Below w.heap.size w w' := by
  have hanan := ta_no_nan
  have hainf := ta_no_inf
  have hano := ta_no_no
  have hafin := ta_no_fin
  have hbnan := ta_fin_nan
  have hbinf := ta_fin_inf
  have hbno := ta_fin_no
  have hbfin := ta_fin_fin
  go_enter Tryz.func19, Tryz.ntmps19
  go_wp2_with fail
  go_ret
  exact ⟨rfl, by first | exact Below.refl _ _ | exact below1 w _ | exact below2 w _ _ | exact below3 w _ _ _⟩
set_option maxRecDepth 20000 in
set_option maxHeartbeats 8000000 in
theorem sum_fin_nan (s1 : Bool) (p1 : Option Addr) (m1 c1 : Nat) (e1 : Int) (w : World) :
    Calls Tryz.prog 19 #[VFin s1 p1 m1 c1 e1, VNan] w fun en w' => en = .returned VNan ∧ Below w.heap.size w w' := by
  have hanan := ta_fin_nan
  have hainf := ta_fin_inf
  have hano := ta_fin_no
  have hafin := ta_fin_fin
  have hbnan := ta_nan_nan
  have hbinf := ta_nan_inf
  have hbno := ta_nan_no
  have hbfin := ta_nan_fin
  go_enter Tryz.func19, Tryz.ntmps19
  go_wp2_with fail
  go_ret
  exact ⟨rfl, by first | exact Below.refl _ _ | exact below1 w _ | exact below2 w _ _ | exact below3 w _ _ _⟩
set_option maxRecDepth 20000 in
set_option maxHeartbeats 8000000 in
theorem sum_fin_inf (s1 : Bool) (s2 : Bool) (p1 : Option Addr) (m1 c1 : Nat) (e1 : Int) (w : World) :
    Calls Tryz.prog 19 #[VFin s1 p1 m1 c1 e1, VInf s2] w fun en w' => en = .returned (VInf s2) ∧ Below w.heap.size w w' := by
  have hanan := ta_fin_nan
  have hainf := ta_fin_inf
  have hano := ta_fin_no
  have hafin := ta_fin_fin
  have hbnan := ta_inf_nan
  have hbinf := ta_inf_inf
  have hbno := ta_inf_no
  have hbfin := ta_inf_fin
  go_enter Tryz.func19, Tryz.ntmps19
  go_wp2_with fail
  go_ret
  exact ⟨rfl, by first | exact Below.refl _ _ | exact below1 w _ | exact below2 w _ _ | exact below3 w _ _ _⟩
set_option maxRecDepth 20000 in
set_option maxHeartbeats 8000000 in
theorem sum_fin_no (s1 : Bool) (s2 : Bool) (p1 : Option Addr) (m1 c1 : Nat) (e1 : Int) (w : World) :
    Calls Tryz.prog 19 #[VFin s1 p1 m1 c1 e1, VNo s2] w fun en w' => en = .returned (VFin s1 p1 m1 c1 e1) ∧ Below w.heap.size w w' := by
  have hanan := ta_fin_nan
  have hainf := ta_fin_inf
  have hano := ta_fin_no
  have hafin := ta_fin_fin
  have hbnan := ta_no_nan
  have hbinf := ta_no_inf
  have hbno := ta_no_no
  have hbfin := ta_no_fin
  go_enter Tryz.func19, Tryz.ntmps19
  go_wp2_with fail
  go_ret
  exact ⟨rfl, by first | exact Below.refl _ _ | exact below1 w _ | exact below2 w _ _ | exact below3 w _ _ _⟩
set_option maxRecDepth 20000 in
set_option maxHeartbeats 8000000 in
theorem finsum {s t : Bool} {p q : Option Addr} {m c n d : Nat} {e f x y : Int} {w : World} (h : DN w s p m c e x) (k : DN w t q n d f y) {K E : Nat} (bx : DB x e K E) (by_ : DB y f K E) (hK : K + 2 * E + 1 ≤ 524288) (hx : x ≠ 0) (hy : y ≠ 0) (hT : Tab w) :
    Calls Tryz.prog 29 #[.agg #[.bool s, .slice p m c, .int .i64 e], .agg #[.bool t, .slice q n d, .int .i64 f]] w fun en w' => ∃ v o, en = .returned v ∧ OpV w' v o ∧ SumO (ofin x e) (ofin y f) o ∧ (o = ono false ∨ ∃ z g, o = ofin z g ∧ DB z g (K + 2 * E + 1) (K + 3 * E + 1)) ∧ Below w.heap.size w w' := by
  have A : Hid (DN w s p m c e x) := h
  have B : Hid (DN w t q n d f y) := k
  have BX : Hid (DB x e K E) := bx
  have BY : Hid (DB y f K E) := by_
  have HK : Hid (K + 2 * E + 1 ≤ 524288) := hK
  have HXY : Hid (x ≠ 0 ∧ y ≠ 0) := ⟨hx, hy⟩
  have TB : Hid (Tab w) := hT
  clear h k bx by_ hK hx hy hT
  go_enter Tryz.func29, Tryz.ntmps29
  go_wp2_with fail
  obtain ⟨W0, hW0⟩ : ∃ W0, W0 = ((w.alloc (.cells #[.bool s, .slice p m c, .int .i64 e] 71)).alloc (.cells #[.bool t, .slice q n d, .int .i64 f] 71)) := ⟨_, rfl⟩
  have Xx : Hid (B3q W0 (w.heap.size) (.bool s) (.slice p m c) (.int .i64 e)) := by rw [hW0]; exact ⟨by go_simp, by go_simp, by go_simp, by go_simp, by go_simp, by go_simp⟩
  have Xy : Hid (B3q W0 (w.heap.size + 1) (.bool t) (.slice q n d) (.int .i64 f)) := by rw [hW0]; exact ⟨by go_simp, by go_simp, by go_simp, by go_simp, by go_simp, by go_simp⟩
  have hb0 : Below w.heap.size w W0 := by rw [hW0]; exact below2 w _ _
  rw [← hW0]
  clear hW0
  have hbw : Below w.heap.size w w := Below.refl _ _
  obtain ⟨gy, hgy⟩ : ∃ g, g = w.heap.size + 1 := ⟨_, rfl⟩
  have HGy : Hid (w.heap.size ≤ gy) := by rw [hgy]; show _ ≤ _; omega
  rw [← hgy] at Xy
  try rw [← hgy]
  obtain ⟨gx, hgx⟩ : ∃ g, g = w.heap.size := ⟨_, rfl⟩
  have HGx : Hid (w.heap.size ≤ gx) := by rw [hgx]; show _ ≤ _; omega
  rw [← hgx] at Xx
  try rw [← hgx]
  have HGD : Hid (gx ≠ gy ∧ gy ≠ gx) := by rw [hgx, hgy]; exact ⟨by omega, by omega⟩
  clear hgx hgy
  replace hbw := Below.on hbw hb0
  clear hb0
  refine (dadd_b (A.out.below hbw) (B.out.below hbw) BX.out BY.out HK.out (TB.out.below hbw)).mono ?_
  rintro e9 v1 ⟨v, zo, eo, rfl, hv, hdb, hdv, hb1⟩
  obtain ⟨s1, p1, m1, rfl, hd1⟩ := hv.dn hdb.fm
  clear hv
  replace Xx : Hid _ := Xx.out.below hb1
  replace Xy : Hid _ := Xy.out.below hb1
  replace hbw := Below.on hbw hb1
  clear hb1
  have D1 : Hid (DN v1 s1 p1 m1 m1 eo zo) := hd1
  have HB1 : Hid (DB zo eo (K + 2 * E + 1) (K + 3 * E + 1) ∧ dv zo eo = dv x e + dv y f) := ⟨hdb, hdv⟩
  clear hd1 hdb hdv
  obtain ⟨cx0, cx1, cx2, fx0, fx1, fx2⟩ := Xx.out
  have hnex : gx < v1.heap.size := World.block_lt_of_cell? v1 _ cx0
  obtain ⟨cy0, cy1, cy2, fy0, fy1, fy2⟩ := Xy.out
  have hney : gy < v1.heap.size := World.block_lt_of_cell? v1 _ cy0
  go_wp2_with fail
  clear cx0 cx1 cx2 fx0 fx1 fx2 hnex
  clear cy0 cy1 cy2 fy0 fy1 fy2 hney
  have Xd0 : Hid (B3q (v1.alloc (.cells #[.bool s1, .slice p1 m1 m1, .int .i64 eo] 69)) v1.heap.size (.bool s1) (.slice p1 m1 m1) (.int .i64 eo)) := B3q.new v1 _ _ _ _
  have hbn : Below v1.heap.size v1 (v1.alloc (.cells #[.bool s1, .slice p1 m1 m1, .int .i64 eo] 69)) := below1 v1 _
  generalize v1.alloc (.cells #[.bool s1, .slice p1 m1 m1, .int .i64 eo] 69) = Wd at *
  have HGd : Hid (w.heap.size ≤ v1.heap.size) := hbw.size
  replace Xx : Hid _ := Xx.out.below hbn
  replace Xy : Hid _ := Xy.out.below hbn
  replace D1 : Hid _ := D1.out.below hbn
  replace hbw := Below.on hbw hbn
  clear hbn
  generalize v1.heap.size = gd at *
  have Xd := Xd0
  clear Xd0
  by_cases h0 : zo = 0
  · have HZ : Hid (zo = 0) := h0
    clear h0
    refine (zsign D1.out.zn).mono ?_
    rintro e v2 ⟨rfl, hb2⟩
    rw [show sgnI zo = 0 from by rw [HZ.out]; rfl]
    replace Xx : Hid _ := Xx.out.below hb2
    replace Xy : Hid _ := Xy.out.below hb2
    replace Xd : Hid _ := Xd.out.below hb2
    replace D1 : Hid _ := D1.out.below hb2
    replace hbw := Below.on hbw hb2
    clear hb2
    obtain ⟨cd0, cd1, cd2, fd0, fd1, fd2⟩ := Xd.out
    have hned : gd < v2.heap.size := World.block_lt_of_cell? v2 _ cd0
    go_wp2_with fail
    clear cd0 cd1 cd2 fd0 fd1 fd2 hned
    go_ret
    refine ⟨VNo false, ono false, rfl, .inr (.inr (.inl ⟨false, rfl, rfl⟩)), ?_, .inl rfl, by first | exact hbw | exact Below.on hbw (below1 _ _)⟩
    refine .inr (.inr (.inr (.inr (.inr (.inr ⟨⟨rfl, rfl⟩, .inl ⟨?_, rfl⟩⟩)))))
    show dv x e + dv y f = 0
    rw [← HB1.out.2, HZ.out, dv_zero]
  · have HZ : Hid (zo ≠ 0) := h0
    have hsg : (sgnI zo == 0) = false := by
      have : sgnI zo ≠ 0 := by rcases sgn3 zo with ⟨_, h2⟩ | ⟨h1, _⟩ | ⟨_, h2⟩ <;> omega
      simp [this]
    obtain ⟨sz, hsz⟩ : ∃ sz, sz = sgnI zo := ⟨_, rfl⟩
    rw [← hsz] at hsg
    have HSZ : Hid (sgnI zo = sz) := hsz.symm
    clear h0 hsz
    refine (zsign D1.out.zn).mono ?_
    rintro e v2 ⟨rfl, hb2⟩
    rw [HSZ.out]
    replace Xx : Hid _ := Xx.out.below hb2
    replace Xy : Hid _ := Xy.out.below hb2
    replace Xd : Hid _ := Xd.out.below hb2
    replace D1 : Hid _ := D1.out.below hb2
    replace hbw := Below.on hbw hb2
    clear hb2
    obtain ⟨cd0, cd1, cd2, fd0, fd1, fd2⟩ := Xd.out
    have hned : gd < v2.heap.size := World.block_lt_of_cell? v2 _ cd0
    go_wp2_with fail
    clear cd0 cd1 cd2 fd0 fd1 fd2 hned
    go_ret
    refine ⟨VFin s1 p1 m1 m1 eo, ofin zo eo, rfl, .inr (.inr (.inr ⟨s1, p1, m1, m1, eo, zo, rfl, by first | exact D1.out | exact D1.out.below (below1 _ _), HZ.out, rfl⟩)), ?_, .inr ⟨zo, eo, rfl, HB1.out.1⟩, by first | exact hbw | exact Below.on hbw (below1 _ _)⟩
    exact .inr (.inr (.inr (.inr (.inr (.inr ⟨⟨rfl, rfl⟩, .inr ⟨zo, eo, HB1.out.1.fm, HZ.out, HB1.out.2, rfl⟩⟩)))))
set_option maxRecDepth 20000 in
set_option maxHeartbeats 8000000 in
theorem sum_fin_fin {s t : Bool} {p q : Option Addr} {m c n d : Nat} {e f x y : Int} {w : World} (h : DN w s p m c e x) (k : DN w t q n d f y) {K E : Nat} (bx : DB x e K E) (by_ : DB y f K E) (hK : K + 2 * E + 1 ≤ 524288) (hx : x ≠ 0) (hy : y ≠ 0) (hT : Tab w) :
    Calls Tryz.prog 19 #[VFin s p m c e, VFin t q n d f] w fun en w' => ∃ v o, en = .returned v ∧ OpV w' v o ∧ SumO (ofin x e) (ofin y f) o ∧ (o = ono false ∨ ∃ z g, o = ofin z g ∧ DB z g (K + 2 * E + 1) (K + 3 * E + 1)) ∧ Below w.heap.size w w' := by
  have hanan := ta_fin_nan
  have hainf := ta_fin_inf
  have hano := ta_fin_no
  have hafin := ta_fin_fin
  have A : Hid (DN w s p m c e x) := h
  have B : Hid (DN w t q n d f y) := k
  have BX : Hid (DB x e K E) := bx
  have BY : Hid (DB y f K E) := by_
  have HK : Hid (K + 2 * E + 1 ≤ 524288) := hK
  have HXY : Hid (x ≠ 0 ∧ y ≠ 0) := ⟨hx, hy⟩
  have TB : Hid (Tab w) := hT
  clear h k bx by_ hK hx hy hT
  go_enter Tryz.func19, Tryz.ntmps19
  go_wp2_with fail
  have hb2 := below2 w (.cells #[.bool s, .slice p m c, .int .i64 e] 71) (.cells #[.bool t, .slice q n d, .int .i64 f] 71)
  refine (finsum (A.out.below hb2) (B.out.below hb2) BX.out BY.out HK.out HXY.out.1 HXY.out.2 (TB.out.below hb2)).mono ?_
  rintro e9 v3 ⟨v, o, rfl, ho, hs, hdb, hb3⟩
  obtain ⟨vt, vx, rfl⟩ := ho.iface
  have HF : Hid (OpV v3 (.iface vt vx) o ∧ SumO (ofin x e) (ofin y f) o ∧ (o = ono false ∨ ∃ z g, o = ofin z g ∧ DB z g (K + 2 * E + 1) (K + 3 * E + 1))) := ⟨ho, hs, hdb⟩
  have hbw := Below.on hb2 hb3
  clear ho hs hdb hb2 hb3
  go_wp2_with fail
  go_ret
  exact ⟨_, o, rfl, HF.out.1, HF.out.2.1, HF.out.2.2, hbw⟩
end Go.Proofs.YtkfonlijgoldfaaGreatDoor

