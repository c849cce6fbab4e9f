import Derived.Test.YtmhkabomabkkfaaGreatDoorJ15
import Derived.Test.YtmhkabomabkkfaaGreatDoorJ13
import Derived.Test.YtmhkabomabkkfaaGreatDoorJ14
import Derived.Test.YtmhkabomabkkfaaGreatDoorJ12
namespace Go.Proofs.YtmhkabomabkkfaaGreatDoor
open Go.RowKit Go.Shelf
set_option maxRecDepth 20000
set_option maxHeartbeats 0
theorem OpV.iface {w : World} {v : Value} {o : Opd} (h : OpV w v o) : ∃ t x, v = .iface t x := by
  rcases h with ⟨h, _⟩ | ⟨s, h, _⟩ | ⟨s, h, _⟩ | ⟨s, p, m, c, e, x, h, _⟩ <;> exact ⟨_, _, h⟩
theorem ta_nan_nan (v : Value) (w : World) : Sem.run Tryz.prog (Instr.typeAssert (.iface 118 v) 66 118 true) w = .ok (.tuple #[v, .bool true]) w := by kernel_rfl
theorem ta_nan_inf (v : Value) (w : World) : Sem.run Tryz.prog (Instr.typeAssert (.iface 118 v) 66 116 true) w = .ok (.tuple #[.agg #[.bool false], .bool false]) w := by kernel_rfl
theorem ta_nan_no (v : Value) (w : World) : Sem.run Tryz.prog (Instr.typeAssert (.iface 118 v) 66 119 true) w = .ok (.tuple #[.agg #[.bool false], .bool false]) w := by kernel_rfl
theorem ta_nan_fin (v : Value) (w : World) : Sem.run Tryz.prog (Instr.typeAssert (.iface 118 v) 66 122 true) w = .ok (.tuple #[.agg #[.bool false, .slice none 0 0, .int .i64 0], .bool false]) w := by kernel_rfl
theorem ta_inf_nan (v : Value) (w : World) : Sem.run Tryz.prog (Instr.typeAssert (.iface 116 v) 66 118 true) w = .ok (.tuple #[.agg #[], .bool false]) w := by kernel_rfl
theorem ta_inf_inf (v : Value) (w : World) : Sem.run Tryz.prog (Instr.typeAssert (.iface 116 v) 66 116 true) w = .ok (.tuple #[v, .bool true]) w := by kernel_rfl
theorem ta_inf_no (v : Value) (w : World) : Sem.run Tryz.prog (Instr.typeAssert (.iface 116 v) 66 119 true) w = .ok (.tuple #[.agg #[.bool false], .bool false]) w := by kernel_rfl
theorem ta_inf_fin (v : Value) (w : World) : Sem.run Tryz.prog (Instr.typeAssert (.iface 116 v) 66 122 true) w = .ok (.tuple #[.agg #[.bool false, .slice none 0 0, .int .i64 0], .bool false]) w := by kernel_rfl
theorem ta_no_nan (v : Value) (w : World) : Sem.run Tryz.prog (Instr.typeAssert (.iface 119 v) 66 118 true) w = .ok (.tuple #[.agg #[], .bool false]) w := by kernel_rfl
theorem ta_no_inf (v : Value) (w : World) : Sem.run Tryz.prog (Instr.typeAssert (.iface 119 v) 66 116 true) w = .ok (.tuple #[.agg #[.bool false], .bool false]) w := by kernel_rfl
theorem ta_no_no (v : Value) (w : World) : Sem.run Tryz.prog (Instr.typeAssert (.iface 119 v) 66 119 true) w = .ok (.tuple #[v, .bool true]) w := by kernel_rfl
theorem ta_no_fin (v : Value) (w : World) : Sem.run Tryz.prog (Instr.typeAssert (.iface 119 v) 66 122 true) w = .ok (.tuple #[.agg #[.bool false, .slice none 0 0, .int .i64 0], .bool false]) w := by kernel_rfl
theorem ta_fin_nan (v : Value) (w : World) : Sem.run Tryz.prog (Instr.typeAssert (.iface 122 v) 66 118 true) w = .ok (.tuple #[.agg #[], .bool false]) w := by kernel_rfl
theorem ta_fin_inf (v : Value) (w : World) : Sem.run Tryz.prog (Instr.typeAssert (.iface 122 v) 66 116 true) w = .ok (.tuple #[.agg #[.bool false], .bool false]) w := by kernel_rfl
theorem ta_fin_no (v : Value) (w : World) : Sem.run Tryz.prog (Instr.typeAssert (.iface 122 v) 66 119 true) w = .ok (.tuple #[.agg #[.bool false], .bool false]) w := by kernel_rfl
theorem ta_fin_fin (v : Value) (w : World) : Sem.run Tryz.prog (Instr.typeAssert (.iface 122 v) 66 122 true) w = .ok (.tuple #[v, .bool true]) w := by kernel_rfl
theorem sum_nan_nan  (w : World) :
    Calls Tryz.prog 39 #[VNan, VNan] w fun en w' => en = .returned VNan ∧ Below w.heap.size w w' := by
  have hanan := ta_nan_nan
  have hainf := ta_nan_inf
  have hano := ta_nan_no
  have hafin := ta_nan_fin
  go_enter Tryz.func39, Tryz.ntmps39
  go_wp2_with fail
  go_ret
  exact ⟨rfl, by first | exact Below.refl _ _ | exact below1 w _ | exact below2 w _ _ | exact below3 w _ _ _⟩
theorem sum_nan_inf (s2 : Bool) (w : World) :
    Calls Tryz.prog 39 #[VNan, VInf s2] w fun en w' => en = .returned VNan ∧ Below w.heap.size w w' := by
  have hanan := ta_nan_nan
  have hainf := ta_nan_inf
  have hano := ta_nan_no
  have hafin := ta_nan_fin
  have hbnan := ta_inf_nan
  have hbinf := ta_inf_inf
  have hbno := ta_inf_no
  have hbfin := ta_inf_fin
  go_enter Tryz.func39, Tryz.ntmps39
  go_wp2_with fail
  go_ret
  exact ⟨rfl, by first | exact Below.refl _ _ | exact below1 w _ | exact below2 w _ _ | exact below3 w _ _ _⟩
theorem sum_nan_no (s2 : Bool) (w : World) :
    Calls Tryz.prog 39 #[VNan, VNo s2] w fun en w' => en = .returned VNan ∧ Below w.heap.size w w' := by
  have hanan := ta_nan_nan
  have hainf := ta_nan_inf
  have hano := ta_nan_no
  have hafin := ta_nan_fin
  have hbnan := ta_no_nan
  have hbinf := ta_no_inf
  have hbno := ta_no_no
  have hbfin := ta_no_fin
  go_enter Tryz.func39, Tryz.ntmps39
  go_wp2_with fail
  go_ret
  exact ⟨rfl, by first | exact Below.refl _ _ | exact below1 w _ | exact below2 w _ _ | exact below3 w _ _ _⟩
theorem sum_nan_fin (s2 : Bool) (p2 : Option Addr) (m2 c2 : Nat) (e2 : Int) (w : World) :
    Calls Tryz.prog 39 #[VNan, VFin s2 p2 m2 c2 e2] w fun en w' => en = .returned VNan ∧ Below w.heap.size w w' := by
  have hanan := ta_nan_nan
  have hainf := ta_nan_inf
  have hano := ta_nan_no
  have hafin := ta_nan_fin
  have hbnan := ta_fin_nan
  have hbinf := ta_fin_inf
  have hbno := ta_fin_no
  have hbfin := ta_fin_fin
  go_enter Tryz.func39, Tryz.ntmps39
  go_wp2_with fail
  go_ret
  exact ⟨rfl, by first | exact Below.refl _ _ | exact below1 w _ | exact below2 w _ _ | exact below3 w _ _ _⟩
theorem sum_inf_nan (s1 : Bool) (w : World) :
    Calls Tryz.prog 39 #[VInf s1, VNan] w fun en w' => en = .returned VNan ∧ Below w.heap.size w w' := by
  have hanan := ta_inf_nan
  have hainf := ta_inf_inf
  have hano := ta_inf_no
  have hafin := ta_inf_fin
  have hbnan := ta_nan_nan
  have hbinf := ta_nan_inf
  have hbno := ta_nan_no
  have hbfin := ta_nan_fin
  go_enter Tryz.func39, Tryz.ntmps39
  go_wp2_with fail
  go_ret
  exact ⟨rfl, by first | exact Below.refl _ _ | exact below1 w _ | exact below2 w _ _ | exact below3 w _ _ _⟩
theorem sum_inf_inf (s1 : Bool) (s2 : Bool) (w : World) :
    Calls Tryz.prog 39 #[VInf s1, VInf s2] w fun en w' => en = .returned (if s1 = s2 then VInf s1 else VNan) ∧ Below w.heap.size w w' := by
  have hanan := ta_inf_nan
  have hainf := ta_inf_inf
  have hano := ta_inf_no
  have hafin := ta_inf_fin
  go_enter Tryz.func39, Tryz.ntmps39
  go_wp2_with fail
  all_goals first | (go_ret; refine ⟨?_, ?_⟩; (first | rfl | (cases s1 <;> cases s2 <;> first | rfl | simp_all)); first | exact Below.refl _ _ | exact below1 w _ | exact below2 w _ _ | exact below3 w _ _ _) | skip
theorem sum_inf_no (s1 : Bool) (s2 : Bool) (w : World) :
    Calls Tryz.prog 39 #[VInf s1, VNo s2] w fun en w' => en = .returned (VInf s1) ∧ Below w.heap.size w w' := by
  have hanan := ta_inf_nan
  have hainf := ta_inf_inf
  have hano := ta_inf_no
  have hafin := ta_inf_fin
  have hbnan := ta_no_nan
  have hbinf := ta_no_inf
  have hbno := ta_no_no
  have hbfin := ta_no_fin
  go_enter Tryz.func39, Tryz.ntmps39
  go_wp2_with fail
  go_ret
  exact ⟨rfl, by first | exact Below.refl _ _ | exact below1 w _ | exact below2 w _ _ | exact below3 w _ _ _⟩
theorem sum_inf_fin (s1 : Bool) (s2 : Bool) (p2 : Option Addr) (m2 c2 : Nat) (e2 : Int) (w : World) :
    Calls Tryz.prog 39 #[VInf s1, VFin s2 p2 m2 c2 e2] w fun en w' => en = .returned (VInf s1) ∧ Below w.heap.size w w' := by
  have hanan := ta_inf_nan
  have hainf := ta_inf_inf
  have hano := ta_inf_no
  have hafin := ta_inf_fin
  have hbnan := ta_fin_nan
  have hbinf := ta_fin_inf
  have hbno := ta_fin_no
  have hbfin := ta_fin_fin
  go_enter Tryz.func39, Tryz.ntmps39
  go_wp2_with fail
  go_ret
  exact ⟨rfl, by first | exact Below.refl _ _ | exact below1 w _ | exact below2 w _ _ | exact below3 w _ _ _⟩
theorem sum_no_nan (s1 : Bool) (w : World) :
    Calls Tryz.prog 39 #[VNo s1, VNan] w fun en w' => en = .returned VNan ∧ Below w.heap.size w w' := by
  have hanan := ta_no_nan
  have hainf := ta_no_inf
  have hano := ta_no_no
  have hafin := ta_no_fin
  have hbnan := ta_nan_nan
  have hbinf := ta_nan_inf
  have hbno := ta_nan_no
  have hbfin := ta_nan_fin
  go_enter Tryz.func39, Tryz.ntmps39
  go_wp2_with fail
  go_ret
  exact ⟨rfl, by first | exact Below.refl _ _ | exact below1 w _ | exact below2 w _ _ | exact below3 w _ _ _⟩
theorem sum_no_inf (s1 : Bool) (s2 : Bool) (w : World) :
    Calls Tryz.prog 39 #[VNo s1, VInf s2] w fun en w' => en = .returned (VInf s2) ∧ Below w.heap.size w w' := by
  have hanan := ta_no_nan
  have hainf := ta_no_inf
  have hano := ta_no_no
  have hafin := ta_no_fin
  have hbnan := ta_inf_nan
  have hbinf := ta_inf_inf
  have hbno := ta_inf_no
  have hbfin := ta_inf_fin
  go_enter Tryz.func39, Tryz.ntmps39
  go_wp2_with fail
  go_ret
  exact ⟨rfl, by first | exact Below.refl _ _ | exact below1 w _ | exact below2 w _ _ | exact below3 w _ _ _⟩
theorem sum_no_no_t (s2 : Bool) (w : World) :
    Calls Tryz.prog 39 #[VNo true, VNo s2] w fun en w' => en = .returned (VNo s2) ∧ Below w.heap.size w w' := by
  have hanan := ta_no_nan
  have hainf := ta_no_inf
  have hano := ta_no_no
  have hafin := ta_no_fin
  go_enter Tryz.func39, Tryz.ntmps39
  go_wp2_with fail
  go_ret
  exact ⟨rfl, by first | exact Below.refl _ _ | exact below1 w _ | exact below2 w _ _ | exact below3 w _ _ _⟩
theorem sum_no_no_f (s2 : Bool) (w : World) :
    Calls Tryz.prog 39 #[VNo false, VNo s2] w fun en w' => en = .returned (VNo false) ∧ Below w.heap.size w w' := by
  have hanan := ta_no_nan
  have hainf := ta_no_inf
  have hano := ta_no_no
  have hafin := ta_no_fin
  go_enter Tryz.func39, Tryz.ntmps39
  go_wp2_with fail
  go_ret
  exact ⟨rfl, by first | exact Below.refl _ _ | exact below1 w _ | exact below2 w _ _ | exact below3 w _ _ _⟩
theorem sum_no_no (s1 s2 : Bool) (w : World) :
    Calls Tryz.prog 39 #[VNo s1, VNo s2] w fun en w' => en = .returned (VNo (s1 && s2)) ∧ Below w.heap.size w w' := by
  cases s1
  · exact sum_no_no_f s2 w
  · exact sum_no_no_t s2 w
theorem sum_no_fin (s1 : Bool) (s2 : Bool) (p2 : Option Addr) (m2 c2 : Nat) (e2 : Int) (w : World) :
    Calls Tryz.prog 39 #[VNo s1, VFin s2 p2 m2 c2 e2] w fun en w' => en = .returned (VFin s2 p2 m2 c2 e2) ∧ Below w.heap.size w w' := by
  have hanan := ta_no_nan
  have hainf := ta_no_inf
  have hano := ta_no_no
  have hafin := ta_no_fin
  have hbnan := ta_fin_nan
  have hbinf := ta_fin_inf
  have hbno := ta_fin_no
  have hbfin := ta_fin_fin
  go_enter Tryz.func39, Tryz.ntmps39
  go_wp2_with fail
  go_ret
  exact ⟨rfl, by first | exact Below.refl _ _ | exact below1 w _ | exact below2 w _ _ | exact below3 w _ _ _⟩
theorem sum_fin_nan (s1 : Bool) (p1 : Option Addr) (m1 c1 : Nat) (e1 : Int) (w : World) :
    Calls Tryz.prog 39 #[VFin s1 p1 m1 c1 e1, VNan] w fun en w' => en = .returned VNan ∧ Below w.heap.size w w' := by
  have hanan := ta_fin_nan
  have hainf := ta_fin_inf
  have hano := ta_fin_no
  have hafin := ta_fin_fin
  have hbnan := ta_nan_nan
  have hbinf := ta_nan_inf
  have hbno := ta_nan_no
  have hbfin := ta_nan_fin
  go_enter Tryz.func39, Tryz.ntmps39
  go_wp2_with fail
  go_ret
  exact ⟨rfl, by first | exact Below.refl _ _ | exact below1 w _ | exact below2 w _ _ | exact below3 w _ _ _⟩
theorem sum_fin_inf (s1 : Bool) (s2 : Bool) (p1 : Option Addr) (m1 c1 : Nat) (e1 : Int) (w : World) :
    Calls Tryz.prog 39 #[VFin s1 p1 m1 c1 e1, VInf s2] w fun en w' => en = .returned (VInf s2) ∧ Below w.heap.size w w' := by
  have hanan := ta_fin_nan
  have hainf := ta_fin_inf
  have hano := ta_fin_no
  have hafin := ta_fin_fin
  have hbnan := ta_inf_nan
  have hbinf := ta_inf_inf
  have hbno := ta_inf_no
  have hbfin := ta_inf_fin
  go_enter Tryz.func39, Tryz.ntmps39
  go_wp2_with fail
  go_ret
  exact ⟨rfl, by first | exact Below.refl _ _ | exact below1 w _ | exact below2 w _ _ | exact below3 w _ _ _⟩
theorem sum_fin_no (s1 : Bool) (s2 : Bool) (p1 : Option Addr) (m1 c1 : Nat) (e1 : Int) (w : World) :
    Calls Tryz.prog 39 #[VFin s1 p1 m1 c1 e1, VNo s2] w fun en w' => en = .returned (VFin s1 p1 m1 c1 e1) ∧ Below w.heap.size w w' := by
  have hanan := ta_fin_nan
  have hainf := ta_fin_inf
  have hano := ta_fin_no
  have hafin := ta_fin_fin
  have hbnan := ta_no_nan
  have hbinf := ta_no_inf
  have hbno := ta_no_no
  have hbfin := ta_no_fin
  go_enter Tryz.func39, Tryz.ntmps39
  go_wp2_with fail
  go_ret
  exact ⟨rfl, by first | exact Below.refl _ _ | exact below1 w _ | exact below2 w _ _ | exact below3 w _ _ _⟩
theorem finsum {s t : Bool} {p q : Option Addr} {m c n d : Nat} {e f x y : Int} {w : World} (h : DN w s p m c e x) (k : DN w t q n d f y) {K E : Nat} (bx : DB x e K E) (by_ : DB y f K E) (hK : K + 2 * E + 1 ≤ 524288) (hx : x ≠ 0) (hy : y ≠ 0) (hT : Tab w) :
    Calls Tryz.prog 76 #[.agg #[.bool s, .slice p m c, .int .i64 e], .agg #[.bool t, .slice q n d, .int .i64 f]] w fun en w' => ∃ v o, en = .returned v ∧ OpV w' v o ∧ SumO (ofin x e) (ofin y f) o ∧ (o = ono false ∨ ∃ z g, o = ofin z g ∧ DB z g (K + 2 * E + 1) (K + 3 * E + 1)) ∧ Below w.heap.size w w' := by
  have A : Hid (DN w s p m c e x) := h
  have B : Hid (DN w t q n d f y) := k
  have BX : Hid (DB x e K E) := bx
  have BY : Hid (DB y f K E) := by_
  have HK : Hid (K + 2 * E + 1 ≤ 524288) := hK
  have HXY : Hid (x ≠ 0 ∧ y ≠ 0) := ⟨hx, hy⟩
  have TB : Hid (Tab w) := hT
  clear h k bx by_ hK hx hy hT
  go_enter Tryz.func76, Tryz.ntmps76
  go_wp2_with fail
  obtain ⟨W0, hW0⟩ : ∃ W0, W0 = ((w.alloc (.cells #[.bool s, .slice p m c, .int .i64 e] 122)).alloc (.cells #[.bool t, .slice q n d, .int .i64 f] 122)) := ⟨_, rfl⟩
  have Xx : Hid (B3q W0 (w.heap.size) (.bool s) (.slice p m c) (.int .i64 e)) := by rw [hW0]; exact ⟨by go_simp, by go_simp, by go_simp, by go_simp, by go_simp, by go_simp⟩
  have Xy : Hid (B3q W0 (w.heap.size + 1) (.bool t) (.slice q n d) (.int .i64 f)) := by rw [hW0]; exact ⟨by go_simp, by go_simp, by go_simp, by go_simp, by go_simp, by go_simp⟩
  have hb0 : Below w.heap.size w W0 := by rw [hW0]; exact below2 w _ _
  rw [← hW0]
  clear hW0
  have hbw : Below w.heap.size w w := Below.refl _ _
  obtain ⟨gy, hgy⟩ : ∃ g, g = w.heap.size + 1 := ⟨_, rfl⟩
  have HGy : Hid (w.heap.size ≤ gy) := by rw [hgy]; show _ ≤ _; omega
  rw [← hgy] at Xy
  try rw [← hgy]
  obtain ⟨gx, hgx⟩ : ∃ g, g = w.heap.size := ⟨_, rfl⟩
  have HGx : Hid (w.heap.size ≤ gx) := by rw [hgx]; show _ ≤ _; omega
  rw [← hgx] at Xx
  try rw [← hgx]
  have HGD : Hid (gx ≠ gy ∧ gy ≠ gx) := by rw [hgx, hgy]; exact ⟨by omega, by omega⟩
  clear hgx hgy
  replace hbw := Below.on hbw hb0
  clear hb0
  refine (dadd_b (A.out.below hbw) (B.out.below hbw) BX.out BY.out HK.out (TB.out.below hbw)).mono ?_
  rintro e9 v1 ⟨v, zo, eo, rfl, hv, hdb, hdv, hb1⟩
  obtain ⟨s1, p1, m1, rfl, hd1⟩ := hv.dn hdb.fm
  clear hv
  replace Xx : Hid _ := Xx.out.below hb1
  replace Xy : Hid _ := Xy.out.below hb1
  replace hbw := Below.on hbw hb1
  clear hb1
  have D1 : Hid (DN v1 s1 p1 m1 m1 eo zo) := hd1
  have HB1 : Hid (DB zo eo (K + 2 * E + 1) (K + 3 * E + 1) ∧ dv zo eo = dv x e + dv y f) := ⟨hdb, hdv⟩
  clear hd1 hdb hdv
  obtain ⟨cx0, cx1, cx2, fx0, fx1, fx2⟩ := Xx.out
  have hnex : gx < v1.heap.size := World.block_lt_of_cell? v1 _ cx0
  obtain ⟨cy0, cy1, cy2, fy0, fy1, fy2⟩ := Xy.out
  have hney : gy < v1.heap.size := World.block_lt_of_cell? v1 _ cy0
  go_wp2_with fail
  clear cx0 cx1 cx2 fx0 fx1 fx2 hnex
  clear cy0 cy1 cy2 fy0 fy1 fy2 hney
  have Xd0 : Hid (B3q (v1.alloc (.cells #[.bool s1, .slice p1 m1 m1, .int .i64 eo] 97)) v1.heap.size (.bool s1) (.slice p1 m1 m1) (.int .i64 eo)) := B3q.new v1 _ _ _ _
  have hbn : Below v1.heap.size v1 (v1.alloc (.cells #[.bool s1, .slice p1 m1 m1, .int .i64 eo] 97)) := below1 v1 _
  generalize v1.alloc (.cells #[.bool s1, .slice p1 m1 m1, .int .i64 eo] 97) = Wd at *
  have HGd : Hid (w.heap.size ≤ v1.heap.size) := hbw.size
  replace Xx : Hid _ := Xx.out.below hbn
  replace Xy : Hid _ := Xy.out.below hbn
  replace D1 : Hid _ := D1.out.below hbn
  replace hbw := Below.on hbw hbn
  clear hbn
  generalize v1.heap.size = gd at *
  have Xd := Xd0
  clear Xd0
  by_cases h0 : zo = 0
  · have HZ : Hid (zo = 0) := h0
    clear h0
    refine (zsign D1.out.zn).mono ?_
    rintro e v2 ⟨rfl, hb2⟩
    rw [show sgnI zo = 0 from by rw [HZ.out]; rfl]
    replace Xx : Hid _ := Xx.out.below hb2
    replace Xy : Hid _ := Xy.out.below hb2
    replace Xd : Hid _ := Xd.out.below hb2
    replace D1 : Hid _ := D1.out.below hb2
    replace hbw := Below.on hbw hb2
    clear hb2
    obtain ⟨cd0, cd1, cd2, fd0, fd1, fd2⟩ := Xd.out
    have hned : gd < v2.heap.size := World.block_lt_of_cell? v2 _ cd0
    go_wp2_with fail
    clear cd0 cd1 cd2 fd0 fd1 fd2 hned
    go_ret
    refine ⟨VNo false, ono false, rfl, .inr (.inr (.inl ⟨false, rfl, rfl⟩)), ?_, .inl rfl, by first | exact hbw | exact Below.on hbw (below1 _ _)⟩
    refine .inr (.inr (.inr (.inr (.inr (.inr ⟨⟨rfl, rfl⟩, .inl ⟨?_, rfl⟩⟩)))))
    show dv x e + dv y f = 0
    rw [← HB1.out.2, HZ.out, dv_zero]
  · have HZ : Hid (zo ≠ 0) := h0
    have hsg : (sgnI zo == 0) = false := by
      have : sgnI zo ≠ 0 := by rcases sgn3 zo with ⟨_, h2⟩ | ⟨h1, _⟩ | ⟨_, h2⟩ <;> omega
      simp [this]
    obtain ⟨sz, hsz⟩ : ∃ sz, sz = sgnI zo := ⟨_, rfl⟩
    rw [← hsz] at hsg
    have HSZ : Hid (sgnI zo = sz) := hsz.symm
    clear h0 hsz
    refine (zsign D1.out.zn).mono ?_
    rintro e v2 ⟨rfl, hb2⟩
    rw [HSZ.out]
    replace Xx : Hid _ := Xx.out.below hb2
    replace Xy : Hid _ := Xy.out.below hb2
    replace Xd : Hid _ := Xd.out.below hb2
    replace D1 : Hid _ := D1.out.below hb2
    replace hbw := Below.on hbw hb2
    clear hb2
    obtain ⟨cd0, cd1, cd2, fd0, fd1, fd2⟩ := Xd.out
    have hned : gd < v2.heap.size := World.block_lt_of_cell? v2 _ cd0
    go_wp2_with fail
    clear cd0 cd1 cd2 fd0 fd1 fd2 hned
    go_ret
    refine ⟨VFin s1 p1 m1 m1 eo, ofin zo eo, rfl, .inr (.inr (.inr ⟨s1, p1, m1, m1, eo, zo, rfl, by first | exact D1.out | exact D1.out.below (below1 _ _), HZ.out, rfl⟩)), ?_, .inr ⟨zo, eo, rfl, HB1.out.1⟩, by first | exact hbw | exact Below.on hbw (below1 _ _)⟩
    exact .inr (.inr (.inr (.inr (.inr (.inr ⟨⟨rfl, rfl⟩, .inr ⟨zo, eo, HB1.out.1.fm, HZ.out, HB1.out.2, rfl⟩⟩)))))
theorem sum_fin_fin {s t : Bool} {p q : Option Addr} {m c n d : Nat} {e f x y : Int} {w : World} (h : DN w s p m c e x) (k : DN w t q n d f y) {K E : Nat} (bx : DB x e K E) (by_ : DB y f K E) (hK : K + 2 * E + 1 ≤ 524288) (hx : x ≠ 0) (hy : y ≠ 0) (hT : Tab w) :
    Calls Tryz.prog 39 #[VFin s p m c e, VFin t q n d f] w fun en w' => ∃ v o, en = .returned v ∧ OpV w' v o ∧ SumO (ofin x e) (ofin y f) o ∧ (o = ono false ∨ ∃ z g, o = ofin z g ∧ DB z g (K + 2 * E + 1) (K + 3 * E + 1)) ∧ Below w.heap.size w w' := by
  have hanan := ta_fin_nan
  have hainf := ta_fin_inf
  have hano := ta_fin_no
  have hafin := ta_fin_fin
  have A : Hid (DN w s p m c e x) := h
  have B : Hid (DN w t q n d f y) := k
  have BX : Hid (DB x e K E) := bx
  have BY : Hid (DB y f K E) := by_
  have HK : Hid (K + 2 * E + 1 ≤ 524288) := hK
  have HXY : Hid (x ≠ 0 ∧ y ≠ 0) := ⟨hx, hy⟩
  have TB : Hid (Tab w) := hT
  clear h k bx by_ hK hx hy hT
  go_enter Tryz.func39, Tryz.ntmps39
  go_wp2_with fail
  have hb2 := below2 w (.cells #[.bool s, .slice p m c, .int .i64 e] 122) (.cells #[.bool t, .slice q n d, .int .i64 f] 122)
  refine (finsum (A.out.below hb2) (B.out.below hb2) BX.out BY.out HK.out HXY.out.1 HXY.out.2 (TB.out.below hb2)).mono ?_
  rintro e9 v3 ⟨v, o, rfl, ho, hs, hdb, hb3⟩
  obtain ⟨vt, vx, rfl⟩ := ho.iface
  have HF : Hid (OpV v3 (.iface vt vx) o ∧ SumO (ofin x e) (ofin y f) o ∧ (o = ono false ∨ ∃ z g, o = ofin z g ∧ DB z g (K + 2 * E + 1) (K + 3 * E + 1))) := ⟨ho, hs, hdb⟩
  have hbw := Below.on hb2 hb3
  clear ho hs hdb hb2 hb3
  go_wp2_with fail
  go_ret
  exact ⟨_, o, rfl, HF.out.1, HF.out.2.1, HF.out.2.2, hbw⟩
theorem mul_nan_nan  (w : World) :
    Calls Tryz.prog 41 #[VNan, VNan] w fun en w' => en = .returned VNan ∧ Below w.heap.size w w' := by
  have hanan := ta_nan_nan
  have hainf := ta_nan_inf
  have hano := ta_nan_no
  have hafin := ta_nan_fin
  have me1 := meth_below_nan
  have hbw : Below w.heap.size w w := Below.refl _ _
  go_enter Tryz.func41, Tryz.ntmps41
  go_wp2_with fail
  refine (below_nan _).mono ?_
  rintro e v1 ⟨rfl, hb1⟩
  replace hbw := Below.on hbw hb1
  clear hb1
  go_wp2_with fail
  refine (below_nan _).mono ?_
  rintro e v2 ⟨rfl, hb2⟩
  replace hbw := Below.on hbw hb2
  clear hb2
  go_wp2_with fail
  go_ret
  first | exact ⟨rfl, hbw⟩ | exact ⟨rfl, Below.on hbw (below1 _ _)⟩ | exact ⟨rfl, Below.on hbw (below2 _ _ _)⟩ | (cases s1 <;> cases s2 <;> first | exact ⟨rfl, hbw⟩ | exact ⟨rfl, Below.on hbw (below1 _ _)⟩)
theorem mul_nan_inf (s2 : Bool) (w : World) :
    Calls Tryz.prog 41 #[VNan, VInf s2] w fun en w' => en = .returned VNan ∧ Below w.heap.size w w' := by
  have hanan := ta_nan_nan
  have hainf := ta_nan_inf
  have hano := ta_nan_no
  have hafin := ta_nan_fin
  have hbnan := ta_inf_nan
  have hbinf := ta_inf_inf
  have hbno := ta_inf_no
  have hbfin := ta_inf_fin
  have me1 := meth_below_nan
  have me2 := meth_below_inf
  have hbw : Below w.heap.size w w := Below.refl _ _
  go_enter Tryz.func41, Tryz.ntmps41
  go_wp2_with fail
  refine (below_nan _).mono ?_
  rintro e v1 ⟨rfl, hb1⟩
  replace hbw := Below.on hbw hb1
  clear hb1
  go_wp2_with fail
  refine (below_inf s2 _).mono ?_
  rintro e v2 ⟨rfl, hb2⟩
  replace hbw := Below.on hbw hb2
  clear hb2
  go_wp2_with fail
  go_ret
  first | exact ⟨rfl, hbw⟩ | exact ⟨rfl, Below.on hbw (below1 _ _)⟩ | exact ⟨rfl, Below.on hbw (below2 _ _ _)⟩ | (cases s1 <;> cases s2 <;> first | exact ⟨rfl, hbw⟩ | exact ⟨rfl, Below.on hbw (below1 _ _)⟩)
theorem mul_nan_no (s2 : Bool) (w : World) :
    Calls Tryz.prog 41 #[VNan, VNo s2] w fun en w' => en = .returned VNan ∧ Below w.heap.size w w' := by
  have hanan := ta_nan_nan
  have hainf := ta_nan_inf
  have hano := ta_nan_no
  have hafin := ta_nan_fin
  have hbnan := ta_no_nan
  have hbinf := ta_no_inf
  have hbno := ta_no_no
  have hbfin := ta_no_fin
  have me1 := meth_below_nan
  have me2 := meth_below_no
  have hbw : Below w.heap.size w w := Below.refl _ _
  go_enter Tryz.func41, Tryz.ntmps41
  go_wp2_with fail
  refine (below_nan _).mono ?_
  rintro e v1 ⟨rfl, hb1⟩
  replace hbw := Below.on hbw hb1
  clear hb1
  go_wp2_with fail
  refine (below_no s2 _).mono ?_
  rintro e v2 ⟨rfl, hb2⟩
  replace hbw := Below.on hbw hb2
  clear hb2
  go_wp2_with fail
  go_ret
  first | exact ⟨rfl, hbw⟩ | exact ⟨rfl, Below.on hbw (below1 _ _)⟩ | exact ⟨rfl, Below.on hbw (below2 _ _ _)⟩ | (cases s1 <;> cases s2 <;> first | exact ⟨rfl, hbw⟩ | exact ⟨rfl, Below.on hbw (below1 _ _)⟩)
theorem mul_nan_fin (s2 : Bool) (p2 : Option Addr) (m2 c2 : Nat) (e2 : Int) (w : World) :
    Calls Tryz.prog 41 #[VNan, VFin s2 p2 m2 c2 e2] w fun en w' => en = .returned VNan ∧ Below w.heap.size w w' := by
  have hanan := ta_nan_nan
  have hainf := ta_nan_inf
  have hano := ta_nan_no
  have hafin := ta_nan_fin
  have hbnan := ta_fin_nan
  have hbinf := ta_fin_inf
  have hbno := ta_fin_no
  have hbfin := ta_fin_fin
  have me1 := meth_below_nan
  have me2 := meth_below_fin
  have hbw : Below w.heap.size w w := Below.refl _ _
  go_enter Tryz.func41, Tryz.ntmps41
  go_wp2_with fail
  refine (below_nan _).mono ?_
  rintro e v1 ⟨rfl, hb1⟩
  replace hbw := Below.on hbw hb1
  clear hb1
  go_wp2_with fail
  refine (below_fin _).mono ?_
  rintro e v2 ⟨rfl, hb2⟩
  replace hbw := Below.on hbw hb2
  clear hb2
  go_wp2_with fail
  go_ret
  first | exact ⟨rfl, hbw⟩ | exact ⟨rfl, Below.on hbw (below1 _ _)⟩ | exact ⟨rfl, Below.on hbw (below2 _ _ _)⟩ | (cases s1 <;> cases s2 <;> first | exact ⟨rfl, hbw⟩ | exact ⟨rfl, Below.on hbw (below1 _ _)⟩)
theorem mul_inf_nan (s1 : Bool) (w : World) :
    Calls Tryz.prog 41 #[VInf s1, VNan] w fun en w' => en = .returned VNan ∧ Below w.heap.size w w' := by
  have hanan := ta_inf_nan
  have hainf := ta_inf_inf
  have hano := ta_inf_no
  have hafin := ta_inf_fin
  have hbnan := ta_nan_nan
  have hbinf := ta_nan_inf
  have hbno := ta_nan_no
  have hbfin := ta_nan_fin
  have me1 := meth_below_inf
  have me2 := meth_below_nan
  have hbw : Below w.heap.size w w := Below.refl _ _
  go_enter Tryz.func41, Tryz.ntmps41
  go_wp2_with fail
  refine (below_inf s1 _).mono ?_
  rintro e v1 ⟨rfl, hb1⟩
  replace hbw := Below.on hbw hb1
  clear hb1
  go_wp2_with fail
  refine (below_nan _).mono ?_
  rintro e v2 ⟨rfl, hb2⟩
  replace hbw := Below.on hbw hb2
  clear hb2
  go_wp2_with fail
  go_ret
  first | exact ⟨rfl, hbw⟩ | exact ⟨rfl, Below.on hbw (below1 _ _)⟩ | exact ⟨rfl, Below.on hbw (below2 _ _ _)⟩ | (cases s1 <;> cases s2 <;> first | exact ⟨rfl, hbw⟩ | exact ⟨rfl, Below.on hbw (below1 _ _)⟩)
theorem mul_inf_inf (s1 : Bool) (s2 : Bool) (w : World) :
    Calls Tryz.prog 41 #[VInf s1, VInf s2] w fun en w' => en = .returned (VInf (s1 != s2)) ∧ Below w.heap.size w w' := by
  have hanan := ta_inf_nan
  have hainf := ta_inf_inf
  have hano := ta_inf_no
  have hafin := ta_inf_fin
  have me1 := meth_below_inf
  have hbw : Below w.heap.size w w := Below.refl _ _
  go_enter Tryz.func41, Tryz.ntmps41
  go_wp2_with fail
  refine (below_inf s1 _).mono ?_
  rintro e v1 ⟨rfl, hb1⟩
  replace hbw := Below.on hbw hb1
  clear hb1
  go_wp2_with fail
  refine (below_inf s2 _).mono ?_
  rintro e v2 ⟨rfl, hb2⟩
  replace hbw := Below.on hbw hb2
  clear hb2
  go_wp2_with fail
  go_ret
  first | exact ⟨rfl, hbw⟩ | exact ⟨rfl, Below.on hbw (below1 _ _)⟩ | exact ⟨rfl, Below.on hbw (below2 _ _ _)⟩ | (cases s1 <;> cases s2 <;> first | exact ⟨rfl, hbw⟩ | exact ⟨rfl, Below.on hbw (below1 _ _)⟩)
theorem mul_inf_no (s1 : Bool) (s2 : Bool) (w : World) :
    Calls Tryz.prog 41 #[VInf s1, VNo s2] w fun en w' => en = .returned VNan ∧ Below w.heap.size w w' := by
  have hanan := ta_inf_nan
  have hainf := ta_inf_inf
  have hano := ta_inf_no
  have hafin := ta_inf_fin
  have hbnan := ta_no_nan
  have hbinf := ta_no_inf
  have hbno := ta_no_no
  have hbfin := ta_no_fin
  have me1 := meth_below_inf
  have me2 := meth_below_no
  have hbw : Below w.heap.size w w := Below.refl _ _
  go_enter Tryz.func41, Tryz.ntmps41
  go_wp2_with fail
  refine (below_inf s1 _).mono ?_
  rintro e v1 ⟨rfl, hb1⟩
  replace hbw := Below.on hbw hb1
  clear hb1
  go_wp2_with fail
  refine (below_no s2 _).mono ?_
  rintro e v2 ⟨rfl, hb2⟩
  replace hbw := Below.on hbw hb2
  clear hb2
  go_wp2_with fail
  go_ret
  first | exact ⟨rfl, hbw⟩ | exact ⟨rfl, Below.on hbw (below1 _ _)⟩ | exact ⟨rfl, Below.on hbw (below2 _ _ _)⟩ | (cases s1 <;> cases s2 <;> first | exact ⟨rfl, hbw⟩ | exact ⟨rfl, Below.on hbw (below1 _ _)⟩)
theorem mul_inf_fin (s1 : Bool) (s2 : Bool) (p2 : Option Addr) (m2 c2 : Nat) (e2 : Int) (w : World) :
    Calls Tryz.prog 41 #[VInf s1, VFin s2 p2 m2 c2 e2] w fun en w' => en = .returned (VInf (s1 != s2)) ∧ Below w.heap.size w w' := by
  have hanan := ta_inf_nan
  have hainf := ta_inf_inf
  have hano := ta_inf_no
  have hafin := ta_inf_fin
  have hbnan := ta_fin_nan
  have hbinf := ta_fin_inf
  have hbno := ta_fin_no
  have hbfin := ta_fin_fin
  have me1 := meth_below_inf
  have me2 := meth_below_fin
  have hbw : Below w.heap.size w w := Below.refl _ _
  go_enter Tryz.func41, Tryz.ntmps41
  go_wp2_with fail
  refine (below_inf s1 _).mono ?_
  rintro e v1 ⟨rfl, hb1⟩
  replace hbw := Below.on hbw hb1
  clear hb1
  go_wp2_with fail
  refine (below_fin _).mono ?_
  rintro e v2 ⟨rfl, hb2⟩
  replace hbw := Below.on hbw hb2
  clear hb2
  go_wp2_with fail
  go_ret
  first | exact ⟨rfl, hbw⟩ | exact ⟨rfl, Below.on hbw (below1 _ _)⟩ | exact ⟨rfl, Below.on hbw (below2 _ _ _)⟩ | (cases s1 <;> cases s2 <;> first | exact ⟨rfl, hbw⟩ | exact ⟨rfl, Below.on hbw (below1 _ _)⟩)
theorem mul_no_nan (s1 : Bool) (w : World) :
    Calls Tryz.prog 41 #[VNo s1, VNan] w fun en w' => en = .returned VNan ∧ Below w.heap.size w w' := by
  have hanan := ta_no_nan
  have hainf := ta_no_inf
  have hano := ta_no_no
  have hafin := ta_no_fin
  have hbnan := ta_nan_nan
  have hbinf := ta_nan_inf
  have hbno := ta_nan_no
  have hbfin := ta_nan_fin
  have me1 := meth_below_no
  have me2 := meth_below_nan
  have hbw : Below w.heap.size w w := Below.refl _ _
  go_enter Tryz.func41, Tryz.ntmps41
  go_wp2_with fail
  refine (below_no s1 _).mono ?_
  rintro e v1 ⟨rfl, hb1⟩
  replace hbw := Below.on hbw hb1
  clear hb1
  go_wp2_with fail
  refine (below_nan _).mono ?_
  rintro e v2 ⟨rfl, hb2⟩
  replace hbw := Below.on hbw hb2
  clear hb2
  go_wp2_with fail
  go_ret
  first | exact ⟨rfl, hbw⟩ | exact ⟨rfl, Below.on hbw (below1 _ _)⟩ | exact ⟨rfl, Below.on hbw (below2 _ _ _)⟩ | (cases s1 <;> cases s2 <;> first | exact ⟨rfl, hbw⟩ | exact ⟨rfl, Below.on hbw (below1 _ _)⟩)
theorem mul_no_inf (s1 : Bool) (s2 : Bool) (w : World) :
    Calls Tryz.prog 41 #[VNo s1, VInf s2] w fun en w' => en = .returned VNan ∧ Below w.heap.size w w' := by
  have hanan := ta_no_nan
  have hainf := ta_no_inf
  have hano := ta_no_no
  have hafin := ta_no_fin
  have hbnan := ta_inf_nan
  have hbinf := ta_inf_inf
  have hbno := ta_inf_no
  have hbfin := ta_inf_fin
  have me1 := meth_below_no
  have me2 := meth_below_inf
  have hbw : Below w.heap.size w w := Below.refl _ _
  go_enter Tryz.func41, Tryz.ntmps41
  go_wp2_with fail
  refine (below_no s1 _).mono ?_
  rintro e v1 ⟨rfl, hb1⟩
  replace hbw := Below.on hbw hb1
  clear hb1
  go_wp2_with fail
  refine (below_inf s2 _).mono ?_
  rintro e v2 ⟨rfl, hb2⟩
  replace hbw := Below.on hbw hb2
  clear hb2
  go_wp2_with fail
  go_ret
  first | exact ⟨rfl, hbw⟩ | exact ⟨rfl, Below.on hbw (below1 _ _)⟩ | exact ⟨rfl, Below.on hbw (below2 _ _ _)⟩ | (cases s1 <;> cases s2 <;> first | exact ⟨rfl, hbw⟩ | exact ⟨rfl, Below.on hbw (below1 _ _)⟩)
theorem mul_no_no (s1 : Bool) (s2 : Bool) (w : World) :
    Calls Tryz.prog 41 #[VNo s1, VNo s2] w fun en w' => en = .returned (VNo (s1 != s2)) ∧ Below w.heap.size w w' := by
  have hanan := ta_no_nan
  have hainf := ta_no_inf
  have hano := ta_no_no
  have hafin := ta_no_fin
  have me1 := meth_below_no
  have hbw : Below w.heap.size w w := Below.refl _ _
  go_enter Tryz.func41, Tryz.ntmps41
  go_wp2_with fail
  refine (below_no s1 _).mono ?_
  rintro e v1 ⟨rfl, hb1⟩
  replace hbw := Below.on hbw hb1
  clear hb1
  go_wp2_with fail
  refine (below_no s2 _).mono ?_
  rintro e v2 ⟨rfl, hb2⟩
  replace hbw := Below.on hbw hb2
  clear hb2
  go_wp2_with fail
  go_ret
  first | exact ⟨rfl, hbw⟩ | exact ⟨rfl, Below.on hbw (below1 _ _)⟩ | exact ⟨rfl, Below.on hbw (below2 _ _ _)⟩ | (cases s1 <;> cases s2 <;> first | exact ⟨rfl, hbw⟩ | exact ⟨rfl, Below.on hbw (below1 _ _)⟩)
theorem mul_no_fin (s1 : Bool) (s2 : Bool) (p2 : Option Addr) (m2 c2 : Nat) (e2 : Int) (w : World) :
    Calls Tryz.prog 41 #[VNo s1, VFin s2 p2 m2 c2 e2] w fun en w' => en = .returned (VNo (s1 != s2)) ∧ Below w.heap.size w w' := by
  have hanan := ta_no_nan
  have hainf := ta_no_inf
  have hano := ta_no_no
  have hafin := ta_no_fin
  have hbnan := ta_fin_nan
  have hbinf := ta_fin_inf
  have hbno := ta_fin_no
  have hbfin := ta_fin_fin
  have me1 := meth_below_no
  have me2 := meth_below_fin
  have hbw : Below w.heap.size w w := Below.refl _ _
  go_enter Tryz.func41, Tryz.ntmps41
  go_wp2_with fail
  refine (below_no s1 _).mono ?_
  rintro e v1 ⟨rfl, hb1⟩
  replace hbw := Below.on hbw hb1
  clear hb1
  go_wp2_with fail
  refine (below_fin _).mono ?_
  rintro e v2 ⟨rfl, hb2⟩
  replace hbw := Below.on hbw hb2
  clear hb2
  go_wp2_with fail
  go_ret
  first | exact ⟨rfl, hbw⟩ | exact ⟨rfl, Below.on hbw (below1 _ _)⟩ | exact ⟨rfl, Below.on hbw (below2 _ _ _)⟩ | (cases s1 <;> cases s2 <;> first | exact ⟨rfl, hbw⟩ | exact ⟨rfl, Below.on hbw (below1 _ _)⟩)
theorem mul_fin_nan (s1 : Bool) (p1 : Option Addr) (m1 c1 : Nat) (e1 : Int) (w : World) :
    Calls Tryz.prog 41 #[VFin s1 p1 m1 c1 e1, VNan] w fun en w' => en = .returned VNan ∧ Below w.heap.size w w' := by
  have hanan := ta_fin_nan
  have hainf := ta_fin_inf
  have hano := ta_fin_no
  have hafin := ta_fin_fin
  have hbnan := ta_nan_nan
  have hbinf := ta_nan_inf
  have hbno := ta_nan_no
  have hbfin := ta_nan_fin
  have me1 := meth_below_fin
  have me2 := meth_below_nan
  have me3 := meth_signed_nan
  have me4 := nila_signed_nan
  have hbw : Below w.heap.size w w := Below.refl _ _
  go_enter Tryz.func41, Tryz.ntmps41
  go_wp2_with fail
  refine (below_fin _).mono ?_
  rintro e v1 ⟨rfl, hb1⟩
  replace hbw := Below.on hbw hb1
  clear hb1
  go_wp2_with fail
  refine (below_nan _).mono ?_
  rintro e v2 ⟨rfl, hb2⟩
  replace hbw := Below.on hbw hb2
  clear hb2
  go_wp2_with fail
  have hbw9 := Below.on hbw (below2 v2 (.cells #[.bool s1, .slice p1 m1 c1, .int .i64 e1] 122) (.cells #[.bool false, .slice none 0 0, .int .i64 0] 122))
  clear hbw
  have hbw := hbw9
  clear hbw9
  refine (signed_nan _ _).mono ?_
  rintro e v3 ⟨rfl, hb3⟩
  replace hbw := Below.on hbw hb3
  clear hb3
  go_wp2_with fail
  go_ret
  first | exact ⟨rfl, hbw⟩ | exact ⟨rfl, Below.on hbw (below1 _ _)⟩ | exact ⟨rfl, Below.on hbw (below2 _ _ _)⟩ | (cases s1 <;> cases s2 <;> first | exact ⟨rfl, hbw⟩ | exact ⟨rfl, Below.on hbw (below1 _ _)⟩)
theorem mul_fin_inf (s1 : Bool) (s2 : Bool) (p1 : Option Addr) (m1 c1 : Nat) (e1 : Int) (w : World) :
    Calls Tryz.prog 41 #[VFin s1 p1 m1 c1 e1, VInf s2] w fun en w' => en = .returned (VInf (s1 != s2)) ∧ Below w.heap.size w w' := by
  have hanan := ta_fin_nan
  have hainf := ta_fin_inf
  have hano := ta_fin_no
  have hafin := ta_fin_fin
  have hbnan := ta_inf_nan
  have hbinf := ta_inf_inf
  have hbno := ta_inf_no
  have hbfin := ta_inf_fin
  have me1 := meth_below_fin
  have me2 := meth_below_inf
  have me3 := meth_signed_inf
  have me4 := nila_signed_inf
  have hbw : Below w.heap.size w w := Below.refl _ _
  go_enter Tryz.func41, Tryz.ntmps41
  go_wp2_with fail
  refine (below_fin _).mono ?_
  rintro e v1 ⟨rfl, hb1⟩
  replace hbw := Below.on hbw hb1
  clear hb1
  go_wp2_with fail
  refine (below_inf s2 _).mono ?_
  rintro e v2 ⟨rfl, hb2⟩
  replace hbw := Below.on hbw hb2
  clear hb2
  go_wp2_with fail
  have hbw9 := Below.on hbw (below2 v2 (.cells #[.bool s1, .slice p1 m1 c1, .int .i64 e1] 122) (.cells #[.bool false, .slice none 0 0, .int .i64 0] 122))
  clear hbw
  have hbw := hbw9
  clear hbw9
  refine (signed_inf s2 _ _).mono ?_
  rintro e v3 ⟨rfl, hb3⟩
  replace hbw := Below.on hbw hb3
  clear hb3
  go_wp2_with fail
  go_ret
  first | exact ⟨rfl, hbw⟩ | exact ⟨rfl, Below.on hbw (below1 _ _)⟩ | exact ⟨rfl, Below.on hbw (below2 _ _ _)⟩ | (cases s1 <;> cases s2 <;> first | exact ⟨rfl, hbw⟩ | exact ⟨rfl, Below.on hbw (below1 _ _)⟩)
theorem mul_fin_no (s1 : Bool) (s2 : Bool) (p1 : Option Addr) (m1 c1 : Nat) (e1 : Int) (w : World) :
    Calls Tryz.prog 41 #[VFin s1 p1 m1 c1 e1, VNo s2] w fun en w' => en = .returned (VNo (s1 != s2)) ∧ Below w.heap.size w w' := by
  have hanan := ta_fin_nan
  have hainf := ta_fin_inf
  have hano := ta_fin_no
  have hafin := ta_fin_fin
  have hbnan := ta_no_nan
  have hbinf := ta_no_inf
  have hbno := ta_no_no
  have hbfin := ta_no_fin
  have me1 := meth_below_fin
  have me2 := meth_below_no
  have me3 := meth_signed_no
  have me4 := nila_signed_no
  have hbw : Below w.heap.size w w := Below.refl _ _
  go_enter Tryz.func41, Tryz.ntmps41
  go_wp2_with fail
  refine (below_fin _).mono ?_
  rintro e v1 ⟨rfl, hb1⟩
  replace hbw := Below.on hbw hb1
  clear hb1
  go_wp2_with fail
  refine (below_no s2 _).mono ?_
  rintro e v2 ⟨rfl, hb2⟩
  replace hbw := Below.on hbw hb2
  clear hb2
  go_wp2_with fail
  have hbw9 := Below.on hbw (below2 v2 (.cells #[.bool s1, .slice p1 m1 c1, .int .i64 e1] 122) (.cells #[.bool false, .slice none 0 0, .int .i64 0] 122))
  clear hbw
  have hbw := hbw9
  clear hbw9
  refine (signed_no s2 _ _).mono ?_
  rintro e v3 ⟨rfl, hb3⟩
  replace hbw := Below.on hbw hb3
  clear hb3
  go_wp2_with fail
  go_ret
  first | exact ⟨rfl, hbw⟩ | exact ⟨rfl, Below.on hbw (below1 _ _)⟩ | exact ⟨rfl, Below.on hbw (below2 _ _ _)⟩ | (cases s1 <;> cases s2 <;> first | exact ⟨rfl, hbw⟩ | exact ⟨rfl, Below.on hbw (below1 _ _)⟩)
theorem mul_fin_fin {s t : Bool} {p q : Option Addr} {m c n d : Nat} {e f x y : Int} {w : World} (h : DN w s p m c e x) (k : DN w t q n d f y) {K E K' E' : Nat} (bx : DB x e K E) (by_ : DB y f K' E') (hK : K + K' ≤ 524288) (hE : E + E' ≤ 524288) (hx : x ≠ 0) (hy : y ≠ 0) (hT : Tab w) :
    Calls Tryz.prog 41 #[VFin s p m c e, VFin t q n d f] w fun en w' => ∃ v o, en = .returned v ∧ OpV w' v o ∧ MulO (ofin x e) (ofin y f) o ∧ (∃ z g, o = ofin z g ∧ DB z g (K + K') (E + E' + K + K')) ∧ Below w.heap.size w w' := by
  have hanan := ta_fin_nan
  have hainf := ta_fin_inf
  have hano := ta_fin_no
  have hafin := ta_fin_fin
  have me1 := meth_below_fin
  have hbw : Below w.heap.size w w := Below.refl _ _
  have A : Hid (DN w s p m c e x) := h
  have B : Hid (DN w t q n d f y) := k
  have BX : Hid (DB x e K E) := bx
  have BY : Hid (DB y f K' E') := by_
  have HK : Hid (K + K' ≤ 524288 ∧ E + E' ≤ 524288) := ⟨hK, hE⟩
  have HXY : Hid (x ≠ 0 ∧ y ≠ 0) := ⟨hx, hy⟩
  have TB : Hid (Tab w) := hT
  clear h k bx by_ hK hE hx hy hT
  go_enter Tryz.func41, Tryz.ntmps41
  go_wp2_with fail
  refine (below_fin _).mono ?_
  rintro e v1 ⟨rfl, hb1⟩
  replace hbw := Below.on hbw hb1
  clear hb1
  go_wp2_with fail
  refine (below_fin _).mono ?_
  rintro e v2 ⟨rfl, hb2⟩
  replace hbw := Below.on hbw hb2
  clear hb2
  go_wp2_with fail
  have hbw9 := Below.on hbw (below2 v2 (.cells #[.bool s, .slice p m c, .int .i64 e] 122) (.cells #[.bool t, .slice q n d, .int .i64 f] 122))
  clear hbw
  have hbw := hbw9
  clear hbw9
  refine (dmul_b (A.out.below hbw) (B.out.below hbw) BX.out BY.out HK.out.1 HK.out.2 (TB.out.below hbw)).mono ?_
  rintro e9 v3 ⟨v, zo, eo, rfl, hv, hdb, hdv, hb3⟩
  obtain ⟨s3, p3, m3, rfl, hd3⟩ := hv.dn hdb.fm
  clear hv
  replace hbw := Below.on hbw hb3
  clear hb3
  have D3 : Hid (DN v3 s3 p3 m3 m3 eo zo) := hd3
  have HB3 : Hid (DB zo eo (K + K') (E + E' + K + K') ∧ dv zo eo = dv (x * y) (e + f)) := ⟨hdb, hdv⟩
  clear hd3 hdb hdv
  go_wp2_with fail
  have HZ : Hid (zo ≠ 0) := by
    intro h9
    have h8 := HB3.out.2
    rw [h9, dv_zero] at h8
    have h7 := dv_eq_zero h8.symm
    rcases Int.mul_eq_zero.1 h7 with h6 | h6
    · exact HXY.out.1 h6
    · exact HXY.out.2 h6
  go_ret
  refine ⟨VFin s3 p3 m3 m3 eo, ofin zo eo, rfl, .inr (.inr (.inr ⟨s3, p3, m3, m3, eo, zo, rfl, by first | exact D3.out | exact D3.out.below (below1 _ _) | exact D3.out.below (below2 _ _ _), HZ.out, rfl⟩)), ?_, ⟨zo, eo, rfl, HB3.out.1⟩, by first | exact hbw | exact Below.on hbw (below1 _ _) | exact Below.on hbw (below2 _ _ _)⟩
  exact .inr (.inr (.inr ⟨⟨rfl, rfl⟩, zo, eo, HB3.out.1.fm, HZ.out, HB3.out.2, rfl⟩))
def BdO (K E : Nat) (o : Opd) : Prop := o.k = 3 → DB o.x o.e K E
theorem sum_ok {w : World} {va vb : Value} {oa ob : Opd} (ha : OpV w va oa) (hb : OpV w vb ob) {K E : Nat} (ka : BdO K E oa) (kb : BdO K E ob) (hK : K + 2 * E + 1 ≤ 524288) (hT : Tab w) :
    Calls Tryz.prog 39 #[va, vb] w fun en w' => ∃ v o, en = .returned v ∧ OpV w' v o ∧ SumO oa ob o ∧ BdO (K + 2 * E + 1) (K + 3 * E + 1) o ∧ Below w.heap.size w w' := by
  have wid : ∀ {x e : Int}, DB x e K E → DB x e (K + 2 * E + 1) (K + 3 * E + 1) := fun h => h.mono (by omega) (by omega)
  rcases ha with ⟨rfl, rfl⟩ | ⟨s1, rfl, rfl⟩ | ⟨s1, rfl, rfl⟩ | ⟨s1, p1, m1, c1, e1, x1, rfl, d1, n1, rfl⟩ <;> rcases hb with ⟨rfl, rfl⟩ | ⟨s2, rfl, rfl⟩ | ⟨s2, rfl, rfl⟩ | ⟨s2, p2, m2, c2, e2, x2, rfl, d2, n2, rfl⟩
  · exact (sum_nan_nan w).mono fun en w' ⟨h1, h2⟩ => ⟨_, onan, h1, .inl ⟨rfl, rfl⟩, .inl ⟨.inl rfl, rfl⟩, (fun h => by cases h), h2⟩
  · exact (sum_nan_inf s2 w).mono fun en w' ⟨h1, h2⟩ => ⟨_, onan, h1, .inl ⟨rfl, rfl⟩, .inl ⟨.inl rfl, rfl⟩, (fun h => by cases h), h2⟩
  · exact (sum_nan_no s2 w).mono fun en w' ⟨h1, h2⟩ => ⟨_, onan, h1, .inl ⟨rfl, rfl⟩, .inl ⟨.inl rfl, rfl⟩, (fun h => by cases h), h2⟩
  · exact (sum_nan_fin s2 p2 m2 c2 e2 w).mono fun en w' ⟨h1, h2⟩ => ⟨_, onan, h1, .inl ⟨rfl, rfl⟩, .inl ⟨.inl rfl, rfl⟩, (fun h => by cases h), h2⟩
  · exact (sum_inf_nan s1 w).mono fun en w' ⟨h1, h2⟩ => ⟨_, onan, h1, .inl ⟨rfl, rfl⟩, .inl ⟨.inr (.inl rfl), rfl⟩, (fun h => by cases h), h2⟩
  · refine (sum_inf_inf s1 s2 w).mono fun en w' ⟨h1, h2⟩ => ?_
    by_cases h : s1 = s2
    · rw [if_pos h] at h1
      exact ⟨_, oinf s1, h1, .inr (.inl ⟨s1, rfl, rfl⟩), .inr (.inl ⟨⟨rfl, .inr (.inr ⟨rfl, h⟩)⟩, rfl⟩), (fun h => by cases h), h2⟩
    · rw [if_neg h] at h1
      exact ⟨_, onan, h1, .inl ⟨rfl, rfl⟩, .inl ⟨.inr (.inr ⟨rfl, rfl, h⟩), rfl⟩, (fun h => by cases h), h2⟩
  · exact (sum_inf_no s1 s2 w).mono fun en w' ⟨h1, h2⟩ => ⟨_, oinf s1, h1, .inr (.inl ⟨s1, rfl, rfl⟩), .inr (.inl ⟨⟨rfl, .inl rfl⟩, rfl⟩), (fun h => by cases h), h2⟩
  · exact (sum_inf_fin s1 s2 p2 m2 c2 e2 w).mono fun en w' ⟨h1, h2⟩ => ⟨_, oinf s1, h1, .inr (.inl ⟨s1, rfl, rfl⟩), .inr (.inl ⟨⟨rfl, .inr (.inl rfl)⟩, rfl⟩), (fun h => by cases h), h2⟩
  · exact (sum_no_nan s1 w).mono fun en w' ⟨h1, h2⟩ => ⟨_, onan, h1, .inl ⟨rfl, rfl⟩, .inl ⟨.inr (.inl rfl), rfl⟩, (fun h => by cases h), h2⟩
  · exact (sum_no_inf s1 s2 w).mono fun en w' ⟨h1, h2⟩ => ⟨_, oinf s2, h1, .inr (.inl ⟨s2, rfl, rfl⟩), .inr (.inr (.inl ⟨⟨.inl rfl, rfl⟩, rfl⟩)), (fun h => by cases h), h2⟩
  · exact (sum_no_no s1 s2 w).mono fun en w' ⟨h1, h2⟩ => ⟨_, ono (s1 && s2), h1, .inr (.inr (.inl ⟨_, rfl, rfl⟩)), .inr (.inr (.inr (.inl ⟨⟨rfl, rfl⟩, rfl⟩))), (fun h => by cases h), h2⟩
  · exact (sum_no_fin s1 s2 p2 m2 c2 e2 w).mono fun en w' ⟨h1, h2⟩ => ⟨_, ofin x2 e2, h1, .inr (.inr (.inr ⟨s2, p2, m2, c2, e2, x2, rfl, d2.below h2, n2, rfl⟩)), .inr (.inr (.inr (.inr (.inl ⟨⟨rfl, rfl⟩, rfl⟩)))), (fun _ => wid (kb rfl)), h2⟩
  · exact (sum_fin_nan s1 p1 m1 c1 e1 w).mono fun en w' ⟨h1, h2⟩ => ⟨_, onan, h1, .inl ⟨rfl, rfl⟩, .inl ⟨.inr (.inl rfl), rfl⟩, (fun h => by cases h), h2⟩
  · exact (sum_fin_inf s1 s2 p1 m1 c1 e1 w).mono fun en w' ⟨h1, h2⟩ => ⟨_, oinf s2, h1, .inr (.inl ⟨s2, rfl, rfl⟩), .inr (.inr (.inl ⟨⟨.inr rfl, rfl⟩, rfl⟩)), (fun h => by cases h), h2⟩
  · exact (sum_fin_no s1 s2 p1 m1 c1 e1 w).mono fun en w' ⟨h1, h2⟩ => ⟨_, ofin x1 e1, h1, .inr (.inr (.inr ⟨s1, p1, m1, c1, e1, x1, rfl, d1.below h2, n1, rfl⟩)), .inr (.inr (.inr (.inr (.inr (.inl ⟨⟨rfl, rfl⟩, rfl⟩))))), (fun _ => wid (ka rfl)), h2⟩
  · refine (sum_fin_fin d1 d2 (ka rfl) (kb rfl) hK n1 n2 hT).mono fun en w' ⟨v, o, h1, h2, h3, h4, h5⟩ => ⟨v, o, h1, h2, h3, ?_, h5⟩
    rcases h4 with h | ⟨z, g, h, h6⟩
    · rw [h]; exact (fun h => by cases h)
    · rw [h]; exact fun _ => h6
theorem vf_db8 {f p m l : Int} {S I H sd : Nat} {Be : Int} (J : Jn f p m l S I H sd Be) {b : Nat} (hr : b % S < I) {zo eo : Int} (hv : VF S H l b zo eo) : DB zo eo 128 1430 := by
  have hp := J.jm.pm.hp
  have h9 := J.jm.pm.h9
  have hlo := J.jm.pm.lo
  have hbq := J.jm.bq _ hr
  have hbu := J.jm.bu
  have hsl := J.jm.sl
  obtain ⟨z1, e1, v1, v2⟩ := vf_ex J.jm.pm hr
  obtain ⟨rfl, rfl⟩ := dv_inj hv.fm v1.fm (hv.v.trans v1.v.symm)
  obtain ⟨q, hq⟩ : ∃ q, q = b % S / H - 1 := ⟨_, rfl⟩
  have hmn : b % S - q * H < 2 * H := by
    have e1 := Nat.div_add_mod (b % S) H
    have e2 := Nat.mod_lt (b % S) hp
    rw [Nat.mul_comm] at e1
    by_cases e3 : b % S / H = 0
    · rw [e3] at e1; omega
    · rw [hq, Nat.sub_mul]; omega
  rw [← hq] at v2 hbq
  obtain ⟨y, hy⟩ : ∃ y : Int, y = (if S ≤ b then -((b % S - q * H : Nat) : Int) else ((b % S - q * H : Nat) : Int)) := ⟨_, rfl⟩
  rw [← hy] at v2
  have hya : y.natAbs ≤ 2 ^ 53 := by
    have : (2 : Nat) ^ 53 = 9007199254740992 := by decide
    rw [hy, this]; split <;> omega
  by_cases h0 : y = 0
  · rw [h0, dv_zero] at v2
    have := dv_eq_zero v2
    rcases hv.fm with ⟨h1, h2⟩ | ⟨h1, _⟩
    · rw [h1, h2]; exact ⟨.inl ⟨rfl, rfl⟩, by decide, by decide, by decide⟩
    · omega
  · obtain ⟨za, ea, g1, g2, _, g4, g5, g6⟩ := form_ex (z := y) (e := l + (q : Int)) (L := 53) h0 (by omega) hya (by omega)
    obtain ⟨rfl, rfl⟩ := dv_inj hv.fm g1 (v2.trans g2.symm)
    have h128 : (2 : Nat) ^ 53 < 2 ^ 128 := by decide
    exact ⟨g1, by omega, by omega, by omega⟩
theorem OpB.bd {f p m l : Int} {S I H sd : Nat} {Be : Int} (J : Jn f p m l S I H sd Be) {b : Nat} {o : Opd} (h : OpB S I H l b o) : BdO 128 1430 o := by
  rcases h with ⟨_, rfl⟩ | ⟨_, rfl⟩ | ⟨_, rfl⟩ | ⟨_, h1, x, e, h2, _, rfl⟩
  · exact (fun h => by cases h)
  · exact (fun h => by cases h)
  · exact (fun h => by cases h)
  · exact fun _ => vf_db8 J h1 h2
theorem mul_ok {w : World} {va vb : Value} {oa ob : Opd} (ha : OpV w va oa) (hb : OpV w vb ob) {K E K' E' : Nat} (ka : BdO K E oa) (kb : BdO K' E' ob) (hK : K + K' ≤ 524288) (hE : E + E' ≤ 524288) (hT : Tab w) :
    Calls Tryz.prog 41 #[va, vb] w fun en w' => ∃ v o, en = .returned v ∧ OpV w' v o ∧ MulO oa ob o ∧ BdO (K + K') (E + E' + K + K') o ∧ Below w.heap.size w w' := by
  rcases ha with ⟨rfl, rfl⟩ | ⟨s1, rfl, rfl⟩ | ⟨s1, rfl, rfl⟩ | ⟨s1, p1, m1, c1, e1, x1, rfl, d1, n1, rfl⟩ <;> rcases hb with ⟨rfl, rfl⟩ | ⟨s2, rfl, rfl⟩ | ⟨s2, rfl, rfl⟩ | ⟨s2, p2, m2, c2, e2, x2, rfl, d2, n2, rfl⟩
  · refine (mul_nan_nan w).mono fun en w' ⟨h1, h2⟩ => ?_
    exact ⟨_, onan, h1, .inl ⟨rfl, rfl⟩, .inl ⟨.inl rfl, rfl⟩, (fun h => by cases h), h2⟩
  · refine (mul_nan_inf s2 w).mono fun en w' ⟨h1, h2⟩ => ?_
    exact ⟨_, onan, h1, .inl ⟨rfl, rfl⟩, .inl ⟨.inl rfl, rfl⟩, (fun h => by cases h), h2⟩
  · refine (mul_nan_no s2 w).mono fun en w' ⟨h1, h2⟩ => ?_
    exact ⟨_, onan, h1, .inl ⟨rfl, rfl⟩, .inl ⟨.inl rfl, rfl⟩, (fun h => by cases h), h2⟩
  · refine (mul_nan_fin s2 p2 m2 c2 e2 w).mono fun en w' ⟨h1, h2⟩ => ?_
    exact ⟨_, onan, h1, .inl ⟨rfl, rfl⟩, .inl ⟨.inl rfl, rfl⟩, (fun h => by cases h), h2⟩
  · refine (mul_inf_nan s1 w).mono fun en w' ⟨h1, h2⟩ => ?_
    exact ⟨_, onan, h1, .inl ⟨rfl, rfl⟩, .inl ⟨.inr (.inl rfl), rfl⟩, (fun h => by cases h), h2⟩
  · refine (mul_inf_inf s1 s2 w).mono fun en w' ⟨h1, h2⟩ => ?_
    exact ⟨_, oinf (s1 != s2), h1, .inr (.inl ⟨_, rfl, rfl⟩), .inr (.inl ⟨.inl ⟨rfl, .inl rfl⟩, rfl⟩), (fun h => by cases h), h2⟩
  · refine (mul_inf_no s1 s2 w).mono fun en w' ⟨h1, h2⟩ => ?_
    exact ⟨_, onan, h1, .inl ⟨rfl, rfl⟩, .inl ⟨.inr (.inr (.inl ⟨rfl, rfl⟩)), rfl⟩, (fun h => by cases h), h2⟩
  · refine (mul_inf_fin s1 s2 p2 m2 c2 e2 w).mono fun en w' ⟨h1, h2⟩ => ?_
    rw [show s2 = decide (x2 < 0) from d2.zn.sg] at h1
    exact ⟨_, oinf (s1 != decide (x2 < 0)), h1, .inr (.inl ⟨_, rfl, rfl⟩), .inr (.inl ⟨.inl ⟨rfl, .inr rfl⟩, rfl⟩), (fun h => by cases h), h2⟩
  · refine (mul_no_nan s1 w).mono fun en w' ⟨h1, h2⟩ => ?_
    exact ⟨_, onan, h1, .inl ⟨rfl, rfl⟩, .inl ⟨.inr (.inl rfl), rfl⟩, (fun h => by cases h), h2⟩
  · refine (mul_no_inf s1 s2 w).mono fun en w' ⟨h1, h2⟩ => ?_
    exact ⟨_, onan, h1, .inl ⟨rfl, rfl⟩, .inl ⟨.inr (.inr (.inr ⟨rfl, rfl⟩)), rfl⟩, (fun h => by cases h), h2⟩
  · refine (mul_no_no s1 s2 w).mono fun en w' ⟨h1, h2⟩ => ?_
    exact ⟨_, ono (s1 != s2), h1, .inr (.inr (.inl ⟨_, rfl, rfl⟩)), .inr (.inr (.inl ⟨.inl ⟨rfl, .inl rfl⟩, rfl⟩)), (fun h => by cases h), h2⟩
  · refine (mul_no_fin s1 s2 p2 m2 c2 e2 w).mono fun en w' ⟨h1, h2⟩ => ?_
    rw [show s2 = decide (x2 < 0) from d2.zn.sg] at h1
    exact ⟨_, ono (s1 != decide (x2 < 0)), h1, .inr (.inr (.inl ⟨_, rfl, rfl⟩)), .inr (.inr (.inl ⟨.inl ⟨rfl, .inr rfl⟩, rfl⟩)), (fun h => by cases h), h2⟩
  · refine (mul_fin_nan s1 p1 m1 c1 e1 w).mono fun en w' ⟨h1, h2⟩ => ?_
    exact ⟨_, onan, h1, .inl ⟨rfl, rfl⟩, .inl ⟨.inr (.inl rfl), rfl⟩, (fun h => by cases h), h2⟩
  · refine (mul_fin_inf s1 s2 p1 m1 c1 e1 w).mono fun en w' ⟨h1, h2⟩ => ?_
    rw [show s1 = decide (x1 < 0) from d1.zn.sg] at h1
    exact ⟨_, oinf (decide (x1 < 0) != s2), h1, .inr (.inl ⟨_, rfl, rfl⟩), .inr (.inl ⟨.inr ⟨rfl, rfl⟩, rfl⟩), (fun h => by cases h), h2⟩
  · refine (mul_fin_no s1 s2 p1 m1 c1 e1 w).mono fun en w' ⟨h1, h2⟩ => ?_
    rw [show s1 = decide (x1 < 0) from d1.zn.sg] at h1
    exact ⟨_, ono (decide (x1 < 0) != s2), h1, .inr (.inr (.inl ⟨_, rfl, rfl⟩)), .inr (.inr (.inl ⟨.inr ⟨rfl, rfl⟩, rfl⟩)), (fun h => by cases h), h2⟩
  · refine (mul_fin_fin d1 d2 (ka rfl) (kb rfl) hK hE n1 n2 hT).mono fun en w' ⟨v, o, h1, h2, h3, h4, h5⟩ => ⟨v, o, h1, h2, h3, ?_, h5⟩
    obtain ⟨z, g, h, h6⟩ := h4
    rw [h]; exact fun _ => h6
theorem opp_ok {w : World} {v : Value} {o : Opd} (h : OpV w v o) :
    Calls Tryz.prog 40 #[v] w fun en w' => ∃ u, en = .returned u ∧ OpV w' u (negO o) ∧ Below w.heap.size w w' := by
  rcases h with ⟨rfl, rfl⟩ | ⟨s, rfl, rfl⟩ | ⟨s, rfl, rfl⟩ | ⟨s, p, m, c, e, x, rfl, d, n, rfl⟩
  · exact (opp_nan w).mono fun en w' ⟨h1, h2⟩ => ⟨_, h1, .inl ⟨rfl, rfl⟩, h2⟩
  · exact (opp_inf s w).mono fun en w' ⟨h1, h2⟩ => ⟨_, h1, .inr (.inl ⟨_, rfl, rfl⟩), h2⟩
  · exact (opp_no s w).mono fun en w' ⟨h1, h2⟩ => ⟨_, h1, .inr (.inr (.inl ⟨_, rfl, rfl⟩)), h2⟩
  · refine (opp_fin w).mono fun en w' ⟨h1, h2⟩ => ⟨_, h1, .inr (.inr (.inr ⟨_, p, m, c, e, -x, rfl, ?_, by omega, rfl⟩)), h2⟩
    have hd := d.below h2
    obtain ⟨ys, hy⟩ := hd.zn.ex
    refine ⟨⟨⟨ys, by rw [Int.natAbs_neg]; exact hy⟩, ?_⟩, hd.fm.neg⟩
    rw [d.zn.sg]
    by_cases a : x < 0
    · rw [decide_eq_true a, decide_eq_false (by omega)]; rfl
    · rw [decide_eq_false a, decide_eq_true (by omega)]; rfl
theorem soft_add {f p m l : Int} {S I H sd : Nat} {Be : Int} {Q : Nat} (J : Jo f p m l S I H sd Be Q) {a b : Nat} (ha : a < 2 * S) (hb : b < 2 * S) (w : World) (hT : Tab w) :
    Calls Tryz.prog 9 #[.int .i64 f, U a, U b] w fun en w' => ∃ oa ob c, en = .returned (.tuple #[U (patO l sd Be S I Q c), .int .i64 0]) ∧ OpB S I H l a oa ∧ OpB S I H l b ob ∧ SumO oa ob c ∧ BdO (128 + 2 * 1430 + 1) (128 + 3 * 1430 + 1) c ∧ Below w.heap.size w w' := by
  have HJO : Hid (Jo f p m l S I H sd Be Q) := J
  have HAB : Hid (a < 2 * S ∧ b < 2 * S) := ⟨ha, hb⟩
  have TB : Hid (Tab w) := hT
  clear J ha hb hT
  go_enter Tryz.func9, Tryz.ntmps9
  go_wp2_with fail
  have hb0 := below1 w (.cells #[U a, U b] 22)
  refine (operands2 HJO.out HAB.out.1 HAB.out.2 ⟨by go_simp, by go_simp⟩ (TB.out.below hb0)).mono ?_
  rintro e9 v1 ⟨go, va, vb, oa, ob, rfl, hgo, hx, hva, hvb, hoa, hob, hb1⟩
  have hbw := Below.on hb0 hb1
  obtain ⟨ta, xa, rfl⟩ := hva.iface
  obtain ⟨tb, xb, rfl⟩ := hvb.iface
  have Xo : Hid (Box v1 go (.iface ta xa) (.iface tb xb)) := hx
  have HOA : Hid (OpB S I H l a oa ∧ OpB S I H l b ob) := ⟨hoa, hob⟩
  have VA : Hid (OpV v1 (.iface ta xa) oa) := hva
  have VB : Hid (OpV v1 (.iface tb xb) ob) := hvb
  clear hb0 hb1 hx hva hvb hoa hob hgo
  obtain ⟨co0, co1, fo0, fo1⟩ := Xo.out
  have hneo := Xo.out.lt
  go_wp2_with fail
  clear co0 co1 fo0 fo1 hneo
  obtain ⟨W2, hW2⟩ : ∃ W1, W1 = v1.drew := ⟨_, rfl⟩
  have hbd : Below v1.heap.size v1 W2 := by rw [hW2]; exact bDrew1 (Below.refl _ _)
  replace Xo : Hid _ := Xo.out.below hbd
  replace VA : Hid (OpV W2 (.iface ta xa) oa) := VA.out.below hbd
  replace VB : Hid (OpV W2 (.iface tb xb) ob) := VB.out.below hbd
  replace hbw := Below.on hbw hbd
  clear hbd
  have HJ : Hid ((fun W' : World => W'.cell? ⟨go, 0, none⟩ = some (.iface ta xa) ∧ W'.cell? ⟨go, 1, none⟩ = some (.iface tb xb)) W2) := ⟨Xo.out.c0, Xo.out.c1⟩
  refine wp_region_J (fun W' => W'.cell? ⟨go, 0, none⟩ = some (.iface ta xa) ∧ W'.cell? ⟨go, 1, none⟩ = some (.iface tb xb)) (by kernel_rfl) ?_
  rw [← hW2]
  clear hW2
  refine wpJ_tq 0 rfl HJ.out ?_
  refine wpJ_tq 1 rfl HJ.out ?_
  refine wpJ_tq 2 rfl HJ.out ?_
  refine wpJ_tq 3 rfl HJ.out ?_
  refine wpJ_tq 4 rfl HJ.out ?_
  go_simp
  refine wpJ_tq 5 rfl HJ.out ?_
  refine wpJ_tq 7 rfl HJ.out ?_
  refine wpJ_on 6 rfl fun KJ hK => ?_
  go_simp
  refine (sum_ok VA.out VB.out (HOA.out.1.bd HJO.out.jq.jn) (HOA.out.2.bd HJO.out.jq.jn) (by decide) (TB.out.below hbw)).mono ?_
  rintro e9 v2 ⟨v, c, rfl, hv, hs, hbd, hb2⟩
  replace Xo : Hid _ := Xo.out.below hb2
  replace VA : Hid (OpV v2 (.iface ta xa) oa) := VA.out.below hb2
  replace VB : Hid (OpV v2 (.iface tb xb) ob) := VB.out.below hb2
  replace hbw := Below.on hbw hb2
  clear hb2
  have VC : Hid (OpV v2 v c) := hv
  have HS : Hid (SumO oa ob c ∧ BdO (128 + 2 * 1430 + 1) (128 + 3 * 1430 + 1) c) := ⟨hs, hbd⟩
  clear hv hs hbd
  clear HJ
  have HJ : Hid ((fun W' : World => W'.cell? ⟨go, 0, none⟩ = some (.iface ta xa) ∧ W'.cell? ⟨go, 1, none⟩ = some (.iface tb xb)) v2) := ⟨Xo.out.c0, Xo.out.c1⟩
  refine hK _ _ HJ.out ?_
  clear hK
  have hvc := VC.out
  rcases hvc with ⟨rfl, rfl⟩ | ⟨s, rfl, rfl⟩ | ⟨s, rfl, rfl⟩ | ⟨s, pc, mc, cc, ec, xc, rfl, dc, nc, rfl⟩
  · have me := meth_pattern_nan
    clear VC
    refine wpJ_on 8 rfl fun KJ hK => ?_
    go_simp
    refine (pat_nan HJO.out.jq _).mono ?_
    rintro e v9 ⟨rfl, hb9⟩
    rw [← patO_nan l sd Be S I Q]
    obtain ⟨r, hr⟩ : ∃ r, r = patO l sd Be S I Q onan := ⟨_, rfl⟩
    rw [← hr]
    have HPR : Hid (patO l sd Be S I Q onan = r) := hr.symm
    clear hr
    replace Xo : Hid _ := Xo.out.below hb9
    replace VA : Hid (OpV v9 (.iface ta xa) oa) := VA.out.below hb9
    replace VB : Hid (OpV v9 (.iface tb xb) ob) := VB.out.below hb9
    replace hbw := Below.on hbw hb9
    clear hb9
    clear HJ
    have HJ : Hid ((fun W' : World => W'.cell? ⟨go, 0, none⟩ = some (.iface ta xa) ∧ W'.cell? ⟨go, 1, none⟩ = some (.iface tb xb)) v9) := ⟨Xo.out.c0, Xo.out.c1⟩
    refine hK _ _ HJ.out ?_
    clear hK
    refine wpJ_tq 9 rfl HJ.out ?_
    refine wpJ_tq 10 rfl HJ.out ?_
    refine wpJ_done (by kernel_rfl) ?_ _
    clear HJ
    go_wp2_with fail
    go_ret2
    exact ⟨oa, ob, onan, by rw [HPR.out]; rfl, HOA.out.1, HOA.out.2, HS.out.1, HS.out.2, hbw⟩
  · have me := meth_pattern_inf
    clear VC
    refine wpJ_on 8 rfl fun KJ hK => ?_
    go_simp
    refine (pat_inf HJO.out.jq s _).mono ?_
    rintro e v9 ⟨rfl, hb9⟩
    rw [← patO_inf l sd Be S I Q s]
    obtain ⟨r, hr⟩ : ∃ r, r = patO l sd Be S I Q (oinf s) := ⟨_, rfl⟩
    rw [← hr]
    have HPR : Hid (patO l sd Be S I Q (oinf s) = r) := hr.symm
    clear hr
    replace Xo : Hid _ := Xo.out.below hb9
    replace VA : Hid (OpV v9 (.iface ta xa) oa) := VA.out.below hb9
    replace VB : Hid (OpV v9 (.iface tb xb) ob) := VB.out.below hb9
    replace hbw := Below.on hbw hb9
    clear hb9
    clear HJ
    have HJ : Hid ((fun W' : World => W'.cell? ⟨go, 0, none⟩ = some (.iface ta xa) ∧ W'.cell? ⟨go, 1, none⟩ = some (.iface tb xb)) v9) := ⟨Xo.out.c0, Xo.out.c1⟩
    refine hK _ _ HJ.out ?_
    clear hK
    refine wpJ_tq 9 rfl HJ.out ?_
    refine wpJ_tq 10 rfl HJ.out ?_
    refine wpJ_done (by kernel_rfl) ?_ _
    clear HJ
    go_wp2_with fail
    go_ret2
    exact ⟨oa, ob, (oinf s), by rw [HPR.out]; rfl, HOA.out.1, HOA.out.2, HS.out.1, HS.out.2, hbw⟩
  · have me := meth_pattern_no
    clear VC
    refine wpJ_on 8 rfl fun KJ hK => ?_
    go_simp
    refine (pat_no HJO.out.jq s _).mono ?_
    rintro e v9 ⟨rfl, hb9⟩
    rw [Nat.add_zero, ← patO_no l sd Be S I Q s]
    obtain ⟨r, hr⟩ : ∃ r, r = patO l sd Be S I Q (ono s) := ⟨_, rfl⟩
    rw [← hr]
    have HPR : Hid (patO l sd Be S I Q (ono s) = r) := hr.symm
    clear hr
    replace Xo : Hid _ := Xo.out.below hb9
    replace VA : Hid (OpV v9 (.iface ta xa) oa) := VA.out.below hb9
    replace VB : Hid (OpV v9 (.iface tb xb) ob) := VB.out.below hb9
    replace hbw := Below.on hbw hb9
    clear hb9
    clear HJ
    have HJ : Hid ((fun W' : World => W'.cell? ⟨go, 0, none⟩ = some (.iface ta xa) ∧ W'.cell? ⟨go, 1, none⟩ = some (.iface tb xb)) v9) := ⟨Xo.out.c0, Xo.out.c1⟩
    refine hK _ _ HJ.out ?_
    clear hK
    refine wpJ_tq 9 rfl HJ.out ?_
    refine wpJ_tq 10 rfl HJ.out ?_
    refine wpJ_done (by kernel_rfl) ?_ _
    clear HJ
    go_wp2_with fail
    go_ret2
    exact ⟨oa, ob, (ono s), by rw [HPR.out]; rfl, HOA.out.1, HOA.out.2, HS.out.1, HS.out.2, hbw⟩
  · have me := meth_pattern_fin
    have DC : Hid (DN v2 s pc mc cc ec xc) := dc
    clear dc
    clear VC
    refine wpJ_on 8 rfl fun KJ hK => ?_
    go_simp
    refine (pat_fin HJO.out.jq (DC.out) (TB.out.below hbw)).mono ?_
    rintro e v9 ⟨rfl, hb9⟩
    rw [← patO_fin l sd Be S I Q xc ec]
    obtain ⟨r, hr⟩ : ∃ r, r = patO l sd Be S I Q (ofin xc ec) := ⟨_, rfl⟩
    rw [← hr]
    have HPR : Hid (patO l sd Be S I Q (ofin xc ec) = r) := hr.symm
    clear hr
    replace Xo : Hid _ := Xo.out.below hb9
    replace VA : Hid (OpV v9 (.iface ta xa) oa) := VA.out.below hb9
    replace VB : Hid (OpV v9 (.iface tb xb) ob) := VB.out.below hb9
    replace hbw := Below.on hbw hb9
    clear hb9
    clear HJ
    have HJ : Hid ((fun W' : World => W'.cell? ⟨go, 0, none⟩ = some (.iface ta xa) ∧ W'.cell? ⟨go, 1, none⟩ = some (.iface tb xb)) v9) := ⟨Xo.out.c0, Xo.out.c1⟩
    refine hK _ _ HJ.out ?_
    clear hK
    refine wpJ_tq 9 rfl HJ.out ?_
    refine wpJ_tq 10 rfl HJ.out ?_
    refine wpJ_done (by kernel_rfl) ?_ _
    clear HJ
    go_wp2_with fail
    go_ret2
    exact ⟨oa, ob, (ofin xc ec), by rw [HPR.out]; rfl, HOA.out.1, HOA.out.2, HS.out.1, HS.out.2, hbw⟩
theorem soft_mul {f p m l : Int} {S I H sd : Nat} {Be : Int} {Q : Nat} (J : Jo f p m l S I H sd Be Q) {a b : Nat} (ha : a < 2 * S) (hb : b < 2 * S) (w : World) (hT : Tab w) :
    Calls Tryz.prog 11 #[.int .i64 f, U a, U b] w fun en w' => ∃ oa ob c, en = .returned (.tuple #[U (patO l sd Be S I Q c), .int .i64 0]) ∧ OpB S I H l a oa ∧ OpB S I H l b ob ∧ MulO oa ob c ∧ BdO (128 + 128) (1430 + 1430 + 128 + 128) c ∧ Below w.heap.size w w' := by
  have HJO : Hid (Jo f p m l S I H sd Be Q) := J
  have HAB : Hid (a < 2 * S ∧ b < 2 * S) := ⟨ha, hb⟩
  have TB : Hid (Tab w) := hT
  clear J ha hb hT
  go_enter Tryz.func11, Tryz.ntmps11
  go_wp2_with fail
  have hb0 := below1 w (.cells #[U a, U b] 22)
  refine (operands2 HJO.out HAB.out.1 HAB.out.2 ⟨by go_simp, by go_simp⟩ (TB.out.below hb0)).mono ?_
  rintro e9 v1 ⟨go, va, vb, oa, ob, rfl, hgo, hx, hva, hvb, hoa, hob, hb1⟩
  have hbw := Below.on hb0 hb1
  obtain ⟨ta, xa, rfl⟩ := hva.iface
  obtain ⟨tb, xb, rfl⟩ := hvb.iface
  have Xo : Hid (Box v1 go (.iface ta xa) (.iface tb xb)) := hx
  have HOA : Hid (OpB S I H l a oa ∧ OpB S I H l b ob) := ⟨hoa, hob⟩
  have VA : Hid (OpV v1 (.iface ta xa) oa) := hva
  have VB : Hid (OpV v1 (.iface tb xb) ob) := hvb
  clear hb0 hb1 hx hva hvb hoa hob hgo
  obtain ⟨co0, co1, fo0, fo1⟩ := Xo.out
  have hneo := Xo.out.lt
  go_wp2_with fail
  clear co0 co1 fo0 fo1 hneo
  obtain ⟨W2, hW2⟩ : ∃ W1, W1 = v1.drew := ⟨_, rfl⟩
  have hbd : Below v1.heap.size v1 W2 := by rw [hW2]; exact bDrew1 (Below.refl _ _)
  replace Xo : Hid _ := Xo.out.below hbd
  replace VA : Hid (OpV W2 (.iface ta xa) oa) := VA.out.below hbd
  replace VB : Hid (OpV W2 (.iface tb xb) ob) := VB.out.below hbd
  replace hbw := Below.on hbw hbd
  clear hbd
  have HJ : Hid ((fun W' : World => W'.cell? ⟨go, 0, none⟩ = some (.iface ta xa) ∧ W'.cell? ⟨go, 1, none⟩ = some (.iface tb xb)) W2) := ⟨Xo.out.c0, Xo.out.c1⟩
  refine wp_region_J (fun W' => W'.cell? ⟨go, 0, none⟩ = some (.iface ta xa) ∧ W'.cell? ⟨go, 1, none⟩ = some (.iface tb xb)) (by kernel_rfl) ?_
  rw [← hW2]
  clear hW2
  refine wpJ_tq 0 rfl HJ.out ?_
  refine wpJ_tq 1 rfl HJ.out ?_
  refine wpJ_tq 2 rfl HJ.out ?_
  refine wpJ_tq 3 rfl HJ.out ?_
  refine wpJ_tq 4 rfl HJ.out ?_
  go_simp
  refine wpJ_tq 5 rfl HJ.out ?_
  refine wpJ_tq 7 rfl HJ.out ?_
  refine wpJ_on 6 rfl fun KJ hK => ?_
  go_simp
  refine (mul_ok VA.out VB.out (HOA.out.1.bd HJO.out.jq.jn) (HOA.out.2.bd HJO.out.jq.jn) (by decide) (by decide) (TB.out.below hbw)).mono ?_
  rintro e9 v2 ⟨v, c, rfl, hv, hs, hbd, hb2⟩
  replace Xo : Hid _ := Xo.out.below hb2
  replace VA : Hid (OpV v2 (.iface ta xa) oa) := VA.out.below hb2
  replace VB : Hid (OpV v2 (.iface tb xb) ob) := VB.out.below hb2
  replace hbw := Below.on hbw hb2
  clear hb2
  have VC : Hid (OpV v2 v c) := hv
  have HS : Hid (MulO oa ob c ∧ BdO (128 + 128) (1430 + 1430 + 128 + 128) c) := ⟨hs, hbd⟩
  clear hv hs hbd
  clear HJ
  have HJ : Hid ((fun W' : World => W'.cell? ⟨go, 0, none⟩ = some (.iface ta xa) ∧ W'.cell? ⟨go, 1, none⟩ = some (.iface tb xb)) v2) := ⟨Xo.out.c0, Xo.out.c1⟩
  refine hK _ _ HJ.out ?_
  clear hK
  have hvc := VC.out
  rcases hvc with ⟨rfl, rfl⟩ | ⟨s, rfl, rfl⟩ | ⟨s, rfl, rfl⟩ | ⟨s, pc, mc, cc, ec, xc, rfl, dc, nc, rfl⟩
  · have me := meth_pattern_nan
    clear VC
    refine wpJ_on 8 rfl fun KJ hK => ?_
    go_simp
    refine (pat_nan HJO.out.jq _).mono ?_
    rintro e v9 ⟨rfl, hb9⟩
    rw [← patO_nan l sd Be S I Q]
    obtain ⟨r, hr⟩ : ∃ r, r = patO l sd Be S I Q onan := ⟨_, rfl⟩
    rw [← hr]
    have HPR : Hid (patO l sd Be S I Q onan = r) := hr.symm
    clear hr
    replace Xo : Hid _ := Xo.out.below hb9
    replace VA : Hid (OpV v9 (.iface ta xa) oa) := VA.out.below hb9
    replace VB : Hid (OpV v9 (.iface tb xb) ob) := VB.out.below hb9
    replace hbw := Below.on hbw hb9
    clear hb9
    clear HJ
    have HJ : Hid ((fun W' : World => W'.cell? ⟨go, 0, none⟩ = some (.iface ta xa) ∧ W'.cell? ⟨go, 1, none⟩ = some (.iface tb xb)) v9) := ⟨Xo.out.c0, Xo.out.c1⟩
    refine hK _ _ HJ.out ?_
    clear hK
    refine wpJ_tq 9 rfl HJ.out ?_
    refine wpJ_tq 10 rfl HJ.out ?_
    refine wpJ_done (by kernel_rfl) ?_ _
    clear HJ
    go_wp2_with fail
    go_ret2
    exact ⟨oa, ob, onan, by rw [HPR.out]; rfl, HOA.out.1, HOA.out.2, HS.out.1, HS.out.2, hbw⟩
  · have me := meth_pattern_inf
    clear VC
    refine wpJ_on 8 rfl fun KJ hK => ?_
    go_simp
    refine (pat_inf HJO.out.jq s _).mono ?_
    rintro e v9 ⟨rfl, hb9⟩
    rw [← patO_inf l sd Be S I Q s]
    obtain ⟨r, hr⟩ : ∃ r, r = patO l sd Be S I Q (oinf s) := ⟨_, rfl⟩
    rw [← hr]
    have HPR : Hid (patO l sd Be S I Q (oinf s) = r) := hr.symm
    clear hr
    replace Xo : Hid _ := Xo.out.below hb9
    replace VA : Hid (OpV v9 (.iface ta xa) oa) := VA.out.below hb9
    replace VB : Hid (OpV v9 (.iface tb xb) ob) := VB.out.below hb9
    replace hbw := Below.on hbw hb9
    clear hb9
    clear HJ
    have HJ : Hid ((fun W' : World => W'.cell? ⟨go, 0, none⟩ = some (.iface ta xa) ∧ W'.cell? ⟨go, 1, none⟩ = some (.iface tb xb)) v9) := ⟨Xo.out.c0, Xo.out.c1⟩
    refine hK _ _ HJ.out ?_
    clear hK
    refine wpJ_tq 9 rfl HJ.out ?_
    refine wpJ_tq 10 rfl HJ.out ?_
    refine wpJ_done (by kernel_rfl) ?_ _
    clear HJ
    go_wp2_with fail
    go_ret2
    exact ⟨oa, ob, (oinf s), by rw [HPR.out]; rfl, HOA.out.1, HOA.out.2, HS.out.1, HS.out.2, hbw⟩
  · have me := meth_pattern_no
    clear VC
    refine wpJ_on 8 rfl fun KJ hK => ?_
    go_simp
    refine (pat_no HJO.out.jq s _).mono ?_
    rintro e v9 ⟨rfl, hb9⟩
    rw [Nat.add_zero, ← patO_no l sd Be S I Q s]
    obtain ⟨r, hr⟩ : ∃ r, r = patO l sd Be S I Q (ono s) := ⟨_, rfl⟩
    rw [← hr]
    have HPR : Hid (patO l sd Be S I Q (ono s) = r) := hr.symm
    clear hr
    replace Xo : Hid _ := Xo.out.below hb9
    replace VA : Hid (OpV v9 (.iface ta xa) oa) := VA.out.below hb9
    replace VB : Hid (OpV v9 (.iface tb xb) ob) := VB.out.below hb9
    replace hbw := Below.on hbw hb9
    clear hb9
    clear HJ
    have HJ : Hid ((fun W' : World => W'.cell? ⟨go, 0, none⟩ = some (.iface ta xa) ∧ W'.cell? ⟨go, 1, none⟩ = some (.iface tb xb)) v9) := ⟨Xo.out.c0, Xo.out.c1⟩
    refine hK _ _ HJ.out ?_
    clear hK
    refine wpJ_tq 9 rfl HJ.out ?_
    refine wpJ_tq 10 rfl HJ.out ?_
    refine wpJ_done (by kernel_rfl) ?_ _
    clear HJ
    go_wp2_with fail
    go_ret2
    exact ⟨oa, ob, (ono s), by rw [HPR.out]; rfl, HOA.out.1, HOA.out.2, HS.out.1, HS.out.2, hbw⟩
  · have me := meth_pattern_fin
    have DC : Hid (DN v2 s pc mc cc ec xc) := dc
    clear dc
    clear VC
    refine wpJ_on 8 rfl fun KJ hK => ?_
    go_simp
    refine (pat_fin HJO.out.jq (DC.out) (TB.out.below hbw)).mono ?_
    rintro e v9 ⟨rfl, hb9⟩
    rw [← patO_fin l sd Be S I Q xc ec]
    obtain ⟨r, hr⟩ : ∃ r, r = patO l sd Be S I Q (ofin xc ec) := ⟨_, rfl⟩
    rw [← hr]
    have HPR : Hid (patO l sd Be S I Q (ofin xc ec) = r) := hr.symm
    clear hr
    replace Xo : Hid _ := Xo.out.below hb9
    replace VA : Hid (OpV v9 (.iface ta xa) oa) := VA.out.below hb9
    replace VB : Hid (OpV v9 (.iface tb xb) ob) := VB.out.below hb9
    replace hbw := Below.on hbw hb9
    clear hb9
    clear HJ
    have HJ : Hid ((fun W' : World => W'.cell? ⟨go, 0, none⟩ = some (.iface ta xa) ∧ W'.cell? ⟨go, 1, none⟩ = some (.iface tb xb)) v9) := ⟨Xo.out.c0, Xo.out.c1⟩
    refine hK _ _ HJ.out ?_
    clear hK
    refine wpJ_tq 9 rfl HJ.out ?_
    refine wpJ_tq 10 rfl HJ.out ?_
    refine wpJ_done (by kernel_rfl) ?_ _
    clear HJ
    go_wp2_with fail
    go_ret2
    exact ⟨oa, ob, (ofin xc ec), by rw [HPR.out]; rfl, HOA.out.1, HOA.out.2, HS.out.1, HS.out.2, hbw⟩
theorem BdO.neg {K E : Nat} {o : Opd} (h : BdO K E o) : BdO K E (negO o) := by
  intro hk
  unfold negO at hk ⊢
  by_cases h0 : o.k = 0
  · rw [if_pos h0] at hk; exact by cases hk
  · rw [if_neg h0] at hk ⊢
    by_cases h3 : o.k = 3
    · rw [if_pos h3]; exact (h h3).neg
    · rw [if_neg h3] at hk; exact absurd hk h3
theorem soft_sub {f p m l : Int} {S I H sd : Nat} {Be : Int} {Q : Nat} (J : Jo f p m l S I H sd Be Q) {a b : Nat} (ha : a < 2 * S) (hb : b < 2 * S) (w : World) (hT : Tab w) :
    Calls Tryz.prog 10 #[.int .i64 f, U a, U b] w fun en w' => ∃ oa ob c, en = .returned (.tuple #[U (patO l sd Be S I Q c), .int .i64 0]) ∧ OpB S I H l a oa ∧ OpB S I H l b ob ∧ SumO oa (negO ob) c ∧ BdO (128 + 2 * 1430 + 1) (128 + 3 * 1430 + 1) c ∧ Below w.heap.size w w' := by
  have HJO : Hid (Jo f p m l S I H sd Be Q) := J
  have HAB : Hid (a < 2 * S ∧ b < 2 * S) := ⟨ha, hb⟩
  have TB : Hid (Tab w) := hT
  clear J ha hb hT
  go_enter Tryz.func10, Tryz.ntmps10
  go_wp2_with fail
  have hb0 := below1 w (.cells #[U a, U b] 22)
  refine (operands2 HJO.out HAB.out.1 HAB.out.2 ⟨by go_simp, by go_simp⟩ (TB.out.below hb0)).mono ?_
  rintro e9 v1 ⟨go, va, vb, oa, ob, rfl, hgo, hx, hva, hvb, hoa, hob, hb1⟩
  have hbw := Below.on hb0 hb1
  obtain ⟨ta, xa, rfl⟩ := hva.iface
  obtain ⟨tb, xb, rfl⟩ := hvb.iface
  have Xo : Hid (Box v1 go (.iface ta xa) (.iface tb xb)) := hx
  have HOA : Hid (OpB S I H l a oa ∧ OpB S I H l b ob) := ⟨hoa, hob⟩
  have VA : Hid (OpV v1 (.iface ta xa) oa) := hva
  have VB : Hid (OpV v1 (.iface tb xb) ob) := hvb
  clear hb0 hb1 hx hva hvb hoa hob hgo
  obtain ⟨co0, co1, fo0, fo1⟩ := Xo.out
  have hneo := Xo.out.lt
  go_wp2_with fail
  clear co0 co1 fo0 fo1 hneo
  obtain ⟨W2, hW2⟩ : ∃ W1, W1 = v1.drew := ⟨_, rfl⟩
  have hbd : Below v1.heap.size v1 W2 := by rw [hW2]; exact bDrew1 (Below.refl _ _)
  replace Xo : Hid _ := Xo.out.below hbd
  replace VA : Hid (OpV W2 (.iface ta xa) oa) := VA.out.below hbd
  replace VB : Hid (OpV W2 (.iface tb xb) ob) := VB.out.below hbd
  replace hbw := Below.on hbw hbd
  clear hbd
  have HJ : Hid ((fun W' : World => W'.cell? ⟨go, 0, none⟩ = some (.iface ta xa) ∧ W'.cell? ⟨go, 1, none⟩ = some (.iface tb xb)) W2) := ⟨Xo.out.c0, Xo.out.c1⟩
  refine wp_region_J (fun W' => W'.cell? ⟨go, 0, none⟩ = some (.iface ta xa) ∧ W'.cell? ⟨go, 1, none⟩ = some (.iface tb xb)) (by kernel_rfl) ?_
  rw [← hW2]
  clear hW2
  refine wpJ_tq 0 rfl HJ.out ?_
  refine wpJ_tq 1 rfl HJ.out ?_
  refine wpJ_tq 2 rfl HJ.out ?_
  refine wpJ_tq 3 rfl HJ.out ?_
  refine wpJ_tq 4 rfl HJ.out ?_
  go_simp
  refine wpJ_tq 5 rfl HJ.out ?_
  refine wpJ_tq 8 rfl HJ.out ?_
  refine wpJ_on 6 rfl fun KJ hK => ?_
  go_simp
  refine (opp_ok VB.out).mono ?_
  rintro e9 v3 ⟨u, rfl, hu, hb3⟩
  obtain ⟨tu, xu, rfl⟩ := hu.iface
  replace Xo : Hid _ := Xo.out.below hb3
  replace VA : Hid (OpV v3 (.iface ta xa) oa) := VA.out.below hb3
  replace VB : Hid (OpV v3 (.iface tb xb) ob) := VB.out.below hb3
  replace hbw := Below.on hbw hb3
  clear hb3
  have VU : Hid (OpV v3 (.iface tu xu) (negO ob)) := hu
  clear hu
  refine hK _ _ ⟨Xo.out.c0, Xo.out.c1⟩ ?_
  clear hK
  refine wpJ_on 7 rfl fun KJ hK => ?_
  go_simp
  refine (sum_ok VA.out VU.out (HOA.out.1.bd HJO.out.jq.jn) (HOA.out.2.bd HJO.out.jq.jn).neg (by decide) (TB.out.below hbw)).mono ?_
  rintro e9 v2 ⟨v, c, rfl, hv, hs, hbd, hb2⟩
  replace Xo : Hid _ := Xo.out.below hb2
  replace VA : Hid (OpV v2 (.iface ta xa) oa) := VA.out.below hb2
  replace VB : Hid (OpV v2 (.iface tb xb) ob) := VB.out.below hb2
  replace VU : Hid (OpV v2 (.iface tu xu) (negO ob)) := VU.out.below hb2
  replace hbw := Below.on hbw hb2
  clear hb2
  have VC : Hid (OpV v2 v c) := hv
  have HS : Hid (SumO oa (negO ob) c ∧ BdO (128 + 2 * 1430 + 1) (128 + 3 * 1430 + 1) c) := ⟨hs, hbd⟩
  clear hv hs hbd
  clear HJ
  have HJ : Hid ((fun W' : World => W'.cell? ⟨go, 0, none⟩ = some (.iface ta xa) ∧ W'.cell? ⟨go, 1, none⟩ = some (.iface tb xb)) v2) := ⟨Xo.out.c0, Xo.out.c1⟩
  refine hK _ _ HJ.out ?_
  clear hK
  have hvc := VC.out
  rcases hvc with ⟨rfl, rfl⟩ | ⟨s, rfl, rfl⟩ | ⟨s, rfl, rfl⟩ | ⟨s, pc, mc, cc, ec, xc, rfl, dc, nc, rfl⟩
  · have me := meth_pattern_nan
    clear VC
    refine wpJ_on 9 rfl fun KJ hK => ?_
    go_simp
    refine (pat_nan HJO.out.jq _).mono ?_
    rintro e v9 ⟨rfl, hb9⟩
    rw [← patO_nan l sd Be S I Q]
    obtain ⟨r, hr⟩ : ∃ r, r = patO l sd Be S I Q onan := ⟨_, rfl⟩
    rw [← hr]
    have HPR : Hid (patO l sd Be S I Q onan = r) := hr.symm
    clear hr
    replace Xo : Hid _ := Xo.out.below hb9
    replace VA : Hid (OpV v9 (.iface ta xa) oa) := VA.out.below hb9
    replace VB : Hid (OpV v9 (.iface tb xb) ob) := VB.out.below hb9
    replace VU : Hid (OpV v9 (.iface tu xu) (negO ob)) := VU.out.below hb9
    replace hbw := Below.on hbw hb9
    clear hb9
    clear HJ
    have HJ : Hid ((fun W' : World => W'.cell? ⟨go, 0, none⟩ = some (.iface ta xa) ∧ W'.cell? ⟨go, 1, none⟩ = some (.iface tb xb)) v9) := ⟨Xo.out.c0, Xo.out.c1⟩
    refine hK _ _ HJ.out ?_
    clear hK
    refine wpJ_tq 10 rfl HJ.out ?_
    refine wpJ_tq 11 rfl HJ.out ?_
    refine wpJ_done (by kernel_rfl) ?_ _
    clear HJ
    go_wp2_with fail
    go_ret2
    exact ⟨oa, ob, onan, by rw [HPR.out]; rfl, HOA.out.1, HOA.out.2, HS.out.1, HS.out.2, hbw⟩
  · have me := meth_pattern_inf
    clear VC
    refine wpJ_on 9 rfl fun KJ hK => ?_
    go_simp
    refine (pat_inf HJO.out.jq s _).mono ?_
    rintro e v9 ⟨rfl, hb9⟩
    rw [← patO_inf l sd Be S I Q s]
    obtain ⟨r, hr⟩ : ∃ r, r = patO l sd Be S I Q (oinf s) := ⟨_, rfl⟩
    rw [← hr]
    have HPR : Hid (patO l sd Be S I Q (oinf s) = r) := hr.symm
    clear hr
    replace Xo : Hid _ := Xo.out.below hb9
    replace VA : Hid (OpV v9 (.iface ta xa) oa) := VA.out.below hb9
    replace VB : Hid (OpV v9 (.iface tb xb) ob) := VB.out.below hb9
    replace VU : Hid (OpV v9 (.iface tu xu) (negO ob)) := VU.out.below hb9
    replace hbw := Below.on hbw hb9
    clear hb9
    clear HJ
    have HJ : Hid ((fun W' : World => W'.cell? ⟨go, 0, none⟩ = some (.iface ta xa) ∧ W'.cell? ⟨go, 1, none⟩ = some (.iface tb xb)) v9) := ⟨Xo.out.c0, Xo.out.c1⟩
    refine hK _ _ HJ.out ?_
    clear hK
    refine wpJ_tq 10 rfl HJ.out ?_
    refine wpJ_tq 11 rfl HJ.out ?_
    refine wpJ_done (by kernel_rfl) ?_ _
    clear HJ
    go_wp2_with fail
    go_ret2
    exact ⟨oa, ob, (oinf s), by rw [HPR.out]; rfl, HOA.out.1, HOA.out.2, HS.out.1, HS.out.2, hbw⟩
  · have me := meth_pattern_no
    clear VC
    refine wpJ_on 9 rfl fun KJ hK => ?_
    go_simp
    refine (pat_no HJO.out.jq s _).mono ?_
    rintro e v9 ⟨rfl, hb9⟩
    rw [Nat.add_zero, ← patO_no l sd Be S I Q s]
    obtain ⟨r, hr⟩ : ∃ r, r = patO l sd Be S I Q (ono s) := ⟨_, rfl⟩
    rw [← hr]
    have HPR : Hid (patO l sd Be S I Q (ono s) = r) := hr.symm
    clear hr
    replace Xo : Hid _ := Xo.out.below hb9
    replace VA : Hid (OpV v9 (.iface ta xa) oa) := VA.out.below hb9
    replace VB : Hid (OpV v9 (.iface tb xb) ob) := VB.out.below hb9
    replace VU : Hid (OpV v9 (.iface tu xu) (negO ob)) := VU.out.below hb9
    replace hbw := Below.on hbw hb9
    clear hb9
    clear HJ
    have HJ : Hid ((fun W' : World => W'.cell? ⟨go, 0, none⟩ = some (.iface ta xa) ∧ W'.cell? ⟨go, 1, none⟩ = some (.iface tb xb)) v9) := ⟨Xo.out.c0, Xo.out.c1⟩
    refine hK _ _ HJ.out ?_
    clear hK
    refine wpJ_tq 10 rfl HJ.out ?_
    refine wpJ_tq 11 rfl HJ.out ?_
    refine wpJ_done (by kernel_rfl) ?_ _
    clear HJ
    go_wp2_with fail
    go_ret2
    exact ⟨oa, ob, (ono s), by rw [HPR.out]; rfl, HOA.out.1, HOA.out.2, HS.out.1, HS.out.2, hbw⟩
  · have me := meth_pattern_fin
    have DC : Hid (DN v2 s pc mc cc ec xc) := dc
    clear dc
    clear VC
    refine wpJ_on 9 rfl fun KJ hK => ?_
    go_simp
    refine (pat_fin HJO.out.jq (DC.out) (TB.out.below hbw)).mono ?_
    rintro e v9 ⟨rfl, hb9⟩
    rw [← patO_fin l sd Be S I Q xc ec]
    obtain ⟨r, hr⟩ : ∃ r, r = patO l sd Be S I Q (ofin xc ec) := ⟨_, rfl⟩
    rw [← hr]
    have HPR : Hid (patO l sd Be S I Q (ofin xc ec) = r) := hr.symm
    clear hr
    replace Xo : Hid _ := Xo.out.below hb9
    replace VA : Hid (OpV v9 (.iface ta xa) oa) := VA.out.below hb9
    replace VB : Hid (OpV v9 (.iface tb xb) ob) := VB.out.below hb9
    replace VU : Hid (OpV v9 (.iface tu xu) (negO ob)) := VU.out.below hb9
    replace hbw := Below.on hbw hb9
    clear hb9
    clear HJ
    have HJ : Hid ((fun W' : World => W'.cell? ⟨go, 0, none⟩ = some (.iface ta xa) ∧ W'.cell? ⟨go, 1, none⟩ = some (.iface tb xb)) v9) := ⟨Xo.out.c0, Xo.out.c1⟩
    refine hK _ _ HJ.out ?_
    clear hK
    refine wpJ_tq 10 rfl HJ.out ?_
    refine wpJ_tq 11 rfl HJ.out ?_
    refine wpJ_done (by kernel_rfl) ?_ _
    clear HJ
    go_wp2_with fail
    go_ret2
    exact ⟨oa, ob, (ofin xc ec), by rw [HPR.out]; rfl, HOA.out.1, HOA.out.2, HS.out.1, HS.out.2, hbw⟩
def Ops1 (S I H : Nat) (l : Int) (w : World) (a0 : Nat) (en : Ending) (w' : World) : Prop :=
  ∃ go u0 o0, en = .returned (.tuple #[.slice (some ⟨go, 0, none⟩) 1 1, .int .i64 0]) ∧ w.heap.size ≤ go ∧ B1s w' go u0 ∧ OpV w' u0 o0 ∧ OpB S I H l a0 o0 ∧ Below w.heap.size w w'
theorem operands1 {f p m l : Int} {S I H sd : Nat} {Be : Int} {Q : Nat} (J : Jo f p m l S I H sd Be Q) {g a0 : Nat} (hab : a0 < 2 * S) {w : World} (hg : w.cell? ⟨g, 0, none⟩ = some (U a0)) (hT : Tab w) :
    Calls Tryz.prog 38 #[.int .i64 f, .slice (some ⟨g, 0, none⟩) 1 1] w fun en w' => Ops1 S I H l w a0 en w' := by
  have HJO : Hid (Jo f p m l S I H sd Be Q) := J
  have HAB : Hid (a0 < 2 * S) := hab
  have HCG : Hid ((w.cell? ⟨g, 0, none⟩ = some (U a0)) ∧ g < w.heap.size) := ⟨hg, World.block_lt_of_cell? w _ hg⟩
  have TB : Hid (Tab w) := hT
  clear J hab hg hT
  go_enter Tryz.func38, Tryz.ntmps38
  go_wp2_with fail
  have mk : ∀ w : World, Sem.run Tryz.prog (Instr.makeSlice 62 (.int .i64 1) (.int .i64 1)) w = .ok (.slice (some ⟨w.heap.size, 0, none⟩) 1 1) (w.alloc (.cells #[.nilIface] 66)) := fun w => by kernel_rfl
  rw [mk]
  clear mk
  obtain ⟨W0, hW0⟩ : ∃ W0, W0 = w.alloc (.cells #[.nilIface] 66) := ⟨_, rfl⟩
  obtain ⟨go, hgo⟩ : ∃ go, go = w.heap.size := ⟨_, rfl⟩
  have HX : Hid (B1s W0 go .nilIface) := by rw [hW0, hgo]; exact ⟨by go_simp, by go_simp⟩
  have HB0 : Hid (Below w.heap.size w W0) := by rw [hW0]; exact below1 w _
  have HGO : Hid (w.heap.size ≤ go) := by rw [hgo]; exact Nat.le_refl _
  rw [← hW0, ← hgo]
  clear hW0 hgo
  go_wp2_with fail
  go_loopg [16] 1 (fun gk iv wr => ∃ k : Nat, k + gk = 1 ∧ iv = .int .i64 k ∧ ∃ v0, B1s wr go (v0) ∧ (0 < k → ∃ o, OpO (go + 1) wr v0 o ∧ OpB S I H l a0 o) ∧ Below w.heap.size w wr)
  case atStart => exact ⟨0, by omega, rfl, _, HX.out, fun h => by omega, HB0.out⟩
  case round =>
    obtain ⟨k, hkg, rfl, v0, hx, h0, hbw⟩ := hrel
    cases gk with
    | zero =>
      obtain rfl : k = 1 := by omega
      obtain ⟨o0, q0, r0⟩ := h0 (by omega)
      have HQ : Hid ((OpV wr v0 o0) ∧ (OpB S I H l a0 o0) ∧ B1s wr go (v0)) := ⟨q0.v, r0, hx⟩
      clear h0 q0 r0 hx
      go_wp2_with fail
      go_ret2
      exact ⟨go, v0, o0, rfl, HGO.out, HQ.out.2.2, HQ.out.1, HQ.out.2.1, hbw⟩
    | succ gg =>
      have HX1 : Hid (B1s wr go (v0)) := hx
      have HBW : Hid (Below w.heap.size w wr) := hbw
      have H0k : Hid (0 < k → ∃ o, OpO (go + 1) wr v0 o ∧ OpB S I H l a0 o) := h0
      · obtain rfl : k = 0 := by omega
        have e0 : wr.cell? ⟨g, 0, none⟩ = some (U a0) := (hbw.cell (p := ⟨g, 0, none⟩) HCG.out.2).trans HCG.out.1
        clear h0 hx hbw
        go_wp2_with fail
        refine (opof HJO.out a0 HAB.out wr (TB.out.below HBW.out)).mono ?_
        rintro e9 w2 ⟨v, o, rfl, ho, hob, hb2⟩
        obtain ⟨vt, vx, rfl⟩ : ∃ t x, v = .iface t x := ho.iface
        have HO : Hid (OpO (go + 1) w2 (.iface vt vx) o ∧ OpB S I H l a0 o) := ⟨ho.mono HX1.out.lt, hob⟩
        have HX2 : Hid (B1s w2 go (v0)) := HX1.out.below hb2
        have HBV : Hid (Below w.heap.size w w2) := Below.on HBW.out hb2
        obtain ⟨c0, f0⟩ := HX2.out
        have hlt := HX2.out.lt
        clear ho hob hb2
        go_wp2_with fail
        go_roundg gg
        case measure => omega
        case rel =>
          exact ⟨1, by omega, by go_num, .iface vt vx, ⟨by go_simp, by go_simp⟩, fun _ => ⟨o, HO.out.1.set _ _ _ (by omega), HO.out.2⟩, bSet HBV.out _ _ _ HGO.out⟩
def Ops3 (S I H : Nat) (l : Int) (w : World) (a0 a1 a2 : Nat) (en : Ending) (w' : World) : Prop :=
  ∃ go u0 u1 u2 o0 o1 o2, en = .returned (.tuple #[.slice (some ⟨go, 0, none⟩) 3 3, .int .i64 0]) ∧ w.heap.size ≤ go ∧ B3q w' go u0 u1 u2 ∧ OpV w' u0 o0 ∧ OpV w' u1 o1 ∧ OpV w' u2 o2 ∧ OpB S I H l a0 o0 ∧ OpB S I H l a1 o1 ∧ OpB S I H l a2 o2 ∧ Below w.heap.size w w'
theorem operands3 {f p m l : Int} {S I H sd : Nat} {Be : Int} {Q : Nat} (J : Jo f p m l S I H sd Be Q) {g a0 a1 a2 : Nat} (hab : a0 < 2 * S ∧ a1 < 2 * S ∧ a2 < 2 * S) {w : World} (hg : w.cell? ⟨g, 0, none⟩ = some (U a0) ∧ w.cell? ⟨g, 1, none⟩ = some (U a1) ∧ w.cell? ⟨g, 2, none⟩ = some (U a2)) (hT : Tab w) :
    Calls Tryz.prog 38 #[.int .i64 f, .slice (some ⟨g, 0, none⟩) 3 3] w fun en w' => Ops3 S I H l w a0 a1 a2 en w' := by
  have HJO : Hid (Jo f p m l S I H sd Be Q) := J
  have HAB : Hid (a0 < 2 * S ∧ a1 < 2 * S ∧ a2 < 2 * S) := hab
  have HCG : Hid ((w.cell? ⟨g, 0, none⟩ = some (U a0) ∧ w.cell? ⟨g, 1, none⟩ = some (U a1) ∧ w.cell? ⟨g, 2, none⟩ = some (U a2)) ∧ g < w.heap.size) := ⟨hg, World.block_lt_of_cell? w _ hg.1⟩
  have TB : Hid (Tab w) := hT
  clear J hab hg hT
  go_enter Tryz.func38, Tryz.ntmps38
  go_wp2_with fail
  have mk : ∀ w : World, Sem.run Tryz.prog (Instr.makeSlice 62 (.int .i64 3) (.int .i64 3)) w = .ok (.slice (some ⟨w.heap.size, 0, none⟩) 3 3) (w.alloc (.cells #[.nilIface, .nilIface, .nilIface] 66)) := fun w => by kernel_rfl
  rw [mk]
  clear mk
  obtain ⟨W0, hW0⟩ : ∃ W0, W0 = w.alloc (.cells #[.nilIface, .nilIface, .nilIface] 66) := ⟨_, rfl⟩
  obtain ⟨go, hgo⟩ : ∃ go, go = w.heap.size := ⟨_, rfl⟩
  have HX : Hid (B3q W0 go .nilIface .nilIface .nilIface) := by rw [hW0, hgo]; exact ⟨by go_simp, by go_simp, by go_simp, by go_simp, by go_simp, by go_simp⟩
  have HB0 : Hid (Below w.heap.size w W0) := by rw [hW0]; exact below1 w _
  have HGO : Hid (w.heap.size ≤ go) := by rw [hgo]; exact Nat.le_refl _
  rw [← hW0, ← hgo]
  clear hW0 hgo
  go_wp2_with fail
  go_loopg [16] 3 (fun gk iv wr => ∃ k : Nat, k + gk = 3 ∧ iv = .int .i64 k ∧ ∃ v0 v1 v2, B3q wr go (v0) (v1) (v2) ∧ (0 < k → ∃ o, OpO (go + 1) wr v0 o ∧ OpB S I H l a0 o) ∧ (1 < k → ∃ o, OpO (go + 1) wr v1 o ∧ OpB S I H l a1 o) ∧ (2 < k → ∃ o, OpO (go + 1) wr v2 o ∧ OpB S I H l a2 o) ∧ Below w.heap.size w wr)
  case atStart => exact ⟨0, by omega, rfl, _, _, _, HX.out, fun h => by omega, fun h => by omega, fun h => by omega, HB0.out⟩
  case round =>
    obtain ⟨k, hkg, rfl, v0, v1, v2, hx, h0, h1, h2, hbw⟩ := hrel
    cases gk with
    | zero =>
      obtain rfl : k = 3 := by omega
      obtain ⟨o0, q0, r0⟩ := h0 (by omega)
      obtain ⟨o1, q1, r1⟩ := h1 (by omega)
      obtain ⟨o2, q2, r2⟩ := h2 (by omega)
      have HQ : Hid ((OpV wr v0 o0 ∧ OpV wr v1 o1 ∧ OpV wr v2 o2) ∧ (OpB S I H l a0 o0 ∧ OpB S I H l a1 o1 ∧ OpB S I H l a2 o2) ∧ B3q wr go (v0) (v1) (v2)) := ⟨⟨q0.v, q1.v, q2.v⟩, ⟨r0, r1, r2⟩, hx⟩
      clear h0 q0 r0 h1 q1 r1 h2 q2 r2 hx
      go_wp2_with fail
      go_ret2
      exact ⟨go, v0, v1, v2, o0, o1, o2, rfl, HGO.out, HQ.out.2.2, HQ.out.1.1, HQ.out.1.2.1, HQ.out.1.2.2, HQ.out.2.1.1, HQ.out.2.1.2.1, HQ.out.2.1.2.2, hbw⟩
    | succ gg =>
      have HX1 : Hid (B3q wr go (v0) (v1) (v2)) := hx
      have HBW : Hid (Below w.heap.size w wr) := hbw
      have H0k : Hid (0 < k → ∃ o, OpO (go + 1) wr v0 o ∧ OpB S I H l a0 o) := h0
      have H1k : Hid (1 < k → ∃ o, OpO (go + 1) wr v1 o ∧ OpB S I H l a1 o) := h1
      have H2k : Hid (2 < k → ∃ o, OpO (go + 1) wr v2 o ∧ OpB S I H l a2 o) := h2
      by_cases hk0 : k = 0
      · obtain rfl : k = 0 := hk0
        have e0 : wr.cell? ⟨g, 0, none⟩ = some (U a0) := (hbw.cell (p := ⟨g, 0, none⟩) HCG.out.2).trans HCG.out.1.1
        clear h0 h1 h2 hx hbw
        go_wp2_with fail
        refine (opof HJO.out a0 HAB.out.1 wr (TB.out.below HBW.out)).mono ?_
        rintro e9 w2 ⟨v, o, rfl, ho, hob, hb2⟩
        obtain ⟨vt, vx, rfl⟩ : ∃ t x, v = .iface t x := ho.iface
        have HO : Hid (OpO (go + 1) w2 (.iface vt vx) o ∧ OpB S I H l a0 o) := ⟨ho.mono HX1.out.lt, hob⟩
        have HX2 : Hid (B3q w2 go (v0) (v1) (v2)) := HX1.out.below hb2
        have HBV : Hid (Below w.heap.size w w2) := Below.on HBW.out hb2
        obtain ⟨c0, c1, c2, f0, f1, f2⟩ := HX2.out
        have hlt := HX2.out.lt
        clear ho hob hb2
        go_wp2_with fail
        go_roundg gg
        case measure => omega
        case rel =>
          exact ⟨1, by omega, by go_num, .iface vt vx, v1, v2, ⟨by go_simp, by go_simp, by go_simp, by go_simp, by go_simp, by go_simp⟩, fun _ => ⟨o, HO.out.1.set _ _ _ (by omega), HO.out.2⟩, fun h => by omega, fun h => by omega, bSet HBV.out _ _ _ HGO.out⟩
      by_cases hk1 : k = 1
      · obtain rfl : k = 1 := hk1
        have e0 : wr.cell? ⟨g, 1, none⟩ = some (U a1) := (hbw.cell (p := ⟨g, 1, none⟩) HCG.out.2).trans HCG.out.1.2.1
        clear h0 h1 h2 hx hbw
        go_wp2_with fail
        refine (opof HJO.out a1 HAB.out.2.1 wr (TB.out.below HBW.out)).mono ?_
        rintro e9 w2 ⟨v, o, rfl, ho, hob, hb2⟩
        obtain ⟨vt, vx, rfl⟩ : ∃ t x, v = .iface t x := ho.iface
        have HO : Hid (OpO (go + 1) w2 (.iface vt vx) o ∧ OpB S I H l a1 o) := ⟨ho.mono HX1.out.lt, hob⟩
        have HX2 : Hid (B3q w2 go (v0) (v1) (v2)) := HX1.out.below hb2
        have HBV : Hid (Below w.heap.size w w2) := Below.on HBW.out hb2
        have HP0 : Hid (∃ o, OpO (go + 1) w2 v0 o ∧ OpB S I H l a0 o) := by obtain ⟨o9, q1, q2⟩ := H0k.out (by omega); exact ⟨o9, q1.below hb2, q2⟩
        obtain ⟨c0, c1, c2, f0, f1, f2⟩ := HX2.out
        have hlt := HX2.out.lt
        clear ho hob hb2
        go_wp2_with fail
        go_roundg gg
        case measure => omega
        case rel =>
          obtain ⟨o0, q0, r0⟩ := HP0.out
          exact ⟨2, by omega, by go_num, v0, .iface vt vx, v2, ⟨by go_simp, by go_simp, by go_simp, by go_simp, by go_simp, by go_simp⟩, fun _ => ⟨o0, q0.set _ _ _ (by omega), r0⟩, fun _ => ⟨o, HO.out.1.set _ _ _ (by omega), HO.out.2⟩, fun h => by omega, bSet HBV.out _ _ _ HGO.out⟩
      · obtain rfl : k = 2 := by omega
        have e0 : wr.cell? ⟨g, 2, none⟩ = some (U a2) := (hbw.cell (p := ⟨g, 2, none⟩) HCG.out.2).trans HCG.out.1.2.2
        clear h0 h1 h2 hx hbw
        go_wp2_with fail
        refine (opof HJO.out a2 HAB.out.2.2 wr (TB.out.below HBW.out)).mono ?_
        rintro e9 w2 ⟨v, o, rfl, ho, hob, hb2⟩
        obtain ⟨vt, vx, rfl⟩ : ∃ t x, v = .iface t x := ho.iface
        have HO : Hid (OpO (go + 1) w2 (.iface vt vx) o ∧ OpB S I H l a2 o) := ⟨ho.mono HX1.out.lt, hob⟩
        have HX2 : Hid (B3q w2 go (v0) (v1) (v2)) := HX1.out.below hb2
        have HBV : Hid (Below w.heap.size w w2) := Below.on HBW.out hb2
        have HP0 : Hid (∃ o, OpO (go + 1) w2 v0 o ∧ OpB S I H l a0 o) := by obtain ⟨o9, q1, q2⟩ := H0k.out (by omega); exact ⟨o9, q1.below hb2, q2⟩
        have HP1 : Hid (∃ o, OpO (go + 1) w2 v1 o ∧ OpB S I H l a1 o) := by obtain ⟨o9, q1, q2⟩ := H1k.out (by omega); exact ⟨o9, q1.below hb2, q2⟩
        obtain ⟨c0, c1, c2, f0, f1, f2⟩ := HX2.out
        have hlt := HX2.out.lt
        clear ho hob hb2
        go_wp2_with fail
        go_roundg gg
        case measure => omega
        case rel =>
          obtain ⟨o0, q0, r0⟩ := HP0.out
          obtain ⟨o1, q1, r1⟩ := HP1.out
          exact ⟨3, by omega, by go_num, v0, v1, .iface vt vx, ⟨by go_simp, by go_simp, by go_simp, by go_simp, by go_simp, by go_simp⟩, fun _ => ⟨o0, q0.set _ _ _ (by omega), r0⟩, fun _ => ⟨o1, q1.set _ _ _ (by omega), r1⟩, fun _ => ⟨o, HO.out.1.set _ _ _ (by omega), HO.out.2⟩, bSet HBV.out _ _ _ HGO.out⟩
theorem BdO.mono {K E K' E' : Nat} {o : Opd} (h : BdO K E o) (hK : K ≤ K') (hE : E ≤ E') : BdO K' E' o := fun hk => (h hk).mono hK hE
theorem soft_neg {f p m l : Int} {S I H sd : Nat} {Be : Int} {Q : Nat} (J : Jo f p m l S I H sd Be Q) {a0 : Nat} (hab : a0 < 2 * S) (w : World) (hT : Tab w) :
    Calls Tryz.prog 35 #[.int .i64 f, U a0] w fun en w' => ∃ o0, en = .returned (.tuple #[U (patO l sd Be S I Q (negO o0)), .int .i64 0]) ∧ OpB S I H l a0 o0 ∧ Below w.heap.size w w' := by
  have HJO : Hid (Jo f p m l S I H sd Be Q) := J
  have HAB : Hid (a0 < 2 * S) := hab
  have TB : Hid (Tab w) := hT
  clear J hab hT
  go_enter Tryz.func35, Tryz.ntmps35
  go_wp2_with fail
  have hb0 := below1 w (.cells #[U a0] 22)
  refine (operands1 HJO.out HAB.out (by go_simp) (TB.out.below hb0)).mono ?_
  rintro e9 v1 ⟨go, u0, o0, rfl, hgo, hx, hv0, ho0, hb1⟩
  have hbw := Below.on hb0 hb1
  obtain ⟨t0, x0, rfl⟩ := hv0.iface
  have Xo : Hid (B1s v1 go (.iface t0 x0)) := hx
  have B0 : Hid (OpB S I H l a0 o0) := ho0
  have V0 : Hid (OpV v1 (.iface t0 x0) o0) := hv0
  clear hb0 hb1 hx hgo hv0 ho0
  obtain ⟨co0, fo0⟩ := Xo.out
  have hneo : go < v1.heap.size := World.block_lt_of_cell? v1 _ co0
  go_wp2_with fail
  clear co0 fo0 hneo
  refine (opp_ok V0.out).mono ?_
  rintro e9 w2 ⟨u, rfl, hu, hb2⟩
  obtain ⟨c, hc⟩ : ∃ c, c = negO o0 := ⟨_, rfl⟩
  rw [← hc] at hu
  have HC : Hid (c = negO o0) := hc
  clear hc
  replace Xo : Hid (B1s w2 go (.iface t0 x0)) := Xo.out.below hb2
  replace V0 : Hid (OpV w2 (.iface t0 x0) o0) := V0.out.below hb2
  replace hbw := Below.on hbw hb2
  clear hb2
  have VC : Hid (OpV w2 u c) := hu
  clear hu
  have hvc := VC.out
  rcases hvc with ⟨rfl, rfl⟩ | ⟨s, rfl, rfl⟩ | ⟨s, rfl, rfl⟩ | ⟨s, pc, mc, cc, ec, xc, rfl, dc, nc, rfl⟩
  · have me := meth_pattern_nan
    clear VC
    go_wp2_with fail
    refine (pat_nan HJO.out.jq _).mono ?_
    rintro e v9 ⟨rfl, hb9⟩
    rw [← patO_nan l sd Be S I Q]
    obtain ⟨r, hr⟩ : ∃ r, r = patO l sd Be S I Q onan := ⟨_, rfl⟩
    rw [← hr]
    have HPR : Hid (patO l sd Be S I Q onan = r) := hr.symm
    clear hr
    replace Xo : Hid (B1s v9 go (.iface t0 x0)) := Xo.out.below hb9
    replace V0 : Hid (OpV v9 (.iface t0 x0) o0) := V0.out.below hb9
    replace hbw := Below.on hbw hb9
    clear hb9
    go_wp2_with fail
    go_ret2
    exact ⟨o0, by rw [← HC.out, HPR.out]; rfl, B0.out, hbw⟩
  · have me := meth_pattern_inf
    clear VC
    go_wp2_with fail
    refine (pat_inf HJO.out.jq s _).mono ?_
    rintro e v9 ⟨rfl, hb9⟩
    rw [← patO_inf l sd Be S I Q s]
    obtain ⟨r, hr⟩ : ∃ r, r = patO l sd Be S I Q (oinf s) := ⟨_, rfl⟩
    rw [← hr]
    have HPR : Hid (patO l sd Be S I Q (oinf s) = r) := hr.symm
    clear hr
    replace Xo : Hid (B1s v9 go (.iface t0 x0)) := Xo.out.below hb9
    replace V0 : Hid (OpV v9 (.iface t0 x0) o0) := V0.out.below hb9
    replace hbw := Below.on hbw hb9
    clear hb9
    go_wp2_with fail
    go_ret2
    exact ⟨o0, by rw [← HC.out, HPR.out]; rfl, B0.out, hbw⟩
  · have me := meth_pattern_no
    clear VC
    go_wp2_with fail
    refine (pat_no HJO.out.jq s _).mono ?_
    rintro e v9 ⟨rfl, hb9⟩
    rw [Nat.add_zero, ← patO_no l sd Be S I Q s]
    obtain ⟨r, hr⟩ : ∃ r, r = patO l sd Be S I Q (ono s) := ⟨_, rfl⟩
    rw [← hr]
    have HPR : Hid (patO l sd Be S I Q (ono s) = r) := hr.symm
    clear hr
    replace Xo : Hid (B1s v9 go (.iface t0 x0)) := Xo.out.below hb9
    replace V0 : Hid (OpV v9 (.iface t0 x0) o0) := V0.out.below hb9
    replace hbw := Below.on hbw hb9
    clear hb9
    go_wp2_with fail
    go_ret2
    exact ⟨o0, by rw [← HC.out, HPR.out]; rfl, B0.out, hbw⟩
  · have me := meth_pattern_fin
    have DC : Hid (DN w2 s pc mc cc ec xc) := dc
    clear dc
    clear VC
    go_wp2_with fail
    refine (pat_fin HJO.out.jq (DC.out) (TB.out.below hbw)).mono ?_
    rintro e v9 ⟨rfl, hb9⟩
    rw [← patO_fin l sd Be S I Q xc ec]
    obtain ⟨r, hr⟩ : ∃ r, r = patO l sd Be S I Q (ofin xc ec) := ⟨_, rfl⟩
    rw [← hr]
    have HPR : Hid (patO l sd Be S I Q (ofin xc ec) = r) := hr.symm
    clear hr
    replace Xo : Hid (B1s v9 go (.iface t0 x0)) := Xo.out.below hb9
    replace V0 : Hid (OpV v9 (.iface t0 x0) o0) := V0.out.below hb9
    replace hbw := Below.on hbw hb9
    clear hb9
    go_wp2_with fail
    go_ret2
    exact ⟨o0, by rw [← HC.out, HPR.out]; rfl, B0.out, hbw⟩
theorem soft_fma {f p m l : Int} {S I H sd : Nat} {Be : Int} {Q : Nat} (J : Jo f p m l S I H sd Be Q) {a0 a1 a2 : Nat} (hab : a0 < 2 * S ∧ a1 < 2 * S ∧ a2 < 2 * S) (w : World) (hT : Tab w) :
    Calls Tryz.prog 28 #[.int .i64 f, U a0, U a1, U a2] w fun en w' => ∃ o0 o1 o2 q c, en = .returned (.tuple #[U (patO l sd Be S I Q c), .int .i64 0]) ∧ OpB S I H l a0 o0 ∧ OpB S I H l a1 o1 ∧ OpB S I H l a2 o2 ∧ MulO o0 o1 q ∧ SumO q o2 c ∧ Below w.heap.size w w' := by
  have HJO : Hid (Jo f p m l S I H sd Be Q) := J
  have HAB : Hid (a0 < 2 * S ∧ a1 < 2 * S ∧ a2 < 2 * S) := hab
  have TB : Hid (Tab w) := hT
  clear J hab hT
  go_enter Tryz.func28, Tryz.ntmps28
  go_wp2_with fail
  have hb0 := below1 w (.cells #[U a0, U a1, U a2] 22)
  refine (operands3 HJO.out HAB.out ⟨by go_simp, by go_simp, by go_simp⟩ (TB.out.below hb0)).mono ?_
  rintro e9 v1 ⟨go, u0, u1, u2, o0, o1, o2, rfl, hgo, hx, hv0, hv1, hv2, ho0, ho1, ho2, hb1⟩
  have hbw := Below.on hb0 hb1
  obtain ⟨t0, x0, rfl⟩ := hv0.iface
  obtain ⟨t1, x1, rfl⟩ := hv1.iface
  obtain ⟨t2, x2, rfl⟩ := hv2.iface
  have Xo : Hid (B3q v1 go (.iface t0 x0) (.iface t1 x1) (.iface t2 x2)) := hx
  have B0 : Hid (OpB S I H l a0 o0) := ho0
  have B1 : Hid (OpB S I H l a1 o1) := ho1
  have B2 : Hid (OpB S I H l a2 o2) := ho2
  have V0 : Hid (OpV v1 (.iface t0 x0) o0) := hv0
  have V1 : Hid (OpV v1 (.iface t1 x1) o1) := hv1
  have V2 : Hid (OpV v1 (.iface t2 x2) o2) := hv2
  clear hb0 hb1 hx hgo hv0 ho0 hv1 ho1 hv2 ho2
  obtain ⟨co0, co1, co2, fo0, fo1, fo2⟩ := Xo.out
  have hneo : go < v1.heap.size := World.block_lt_of_cell? v1 _ co0
  go_wp2_with fail
  clear co0 co1 co2 fo0 fo1 fo2 hneo
  obtain ⟨Wr, hWr⟩ : ∃ W1, W1 = v1.drew := ⟨_, rfl⟩
  have hbd : Below v1.heap.size v1 Wr := by rw [hWr]; exact bDrew1 (Below.refl _ _)
  replace Xo : Hid _ := Xo.out.below hbd
  replace V0 : Hid (OpV Wr (.iface t0 x0) o0) := V0.out.below hbd
  replace V1 : Hid (OpV Wr (.iface t1 x1) o1) := V1.out.below hbd
  replace V2 : Hid (OpV Wr (.iface t2 x2) o2) := V2.out.below hbd
  replace hbw := Below.on hbw hbd
  clear hbd
  have HJ : Hid ((fun W' : World => W'.cell? ⟨go, 0, none⟩ = some (.iface t0 x0) ∧ W'.cell? ⟨go, 1, none⟩ = some (.iface t1 x1) ∧ W'.cell? ⟨go, 2, none⟩ = some (.iface t2 x2)) Wr) := ⟨Xo.out.c0, Xo.out.c1, Xo.out.c2⟩
  refine wp_region_J (fun W' => W'.cell? ⟨go, 0, none⟩ = some (.iface t0 x0) ∧ W'.cell? ⟨go, 1, none⟩ = some (.iface t1 x1) ∧ W'.cell? ⟨go, 2, none⟩ = some (.iface t2 x2)) (by kernel_rfl) ?_
  rw [← hWr]
  clear hWr
  refine wpJ_tq 0 rfl HJ.out ?_
  refine wpJ_tq 1 rfl HJ.out ?_
  refine wpJ_tq 2 rfl HJ.out ?_
  refine wpJ_tq 3 rfl HJ.out ?_
  refine wpJ_tq 4 rfl HJ.out ?_
  go_simp
  refine wpJ_tq 5 rfl HJ.out ?_
  refine wpJ_tq 7 rfl HJ.out ?_
  refine wpJ_tq 8 rfl HJ.out ?_
  refine wpJ_tq 9 rfl HJ.out ?_
  refine wpJ_tq 11 rfl HJ.out ?_
  refine wpJ_on 6 rfl fun KJ hK => ?_
  go_simp
  refine (mul_ok V0.out V1.out (B0.out.bd HJO.out.jq.jn) (B1.out.bd HJO.out.jq.jn) (by decide) (by decide) (TB.out.below hbw)).mono ?_
  rintro e9 w2 ⟨v, q, rfl, hv, hs, hbd, hb2⟩
  obtain ⟨tq, xq, rfl⟩ := hv.iface
  replace Xo : Hid _ := Xo.out.below hb2
  replace V0 : Hid (OpV w2 (.iface t0 x0) o0) := V0.out.below hb2
  replace V1 : Hid (OpV w2 (.iface t1 x1) o1) := V1.out.below hb2
  replace V2 : Hid (OpV w2 (.iface t2 x2) o2) := V2.out.below hb2
  replace hbw := Below.on hbw hb2
  clear hb2
  have VQ : Hid (OpV w2 (.iface tq xq) q) := hv
  have HM : Hid (MulO o0 o1 q ∧ BdO (128 + 128) (1430 + 1430 + 128 + 128) q) := ⟨hs, hbd⟩
  clear hv hs hbd
  refine hK _ _ ⟨Xo.out.c0, Xo.out.c1, Xo.out.c2⟩ ?_
  clear hK
  refine wpJ_on 10 rfl fun KJ hK => ?_
  go_simp
  refine (sum_ok VQ.out V2.out HM.out.2 ((B2.out.bd HJO.out.jq.jn).mono (by decide) (by decide)) (by decide) (TB.out.below hbw)).mono ?_
  rintro e9 w3 ⟨v, c, rfl, hv, hs, hbd, hb3⟩
  replace Xo : Hid _ := Xo.out.below hb3
  replace V0 : Hid (OpV w3 (.iface t0 x0) o0) := V0.out.below hb3
  replace V1 : Hid (OpV w3 (.iface t1 x1) o1) := V1.out.below hb3
  replace V2 : Hid (OpV w3 (.iface t2 x2) o2) := V2.out.below hb3
  replace VQ : Hid (OpV w3 (.iface tq xq) q) := VQ.out.below hb3
  replace hbw := Below.on hbw hb3
  clear hb3
  have VC : Hid (OpV w3 v c) := hv
  have HS : Hid (SumO q o2 c) := hs
  clear hv hs hbd
  clear HJ
  have HJ : Hid ((fun W' : World => W'.cell? ⟨go, 0, none⟩ = some (.iface t0 x0) ∧ W'.cell? ⟨go, 1, none⟩ = some (.iface t1 x1) ∧ W'.cell? ⟨go, 2, none⟩ = some (.iface t2 x2)) w3) := ⟨Xo.out.c0, Xo.out.c1, Xo.out.c2⟩
  refine hK _ _ HJ.out ?_
  clear hK
  have hvc := VC.out
  rcases hvc with ⟨rfl, rfl⟩ | ⟨s, rfl, rfl⟩ | ⟨s, rfl, rfl⟩ | ⟨s, pc, mc, cc, ec, xc, rfl, dc, nc, rfl⟩
  · have me := meth_pattern_nan
    clear VC
    refine wpJ_on 12 rfl fun KJ hK => ?_
    go_simp
    refine (pat_nan HJO.out.jq _).mono ?_
    rintro e v9 ⟨rfl, hb9⟩
    rw [← patO_nan l sd Be S I Q]
    obtain ⟨r, hr⟩ : ∃ r, r = patO l sd Be S I Q onan := ⟨_, rfl⟩
    rw [← hr]
    have HPR : Hid (patO l sd Be S I Q onan = r) := hr.symm
    clear hr
    replace Xo : Hid _ := Xo.out.below hb9
    replace V0 : Hid (OpV v9 (.iface t0 x0) o0) := V0.out.below hb9
    replace V1 : Hid (OpV v9 (.iface t1 x1) o1) := V1.out.below hb9
    replace V2 : Hid (OpV v9 (.iface t2 x2) o2) := V2.out.below hb9
    replace VQ : Hid (OpV v9 (.iface tq xq) q) := VQ.out.below hb9
    replace hbw := Below.on hbw hb9
    clear hb9
    clear HJ
    have HJ : Hid ((fun W' : World => W'.cell? ⟨go, 0, none⟩ = some (.iface t0 x0) ∧ W'.cell? ⟨go, 1, none⟩ = some (.iface t1 x1) ∧ W'.cell? ⟨go, 2, none⟩ = some (.iface t2 x2)) v9) := ⟨Xo.out.c0, Xo.out.c1, Xo.out.c2⟩
    refine hK _ _ HJ.out ?_
    clear hK
    refine wpJ_tq 13 rfl HJ.out ?_
    refine wpJ_tq 14 rfl HJ.out ?_
    refine wpJ_done (by kernel_rfl) ?_ _
    clear HJ
    go_wp2_with fail
    go_ret2
    exact ⟨o0, o1, o2, q, onan, by rw [HPR.out]; rfl, B0.out, B1.out, B2.out, HM.out.1, HS.out, hbw⟩
  · have me := meth_pattern_inf
    clear VC
    refine wpJ_on 12 rfl fun KJ hK => ?_
    go_simp
    refine (pat_inf HJO.out.jq s _).mono ?_
    rintro e v9 ⟨rfl, hb9⟩
    rw [← patO_inf l sd Be S I Q s]
    obtain ⟨r, hr⟩ : ∃ r, r = patO l sd Be S I Q (oinf s) := ⟨_, rfl⟩
    rw [← hr]
    have HPR : Hid (patO l sd Be S I Q (oinf s) = r) := hr.symm
    clear hr
    replace Xo : Hid _ := Xo.out.below hb9
    replace V0 : Hid (OpV v9 (.iface t0 x0) o0) := V0.out.below hb9
    replace V1 : Hid (OpV v9 (.iface t1 x1) o1) := V1.out.below hb9
    replace V2 : Hid (OpV v9 (.iface t2 x2) o2) := V2.out.below hb9
    replace VQ : Hid (OpV v9 (.iface tq xq) q) := VQ.out.below hb9
    replace hbw := Below.on hbw hb9
    clear hb9
    clear HJ
    have HJ : Hid ((fun W' : World => W'.cell? ⟨go, 0, none⟩ = some (.iface t0 x0) ∧ W'.cell? ⟨go, 1, none⟩ = some (.iface t1 x1) ∧ W'.cell? ⟨go, 2, none⟩ = some (.iface t2 x2)) v9) := ⟨Xo.out.c0, Xo.out.c1, Xo.out.c2⟩
    refine hK _ _ HJ.out ?_
    clear hK
    refine wpJ_tq 13 rfl HJ.out ?_
    refine wpJ_tq 14 rfl HJ.out ?_
    refine wpJ_done (by kernel_rfl) ?_ _
    clear HJ
    go_wp2_with fail
    go_ret2
    exact ⟨o0, o1, o2, q, (oinf s), by rw [HPR.out]; rfl, B0.out, B1.out, B2.out, HM.out.1, HS.out, hbw⟩
  · have me := meth_pattern_no
    clear VC
    refine wpJ_on 12 rfl fun KJ hK => ?_
    go_simp
    refine (pat_no HJO.out.jq s _).mono ?_
    rintro e v9 ⟨rfl, hb9⟩
    rw [Nat.add_zero, ← patO_no l sd Be S I Q s]
    obtain ⟨r, hr⟩ : ∃ r, r = patO l sd Be S I Q (ono s) := ⟨_, rfl⟩
    rw [← hr]
    have HPR : Hid (patO l sd Be S I Q (ono s) = r) := hr.symm
    clear hr
    replace Xo : Hid _ := Xo.out.below hb9
    replace V0 : Hid (OpV v9 (.iface t0 x0) o0) := V0.out.below hb9
    replace V1 : Hid (OpV v9 (.iface t1 x1) o1) := V1.out.below hb9
    replace V2 : Hid (OpV v9 (.iface t2 x2) o2) := V2.out.below hb9
    replace VQ : Hid (OpV v9 (.iface tq xq) q) := VQ.out.below hb9
    replace hbw := Below.on hbw hb9
    clear hb9
    clear HJ
    have HJ : Hid ((fun W' : World => W'.cell? ⟨go, 0, none⟩ = some (.iface t0 x0) ∧ W'.cell? ⟨go, 1, none⟩ = some (.iface t1 x1) ∧ W'.cell? ⟨go, 2, none⟩ = some (.iface t2 x2)) v9) := ⟨Xo.out.c0, Xo.out.c1, Xo.out.c2⟩
    refine hK _ _ HJ.out ?_
    clear hK
    refine wpJ_tq 13 rfl HJ.out ?_
    refine wpJ_tq 14 rfl HJ.out ?_
    refine wpJ_done (by kernel_rfl) ?_ _
    clear HJ
    go_wp2_with fail
    go_ret2
    exact ⟨o0, o1, o2, q, (ono s), by rw [HPR.out]; rfl, B0.out, B1.out, B2.out, HM.out.1, HS.out, hbw⟩
  · have me := meth_pattern_fin
    have DC : Hid (DN w3 s pc mc cc ec xc) := dc
    clear dc
    clear VC
    refine wpJ_on 12 rfl fun KJ hK => ?_
    go_simp
    refine (pat_fin HJO.out.jq (DC.out) (TB.out.below hbw)).mono ?_
    rintro e v9 ⟨rfl, hb9⟩
    rw [← patO_fin l sd Be S I Q xc ec]
    obtain ⟨r, hr⟩ : ∃ r, r = patO l sd Be S I Q (ofin xc ec) := ⟨_, rfl⟩
    rw [← hr]
    have HPR : Hid (patO l sd Be S I Q (ofin xc ec) = r) := hr.symm
    clear hr
    replace Xo : Hid _ := Xo.out.below hb9
    replace V0 : Hid (OpV v9 (.iface t0 x0) o0) := V0.out.below hb9
    replace V1 : Hid (OpV v9 (.iface t1 x1) o1) := V1.out.below hb9
    replace V2 : Hid (OpV v9 (.iface t2 x2) o2) := V2.out.below hb9
    replace VQ : Hid (OpV v9 (.iface tq xq) q) := VQ.out.below hb9
    replace hbw := Below.on hbw hb9
    clear hb9
    clear HJ
    have HJ : Hid ((fun W' : World => W'.cell? ⟨go, 0, none⟩ = some (.iface t0 x0) ∧ W'.cell? ⟨go, 1, none⟩ = some (.iface t1 x1) ∧ W'.cell? ⟨go, 2, none⟩ = some (.iface t2 x2)) v9) := ⟨Xo.out.c0, Xo.out.c1, Xo.out.c2⟩
    refine hK _ _ HJ.out ?_
    clear hK
    refine wpJ_tq 13 rfl HJ.out ?_
    refine wpJ_tq 14 rfl HJ.out ?_
    refine wpJ_done (by kernel_rfl) ?_ _
    clear HJ
    go_wp2_with fail
    go_ret2
    exact ⟨o0, o1, o2, q, (ofin xc ec), by rw [HPR.out]; rfl, B0.out, B1.out, B2.out, HM.out.1, HS.out, hbw⟩
structure Mk (H : Nat) (l : Int) (I : Nat) (g : Int → Int) (A V : Int) : Prop where
  lt : ∀ z, z < I → V < dv (hv H z : Int) (l - 1) → A < g (dv (hv H z : Int) (l - 1))
  gt : ∀ z, z < I → dv (hv H z : Int) (l - 1) < V → g (dv (hv H z : Int) (l - 1)) < A
  eq : ∀ z, z < I → V = dv (hv H z : Int) (l - 1) → A = g (dv (hv H z : Int) (l - 1))
def Rise (g : Int → Int) : Prop := ∀ a b, 0 ≤ a → a < b → g a < g b
theorem Rise.le {g : Int → Int} (h : Rise g) {a b : Int} (ha : 0 ≤ a) (hab : a ≤ b) : g a ≤ g b := by
  rcases Int.lt_or_eq_of_le hab with h1 | h1
  · exact Int.le_of_lt (h a b ha h1)
  · rw [h1]; exact Int.le_refl _
theorem Rise.of {g : Int → Int} (h : Rise g) {a b : Int} (hb : 0 ≤ b) (hg : g a ≤ g b) : a ≤ b := by
  refine Int.not_lt.1 fun h1 => ?_
  have := h b a hb h1
  omega
theorem rise_mul {B : Int} (h : 0 < B) : Rise fun t => B * t := fun _ _ _ hab => Int.mul_lt_mul_of_pos_left hab h
theorem rise_sq : Rise fun t => t * t := fun a b ha hab => by
  have h1 : a * a ≤ a * b := Int.mul_le_mul_of_nonneg_left (by omega) ha
  have h2 : a * b < b * b := Int.mul_lt_mul_of_pos_right hab (by omega)
  show a * a < b * b
  omega
theorem dv_nn (n : Nat) (e : Int) : 0 ≤ dv (n : Int) e := by
  have := dv_le e (show (0 : Int) ≤ (n : Int) by omega)
  rwa [dv_zero] at this
theorem Mk.low {H : Nat} {l : Int} {I : Nat} {g : Int → Int} {A V T : Int} {Z Y : Nat} (h : Mk H l I g A V) (hg : Rise g) (hZ : RNz H l I V Z) (hY : RNz H l I T Y) (_hT : 0 ≤ T) (hA : g T ≤ A) : Y ≤ Z := by
  refine Nat.le_of_not_lt fun hlt => ?_
  have hZI : Z < I := Nat.lt_of_lt_of_le hlt hY.le
  have h0 := dv_nn (hv H Z) (l - 1)
  have h1 : dv (hv H Z : Int) (l - 1) ≤ T := Int.not_lt.1 fun h2 => by have := hY.lo Z hZI h2; omega
  have h2 : V ≤ dv (hv H Z : Int) (l - 1) := Int.not_lt.1 fun h2 => by have := hZ.hi Z hZI h2; omega
  have h3 := hg.le h0 h1
  rcases Int.lt_or_eq_of_le h2 with h4 | h4
  · have := h.lt Z hZI h4; omega
  · have h5 := h.eq Z hZI h4
    have h6 : T ≤ dv (hv H Z : Int) (l - 1) := hg.of h0 (by omega)
    have h7 : V = T := by omega
    rw [h7] at hZ
    have := hZ.uniq hY
    omega
theorem Mk.high {H : Nat} {l : Int} {I : Nat} {g : Int → Int} {A V T : Int} {Z Y : Nat} (h : Mk H l I g A V) (hg : Rise g) (hZ : RNz H l I V Z) (hY : RNz H l I T Y) (hT : 0 ≤ T) (hA : A ≤ g T) : Z ≤ Y := by
  refine Nat.le_of_not_lt fun hlt => ?_
  have hYI : Y < I := Nat.lt_of_lt_of_le hlt hZ.le
  have h0 := dv_nn (hv H Y) (l - 1)
  have h1 : T ≤ dv (hv H Y : Int) (l - 1) := Int.not_lt.1 fun h2 => by have := hY.hi Y hYI h2; omega
  have h2 : dv (hv H Y : Int) (l - 1) ≤ V := Int.not_lt.1 fun h2 => by have := hZ.lo Y hYI h2; omega
  have h3 := hg.le hT h1
  rcases Int.lt_or_eq_of_le h2 with h4 | h4
  · have := h.gt Y hYI h4; omega
  · have h5 := h.eq Y hYI h4.symm
    have h6 : dv (hv H Y : Int) (l - 1) ≤ T := hg.of hT (by omega)
    have h7 : V = T := by omega
    rw [h7] at hZ
    have := hZ.uniq hY
    omega
theorem Mk.same {H : Nat} {l : Int} {I : Nat} {g : Int → Int} {A V T : Int} {Z Y : Nat} (h : Mk H l I g A V) (hg : Rise g) (hZ : RNz H l I V Z) (hY : RNz H l I T Y) (hT : 0 ≤ T) (hA : A = g T) : Z = Y :=
  Nat.le_antisymm (h.high hg hZ hY hT (by omega)) (h.low hg hZ hY hT (by omega))
theorem Mk.cell {H : Nat} {l : Int} {I : Nat} {g : Int → Int} {A V : Int} {Z : Nat} (h : Mk H l I g A V) (hZ : RNz H l I V Z) (h0 : Z ≠ 0) (h1 : Z < I) :
    g (dv (hv H (Z - 1) : Int) (l - 1)) ≤ A ∧ A ≤ g (dv (hv H Z : Int) (l - 1)) ∧ (Z % 2 = 1 → g (dv (hv H (Z - 1) : Int) (l - 1)) < A ∧ A < g (dv (hv H Z : Int) (l - 1))) := by
  obtain ⟨c1, c2, c3⟩ := hZ.cell h0 h1
  refine ⟨?_, ?_, fun ho => ⟨h.gt _ (by omega) (c3 ho).1, h.lt _ h1 (c3 ho).2⟩⟩
  · rcases Int.lt_or_eq_of_le c1 with h2 | h2
    · exact Int.le_of_lt (h.gt _ (by omega) h2)
    · have := h.eq _ (by omega) h2.symm; omega
  · rcases Int.lt_or_eq_of_le c2 with h2 | h2
    · exact Int.le_of_lt (h.lt _ h1 h2)
    · have := h.eq _ h1 h2; omega
theorem dv_exp_le {k : Nat} {a b : Int} (h : a ≤ b) (ha : -4194304 ≤ a) : dv (k : Int) a ≤ dv (k : Int) b := by
  obtain ⟨j, hj⟩ : ∃ j : Nat, b = a + j := ⟨(b - a).toNat, by omega⟩
  rw [hj, dv_up j ha]
  apply dv_le
  have h1 : 1 ≤ 2 ^ j := Nat.pow_pos (by omega)
  have h2 : k * 1 ≤ k * 2 ^ j := Nat.mul_le_mul_left k h1
  rw [← Int.natCast_mul]
  omega
theorem mk_of {H : Nat} {l : Int} {I : Nat} {g : Int → Int} (hg : Rise g) (hH : 0 < H) (hl : -4194303 ≤ l) {A e : Int} {F k : Nat} (he : -4194304 ≤ e) (hF : 2 * H ≤ F) (hk : k = 0 ∧ A = g (dv ((2 * F : Nat) : Int) e) ∨ k = 1 ∧ g (dv ((2 * F : Nat) : Int) e) < A ∧ A < g (dv ((2 * F + 2 : Nat) : Int) e)) :
    Mk H l I g A (dv ((2 * F + k : Nat) : Int) e) := by
  have hFA : g (dv ((2 * F : Nat) : Int) e) ≤ A := by rcases hk with ⟨_, h⟩ | ⟨_, h, _⟩ <;> omega
  have hFV : dv ((2 * F : Nat) : Int) e ≤ dv ((2 * F + k : Nat) : Int) e := dv_le e (by omega)
  have hk2 : k < 2 := by rcases hk with ⟨h, _⟩ | ⟨h, _, _⟩ <;> omega
  have hVU : dv ((2 * F + k : Nat) : Int) e < dv ((2 * F + 2 : Nat) : Int) e := dv_lt e (by omega)
  have hF0 := dv_nn (2 * F) e
  have hAU : A < g (dv ((2 * F + 2 : Nat) : Int) e) := by
    rcases hk with ⟨_, h⟩ | ⟨_, _, h⟩
    · rw [h]; exact hg _ _ hF0 (Int.lt_of_le_of_lt hFV hVU)
    · exact h
  -- the point half way is below the floor, or a whole number of units
  have key : ∀ z, (dv (hv H z : Int) (l - 1) < dv ((2 * F : Nat) : Int) e) ∨ ∃ c : Nat, dv (hv H z : Int) (l - 1) = dv ((2 * c : Nat) : Int) e := fun z => by
    rw [← mid_dv z hl]
    obtain ⟨q, hq⟩ : ∃ q, q = z / H - 1 := ⟨_, rfl⟩
    rw [← hq]
    have hmn : z - q * H < 2 * H := by
      have e1 := Nat.div_add_mod z H
      have e2 := Nat.mod_lt z hH
      rw [Nat.mul_comm] at e1
      by_cases e3 : z / H = 0
      · rw [e3] at e1; omega
      · rw [hq, Nat.sub_mul]; omega
    rcases Int.lt_or_le e (l + (q : Int) - 1) with h1 | h1
    · right
      obtain ⟨j, hj⟩ : ∃ j : Nat, l + (q : Int) - 1 = e + ((j + 1 : Nat) : Int) := ⟨(l + (q : Int) - 1 - e - 1).toNat, by omega⟩
      refine ⟨(2 * (z - q * H) + 1) * 2 ^ j, ?_⟩
      rw [hj, dv_up (j + 1) he, ← Int.natCast_mul]
      congr 2
      rw [Nat.pow_succ, Nat.mul_comm 2 ((2 * (z - q * H) + 1) * 2 ^ j), Nat.mul_assoc]
    · left
      refine Int.lt_of_le_of_lt (dv_exp_le h1 (by omega)) (dv_lt e ?_)
      omega
  have up : ∀ c : Nat, F < c → dv ((2 * F + 2 : Nat) : Int) e ≤ dv ((2 * c : Nat) : Int) e := fun c h => dv_le e (by omega)
  have dn : ∀ c : Nat, c < F → dv ((2 * c : Nat) : Int) e < dv ((2 * F : Nat) : Int) e := fun c h => dv_lt e (by omega)
  refine ⟨fun z hz hlt => ?_, fun z hz hgt => ?_, fun z hz heq => ?_⟩
  · rcases key z with h1 | ⟨c, h1⟩
    · omega
    · rw [h1] at hlt ⊢
      rcases Nat.lt_trichotomy c F with h2 | h2 | h2
      · have := dn c h2; omega
      · rw [h2] at hlt; omega
      · exact Int.lt_of_lt_of_le hAU (hg.le (dv_nn _ _) (up c h2))
  · rcases key z with h1 | ⟨c, h1⟩
    · exact Int.lt_of_lt_of_le (hg _ _ (dv_nn _ _) h1) hFA
    · rw [h1] at hgt ⊢
      rcases Nat.lt_trichotomy c F with h2 | h2 | h2
      · exact Int.lt_of_lt_of_le (hg _ _ (dv_nn _ _) (dn c h2)) hFA
      · rcases hk with ⟨h3, _⟩ | ⟨_, h3, _⟩
        · rw [h2, h3] at hgt; exact absurd hgt (Int.lt_irrefl _)
        · rw [h2]; exact h3
      · have := up c h2; omega
  · rcases key z with h1 | ⟨c, h1⟩
    · omega
    · rw [h1] at heq ⊢
      rcases Nat.lt_trichotomy c F with h2 | h2 | h2
      · have := dn c h2; omega
      · rcases hk with ⟨_, h3⟩ | ⟨h3, _, _⟩
        · rw [h2]; exact h3
        · rw [h2, h3] at heq
          have := dv_lt e (show ((2 * F : Nat) : Int) < ((2 * F + 1 : Nat) : Int) by omega)
          omega
      · have := up c h2; omega
theorem mk_quo {H : Nat} {l : Int} {I : Nat} (hH : 0 < H) (hl : -4194303 ≤ l) {e d : Int} {x y k F r m : Nat} (hd : d = e - (k : Int) - 1) (he : -4194304 ≤ d) (hF : 2 * H ≤ F) (hq : x * 2 ^ k = F * y + r) (hr : r < y) (hm : m = 2 * F + (if r = 0 then 0 else 1)) :
    Mk H l I (fun t => (y : Int) * t) (dv (x : Int) e) (dv (m : Int) d) := by
  have e1 : ∀ n : Nat, (y : Int) * dv (n : Int) d = dv ((n * y : Nat) : Int) d := fun n => by
    unfold dv
    rw [Int.natCast_mul, ← Int.mul_assoc, Int.mul_comm (y : Int)]
  have e2 : dv (x : Int) e = dv ((2 * (F * y + r) : Nat) : Int) d := by
    have h1 := dv_up (x := (x : Int)) (e := d) (k + 1) he
    rw [show d + ((k + 1 : Nat) : Int) = e from by omega] at h1
    rw [h1, ← Int.natCast_mul, ← hq]
    congr 2
    rw [Nat.pow_succ, ← Nat.mul_assoc, Nat.mul_comm]
  rw [hm]
  refine mk_of (rise_mul (by omega)) hH hl he hF ?_
  rw [e2, e1, e1]
  by_cases h0 : r = 0
  · left
    rw [if_pos h0]
    refine ⟨rfl, ?_⟩
    congr 2
    rw [h0, Nat.mul_assoc]; omega
  · right
    rw [if_neg h0]
    have h2 : 2 * F * y = 2 * (F * y) := Nat.mul_assoc _ _ _
    have h3 : (2 * F + 2) * y = 2 * (F * y) + 2 * y := by rw [Nat.add_mul, h2]
    exact ⟨rfl, dv_lt d (by omega), dv_lt d (by omega)⟩
theorem mk_root {H : Nat} {l : Int} {I : Nat} (hH : 0 < H) (hl : -4194303 ≤ l) {e d : Int} {x k F r m : Nat} (hd : 2 * (d + 1) = e - (k : Int)) (he : -4194304 ≤ d) (hF : 2 * H ≤ F) (hq : x * 2 ^ k = F * F + r) (hr : r ≤ 2 * F) (hm : m = 2 * F + (if r = 0 then 0 else 1)) :
    Mk H l I (fun t => t * t) ((x : Int) * ((2 ^ (e + 2 * 4194304).toNat : Nat) : Int)) (dv (m : Int) d) := by
  obtain ⟨P, hP⟩ : ∃ P, P = (d + 4194304).toNat := ⟨_, rfl⟩
  obtain ⟨W, hW⟩ : ∃ W : Nat, W = 2 ^ P := ⟨_, rfl⟩
  have hWp : 0 < W := by rw [hW]; exact Nat.pow_pos (by omega)
  have e1 : ∀ n : Nat, dv (n : Int) d * dv (n : Int) d = ((n * n * (W * W) : Nat) : Int) := fun n => by
    unfold dv
    rw [← hP, ← hW, ← Int.natCast_mul, ← Int.natCast_mul]
    congr 1
    rw [Nat.mul_mul_mul_comm]
  have e2 : (x : Int) * ((2 ^ (e + 2 * 4194304).toNat : Nat) : Int) = ((4 * (F * F + r) * (W * W) : Nat) : Int) := by
    rw [← Int.natCast_mul, ← hq, show (e + 2 * 4194304).toNat = k + (2 + (P + P)) from by omega, hW]
    congr 1
    rw [Nat.pow_add 2 k, Nat.pow_add 2 2, Nat.pow_add 2 P P]
    have : (2 : Nat) ^ 2 = 4 := rfl
    rw [this, Nat.mul_comm 4 (x * 2 ^ k), Nat.mul_assoc, Nat.mul_assoc]
  rw [hm]
  refine mk_of rise_sq hH hl he hF ?_
  show _ ∧ _ = dv _ d * dv _ d ∨ _ ∧ dv _ d * dv _ d < _ ∧ _ < dv _ d * dv _ d
  rw [e2, e1, e1]
  have hWW : 0 < W * W := Nat.mul_pos hWp hWp
  have h2 : 2 * F * (2 * F) = 4 * (F * F) := by rw [Nat.mul_mul_mul_comm]
  have h3 : (2 * F + 2) * (2 * F + 2) = 4 * (F * F) + 8 * F + 4 := by rw [Nat.add_mul, Nat.mul_add, h2]; omega
  by_cases h0 : r = 0
  · left
    rw [if_pos h0, h2, h0]
    exact ⟨rfl, rfl⟩
  · right
    rw [if_neg h0, h2, h3]
    exact ⟨rfl, Int.ofNat_lt.2 (Nat.mul_lt_mul_of_pos_right (by omega) hWW), Int.ofNat_lt.2 (Nat.mul_lt_mul_of_pos_right (by omega) hWW)⟩
end Go.Proofs.YtmhkabomabkkfaaGreatDoor
