import Derived.Test.YtbafjgmfonepnaaGreatDoorJ18
import Derived.Test.YtbafjgmfonepnaaGreatDoorJ16
namespace Go.Proofs.YtbafjgmfonepnaaGreatDoor
open Go.RowKit Go.Shelf
set_option maxRecDepth 20000
set_option maxHeartbeats 0
theorem mul_nan_nan  (w : World) :
    Calls Tryz.prog 45 #[VNan, VNan] w fun en w' => en = .returned VNan ∧ Below w.heap.size w w' := by
  have hanan := ta_nan_nan
  have hainf := ta_nan_inf
  have hano := ta_nan_no
  have hafin := ta_nan_fin
  have me1 := meth_below_nan
  have hbw : Below w.heap.size w w := Below.refl _ _
  go_enter Tryz.func45, Tryz.ntmps45
  go_wp2_with fail
  refine (below_nan _).mono ?_
  rintro e v1 ⟨rfl, hb1⟩
  replace hbw := Below.on hbw hb1
  clear hb1
  go_wp2_with fail
  refine (below_nan _).mono ?_
  rintro e v2 ⟨rfl, hb2⟩
  replace hbw := Below.on hbw hb2
  clear hb2
  go_wp2_with fail
  go_ret
  first | exact ⟨rfl, hbw⟩ | exact ⟨rfl, Below.on hbw (below1 _ _)⟩ | exact ⟨rfl, Below.on hbw (below2 _ _ _)⟩ | (cases s1 <;> cases s2 <;> first | exact ⟨rfl, hbw⟩ | exact ⟨rfl, Below.on hbw (below1 _ _)⟩)
theorem mul_nan_inf (s2 : Bool) (w : World) :
    Calls Tryz.prog 45 #[VNan, VInf s2] w fun en w' => en = .returned VNan ∧ Below w.heap.size w w' := by
  have hanan := ta_nan_nan
  have hainf := ta_nan_inf
  have hano := ta_nan_no
  have hafin := ta_nan_fin
  have hbnan := ta_inf_nan
  have hbinf := ta_inf_inf
  have hbno := ta_inf_no
  have hbfin := ta_inf_fin
  have me1 := meth_below_nan
  have me2 := meth_below_inf
  have hbw : Below w.heap.size w w := Below.refl _ _
  go_enter Tryz.func45, Tryz.ntmps45
  go_wp2_with fail
  refine (below_nan _).mono ?_
  rintro e v1 ⟨rfl, hb1⟩
  replace hbw := Below.on hbw hb1
  clear hb1
  go_wp2_with fail
  refine (below_inf s2 _).mono ?_
  rintro e v2 ⟨rfl, hb2⟩
  replace hbw := Below.on hbw hb2
  clear hb2
  go_wp2_with fail
  go_ret
  first | exact ⟨rfl, hbw⟩ | exact ⟨rfl, Below.on hbw (below1 _ _)⟩ | exact ⟨rfl, Below.on hbw (below2 _ _ _)⟩ | (cases s1 <;> cases s2 <;> first | exact ⟨rfl, hbw⟩ | exact ⟨rfl, Below.on hbw (below1 _ _)⟩)
theorem mul_nan_no (s2 : Bool) (w : World) :
    Calls Tryz.prog 45 #[VNan, VNo s2] w fun en w' => en = .returned VNan ∧ Below w.heap.size w w' := by
  have hanan := ta_nan_nan
  have hainf := ta_nan_inf
  have hano := ta_nan_no
  have hafin := ta_nan_fin
  have hbnan := ta_no_nan
  have hbinf := ta_no_inf
  have hbno := ta_no_no
  have hbfin := ta_no_fin
  have me1 := meth_below_nan
  have me2 := meth_below_no
  have hbw : Below w.heap.size w w := Below.refl _ _
  go_enter Tryz.func45, Tryz.ntmps45
  go_wp2_with fail
  refine (below_nan _).mono ?_
  rintro e v1 ⟨rfl, hb1⟩
  replace hbw := Below.on hbw hb1
  clear hb1
  go_wp2_with fail
  refine (below_no s2 _).mono ?_
  rintro e v2 ⟨rfl, hb2⟩
  replace hbw := Below.on hbw hb2
  clear hb2
  go_wp2_with fail
  go_ret
  first | exact ⟨rfl, hbw⟩ | exact ⟨rfl, Below.on hbw (below1 _ _)⟩ | exact ⟨rfl, Below.on hbw (below2 _ _ _)⟩ | (cases s1 <;> cases s2 <;> first | exact ⟨rfl, hbw⟩ | exact ⟨rfl, Below.on hbw (below1 _ _)⟩)
theorem mul_nan_fin (s2 : Bool) (p2 : Option Addr) (m2 c2 : Nat) (e2 : Int) (w : World) :
    Calls Tryz.prog 45 #[VNan, VFin s2 p2 m2 c2 e2] w fun en w' => en = .returned VNan ∧ Below w.heap.size w w' := by
  have hanan := ta_nan_nan
  have hainf := ta_nan_inf
  have hano := ta_nan_no
  have hafin := ta_nan_fin
  have hbnan := ta_fin_nan
  have hbinf := ta_fin_inf
  have hbno := ta_fin_no
  have hbfin := ta_fin_fin
  have me1 := meth_below_nan
  have me2 := meth_below_fin
  have hbw : Below w.heap.size w w := Below.refl _ _
  go_enter Tryz.func45, Tryz.ntmps45
  go_wp2_with fail
  refine (below_nan _).mono ?_
  rintro e v1 ⟨rfl, hb1⟩
  replace hbw := Below.on hbw hb1
  clear hb1
  go_wp2_with fail
  refine (below_fin _).mono ?_
  rintro e v2 ⟨rfl, hb2⟩
  replace hbw := Below.on hbw hb2
  clear hb2
  go_wp2_with fail
  go_ret
  first | exact ⟨rfl, hbw⟩ | exact ⟨rfl, Below.on hbw (below1 _ _)⟩ | exact ⟨rfl, Below.on hbw (below2 _ _ _)⟩ | (cases s1 <;> cases s2 <;> first | exact ⟨rfl, hbw⟩ | exact ⟨rfl, Below.on hbw (below1 _ _)⟩)
theorem mul_inf_nan (s1 : Bool) (w : World) :
    Calls Tryz.prog 45 #[VInf s1, VNan] w fun en w' => en = .returned VNan ∧ Below w.heap.size w w' := by
  have hanan := ta_inf_nan
  have hainf := ta_inf_inf
  have hano := ta_inf_no
  have hafin := ta_inf_fin
  have hbnan := ta_nan_nan
  have hbinf := ta_nan_inf
  have hbno := ta_nan_no
  have hbfin := ta_nan_fin
  have me1 := meth_below_inf
  have me2 := meth_below_nan
  have hbw : Below w.heap.size w w := Below.refl _ _
  go_enter Tryz.func45, Tryz.ntmps45
  go_wp2_with fail
  refine (below_inf s1 _).mono ?_
  rintro e v1 ⟨rfl, hb1⟩
  replace hbw := Below.on hbw hb1
  clear hb1
  go_wp2_with fail
  refine (below_nan _).mono ?_
  rintro e v2 ⟨rfl, hb2⟩
  replace hbw := Below.on hbw hb2
  clear hb2
  go_wp2_with fail
  go_ret
  first | exact ⟨rfl, hbw⟩ | exact ⟨rfl, Below.on hbw (below1 _ _)⟩ | exact ⟨rfl, Below.on hbw (below2 _ _ _)⟩ | (cases s1 <;> cases s2 <;> first | exact ⟨rfl, hbw⟩ | exact ⟨rfl, Below.on hbw (below1 _ _)⟩)
theorem mul_inf_inf (s1 : Bool) (s2 : Bool) (w : World) :
    Calls Tryz.prog 45 #[VInf s1, VInf s2] w fun en w' => en = .returned (VInf (s1 != s2)) ∧ Below w.heap.size w w' := by
  have hanan := ta_inf_nan
  have hainf := ta_inf_inf
  have hano := ta_inf_no
  have hafin := ta_inf_fin
  have me1 := meth_below_inf
  have hbw : Below w.heap.size w w := Below.refl _ _
  go_enter Tryz.func45, Tryz.ntmps45
  go_wp2_with fail
  refine (below_inf s1 _).mono ?_
  rintro e v1 ⟨rfl, hb1⟩
  replace hbw := Below.on hbw hb1
  clear hb1
  go_wp2_with fail
  refine (below_inf s2 _).mono ?_
  rintro e v2 ⟨rfl, hb2⟩
  replace hbw := Below.on hbw hb2
  clear hb2
  go_wp2_with fail
  go_ret
  first | exact ⟨rfl, hbw⟩ | exact ⟨rfl, Below.on hbw (below1 _ _)⟩ | exact ⟨rfl, Below.on hbw (below2 _ _ _)⟩ | (cases s1 <;> cases s2 <;> first | exact ⟨rfl, hbw⟩ | exact ⟨rfl, Below.on hbw (below1 _ _)⟩)
theorem mul_inf_no (s1 : Bool) (s2 : Bool) (w : World) :
    Calls Tryz.prog 45 #[VInf s1, VNo s2] w fun en w' => en = .returned VNan ∧ Below w.heap.size w w' := by
  have hanan := ta_inf_nan
  have hainf := ta_inf_inf
  have hano := ta_inf_no
  have hafin := ta_inf_fin
  have hbnan := ta_no_nan
  have hbinf := ta_no_inf
  have hbno := ta_no_no
  have hbfin := ta_no_fin
  have me1 := meth_below_inf
  have me2 := meth_below_no
  have hbw : Below w.heap.size w w := Below.refl _ _
  go_enter Tryz.func45, Tryz.ntmps45
  go_wp2_with fail
  refine (below_inf s1 _).mono ?_
  rintro e v1 ⟨rfl, hb1⟩
  replace hbw := Below.on hbw hb1
  clear hb1
  go_wp2_with fail
  refine (below_no s2 _).mono ?_
  rintro e v2 ⟨rfl, hb2⟩
  replace hbw := Below.on hbw hb2
  clear hb2
  go_wp2_with fail
  go_ret
  first | exact ⟨rfl, hbw⟩ | exact ⟨rfl, Below.on hbw (below1 _ _)⟩ | exact ⟨rfl, Below.on hbw (below2 _ _ _)⟩ | (cases s1 <;> cases s2 <;> first | exact ⟨rfl, hbw⟩ | exact ⟨rfl, Below.on hbw (below1 _ _)⟩)
theorem mul_inf_fin (s1 : Bool) (s2 : Bool) (p2 : Option Addr) (m2 c2 : Nat) (e2 : Int) (w : World) :
    Calls Tryz.prog 45 #[VInf s1, VFin s2 p2 m2 c2 e2] w fun en w' => en = .returned (VInf (s1 != s2)) ∧ Below w.heap.size w w' := by
  have hanan := ta_inf_nan
  have hainf := ta_inf_inf
  have hano := ta_inf_no
  have hafin := ta_inf_fin
  have hbnan := ta_fin_nan
  have hbinf := ta_fin_inf
  have hbno := ta_fin_no
  have hbfin := ta_fin_fin
  have me1 := meth_below_inf
  have me2 := meth_below_fin
  have hbw : Below w.heap.size w w := Below.refl _ _
  go_enter Tryz.func45, Tryz.ntmps45
  go_wp2_with fail
  refine (below_inf s1 _).mono ?_
  rintro e v1 ⟨rfl, hb1⟩
  replace hbw := Below.on hbw hb1
  clear hb1
  go_wp2_with fail
  refine (below_fin _).mono ?_
  rintro e v2 ⟨rfl, hb2⟩
  replace hbw := Below.on hbw hb2
  clear hb2
  go_wp2_with fail
  go_ret
  first | exact ⟨rfl, hbw⟩ | exact ⟨rfl, Below.on hbw (below1 _ _)⟩ | exact ⟨rfl, Below.on hbw (below2 _ _ _)⟩ | (cases s1 <;> cases s2 <;> first | exact ⟨rfl, hbw⟩ | exact ⟨rfl, Below.on hbw (below1 _ _)⟩)
theorem mul_no_nan (s1 : Bool) (w : World) :
    Calls Tryz.prog 45 #[VNo s1, VNan] w fun en w' => en = .returned VNan ∧ Below w.heap.size w w' := by
  have hanan := ta_no_nan
  have hainf := ta_no_inf
  have hano := ta_no_no
  have hafin := ta_no_fin
  have hbnan := ta_nan_nan
  have hbinf := ta_nan_inf
  have hbno := ta_nan_no
  have hbfin := ta_nan_fin
  have me1 := meth_below_no
  have me2 := meth_below_nan
  have hbw : Below w.heap.size w w := Below.refl _ _
  go_enter Tryz.func45, Tryz.ntmps45
  go_wp2_with fail
  refine (below_no s1 _).mono ?_
  rintro e v1 ⟨rfl, hb1⟩
  replace hbw := Below.on hbw hb1
  clear hb1
  go_wp2_with fail
  refine (below_nan _).mono ?_
  rintro e v2 ⟨rfl, hb2⟩
  replace hbw := Below.on hbw hb2
  clear hb2
  go_wp2_with fail
  go_ret
  first | exact ⟨rfl, hbw⟩ | exact ⟨rfl, Below.on hbw (below1 _ _)⟩ | exact ⟨rfl, Below.on hbw (below2 _ _ _)⟩ | (cases s1 <;> cases s2 <;> first | exact ⟨rfl, hbw⟩ | exact ⟨rfl, Below.on hbw (below1 _ _)⟩)
theorem mul_no_inf (s1 : Bool) (s2 : Bool) (w : World) :
    Calls Tryz.prog 45 #[VNo s1, VInf s2] w fun en w' => en = .returned VNan ∧ Below w.heap.size w w' := by
  have hanan := ta_no_nan
  have hainf := ta_no_inf
  have hano := ta_no_no
  have hafin := ta_no_fin
  have hbnan := ta_inf_nan
  have hbinf := ta_inf_inf
  have hbno := ta_inf_no
  have hbfin := ta_inf_fin
  have me1 := meth_below_no
  have me2 := meth_below_inf
  have hbw : Below w.heap.size w w := Below.refl _ _
  go_enter Tryz.func45, Tryz.ntmps45
  go_wp2_with fail
  refine (below_no s1 _).mono ?_
  rintro e v1 ⟨rfl, hb1⟩
  replace hbw := Below.on hbw hb1
  clear hb1
  go_wp2_with fail
  refine (below_inf s2 _).mono ?_
  rintro e v2 ⟨rfl, hb2⟩
  replace hbw := Below.on hbw hb2
  clear hb2
  go_wp2_with fail
  go_ret
  first | exact ⟨rfl, hbw⟩ | exact ⟨rfl, Below.on hbw (below1 _ _)⟩ | exact ⟨rfl, Below.on hbw (below2 _ _ _)⟩ | (cases s1 <;> cases s2 <;> first | exact ⟨rfl, hbw⟩ | exact ⟨rfl, Below.on hbw (below1 _ _)⟩)
theorem mul_no_no (s1 : Bool) (s2 : Bool) (w : World) :
    Calls Tryz.prog 45 #[VNo s1, VNo s2] w fun en w' => en = .returned (VNo (s1 != s2)) ∧ Below w.heap.size w w' := by
  have hanan := ta_no_nan
  have hainf := ta_no_inf
  have hano := ta_no_no
  have hafin := ta_no_fin
  have me1 := meth_below_no
  have hbw : Below w.heap.size w w := Below.refl _ _
  go_enter Tryz.func45, Tryz.ntmps45
  go_wp2_with fail
  refine (below_no s1 _).mono ?_
  rintro e v1 ⟨rfl, hb1⟩
  replace hbw := Below.on hbw hb1
  clear hb1
  go_wp2_with fail
  refine (below_no s2 _).mono ?_
  rintro e v2 ⟨rfl, hb2⟩
  replace hbw := Below.on hbw hb2
  clear hb2
  go_wp2_with fail
  go_ret
  first | exact ⟨rfl, hbw⟩ | exact ⟨rfl, Below.on hbw (below1 _ _)⟩ | exact ⟨rfl, Below.on hbw (below2 _ _ _)⟩ | (cases s1 <;> cases s2 <;> first | exact ⟨rfl, hbw⟩ | exact ⟨rfl, Below.on hbw (below1 _ _)⟩)
theorem mul_no_fin (s1 : Bool) (s2 : Bool) (p2 : Option Addr) (m2 c2 : Nat) (e2 : Int) (w : World) :
    Calls Tryz.prog 45 #[VNo s1, VFin s2 p2 m2 c2 e2] w fun en w' => en = .returned (VNo (s1 != s2)) ∧ Below w.heap.size w w' := by
  have hanan := ta_no_nan
  have hainf := ta_no_inf
  have hano := ta_no_no
  have hafin := ta_no_fin
  have hbnan := ta_fin_nan
  have hbinf := ta_fin_inf
  have hbno := ta_fin_no
  have hbfin := ta_fin_fin
  have me1 := meth_below_no
  have me2 := meth_below_fin
  have hbw : Below w.heap.size w w := Below.refl _ _
  go_enter Tryz.func45, Tryz.ntmps45
  go_wp2_with fail
  refine (below_no s1 _).mono ?_
  rintro e v1 ⟨rfl, hb1⟩
  replace hbw := Below.on hbw hb1
  clear hb1
  go_wp2_with fail
  refine (below_fin _).mono ?_
  rintro e v2 ⟨rfl, hb2⟩
  replace hbw := Below.on hbw hb2
  clear hb2
  go_wp2_with fail
  go_ret
  first | exact ⟨rfl, hbw⟩ | exact ⟨rfl, Below.on hbw (below1 _ _)⟩ | exact ⟨rfl, Below.on hbw (below2 _ _ _)⟩ | (cases s1 <;> cases s2 <;> first | exact ⟨rfl, hbw⟩ | exact ⟨rfl, Below.on hbw (below1 _ _)⟩)
theorem mul_fin_nan (s1 : Bool) (p1 : Option Addr) (m1 c1 : Nat) (e1 : Int) (w : World) :
    Calls Tryz.prog 45 #[VFin s1 p1 m1 c1 e1, VNan] w fun en w' => en = .returned VNan ∧ Below w.heap.size w w' := by
  have hanan := ta_fin_nan
  have hainf := ta_fin_inf
  have hano := ta_fin_no
  have hafin := ta_fin_fin
  have hbnan := ta_nan_nan
  have hbinf := ta_nan_inf
  have hbno := ta_nan_no
  have hbfin := ta_nan_fin
  have me1 := meth_below_fin
  have me2 := meth_below_nan
  have me3 := meth_signed_nan
  have me4 := nila_signed_nan
  have hbw : Below w.heap.size w w := Below.refl _ _
  go_enter Tryz.func45, Tryz.ntmps45
  go_wp2_with fail
  refine (below_fin _).mono ?_
  rintro e v1 ⟨rfl, hb1⟩
  replace hbw := Below.on hbw hb1
  clear hb1
  go_wp2_with fail
  refine (below_nan _).mono ?_
  rintro e v2 ⟨rfl, hb2⟩
  replace hbw := Below.on hbw hb2
  clear hb2
  go_wp2_with fail
  have hbw9 := Below.on hbw (below2 v2 (.cells #[.bool s1, .slice p1 m1 c1, .int .i64 e1] 98) (.cells #[.bool false, .slice none 0 0, .int .i64 0] 98))
  clear hbw
  have hbw := hbw9
  clear hbw9
  refine (signed_nan _ _).mono ?_
  rintro e v3 ⟨rfl, hb3⟩
  replace hbw := Below.on hbw hb3
  clear hb3
  go_wp2_with fail
  go_ret
  first | exact ⟨rfl, hbw⟩ | exact ⟨rfl, Below.on hbw (below1 _ _)⟩ | exact ⟨rfl, Below.on hbw (below2 _ _ _)⟩ | (cases s1 <;> cases s2 <;> first | exact ⟨rfl, hbw⟩ | exact ⟨rfl, Below.on hbw (below1 _ _)⟩)
theorem mul_fin_inf (s1 : Bool) (s2 : Bool) (p1 : Option Addr) (m1 c1 : Nat) (e1 : Int) (w : World) :
    Calls Tryz.prog 45 #[VFin s1 p1 m1 c1 e1, VInf s2] w fun en w' => en = .returned (VInf (s1 != s2)) ∧ Below w.heap.size w w' := by
  have hanan := ta_fin_nan
  have hainf := ta_fin_inf
  have hano := ta_fin_no
  have hafin := ta_fin_fin
  have hbnan := ta_inf_nan
  have hbinf := ta_inf_inf
  have hbno := ta_inf_no
  have hbfin := ta_inf_fin
  have me1 := meth_below_fin
  have me2 := meth_below_inf
  have me3 := meth_signed_inf
  have me4 := nila_signed_inf
  have hbw : Below w.heap.size w w := Below.refl _ _
  go_enter Tryz.func45, Tryz.ntmps45
  go_wp2_with fail
  refine (below_fin _).mono ?_
  rintro e v1 ⟨rfl, hb1⟩
  replace hbw := Below.on hbw hb1
  clear hb1
  go_wp2_with fail
  refine (below_inf s2 _).mono ?_
  rintro e v2 ⟨rfl, hb2⟩
  replace hbw := Below.on hbw hb2
  clear hb2
  go_wp2_with fail
  have hbw9 := Below.on hbw (below2 v2 (.cells #[.bool s1, .slice p1 m1 c1, .int .i64 e1] 98) (.cells #[.bool false, .slice none 0 0, .int .i64 0] 98))
  clear hbw
  have hbw := hbw9
  clear hbw9
  refine (signed_inf s2 _ _).mono ?_
  rintro e v3 ⟨rfl, hb3⟩
  replace hbw := Below.on hbw hb3
  clear hb3
  go_wp2_with fail
  go_ret
  first | exact ⟨rfl, hbw⟩ | exact ⟨rfl, Below.on hbw (below1 _ _)⟩ | exact ⟨rfl, Below.on hbw (below2 _ _ _)⟩ | (cases s1 <;> cases s2 <;> first | exact ⟨rfl, hbw⟩ | exact ⟨rfl, Below.on hbw (below1 _ _)⟩)
theorem mul_fin_no (s1 : Bool) (s2 : Bool) (p1 : Option Addr) (m1 c1 : Nat) (e1 : Int) (w : World) :
    Calls Tryz.prog 45 #[VFin s1 p1 m1 c1 e1, VNo s2] w fun en w' => en = .returned (VNo (s1 != s2)) ∧ Below w.heap.size w w' := by
  have hanan := ta_fin_nan
  have hainf := ta_fin_inf
  have hano := ta_fin_no
  have hafin := ta_fin_fin
  have hbnan := ta_no_nan
  have hbinf := ta_no_inf
  have hbno := ta_no_no
  have hbfin := ta_no_fin
  have me1 := meth_below_fin
  have me2 := meth_below_no
  have me3 := meth_signed_no
  have me4 := nila_signed_no
  have hbw : Below w.heap.size w w := Below.refl _ _
  go_enter Tryz.func45, Tryz.ntmps45
  go_wp2_with fail
  refine (below_fin _).mono ?_
  rintro e v1 ⟨rfl, hb1⟩
  replace hbw := Below.on hbw hb1
  clear hb1
  go_wp2_with fail
  refine (below_no s2 _).mono ?_
  rintro e v2 ⟨rfl, hb2⟩
  replace hbw := Below.on hbw hb2
  clear hb2
  go_wp2_with fail
  have hbw9 := Below.on hbw (below2 v2 (.cells #[.bool s1, .slice p1 m1 c1, .int .i64 e1] 98) (.cells #[.bool false, .slice none 0 0, .int .i64 0] 98))
  clear hbw
  have hbw := hbw9
  clear hbw9
  refine (signed_no s2 _ _).mono ?_
  rintro e v3 ⟨rfl, hb3⟩
  replace hbw := Below.on hbw hb3
  clear hb3
  go_wp2_with fail
  go_ret
  first | exact ⟨rfl, hbw⟩ | exact ⟨rfl, Below.on hbw (below1 _ _)⟩ | exact ⟨rfl, Below.on hbw (below2 _ _ _)⟩ | (cases s1 <;> cases s2 <;> first | exact ⟨rfl, hbw⟩ | exact ⟨rfl, Below.on hbw (below1 _ _)⟩)
end Go.Proofs.YtbafjgmfonepnaaGreatDoor
