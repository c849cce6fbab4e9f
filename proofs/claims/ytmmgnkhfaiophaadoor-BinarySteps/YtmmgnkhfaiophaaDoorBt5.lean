import Derived.Test.YtmmgnkhfaiophaaDoorBt4
namespace Go.Proofs.YtmmgnkhfaiophaaDoor
open Go.RowKit Go.Shelf

theorem say_n : Says 17 (.int .i64 64) (.int .u64 9223372036854775808) (.int .u64 1) (.int .i64 0) :=
  to_Next (b := 9223372036854775808) (fun w => step_B fm_64 9223372036854775808 (by decide) (by decide) false (by decide) w)
theorem say_p : Says 18 (.int .i64 32) (.int .u64 1) (.int .u64 0) (.int .i64 0) :=
  to_Prev (b := 1) (fun w => step_D fm_32 1 (by decide) (by decide) true (by decide) (by decide) w)
theorem say_r : Says 19 (.int .i64 32) (.int .u64 2147483653) (.int .i64 (-5)) (.int .i64 0) :=
  fun w => rank_ok fm_32 2147483653 (by decide) (by decide) w
theorem say_d : Says 20 (.int .i64 64) (.int .i64 77) (.int .u64 77) (.int .i64 0) :=
  fun w => rkd_ok_pos fm_64 77 (by decide) (by decide) w

set_option maxRecDepth 20000 in
set_option maxHeartbeats 4000000 in
theorem steps_true (w : World) : Calls Tryd.prog 7 #[] w fun e w' => e = .returned (.bool true) ∧ Below w.heap.size w w' := by
  go_enter Tryd.func7, Tryd.ntmps7
  go_wp2_with fail
  refine (say_n _).mono ?_
  rintro e w1 ⟨rfl, hb1⟩
  go_wp2_with fail
  refine (say_p _).mono ?_
  rintro e w2 ⟨rfl, hb2⟩
  go_wp2_with fail
  refine (say_r _).mono ?_
  rintro e w3 ⟨rfl, hb3⟩
  go_wp2_with fail
  refine (say_d _).mono ?_
  rintro e w4 ⟨rfl, hb4⟩
  have hbw := bwOn (bwOn (bwOn hb1 hb2) hb3) hb4
  clear hb1 hb2 hb3 hb4
  go_wp2_with fail
  go_ret
  exact ⟨rfl, hbw⟩

set_option maxRecDepth 20000 in
set_option maxHeartbeats 4000000 in
theorem binarySteps_walk {P : Option Addr} {N C : Nat} {its : List Op7} {w : World} (h : Scr7 w P N C its) :
    Calls Tryd.prog 4 #[.slice P N C] w fun e w' => e = .returned (.bool true) ∧ Below w.heap.size w w' := by
  have H : Hid (Scr7 w P N C its) := h
  clear h
  go_enter Tryd.func4, Tryd.ntmps4
  go_wp2_with fail
  refine (steps_true _).mono ?_
  rintro e w1 ⟨rfl, hb1⟩
  have H1 : Hid (Scr7 w1 P N C its) := H.out.below hb1
  have HB1 : Hid (Below w.heap.size w w1) := hb1
  clear hb1
  go_wp2_with fail
  have hb2 := bwAlloc w1 (.cells #[.int .i64 6, .int .i64 7, .int .i64 9, .int .i64 10] 3)
  have hk : Kds (w1.alloc (.cells #[.int .i64 6, .int .i64 7, .int .i64 9, .int .i64 10] 3)) w1.heap.size [6, 7, 9, 10] := by
    refine ⟨fun j hj => ?_, by simp⟩
    match j, hj with
    | 0, _ => go_simp
    | 1, _ => go_simp
    | 2, _ => go_simp
    | 3, _ => go_simp
  refine (all7 (H1.out.below hb2) hk rfl (by decide) ?_).mono ?_
  · intro k hk f b neg n w hb hn1 hn2
    simp only [List.mem_cons, List.not_mem_nil, or_false] at hk
    rcases hk with rfl | rfl | rfl | rfl
    · exact bplays_6 hb w
    · exact bplays_7 hb w
    · exact bplays_9 hb w
    · exact bplays_10 hn1 hn2 w
  rintro e w3 ⟨rfl, hb3⟩
  have hbw := bwOn (bwOn HB1.out hb2) hb3
  clear hb2 hb3 hk
  go_wp2_with fail
  go_ret
  exact ⟨rfl, hbw⟩
end Go.Proofs.YtmmgnkhfaiophaaDoor
