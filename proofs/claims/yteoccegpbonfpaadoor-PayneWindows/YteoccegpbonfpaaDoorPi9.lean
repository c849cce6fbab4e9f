import Derived.Test.YteoccegpbonfpaaDoorJ13
namespace Go.Proofs.YteoccegpbonfpaaDoor
open Go.RowKit Go.Shelf
set_option maxRecDepth 20000
set_option maxHeartbeats 0
theorem docWindow_e (a : Int) (ha : a < 0 ∨ 1024 < a) (w : World) : Calls Tryd.prog 10 #[.int .i64 a] w fun en w' => en = .returned (.tuple #[.agg #[.int .u64 0, .int .u64 0, .int .u64 0, .int .u64 0], .int .i64 1]) ∧ Below w.heap.size w w' := by
  rcases ha with h | h
  · have h1 : decide (a < 0) = true := decide_eq_true h
    clear h
    go_enter Tryd.func10, Tryd.ntmps10
    go_wp2_with fail
    refine bodyPost_ret (v := .tuple #[.agg #[.int .u64 0, .int .u64 0, .int .u64 0, .int .u64 0], .int .i64 1]) (by rw [results_ct rfl]; go_simp) rfl ⟨rfl, below2 w _ _⟩
  · have h1 : decide (a < 0) = false := decide_eq_false (by omega)
    have h3 : decide (1024 < a) = true := decide_eq_true (by omega)
    clear h
    go_enter Tryd.func10, Tryd.ntmps10
    go_wp2_with fail
    refine bodyPost_ret (v := .tuple #[.agg #[.int .u64 0, .int .u64 0, .int .u64 0, .int .u64 0], .int .i64 1]) (by rw [results_ct rfl]; go_simp) rfl ⟨rfl, below2 w _ _⟩
theorem payneWindows_i (a : Nat) (ha : a ≤ 1024) (w : World) (hT : TabW w) : Calls Tryd.prog 5 #[.int .i64 a] w fun en w' => en = .returned (.bool true) ∧ Below w.heap.size w w' := by
  have TB : Hid (TabW w) := hT
  have HI : Hid (a ≤ 1024) := ha
  have hs : a % 64 ≤ 64 := by omega
  have b0 := wn_lt (a / 64) (a % 64) 0 hs
  have b1 := wn_lt (a / 64) (a % 64) 1 hs
  have b2 := wn_lt (a / 64) (a % 64) 2 hs
  have b3 := wn_lt (a / 64) (a % 64) 3 hs
  have C1 : Hid (∀ w, TabW w → _) := fun w hT => window_ok a (a / 64) (a % 64) (by omega) ha (by omega) w hT
  have C2 : Hid (∀ w, _) := fun w => docWindow_ok a ha (w := w)
  generalize wN (a / 64) (a % 64) 0 = y0 at *
  generalize wN (a / 64) (a % 64) 1 = y1 at *
  generalize wN (a / 64) (a % 64) 2 = y2 at *
  generalize wN (a / 64) (a % 64) 3 = y3 at *
  have hEQ : ∀ w, (Op.equalIn 10000 28 (.agg #[U y0, U y1, U y2, U y3]) (.agg #[U y0, U y1, U y2, U y3])).run Tryd.prog w = .ok true w := eq4 y0 y1 y2 y3 b0 b1 b2 b3
  clear hT ha hs b0 b1 b2 b3
  go_enter Tryd.func5, Tryd.ntmps5
  go_wp2_with fail
  have hbw : Below w.heap.size w w := Below.refl _ _
  refine (awake21 _ TB.out).mono ?_
  rintro e v1 ⟨rfl, hb1⟩
  replace hbw := Below.on hbw hb1
  clear hb1
  go_wp2_with fail
  refine (C1.out _ (TB.out.below hbw)).mono ?_
  rintro e v2 ⟨rfl, hb2⟩
  replace hbw := Below.on hbw hb2
  clear hb2
  go_wp2_with fail
  have Xu0 : Hid (B4q (v2.alloc (.cells #[U y0, U y1, U y2, U y3] 28)) v2.heap.size (U y0) (U y1) (U y2) (U y3)) := B4q.new v2 _ _ _ _ _
  have hbn : Below v2.heap.size v2 (v2.alloc (.cells #[U y0, U y1, U y2, U y3] 28)) := below1 v2 _
  generalize v2.alloc (.cells #[U y0, U y1, U y2, U y3] 28) = Wu at *
  have HGu : Hid (w.heap.size ≤ v2.heap.size) := hbw.size
  replace hbw := Below.on hbw hbn
  clear hbn
  generalize v2.heap.size = gu at *
  have Xu := Xu0
  clear Xu0
  refine (C2.out _).mono ?_
  rintro e v3 ⟨rfl, hb3⟩
  replace Xu : Hid _ := Xu.out.below hb3
  replace hbw := Below.on hbw hb3
  clear hb3
  obtain ⟨cu0, cu1, cu2, cu3, fu0, fu1, fu2, fu3⟩ := Xu.out
  have hneu : gu < v3.heap.size := World.block_lt_of_cell? v3 _ cu0
  go_wp2_with fail
  clear cu0 cu1 cu2 cu3 fu0 fu1 fu2 fu3 hneu
  go_ret
  exact ⟨rfl, Below.on hbw (below1 _ _)⟩
theorem payneWindows_e (a : Int) (ha : a < 0 ∨ 1024 < a) (w : World) (hT : TabW w) : Calls Tryd.prog 5 #[.int .i64 a] w fun en w' => en = .returned (.bool true) ∧ Below w.heap.size w w' := by
  have TB : Hid (TabW w) := hT
  have HI : Hid (a < 0 ∨ 1024 < a) := ha
  have hEQ : ∀ w, (Op.equalIn 10000 28 (.agg #[.int .u64 0, .int .u64 0, .int .u64 0, .int .u64 0]) (.agg #[.int .u64 0, .int .u64 0, .int .u64 0, .int .u64 0])).run Tryd.prog w = .ok true w := fun w => by kernel_rfl
  clear hT ha
  go_enter Tryd.func5, Tryd.ntmps5
  go_wp2_with fail
  have hbw : Below w.heap.size w w := Below.refl _ _
  refine (awake21 _ TB.out).mono ?_
  rintro e v1 ⟨rfl, hb1⟩
  replace hbw := Below.on hbw hb1
  clear hb1
  go_wp2_with fail
  refine (window_e a HI.out _).mono ?_
  rintro e v2 ⟨rfl, hb2⟩
  replace hbw := Below.on hbw hb2
  clear hb2
  go_wp2_with fail
  have Xu0 : Hid (B4q (v2.alloc (.cells #[.int .u64 0, .int .u64 0, .int .u64 0, .int .u64 0] 28)) v2.heap.size (.int .u64 0) (.int .u64 0) (.int .u64 0) (.int .u64 0)) := B4q.new v2 _ _ _ _ _
  have hbn : Below v2.heap.size v2 (v2.alloc (.cells #[.int .u64 0, .int .u64 0, .int .u64 0, .int .u64 0] 28)) := below1 v2 _
  generalize v2.alloc (.cells #[.int .u64 0, .int .u64 0, .int .u64 0, .int .u64 0] 28) = Wu at *
  have HGu : Hid (w.heap.size ≤ v2.heap.size) := hbw.size
  replace hbw := Below.on hbw hbn
  clear hbn
  generalize v2.heap.size = gu at *
  have Xu := Xu0
  clear Xu0
  refine (docWindow_e a HI.out _).mono ?_
  rintro e v3 ⟨rfl, hb3⟩
  replace Xu : Hid _ := Xu.out.below hb3
  replace hbw := Below.on hbw hb3
  clear hb3
  obtain ⟨cu0, cu1, cu2, cu3, fu0, fu1, fu2, fu3⟩ := Xu.out
  have hneu : gu < v3.heap.size := World.block_lt_of_cell? v3 _ cu0
  go_wp2_with fail
  clear cu0 cu1 cu2 cu3 fu0 fu1 fu2 fu3 hneu
  go_ret
  exact ⟨rfl, Below.on hbw (below1 _ _)⟩
theorem payneWindows_walk (a : Int) {w : World} (hT : TabW w) : Calls Tryd.prog 5 #[.int .i64 a] w fun en w' => en = .returned (.bool true) ∧ Below w.heap.size w w' := by
  by_cases h : a < 0 ∨ 1024 < a
  · exact payneWindows_e a h w hT
  · obtain ⟨n, rfl⟩ := Int.eq_ofNat_of_zero_le (show 0 ≤ a by omega)
    exact payneWindows_i n (by omega) w hT
end Go.Proofs.YteoccegpbonfpaaDoor
