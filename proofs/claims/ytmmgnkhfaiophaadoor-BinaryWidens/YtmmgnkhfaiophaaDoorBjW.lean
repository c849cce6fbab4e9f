import Derived.BigQuiet
import Derived.Test.YtmmgnkhfaiophaaDoorBs0
import Derived.Test.YtmmgnkhfaiophaaDoorRj0
import Derived.Shelf.Spec.TrailingZeros
import Derived.Test.YtmmgnkhfaiophaaDoorBs1
import Derived.Test.YtmmgnkhfaiophaaDoorBs3
import Derived.Test.YtmmgnkhfaiophaaDoorBs4
import Derived.Test.YtmmgnkhfaiophaaDoorBn1
namespace Go.Proofs.YtmmgnkhfaiophaaDoor
open Go.RowKit Go.Shelf

-- Bj0
set_option maxRecDepth 20000 in
set_option maxHeartbeats 4000000 in
theorem beyond_64 (w : World) : Calls Tryd.prog 26 #[WV 64 53 (-1074)] w fun e w' => e = .returned (.int .i64 1024) ∧ Below w.heap.size w w' := by
  go_enter Tryd.func26, Tryd.ntmps26
  go_wp2_with fail
  have X0 : B3 (w.alloc (.cells #[.int .i64 64, .int .i64 53, .int .i64 (-1074)] 31)) w.heap.size (.int .i64 64) (.int .i64 53) (.int .i64 (-1074)) := B3.new ..
  have hb0 : Below w.heap.size w (w.alloc (.cells #[.int .i64 64, .int .i64 53, .int .i64 (-1074)] 31)) := bwAlloc w _
  generalize w.alloc (.cells #[.int .i64 64, .int .i64 53, .int .i64 (-1074)] 31) = W at *
  obtain ⟨g, hg⟩ : ∃ g, g = w.heap.size := ⟨_, rfl⟩
  rw [← hg] at X0 ⊢
  clear hg
  have XB : Hid (B3 W.drew g (.int .i64 64) (.int .i64 53) (.int .i64 (-1074))) := X0.drew
  have HBW : Hid (Below w.heap.size w W.drew) := bwDrew hb0
  have XW : Hid (B3 W g (.int .i64 64) (.int .i64 53) (.int .i64 (-1074))) := X0
  have HB0 : Hid (Below w.heap.size w W) := hb0
  clear X0 hb0
  refine wp_region_J (fun W' => B3 W' g (.int .i64 64) (.int .i64 53) (.int .i64 (-1074))) (by kernel_rfl) ?_
  refine wpJ_take (i := 0) (v := ?v1x0) rfl (by kernel_rfl) (by kernel_rfl) (by kernel_rfl) (fun _ _ _ h => h) (by rfl) ?hy1x0 XB.out ?rest1x0
  case hy1x0 => (intro W' hJ; obtain ⟨c0, c1, c2, c3, c4, c5⟩ := hJ; go_simp; first | done | with_reducible rfl)
  refine wpJ_take (i := 2) (v := ?v2x2) rfl (by kernel_rfl) (by kernel_rfl) (by kernel_rfl) (fun _ _ _ h => h) (by rfl) ?hy2x2 XB.out ?rest2x2
  case hy2x2 => (intro W' hJ; obtain ⟨c0, c1, c2, c3, c4, c5⟩ := hJ; go_simp; first | done | with_reducible rfl)
  refine wpJ_one (i := 1) (by kernel_rfl) rfl (by rfl) (fun K hK => ?_)
  go_simp
  refine (infinity_64 _).mono ?_
  rintro e w1 ⟨rfl, hb1⟩
  have Xw1 : Hid (B3 w1 g (.int .i64 64) (.int .i64 53) (.int .i64 (-1074))) := XB.out.below hb1
  have HBw1 : Hid (Below w.heap.size w w1) := bwOn HBW.out hb1
  clear hb1
  refine hK _ _ Xw1.out ?_
  clear hK
  refine wpJ_one (i := 3) (by kernel_rfl) rfl (by rfl) (fun K hK => ?_)
  go_simp
  refine (stored_64 _).mono ?_
  rintro e w2 ⟨rfl, hb2⟩
  have Xw2 : Hid (B3 w2 g (.int .i64 64) (.int .i64 53) (.int .i64 (-1074))) := Xw1.out.below hb2
  have HBw2 : Hid (Below w.heap.size w w2) := bwOn HBw1.out hb2
  clear hb2
  refine hK _ _ Xw2.out ?_
  clear hK
  refine wpJ_take (i := 4) (v := ?v3x4) rfl (by kernel_rfl) (by kernel_rfl) (by kernel_rfl) (fun _ _ _ h => h) (by rfl) ?hy3x4 Xw2.out ?rest3x4
  case hy3x4 => (intro W' hJ; obtain ⟨c0, c1, c2, c3, c4, c5⟩ := hJ; go_simp; first | done | with_reducible rfl)
  refine wpJ_take (i := 5) (v := ?v4x5) rfl (by kernel_rfl) (by kernel_rfl) (by kernel_rfl) (fun _ _ _ h => h) (by rfl) ?hy4x5 Xw2.out ?rest4x5
  case hy4x5 => (intro W' hJ; obtain ⟨c0, c1, c2, c3, c4, c5⟩ := hJ; go_simp; first | done | with_reducible rfl)
  refine wpJ_take (i := 6) (v := ?v5x6) rfl (by kernel_rfl) (by kernel_rfl) (by kernel_rfl) (fun _ _ _ h => h) (by rfl) ?hy5x6 Xw2.out ?rest5x6
  case hy5x6 => (intro W' hJ; obtain ⟨c0, c1, c2, c3, c4, c5⟩ := hJ; go_simp; first | done | with_reducible rfl)
  refine wpJ_done (by kernel_rfl) ?_ _
  clear XB HBW XW HB0 Xw1 HBw1
  have XB : Hid (B3 w2.drew g (.int .i64 64) (.int .i64 53) (.int .i64 (-1074))) := Xw2.out.drew
  have HBW : Hid (Below w.heap.size w w2.drew) := bwDrew HBw2.out
  have hwr : IntKind.i64.wrap 2047 = 2047 := by decide
  go_wp2_with fail
  refine wp_region_J (fun W' => B3 W' g (.int .i64 64) (.int .i64 53) (.int .i64 (-1074))) (by kernel_rfl) ?_
  refine wpJ_take (i := 0) (v := ?v6x0) rfl (by kernel_rfl) (by kernel_rfl) (by kernel_rfl) (fun _ _ _ h => h) (by rfl) ?hy6x0 XB.out ?rest6x0
  case hy6x0 => (intro W' hJ; obtain ⟨c0, c1, c2, c3, c4, c5⟩ := hJ; go_simp; first | done | with_reducible rfl)
  refine wpJ_take (i := 1) (v := ?v7x1) rfl (by kernel_rfl) (by kernel_rfl) (by kernel_rfl) (fun _ _ _ h => h) (by rfl) ?hy7x1 XB.out ?rest7x1
  case hy7x1 => (intro W' hJ; obtain ⟨c0, c1, c2, c3, c4, c5⟩ := hJ; go_simp; first | done | with_reducible rfl)
  refine wpJ_take (i := 2) (v := ?v8x2) rfl (by kernel_rfl) (by kernel_rfl) (by kernel_rfl) (fun _ _ _ h => h) (by rfl) ?hy8x2 XB.out ?rest8x2
  case hy8x2 => (intro W' hJ; obtain ⟨c0, c1, c2, c3, c4, c5⟩ := hJ; go_simp; first | done | with_reducible rfl)
  refine wpJ_take (i := 3) (v := ?v9x3) rfl (by kernel_rfl) (by kernel_rfl) (by kernel_rfl) (fun _ _ _ h => h) (by rfl) ?hy9x3 XB.out ?rest9x3
  case hy9x3 => (intro W' hJ; obtain ⟨c0, c1, c2, c3, c4, c5⟩ := hJ; go_simp; first | done | with_reducible rfl)
  refine wpJ_take (i := 4) (v := ?v10x4) rfl (by kernel_rfl) (by kernel_rfl) (by kernel_rfl) (fun _ _ _ h => h) (by rfl) ?hy10x4 XB.out ?rest10x4
  case hy10x4 => (intro W' hJ; obtain ⟨c0, c1, c2, c3, c4, c5⟩ := hJ; go_simp; first | done | with_reducible rfl)
  refine wpJ_take (i := 5) (v := ?v11x5) rfl (by kernel_rfl) (by kernel_rfl) (by kernel_rfl) (fun _ _ _ h => h) (by rfl) ?hy11x5 XB.out ?rest11x5
  case hy11x5 => (intro W' hJ; obtain ⟨c0, c1, c2, c3, c4, c5⟩ := hJ; go_simp; first | done | with_reducible rfl)
  refine wpJ_one (i := 6) (by kernel_rfl) rfl (by rfl) (fun K hK => ?_)
  go_simp
  refine (stored_64 _).mono ?_
  rintro e w3 ⟨rfl, hb3⟩
  have Xw3 : Hid (B3 w3 g (.int .i64 64) (.int .i64 53) (.int .i64 (-1074))) := XB.out.below hb3
  have HBw3 : Hid (Below w.heap.size w w3) := bwOn HBW.out hb3
  clear hb3
  refine hK _ _ Xw3.out ?_
  clear hK
  refine wpJ_take (i := 7) (v := ?v12x7) rfl (by kernel_rfl) (by kernel_rfl) (by kernel_rfl) (fun _ _ _ h => h) (by rfl) ?hy12x7 Xw3.out ?rest12x7
  case hy12x7 => (intro W' hJ; obtain ⟨c0, c1, c2, c3, c4, c5⟩ := hJ; go_simp; first | done | with_reducible rfl)
  refine wpJ_take (i := 8) (v := ?v13x8) rfl (by kernel_rfl) (by kernel_rfl) (by kernel_rfl) (fun _ _ _ h => h) (by rfl) ?hy13x8 Xw3.out ?rest13x8
  case hy13x8 => (intro W' hJ; obtain ⟨c0, c1, c2, c3, c4, c5⟩ := hJ; go_simp; first | done | with_reducible rfl)
  refine wpJ_done (by kernel_rfl) ?_ _
  go_wp2_with fail
  go_ret
  exact ⟨rfl, HBw3.out⟩
set_option maxRecDepth 20000 in
set_option maxHeartbeats 4000000 in
theorem unit_64 (top : Int) (h1 : -1022 ≤ top) (h2 : top ≤ 5000) (w : World) : Calls Tryd.prog 28 #[WV 64 53 (-1074), .int .i64 top] w fun e w' => e = .returned (.int .i64 (top - 52)) ∧ Below w.heap.size w w' := by
  obtain ⟨r, hr⟩ : ∃ r, r = top - 52 := ⟨_, rfl⟩
  have e1 : IntKind.i64.wrap (top - 52) = r := by rw [hr]; simp [IntKind.wrap, IntKind.signed, IntKind.bits]; omega
  have e2 : max r (-1074) = r := by omega
  rw [← hr]
  clear hr h1 h2
  go_enter Tryd.func28, Tryd.ntmps28
  go_wp2_with fail
  have X0 : B3 (w.alloc (.cells #[.int .i64 64, .int .i64 53, .int .i64 (-1074)] 31)) w.heap.size (.int .i64 64) (.int .i64 53) (.int .i64 (-1074)) := B3.new ..
  have hb0 : Below w.heap.size w (w.alloc (.cells #[.int .i64 64, .int .i64 53, .int .i64 (-1074)] 31)) := bwAlloc w _
  generalize w.alloc (.cells #[.int .i64 64, .int .i64 53, .int .i64 (-1074)] 31) = W at *
  obtain ⟨g, hg⟩ : ∃ g, g = w.heap.size := ⟨_, rfl⟩
  rw [← hg] at X0 ⊢
  clear hg
  have XB : Hid (B3 W.drew g (.int .i64 64) (.int .i64 53) (.int .i64 (-1074))) := X0.drew
  have HBW : Hid (Below w.heap.size w W.drew) := bwDrew hb0
  have XW : Hid (B3 W g (.int .i64 64) (.int .i64 53) (.int .i64 (-1074))) := X0
  have HB0 : Hid (Below w.heap.size w W) := hb0
  clear X0 hb0
  refine wp_region_J (fun W' => B3 W' g (.int .i64 64) (.int .i64 53) (.int .i64 (-1074))) (by kernel_rfl) ?_
  refine wpJ_take (i := 0) (v := ?v14x0) rfl (by kernel_rfl) (by kernel_rfl) (by kernel_rfl) (fun _ _ _ h => h) (by rfl) ?hy14x0 XB.out ?rest14x0
  case hy14x0 => (intro W' hJ; obtain ⟨c0, c1, c2, c3, c4, c5⟩ := hJ; go_simp; first | done | with_reducible rfl)
  refine wpJ_take (i := 1) (v := ?v15x1) rfl (by kernel_rfl) (by kernel_rfl) (by kernel_rfl) (fun _ _ _ h => h) (by rfl) ?hy15x1 XB.out ?rest15x1
  case hy15x1 => (intro W' hJ; obtain ⟨c0, c1, c2, c3, c4, c5⟩ := hJ; go_simp; first | done | with_reducible rfl)
  refine wpJ_take (i := 4) (v := ?v16x4) rfl (by kernel_rfl) (by kernel_rfl) (by kernel_rfl) (fun _ _ _ h => h) (by rfl) ?hy16x4 XB.out ?rest16x4
  case hy16x4 => (intro W' hJ; obtain ⟨c0, c1, c2, c3, c4, c5⟩ := hJ; go_simp; first | done | with_reducible rfl)
  refine wpJ_take (i := 5) (v := ?v17x5) rfl (by kernel_rfl) (by kernel_rfl) (by kernel_rfl) (fun _ _ _ h => h) (by rfl) ?hy17x5 XB.out ?rest17x5
  case hy17x5 => (intro W' hJ; obtain ⟨c0, c1, c2, c3, c4, c5⟩ := hJ; go_simp; first | done | with_reducible rfl)
  refine wpJ_one (i := 2) (by kernel_rfl) rfl (by rfl) (fun K hK => ?_)
  go_simp
  refine (stored_64 _).mono ?_
  rintro e w2 ⟨rfl, hb2⟩
  have Xw2 : Hid (B3 w2 g (.int .i64 64) (.int .i64 53) (.int .i64 (-1074))) := XB.out.below hb2
  have HBw2 : Hid (Below w.heap.size w w2) := bwOn HBW.out hb2
  clear hb2
  refine hK _ _ Xw2.out ?_
  clear hK
  refine wpJ_take (i := 3) (v := ?v18x3) rfl (by kernel_rfl) (by kernel_rfl) (by kernel_rfl) (fun _ _ _ h => h) (by rfl) ?hy18x3 Xw2.out ?rest18x3
  case hy18x3 => (intro W' hJ; obtain ⟨c0, c1, c2, c3, c4, c5⟩ := hJ; go_simp; first | done | with_reducible rfl)
  refine wpJ_take (i := 6) (v := ?v19x6) rfl (by kernel_rfl) (by kernel_rfl) (by kernel_rfl) (fun _ _ _ h => h) (by rfl) ?hy19x6 Xw2.out ?rest19x6
  case hy19x6 => (intro W' hJ; obtain ⟨c0, c1, c2, c3, c4, c5⟩ := hJ; go_simp; first | done | with_reducible rfl)
  refine wpJ_take (i := 7) (v := ?v20x7) rfl (by kernel_rfl) (by kernel_rfl) (by kernel_rfl) (fun _ _ _ h => h) (by rfl) ?hy20x7 Xw2.out ?rest20x7
  case hy20x7 => (intro W' hJ; obtain ⟨c0, c1, c2, c3, c4, c5⟩ := hJ; go_simp; first | done | with_reducible rfl)
  refine wpJ_done (by kernel_rfl) ?_ _
  clear XB HBW XW HB0
  go_wp2_with fail
  go_ret
  exact ⟨rfl, HBw2.out⟩
set_option maxRecDepth 20000 in
set_option maxHeartbeats 4000000 in
theorem size_64 (man q : Nat) (u : Int) (hu : u = (q : Int) - 1074) (hq : q < 2048) (hm : man < 9007199254740992) (w : World) : Calls Tryd.prog 29 #[WV 64 53 (-1074), U man, .int .i64 u] w fun e w' => e = .returned (U (q * 4503599627370496 + man)) ∧ Below w.heap.size w w' := by
  obtain ⟨r, hr⟩ : ∃ r, r = q * 4503599627370496 + man := ⟨_, rfl⟩
  obtain ⟨y, hy⟩ : ∃ y, y = q * 4503599627370496 := ⟨_, rfl⟩
  rw [← hr]
  have e1 : IntKind.i64.wrap (u - -1074) = (q : Int) := by simp [IntKind.wrap, IntKind.signed, IntKind.bits]; omega
  have e1' : IntKind.i64.wrap (u + 1074) = (q : Int) := by simp [IntKind.wrap, IntKind.signed, IntKind.bits]; omega
  have e2 : IntKind.u64.wrap (q : Int) = (q : Int) := by rw [IntKind.wrap_u64]; omega
  have e3 : IntKind.u64.wrap ((q : Int) * 4503599627370496) = (y : Int) := by rw [IntKind.wrap_u64]; omega
  have e4 : IntKind.u64.wrap ((y : Int) + (man : Int)) = (r : Int) := by rw [IntKind.wrap_u64]; omega
  clear hr hy hq hm hu
  go_enter Tryd.func29, Tryd.ntmps29
  go_wp2_with fail
  have X0 : B3 (w.alloc (.cells #[.int .i64 64, .int .i64 53, .int .i64 (-1074)] 31)) w.heap.size (.int .i64 64) (.int .i64 53) (.int .i64 (-1074)) := B3.new ..
  have hb0 : Below w.heap.size w (w.alloc (.cells #[.int .i64 64, .int .i64 53, .int .i64 (-1074)] 31)) := bwAlloc w _
  generalize w.alloc (.cells #[.int .i64 64, .int .i64 53, .int .i64 (-1074)] 31) = W at *
  obtain ⟨g, hg⟩ : ∃ g, g = w.heap.size := ⟨_, rfl⟩
  rw [← hg] at X0 ⊢
  clear hg
  have XB : Hid (B3 W.drew g (.int .i64 64) (.int .i64 53) (.int .i64 (-1074))) := X0.drew
  have HBW : Hid (Below w.heap.size w W.drew) := bwDrew hb0
  have XW : Hid (B3 W g (.int .i64 64) (.int .i64 53) (.int .i64 (-1074))) := X0
  have HB0 : Hid (Below w.heap.size w W) := hb0
  clear X0 hb0
  refine wp_region_J (fun W' => B3 W' g (.int .i64 64) (.int .i64 53) (.int .i64 (-1074))) (by kernel_rfl) ?_
  refine wpJ_take (i := 0) (v := ?v21x0) rfl (by kernel_rfl) (by kernel_rfl) (by kernel_rfl) (fun _ _ _ h => h) (by rfl) ?hy21x0 XB.out ?rest21x0
  case hy21x0 => (intro W' hJ; obtain ⟨c0, c1, c2, c3, c4, c5⟩ := hJ; go_simp; first | done | with_reducible rfl)
  refine wpJ_take (i := 1) (v := ?v22x1) rfl (by kernel_rfl) (by kernel_rfl) (by kernel_rfl) (fun _ _ _ h => h) (by rfl) ?hy22x1 XB.out ?rest22x1
  case hy22x1 => (intro W' hJ; obtain ⟨c0, c1, c2, c3, c4, c5⟩ := hJ; go_simp; first | done | with_reducible rfl)
  refine wpJ_take (i := 2) (v := ?v23x2) rfl (by kernel_rfl) (by kernel_rfl) (by kernel_rfl) (fun _ _ _ h => h) (by rfl) ?hy23x2 XB.out ?rest23x2
  case hy23x2 => (intro W' hJ; obtain ⟨c0, c1, c2, c3, c4, c5⟩ := hJ; go_simp; first | done | with_reducible rfl)
  refine wpJ_take (i := 3) (v := ?v24x3) rfl (by kernel_rfl) (by kernel_rfl) (by kernel_rfl) (fun _ _ _ h => h) (by rfl) ?hy24x3 XB.out ?rest24x3
  case hy24x3 => (intro W' hJ; obtain ⟨c0, c1, c2, c3, c4, c5⟩ := hJ; go_simp; first | done | with_reducible rfl)
  refine wpJ_take (i := 4) (v := ?v25x4) rfl (by kernel_rfl) (by kernel_rfl) (by kernel_rfl) (fun _ _ _ h => h) (by rfl) ?hy25x4 XB.out ?rest25x4
  case hy25x4 => (intro W' hJ; obtain ⟨c0, c1, c2, c3, c4, c5⟩ := hJ; go_simp; first | done | with_reducible rfl)
  refine wpJ_take (i := 5) (v := ?v26x5) rfl (by kernel_rfl) (by kernel_rfl) (by kernel_rfl) (fun _ _ _ h => h) (by rfl) ?hy26x5 XB.out ?rest26x5
  case hy26x5 => (intro W' hJ; obtain ⟨c0, c1, c2, c3, c4, c5⟩ := hJ; go_simp; first | done | with_reducible rfl)
  refine wpJ_take (i := 8) (v := ?v27x8) rfl (by kernel_rfl) (by kernel_rfl) (by kernel_rfl) (fun _ _ _ h => h) (by rfl) ?hy27x8 XB.out ?rest27x8
  case hy27x8 => (intro W' hJ; obtain ⟨c0, c1, c2, c3, c4, c5⟩ := hJ; go_simp; first | done | with_reducible rfl)
  refine wpJ_one (i := 6) (by kernel_rfl) rfl (by rfl) (fun K hK => ?_)
  go_simp
  refine (stored_64 _).mono ?_
  rintro e w2 ⟨rfl, hb2⟩
  have Xw2 : Hid (B3 w2 g (.int .i64 64) (.int .i64 53) (.int .i64 (-1074))) := XB.out.below hb2
  have HBw2 : Hid (Below w.heap.size w w2) := bwOn HBW.out hb2
  clear hb2
  refine hK _ _ Xw2.out ?_
  clear hK
  refine wpJ_take (i := 7) (v := ?v28x7) rfl (by kernel_rfl) (by kernel_rfl) (by kernel_rfl) (fun _ _ _ h => h) (by rfl) ?hy28x7 Xw2.out ?rest28x7
  case hy28x7 => (intro W' hJ; obtain ⟨c0, c1, c2, c3, c4, c5⟩ := hJ; go_simp; first | done | with_reducible rfl)
  refine wpJ_take (i := 9) (v := ?v29x9) rfl (by kernel_rfl) (by kernel_rfl) (by kernel_rfl) (fun _ _ _ h => h) (by rfl) ?hy29x9 Xw2.out ?rest29x9
  case hy29x9 => (intro W' hJ; obtain ⟨c0, c1, c2, c3, c4, c5⟩ := hJ; go_simp; first | done | with_reducible rfl)
  refine wpJ_take (i := 10) (v := ?v30x10) rfl (by kernel_rfl) (by kernel_rfl) (by kernel_rfl) (fun _ _ _ h => h) (by rfl) ?hy30x10 Xw2.out ?rest30x10
  case hy30x10 => (intro W' hJ; obtain ⟨c0, c1, c2, c3, c4, c5⟩ := hJ; go_simp; first | done | with_reducible rfl)
  refine wpJ_done (by kernel_rfl) ?_ _
  clear XB HBW XW HB0
  go_wp2_with fail
  go_ret
  exact ⟨rfl, HBw2.out⟩
set_option maxRecDepth 20000 in
set_option maxHeartbeats 4000000 in
theorem parts_32 (s q m : Nat) (hq : q = s / 8388608 - 1) (hm : m = s - q * 8388608) (hs : s < 2147483648) (w : World) : Calls Tryd.prog 14 #[WV 32 24 (-149), U s] w fun e w' => e = .returned (.tuple #[U m, .int .i64 (-149 + (q : Int))]) ∧ Below w.heap.size w w' := by
  obtain ⟨r, hr⟩ : ∃ r : Int, r = -149 + (q : Int) := ⟨_, rfl⟩
  obtain ⟨y, hy⟩ : ∃ y, y = q * 8388608 := ⟨_, rfl⟩
  rw [← hr]
  have e0 : max ((s : Int) / 8388608 - 1) 0 = (q : Int) := by omega
  have e1 : IntKind.u64.wrap (q : Int) = (q : Int) := by rw [IntKind.wrap_u64]; omega
  have e2 : IntKind.u64.wrap ((q : Int) * 8388608) = (y : Int) := by rw [IntKind.wrap_u64]; omega
  have e3 : IntKind.u64.wrap ((s : Int) - (y : Int)) = (m : Int) := by rw [IntKind.wrap_u64]; omega
  have e4 : IntKind.i64.wrap (-149 + (q : Int)) = r := by rw [hr]; simp [IntKind.wrap, IntKind.signed, IntKind.bits]; omega
  have HS : Hid (s < 2147483648) := hs
  have hs31 : (s : Int) < 2147483648 := by omega
  clear hr hy hq hm hs
  go_enter Tryd.func14, Tryd.ntmps14
  go_wp2_with fail
  have X0 : B3 (w.alloc (.cells #[.int .i64 32, .int .i64 24, .int .i64 (-149)] 31)) w.heap.size (.int .i64 32) (.int .i64 24) (.int .i64 (-149)) := B3.new ..
  have hb0 : Below w.heap.size w (w.alloc (.cells #[.int .i64 32, .int .i64 24, .int .i64 (-149)] 31)) := bwAlloc w _
  generalize w.alloc (.cells #[.int .i64 32, .int .i64 24, .int .i64 (-149)] 31) = W at *
  obtain ⟨g, hg⟩ : ∃ g, g = w.heap.size := ⟨_, rfl⟩
  rw [← hg] at X0 ⊢
  clear hg
  have XB : Hid (B3 W.drew g (.int .i64 32) (.int .i64 24) (.int .i64 (-149))) := X0.drew
  have HBW : Hid (Below w.heap.size w W.drew) := bwDrew hb0
  have XW : Hid (B3 W g (.int .i64 32) (.int .i64 24) (.int .i64 (-149))) := X0
  have HB0 : Hid (Below w.heap.size w W) := hb0
  clear X0 hb0
  refine (stored_32 _).mono ?_
  rintro e w1 ⟨rfl, hb1⟩
  have Xw1 : Hid (B3 w1 g (.int .i64 32) (.int .i64 24) (.int .i64 (-149))) := XW.out.below hb1
  have HBw1 : Hid (Below w.heap.size w w1) := bwOn HB0.out hb1
  clear hb1
  have c6 := Xw1.out
  obtain ⟨c0, c1, c2, c3, c4, c5⟩ := c6
  go_wp2_with fail
  clear c0 c1 c2 c3 c4 c5 XB HBW XW HB0
  have XB : Hid (B3 w1.drew g (.int .i64 32) (.int .i64 24) (.int .i64 (-149))) := Xw1.out.drew
  have HBW : Hid (Below w.heap.size w w1.drew) := bwDrew HBw1.out
  refine wp_region_J (fun W' => B3 W' g (.int .i64 32) (.int .i64 24) (.int .i64 (-149))) (by kernel_rfl) ?_
  refine wpJ_take (i := 0) (v := ?v31x0) rfl (by kernel_rfl) (by kernel_rfl) (by kernel_rfl) (fun _ _ _ h => h) (by rfl) ?hy31x0 XB.out ?rest31x0
  case hy31x0 => (intro W' hJ; obtain ⟨c0, c1, c2, c3, c4, c5⟩ := hJ; go_simp; first | done | with_reducible rfl)
  refine wpJ_take (i := 1) (v := ?v32x1) rfl (by kernel_rfl) (by kernel_rfl) (by kernel_rfl) (fun _ _ _ h => h) (by rfl) ?hy32x1 XB.out ?rest32x1
  case hy32x1 => (intro W' hJ; obtain ⟨c0, c1, c2, c3, c4, c5⟩ := hJ; go_simp; first | done | with_reducible rfl)
  refine wpJ_take (i := 2) (v := ?v33x2) rfl (by kernel_rfl) (by kernel_rfl) (by kernel_rfl) (fun _ _ _ h => h) (by rfl) ?hy33x2 XB.out ?rest33x2
  case hy33x2 => (intro W' hJ; obtain ⟨c0, c1, c2, c3, c4, c5⟩ := hJ; go_simp; first | done | with_reducible rfl)
  refine wpJ_take (i := 3) (v := ?v34x3) rfl (by kernel_rfl) (by kernel_rfl) (by kernel_rfl) (fun _ _ _ h => h) (by rfl) ?hy34x3 XB.out ?rest34x3
  case hy34x3 => (intro W' hJ; obtain ⟨c0, c1, c2, c3, c4, c5⟩ := hJ; go_simp; first | done | with_reducible rfl)
  refine wpJ_take (i := 7) (v := ?v35x7) rfl (by kernel_rfl) (by kernel_rfl) (by kernel_rfl) (fun _ _ _ h => h) (by rfl) ?hy35x7 XB.out ?rest35x7
  case hy35x7 => (intro W' hJ; obtain ⟨c0, c1, c2, c3, c4, c5⟩ := hJ; go_simp; first | done | with_reducible rfl)
  refine wpJ_take (i := 8) (v := ?v36x8) rfl (by kernel_rfl) (by kernel_rfl) (by kernel_rfl) (fun _ _ _ h => h) (by rfl) ?hy36x8 XB.out ?rest36x8
  case hy36x8 => (intro W' hJ; obtain ⟨c0, c1, c2, c3, c4, c5⟩ := hJ; go_simp; first | done | with_reducible rfl)
  refine wpJ_take (i := 9) (v := ?v37x9) rfl (by kernel_rfl) (by kernel_rfl) (by kernel_rfl) (fun _ _ _ h => h) (by rfl) ?hy37x9 XB.out ?rest37x9
  case hy37x9 => (intro W' hJ; obtain ⟨c0, c1, c2, c3, c4, c5⟩ := hJ; go_simp; first | done | with_reducible rfl)
  refine wpJ_take (i := 10) (v := ?v38x10) rfl (by kernel_rfl) (by kernel_rfl) (by kernel_rfl) (fun _ _ _ h => h) (by rfl) ?hy38x10 XB.out ?rest38x10
  case hy38x10 => (intro W' hJ; obtain ⟨c0, c1, c2, c3, c4, c5⟩ := hJ; go_simp; first | done | with_reducible rfl)
  refine wpJ_one (i := 4) (by kernel_rfl) rfl (by rfl) (fun K hK => ?_)
  go_simp
  refine (stored_32 _).mono ?_
  rintro e w2 ⟨rfl, hb2⟩
  have Xw2 : Hid (B3 w2 g (.int .i64 32) (.int .i64 24) (.int .i64 (-149))) := XB.out.below hb2
  have HBw2 : Hid (Below w.heap.size w w2) := bwOn HBW.out hb2
  clear hb2
  refine hK _ _ Xw2.out ?_
  clear hK
  refine wpJ_take (i := 5) (v := ?v39x5) rfl (by kernel_rfl) (by kernel_rfl) (by kernel_rfl) (fun _ _ _ h => h) (by rfl) ?hy39x5 Xw2.out ?rest39x5
  case hy39x5 => (intro W' hJ; obtain ⟨c0, c1, c2, c3, c4, c5⟩ := hJ; go_simp; first | done | with_reducible rfl)
  refine wpJ_take (i := 6) (v := ?v40x6) rfl (by kernel_rfl) (by kernel_rfl) (by kernel_rfl) (fun _ _ _ h => h) (by rfl) ?hy40x6 Xw2.out ?rest40x6
  case hy40x6 => (intro W' hJ; obtain ⟨c0, c1, c2, c3, c4, c5⟩ := hJ; go_simp; first | done | with_reducible rfl)
  refine wpJ_take (i := 11) (v := ?v41x11) rfl (by kernel_rfl) (by kernel_rfl) (by kernel_rfl) (fun _ _ _ h => h) (by rfl) ?hy41x11 Xw2.out ?rest41x11
  case hy41x11 => (intro W' hJ; obtain ⟨c0, c1, c2, c3, c4, c5⟩ := hJ; go_simp; first | done | with_reducible rfl)
  refine wpJ_take (i := 12) (v := ?v42x12) rfl (by kernel_rfl) (by kernel_rfl) (by kernel_rfl) (fun _ _ _ h => h) (by rfl) ?hy42x12 Xw2.out ?rest42x12
  case hy42x12 => (intro W' hJ; obtain ⟨c0, c1, c2, c3, c4, c5⟩ := hJ; go_simp; first | done | with_reducible rfl)
  refine wpJ_done (by kernel_rfl) ?_ _
  go_wp2_with fail
  go_ret2
  exact ⟨rfl, HBw2.out⟩

-- Bj1
/-- k is how often two divides v (v not nought). -/
def qTzIs (v k : Nat) : Prop := v % 2 ^ k = 0 ∧ v / 2 ^ k % 2 = 1
theorem qTzIs.inj {v k l : Nat} (h : qTzIs v k) (h' : qTzIs v l) : k = l := by
  have aux : ∀ {a b : Nat}, qTzIs v a → qTzIs v b → ¬ a < b := by
    intro a b ha hb hab
    obtain ⟨d, hd⟩ : ∃ d, b = a + (d + 1) := ⟨b - a - 1, by omega⟩
    have h1 := Nat.dvd_of_mod_eq_zero hb.1
    obtain ⟨q, hq⟩ := h1
    have h2 := ha.2
    rw [hq, hd, Nat.pow_add, Nat.mul_assoc, Nat.mul_div_cancel_left _ (Nat.pow_pos (by decide)), Nat.pow_succ, Nat.mul_comm (2 ^ d) 2, Nat.mul_assoc, Nat.mul_mod_right] at h2
    exact absurd h2 (by decide)
  rcases Nat.lt_trichotomy k l with e | e | e
  · exact absurd e (aux h h')
  · exact e
  · exact absurd e (aux h' h)
def qrenTz : Ren := ⟨fun x => match x with | 29 => 27 | n => n, fun x => match x with | 0 => 0 | 3 => 3 | 4 => 4 | 5 => 5 | 22 => 23 | 25 => 81 | 54 => 82 | n => n, fun x => match x with | 1 => 0 | n => n⟩
theorem qlaysTz : Lays7.n29 Tryd.prog qrenTz :=
  { mixed := by kernel_rfl, f29 := Tryd.func27.trans (congrArg some (by kernel_rfl)),
    t0 := by kernel_rfl, a0 := fun w => by kernel_rfl, z0 := fun w => by kernel_rfl, v0 := fun w => by kernel_rfl, i0 := by kernel_rfl,
    t3 := Tryd.underlying3, a3 := Tryd.isAgg3, z3 := Tryd.sizeOf3, v3 := Tryd.zeroValue3, i3 := by kernel_rfl,
    t4 := Tryd.underlying4, a4 := Tryd.isAgg4, z4 := Tryd.sizeOf4, v4 := Tryd.zeroValue4, i4 := by kernel_rfl,
    t5 := Tryd.underlying5, a5 := Tryd.isAgg5, z5 := Tryd.sizeOf5, v5 := Tryd.zeroValue5, i5 := by kernel_rfl,
    t22 := Tryd.underlying23, a22 := Tryd.isAgg23, z22 := Tryd.sizeOf23, v22 := Tryd.zeroValue23, i22 := by kernel_rfl,
    t25 := Tryd.underlying81, a25 := Tryd.isAgg81, z25 := Tryd.sizeOf81, v25 := Tryd.zeroValue81, i25 := by kernel_rfl,
    t54 := Tryd.underlying82, a54 := Tryd.isAgg82, z54 := Tryd.sizeOf82, g1 := by kernel_rfl }

/-- The library's table lies in its variable. -/
def qTab (w : World) : Prop := TabAt 0 Lib.deBruijn64tab w
theorem qTab.below {w w' : World} (h : qTab w) (hb : Below w.heap.size w w') : qTab w' := by
  intro j hj
  have h1 := h j hj
  have hl : 0 < w.heap.size := World.block_lt_of_cell? w _ h1
  exact (hb.cell (p := ⟨0, j, none⟩) hl).trans h1
theorem qctz_is {x : Nat} (h0 : x ≠ 0) (hx : x < B64) : qTzIs x (Lib.ctz 64 x) ∧ Lib.ctz 64 x < 64 := by
  rw [(show B64 = 2 ^ 64 from rfl)] at hx
  unfold Lib.ctz
  rw [if_neg h0]
  obtain ⟨m, hm, hk⟩ := Lib.ctzFrom_spec 64 x (by omega) hx
  generalize Lib.ctzFrom 64 x = k at *
  refine ⟨⟨?_, ?_⟩, hk⟩
  · rw [hm, Nat.mul_mod_right]
  · rw [hm, Nat.mul_div_cancel_left _ (Nat.pow_pos (by decide))]; omega
theorem qtz_any {x r : Nat} (h0 : x ≠ 0) (hx : x < B64) (hr : qTzIs x r) {w : World} (hT : qTab w) : Calls Tryd.prog 27 #[U x] w fun e w' => e = .returned (.int .i64 r) ∧ w' = w := by
  obtain ⟨h1, _⟩ := qctz_is h0 hx
  obtain rfl := hr.inj h1
  exact Any7.bits_TrailingZeros64 qlaysTz x (by rw [B64_eq] at hx; exact hx) w (fun _ => hT)

set_option maxRecDepth 20000 in
set_option maxHeartbeats 4000000 in
theorem qsigned_64 (neg : Bool) (s : Nat) (hs : s < 9223372036854775808) (w : World) : Calls Tryd.prog 12 #[WV 64 53 (-1074), .bool neg, U s] w fun e w' => e = .returned (U (if neg then 9223372036854775808 + s else s)) ∧ Below w.heap.size w w' := by
  have e1 : bits BinOp.or IntKind.u64 9223372036854775808 (s : Int) = _ := sign_or s 9223372036854775808 63 (by decide) (by decide) hs
  obtain ⟨r, hr⟩ : ∃ r, r = 9223372036854775808 + s := ⟨_, rfl⟩
  rw [← hr] at e1 ⊢
  clear hr hs
  cases neg
  · clear e1
    go_enter Tryd.func12, Tryd.ntmps12
    go_wp2_with fail
    go_ret
    exact ⟨rfl, bwAlloc w _⟩
  · go_enter Tryd.func12, Tryd.ntmps12
    go_wp2_with fail
    refine (sign_64 _).mono ?_
    rintro e w1 ⟨rfl, hb1⟩
    have HB1 : Hid (Below w.heap.size w w1) := bwOn (bwAlloc w _) hb1
    clear hb1
    go_wp2_with fail
    go_ret
    exact ⟨rfl, HB1.out⟩
set_option maxRecDepth 20000 in
set_option maxHeartbeats 4000000 in
/-- Join, of nought. -/
theorem join_zero (neg : Bool) (exp : Int) (w : World) : Calls Tryd.prog 15 #[.int .i64 64, .bool neg, .int .u64 0, .int .i64 exp] w fun e w' => e = .returned (.tuple #[U (if neg then 9223372036854775808 else 0), .int .i64 0]) ∧ Below w.heap.size w w' := by
  have hS := qsigned_64 neg 0 (by decide)
  have HS : Hid (∀ w : World, Calls Tryd.prog 12 #[WV 64 53 (-1074), .bool neg, U 0] w fun e w' => e = .returned (U (if neg then 9223372036854775808 else 0)) ∧ Below w.heap.size w w') := hS
  clear hS
  obtain ⟨r, hr⟩ : ∃ r : Nat, r = (if neg then 9223372036854775808 else 0) := ⟨_, rfl⟩
  rw [← hr] at HS ⊢
  clear hr
  go_enter Tryd.func15, Tryd.ntmps15
  go_wp2_with fail
  refine (of_64 _).mono ?_
  rintro e w1 ⟨rfl, hb1⟩
  go_wp2_with fail
  refine (HS.out _).mono ?_
  rintro e w2 ⟨rfl, hb2⟩
  have hbw := bwOn (bwOn hb1 (bwAlloc w1 _)) hb2
  clear hb1 hb2
  go_wp2_with fail
  go_ret2
  exact ⟨rfl, hbw⟩
set_option maxRecDepth 20000 in
set_option maxHeartbeats 4000000 in
/-- Join, of a number whose top bit lies in the range of normal numbers and whose odd part has at most 53 bits. -/
theorem join_norm (neg : Bool) (man t mo L q : Nat) (exp top : Int) (hm0 : man ≠ 0) (hm9 : man < B64) (ht : qTzIs man t) (hmo : mo = man / 2 ^ t) (hL : L = bl_bitsN mo) (hL53 : L ≤ 53) (htop : top = exp + t + L - 1) (h1 : -1022 ≤ top) (h2 : top < 1024) (hex : -1137 ≤ exp) (hex2 : exp < 1024) (ht64 : t < 64) (hq : (q : Int) = top + 1022)
    (w : World) (hT : qTab w) : Calls Tryd.prog 15 #[.int .i64 64, .bool neg, U man, .int .i64 exp] w fun e w' => e = .returned (.tuple #[U (if neg then 9223372036854775808 + (q * 4503599627370496 + mo * 2 ^ (53 - L)) else q * 4503599627370496 + mo * 2 ^ (53 - L)), .int .i64 0]) ∧ Below w.heap.size w w' := by
  have hmb : ((man : Int) == 0) = false := by simp; omega
  obtain ⟨ex2, hex3⟩ : ∃ ex2 : Int, ex2 = exp + t := ⟨_, rfl⟩
  obtain ⟨s1, hs1⟩ : ∃ s1 : Int, s1 = ex2 + L := ⟨_, rfl⟩
  obtain ⟨un, hun⟩ : ∃ un : Int, un = top - 52 := ⟨_, rfl⟩
  obtain ⟨sf, hsf⟩ : ∃ sf : Nat, sf = 53 - L := ⟨_, rfl⟩
  obtain ⟨y, hy⟩ : ∃ y : Nat, y = mo * 2 ^ sf := ⟨_, rfl⟩
  obtain ⟨r, hr⟩ : ∃ r : Nat, r = (if neg then 9223372036854775808 + (q * 4503599627370496 + y) else q * 4503599627370496 + y) := ⟨_, rfl⟩
  rw [← hsf, ← hy, ← hr]
  have hyl : y < 9007199254740992 := by
    have hA := bl_bitsN_lt mo
    rw [← hL] at hA
    have hB : mo * 2 ^ sf < 2 ^ L * 2 ^ sf := Nat.mul_lt_mul_of_pos_right hA (Nat.two_pow_pos _)
    rw [← Nat.pow_add, show L + sf = 53 by omega] at hB
    rw [hy]
    exact Nat.lt_of_lt_of_le hB (by decide)
  have hmo9 : mo < B64 := by rw [hmo]; exact Nat.lt_of_le_of_lt (Nat.div_le_self _ _) hm9
  have a1 : (man : Int) / 2 ^ t = (mo : Int) := by rw [hmo]; simp
  have a2 : IntKind.i64.wrap (exp + (t : Int)) = ex2 := by rw [hex3]; simp [IntKind.wrap, IntKind.signed, IntKind.bits]; omega
  have a3 : IntKind.i64.wrap (ex2 + (L : Int)) = s1 := by rw [hs1]; simp [IntKind.wrap, IntKind.signed, IntKind.bits]; omega
  have a4 : IntKind.i64.wrap (s1 - 1) = top := by simp [IntKind.wrap, IntKind.signed, IntKind.bits]; omega
  have a5 : IntKind.i64.wrap (ex2 - un) = (sf : Int) := by simp [IntKind.wrap, IntKind.signed, IntKind.bits]; omega
  have a6 : IntKind.u64.wrap ((mo : Int) * 2 ^ sf) = (y : Int) := by
    have hyc : ((mo : Int) * 2 ^ sf) = (y : Int) := by rw [hy]; simp
    rw [hyc, IntKind.wrap_u64]; omega
  have c1 : decide (exp < -1137) = false := decide_eq_false (by omega)
  have c2 : decide (1024 ≤ exp) = false := decide_eq_false (by omega)
  have c3 : decide (ex2 < un) = false := decide_eq_false (by omega)
  have c4 : decide (1024 ≤ top) = false := decide_eq_false (by omega)
  have hsf64 : sf < 64 := by omega
  have HUN : Hid (un = top - 52) := hun
  have HUQ : Hid (un = (q : Int) - 1074) := by show _ = _; omega
  have HQ2 : Hid (q < 2048) := by show _ < _; omega
  have HT1 : Hid (-1022 ≤ top ∧ top ≤ 5000) := ⟨h1, by omega⟩
  have HYL : Hid (y < 9007199254740992) := hyl
  have HQY : Hid (q * 4503599627370496 + y < 9223372036854775808) := by show _ < _; omega
  have HR : Hid (r = (if neg then 9223372036854775808 + (q * 4503599627370496 + y) else q * 4503599627370496 + y)) := hr
  have HMO9 : Hid (mo < B64) := hmo9
  have HL : Hid (L = bl_bitsN mo) := hL
  have HM9 : Hid (man < B64) := hm9
  have HT0 : Hid (qTab w) := hT
  have HTZ : Hid (qTzIs man t) := ht
  have HM0 : Hid (man ≠ 0) := hm0
  clear hq htop hL hmo hm9 hT ht hm0 hex3 hs1 hun hsf hy hr hyl hmo9 h1 h2 hex hex2 hL53
  go_enter Tryd.func15, Tryd.ntmps15
  go_wp2_with fail
  refine (of_64 _).mono ?_
  rintro e w1 ⟨rfl, hb1⟩
  go_wp2_with fail
  clear c1
  have X := B3.new (w1) 31 (.int .i64 64) (.int .i64 53) (.int .i64 (-1074))
  have hb2 := bwAlloc (w1) (.cells #[.int .i64 64, .int .i64 53, .int .i64 (-1074)] 31)
  generalize (w1).alloc (.cells #[.int .i64 64, .int .i64 53, .int .i64 (-1074)] 31) = W at *
  obtain ⟨g, hg⟩ : ∃ g, g = (w1).heap.size := ⟨_, rfl⟩
  have HGg : Hid ((w1).heap.size ≤ g) := by show _ ≤ _; omega
  rw [← hg] at X ⊢
  clear hg
  have hbx := bwOn hb1 hb2
  have HTW : Hid (qTab W) := HT0.out.below hbx
  have HBW : Hid (Below w.heap.size w W) := hbx
  clear hb1 hb2 hbx HT0
  refine (beyond_64 _).mono ?_
  rintro e w3 ⟨rfl, hb3⟩
  have X3 : Hid (B3 w3 g (.int .i64 64) (.int .i64 53) (.int .i64 (-1074))) := X.below hb3
  have HT3 : Hid (qTab w3) := HTW.out.below hb3
  have HB3 : Hid (Below w.heap.size w w3) := bwOn HBW.out hb3
  clear hb3 X HTW HBW
  go_wp2_with fail
  clear c2
  refine (qtz_any HM0.out HM9.out HTZ.out HT3.out).mono ?_
  rintro e w4 ⟨rfl, hw⟩
  obtain rfl := hw.symm
  clear hw
  go_wp2_with fail
  refine (bl_len_any mo _ HMO9.out).mono ?_
  rintro e w4 ⟨rfl, hw⟩
  rw [← HL.out]
  obtain rfl := hw.symm
  clear hw
  obtain ⟨x0, x1, x2, x3, x4, x5⟩ := X3.out
  go_wp2_with fail
  refine (unit_64 top HT1.out.1 HT1.out.2 _).mono ?_
  rintro e w5 ⟨rfl, hb5⟩
  rw [← HUN.out]
  have X5 : Hid (B3 w5 g (.int .i64 64) (.int .i64 53) (.int .i64 (-1074))) := X3.out.below hb5
  have HB5 : Hid (Below w.heap.size w w5) := bwOn HB3.out hb5
  clear hb5 HT3 HB3 x0 x1 x2 x3 x4 x5 X3 a1 a2 a3 a4
  obtain ⟨x0, x1, x2, x3, x4, x5⟩ := X5.out
  go_wp2_with fail
  refine (beyond_64 _).mono ?_
  rintro e w6 ⟨rfl, hb6⟩
  have X6 : Hid (B3 w6 g (.int .i64 64) (.int .i64 53) (.int .i64 (-1074))) := X5.out.below hb6
  have HB6 : Hid (Below w.heap.size w w6) := bwOn HB5.out hb6
  clear hb6 HB5 x0 x1 x2 x3 x4 x5 X5 c3
  obtain ⟨x0, x1, x2, x3, x4, x5⟩ := X6.out
  go_wp2_with fail
  clear x0 x1 x2 x3 x4 x5 c4
  have X7 : Hid (B3 w6.drew g (.int .i64 64) (.int .i64 53) (.int .i64 (-1074))) := X6.out.drew
  have HB7 : Hid (Below w.heap.size w w6.drew) := bwDrew HB6.out
  refine wp_region_J (fun W' => B3 W' g (.int .i64 64) (.int .i64 53) (.int .i64 (-1074))) (by kernel_rfl) ?_
  refine wpJ_take (i := 0) (v := ?v1x0) rfl (by kernel_rfl) (by kernel_rfl) (by kernel_rfl) (fun _ _ _ h => h) (by rfl) ?hy1x0 X7.out ?rest1x0
  case hy1x0 => (intro W' hJ; obtain ⟨x0, x1, x2, x3, x4, x5⟩ := hJ; go_simp; first | done | with_reducible rfl)
  refine wpJ_take (i := 1) (v := ?v2x1) rfl (by kernel_rfl) (by kernel_rfl) (by kernel_rfl) (fun _ _ _ h => h) (by rfl) ?hy2x1 X7.out ?rest2x1
  case hy2x1 => (intro W' hJ; obtain ⟨x0, x1, x2, x3, x4, x5⟩ := hJ; go_simp; first | done | with_reducible rfl)
  refine wpJ_take (i := 2) (v := ?v3x2) rfl (by kernel_rfl) (by kernel_rfl) (by kernel_rfl) (fun _ _ _ h => h) (by rfl) ?hy3x2 X7.out ?rest3x2
  case hy3x2 => (intro W' hJ; obtain ⟨x0, x1, x2, x3, x4, x5⟩ := hJ; go_simp; first | done | with_reducible rfl)
  refine wpJ_take (i := 3) (v := ?v4x3) rfl (by kernel_rfl) (by kernel_rfl) (by kernel_rfl) (fun _ _ _ h => h) (by rfl) ?hy4x3 X7.out ?rest4x3
  case hy4x3 => (intro W' hJ; obtain ⟨x0, x1, x2, x3, x4, x5⟩ := hJ; go_simp; first | done | with_reducible rfl)
  refine wpJ_take (i := 4) (v := ?v5x4) rfl (by kernel_rfl) (by kernel_rfl) (by kernel_rfl) (fun _ _ _ h => h) (by rfl) ?hy5x4 X7.out ?rest5x4
  case hy5x4 => (intro W' hJ; obtain ⟨x0, x1, x2, x3, x4, x5⟩ := hJ; go_simp; first | done | with_reducible rfl)
  refine wpJ_take (i := 5) (v := ?v6x5) rfl (by kernel_rfl) (by kernel_rfl) (by kernel_rfl) (fun _ _ _ h => h) (by rfl) ?hy6x5 X7.out ?rest6x5
  case hy6x5 => (intro W' hJ; obtain ⟨x0, x1, x2, x3, x4, x5⟩ := hJ; go_simp; first | done | with_reducible rfl)
  refine wpJ_take (i := 6) (v := ?v7x6) rfl (by kernel_rfl) (by kernel_rfl) (by kernel_rfl) (fun _ _ _ h => h) (by rfl) ?hy7x6 X7.out ?rest7x6
  case hy7x6 => (intro W' hJ; obtain ⟨x0, x1, x2, x3, x4, x5⟩ := hJ; go_simp; first | done | with_reducible rfl)
  refine wpJ_take (i := 7) (v := ?v8x7) rfl (by kernel_rfl) (by kernel_rfl) (by kernel_rfl) (fun _ _ _ h => h) (by rfl) ?hy8x7 X7.out ?rest8x7
  case hy8x7 => (intro W' hJ; obtain ⟨x0, x1, x2, x3, x4, x5⟩ := hJ; go_simp; first | done | with_reducible rfl)
  refine wpJ_take (i := 8) (v := ?v9x8) rfl (by kernel_rfl) (by kernel_rfl) (by kernel_rfl) (fun _ _ _ h => h) (by rfl) ?hy9x8 X7.out ?rest9x8
  case hy9x8 => (intro W' hJ; obtain ⟨x0, x1, x2, x3, x4, x5⟩ := hJ; go_simp; first | done | with_reducible rfl)
  refine wpJ_one (i := 9) (by kernel_rfl) rfl (by rfl) (fun K hK => ?_)
  go_simp
  refine (size_64 y q un HUQ.out HQ2.out HYL.out _).mono ?_
  rintro e w8 ⟨rfl, hb8⟩
  have X8 : Hid (B3 w8 g (.int .i64 64) (.int .i64 53) (.int .i64 (-1074))) := X7.out.below hb8
  have HB8 : Hid (Below w.heap.size w w8) := bwOn HB7.out hb8
  clear hb8
  refine hK _ _ X8.out ?_
  clear hK
  refine wpJ_one (i := 10) (by kernel_rfl) rfl (by rfl) (fun K hK => ?_)
  go_simp
  refine (qsigned_64 neg (q * 4503599627370496 + y) HQY.out _).mono ?_
  rintro e w9 ⟨rfl, hb9⟩
  rw [← HR.out]
  have X9 : Hid (B3 w9 g (.int .i64 64) (.int .i64 53) (.int .i64 (-1074))) := X8.out.below hb9
  have HB9 : Hid (Below w.heap.size w w9) := bwOn HB8.out hb9
  clear hb9
  refine hK _ _ X9.out ?_
  clear hK
  refine wpJ_take (i := 11) (v := ?v10x11) rfl (by kernel_rfl) (by kernel_rfl) (by kernel_rfl) (fun _ _ _ h => h) (by rfl) ?hy10x11 X9.out ?rest10x11
  case hy10x11 => (intro W' hJ; obtain ⟨x0, x1, x2, x3, x4, x5⟩ := hJ; go_simp; first | done | with_reducible rfl)
  refine wpJ_take (i := 12) (v := ?v11x12) rfl (by kernel_rfl) (by kernel_rfl) (by kernel_rfl) (fun _ _ _ h => h) (by rfl) ?hy11x12 X9.out ?rest11x12
  case hy11x12 => (intro W' hJ; obtain ⟨x0, x1, x2, x3, x4, x5⟩ := hJ; go_simp; first | done | with_reducible rfl)
  refine wpJ_done (by kernel_rfl) ?_ _
  go_wp2_with fail
  go_ret2
  exact ⟨rfl, HB9.out⟩

-- Bj2
/-- The size of the binary64 pattern of a binary32 size. -/
def wV (z : Nat) : Nat :=
  if z = 0 then 0 else
  (872 + (z / 8388608 - 1) + bl_bitsN (z - (z / 8388608 - 1) * 8388608)) * 4503599627370496 + (z - (z / 8388608 - 1) * 8388608) * 2 ^ (53 - bl_bitsN (z - (z / 8388608 - 1) * 8388608))
theorem bits_shift {m t : Nat} (hm : m ≠ 0) : bl_bitsN (m * 2 ^ t) = bl_bitsN m + t := by
  have h1 := bl_bitsN_lt m
  have h2 := bl_bitsN_le m hm
  have h3 : bl_bitsN m ≠ 0 := by unfold bl_bitsN; rw [if_neg hm]; omega
  have hp := Nat.two_pow_pos t
  refine bl_bitsN_unique ?_ (fun _ => ?_) (fun e => ?_)
  · rw [Nat.pow_add]; exact Nat.mul_lt_mul_of_pos_right h1 hp
  · rw [show bl_bitsN m + t - 1 = (bl_bitsN m - 1) + t by omega, Nat.pow_add]; exact Nat.mul_le_mul_right _ h2
  · exfalso
    rcases Nat.mul_eq_zero.1 e with e | e
    · exact hm e
    · omega
set_option maxRecDepth 20000 in
theorem join_wide (neg : Bool) (z q m : Nat) (hq : q = z / 8388608 - 1) (hm : m = z - q * 8388608) (hz : z < 2139095040) (w : World) (hT : qTab w) :
    Calls Tryd.prog 15 #[.int .i64 64, .bool neg, U m, .int .i64 (-149 + (q : Int))] w fun e w' => e = .returned (.tuple #[U (if neg then 9223372036854775808 + wV z else wV z), .int .i64 0]) ∧ Below w.heap.size w w' := by
  by_cases z0 : z = 0
  · subst z0
    have hm0 : m = 0 := by omega
    subst hm0
    have h := join_zero neg (-149 + (q : Int)) w
    have hv : wV 0 = 0 := rfl
    rw [hv]
    exact h
  · have hm0 : m ≠ 0 := by omega
    have hmb : m < 16777216 := by omega
    have hq9 : q ≤ 253 := by omega
    obtain ⟨ht, ht64⟩ := qctz_is hm0 (show m < B64 by rw [B64_eq]; omega)
    generalize Lib.ctz 64 m = t at *
    obtain ⟨mo, hmo⟩ : ∃ mo, mo = m / 2 ^ t := ⟨_, rfl⟩
    have hdec : m = mo * 2 ^ t := by
      have h1 := Nat.div_add_mod m (2 ^ t)
      rw [ht.1, Nat.add_zero, Nat.mul_comm, ← hmo] at h1
      exact h1.symm
    have hmo0 : mo ≠ 0 := by
      rintro rfl
      rw [Nat.zero_mul] at hdec
      exact hm0 hdec
    have hbs : bl_bitsN m = bl_bitsN mo + t := by rw [hdec]; exact bits_shift hmo0
    have hb24 : bl_bitsN m ≤ 24 := bl_le (show m < 2 ^ 24 by omega)
    have hb1 : 1 ≤ bl_bitsN mo := by unfold bl_bitsN; rw [if_neg hmo0]; omega
    have hv : wV z = (872 + q + bl_bitsN m) * 4503599627370496 + mo * 2 ^ (53 - bl_bitsN mo) := by
      unfold wV
      rw [if_neg z0, ← hq, ← hm]
      congr 1
      rw [show 53 - bl_bitsN mo = t + (53 - bl_bitsN m) by omega, Nat.pow_add, ← Nat.mul_assoc, ← hdec]
    rw [hv]
    exact join_norm neg m t mo (bl_bitsN mo) (872 + q + bl_bitsN m) (-149 + (q : Int)) (-149 + (q : Int) + t + bl_bitsN mo - 1) hm0 (by rw [B64_eq]; omega) ht hmo rfl (by omega) rfl (by omega) (by omega) (by omega) (by omega) ht64 (by omega) w hT

set_option maxRecDepth 20000 in
set_option maxHeartbeats 4000000 in
theorem widen_big (b : Nat) (hb : b < B64) (hg : 4294967296 ≤ b) (w : World) : Calls Tryd.prog 5 #[U b] w fun e w' => e = .returned (.tuple #[.int .u64 0, .int .i64 2]) ∧ Below w.heap.size w w' := by
  have HB : Hid (b < B64) := hb
  have HG : Hid (4294967296 ≤ b) := hg
  clear hb hg
  go_enter Tryd.func5, Tryd.ntmps5
  go_wp2_with fail
  refine (patternOf_32_big b HB.out HG.out _).mono ?_
  rintro e w1 ⟨rfl, hb1⟩
  have hbw := bwOn hb1 (bwAlloc w1 (.cells #[.int .i64 0, .int .i64 0, .int .i64 0, .bool false, .int .u64 0] 33))
  clear hb1
  go_wp2_with fail
  go_ret2
  exact ⟨rfl, hbw⟩
set_option maxRecDepth 20000 in
set_option maxHeartbeats 4000000 in
theorem widen_nan (b : Nat) (hb : b < 4294967296) (w : World) (hz : 2139095040 < b % 2147483648) : Calls Tryd.prog 5 #[U b] w fun e w' => e = .returned (.tuple #[.int .u64 9221120237041090561, .int .i64 0]) ∧ Below w.heap.size w w' := by
  have HP := fun w => patternOf_32 b (by omega) w
  have HC := fun (s : Bool) (z : Nat) (w : World) => class_32 (I := 2139095040) rfl s z w
  obtain ⟨z, hzz⟩ : ∃ z, z = b % 2147483648 := ⟨_, rfl⟩
  obtain ⟨s, hs⟩ : ∃ s, s = decide (2147483648 ≤ b) := ⟨_, rfl⟩
  simp only [← hzz, ← hs] at HP hz ⊢
  obtain ⟨c, hc⟩ : ∃ c, c = clsN 8388608 2139095040 z := ⟨_, rfl⟩
  have hcv : c = 4 := by rw [hc]; unfold clsN; rw [if_neg (by omega), if_neg (by omega), if_neg (by omega), if_neg (by omega)]
  have HPH : Hid (∀ w : World, Calls Tryd.prog 8 #[.int .i64 32, U b] w fun e w' => e = .returned (.tuple #[PV 32 24 (-149) s z, .int .i64 0]) ∧ Below w.heap.size w w') := HP
  have HCH : Hid (∀ w : World, Calls Tryd.prog 9 #[PV 32 24 (-149) s z] w fun e w' => e = .returned (.int .i64 c) ∧ Below w.heap.size w w') := fun w => by rw [hc]; exact HC s z w
  clear HP HC hc hzz hs hz hb
  subst hcv
  go_enter Tryd.func5, Tryd.ntmps5
  go_wp2_with fail
  refine (HPH.out _).mono ?_
  rintro e w1 ⟨rfl, hb1⟩
  go_wp2_with fail
  have X := B5q.new (w1) 33 (.int .i64 32) (.int .i64 24) (.int .i64 (-149)) (.bool s) (U z)
  have hb2 := bwAlloc (w1) (.cells #[.int .i64 32, .int .i64 24, .int .i64 (-149), .bool s, U z] 33)
  generalize (w1).alloc (.cells #[.int .i64 32, .int .i64 24, .int .i64 (-149), .bool s, U z] 33) = W at *
  obtain ⟨g, hg⟩ : ∃ g, g = (w1).heap.size := ⟨_, rfl⟩
  have HGg : Hid ((w1).heap.size ≤ g) := by show _ ≤ _; omega
  rw [← hg] at X ⊢
  clear hg
  have HB2 : Hid (Below w.heap.size w W) := bwOn hb1 hb2
  clear hb1 hb2
  refine (HCH.out _).mono ?_
  rintro e w3 ⟨rfl, hb3⟩
  have X3 : Hid (B5q w3 g (.int .i64 32) (.int .i64 24) (.int .i64 (-149)) (.bool s) (U z)) := X.below hb3
  have HB3 : Hid (Below w.heap.size w w3) := bwOn HB2.out hb3
  clear hb3 X
  obtain ⟨x0, x1, x2, x3, x4, x5, x6, x7, x8, x9⟩ := X3.out
  go_wp2_with fail
  refine (quiet_64 _).mono ?_
  rintro e w4 ⟨rfl, hb4⟩
  have HB4 : Hid (Below w.heap.size w w4) := bwOn HB3.out hb4
  clear hb4
  go_wp2_with fail
  go_ret2
  exact ⟨rfl, HB4.out⟩
set_option maxRecDepth 20000 in
set_option maxHeartbeats 4000000 in
theorem widen_inf (b : Nat) (hb : b < 4294967296) (w : World) (hz : b % 2147483648 = 2139095040) : Calls Tryd.prog 5 #[U b] w fun e w' => e = .returned (.tuple #[U (if decide (2147483648 ≤ b) then 9223372036854775808 + 9218868437227405312 else 9218868437227405312), .int .i64 0]) ∧ Below w.heap.size w w' := by
  have HP := fun w => patternOf_32 b (by omega) w
  have HC := fun (s : Bool) (z : Nat) (w : World) => class_32 (I := 2139095040) rfl s z w
  obtain ⟨z, hzz⟩ : ∃ z, z = b % 2147483648 := ⟨_, rfl⟩
  obtain ⟨s, hs⟩ : ∃ s, s = decide (2147483648 ≤ b) := ⟨_, rfl⟩
  simp only [← hzz, ← hs] at HP hz ⊢
  obtain ⟨c, hc⟩ : ∃ c, c = clsN 8388608 2139095040 z := ⟨_, rfl⟩
  have hcv : c = 3 := by rw [hc]; unfold clsN; rw [if_neg (by omega), if_neg (by omega), if_neg (by omega), if_pos hz]
  obtain ⟨r, hr⟩ : ∃ r : Nat, r = (if s = true then 18442240474082181120 else 9218868437227405312) := ⟨_, rfl⟩
  have HR : Hid (r = (if s then 9223372036854775808 + 9218868437227405312 else 9218868437227405312)) := hr
  rw [← hr]
  clear hr
  have HPH : Hid (∀ w : World, Calls Tryd.prog 8 #[.int .i64 32, U b] w fun e w' => e = .returned (.tuple #[PV 32 24 (-149) s z, .int .i64 0]) ∧ Below w.heap.size w w') := HP
  have HCH : Hid (∀ w : World, Calls Tryd.prog 9 #[PV 32 24 (-149) s z] w fun e w' => e = .returned (.int .i64 c) ∧ Below w.heap.size w w') := fun w => by rw [hc]; exact HC s z w
  clear HP HC hc hzz hs hz hb
  subst hcv
  go_enter Tryd.func5, Tryd.ntmps5
  go_wp2_with fail
  refine (HPH.out _).mono ?_
  rintro e w1 ⟨rfl, hb1⟩
  go_wp2_with fail
  have X := B5q.new (w1) 33 (.int .i64 32) (.int .i64 24) (.int .i64 (-149)) (.bool s) (U z)
  have hb2 := bwAlloc (w1) (.cells #[.int .i64 32, .int .i64 24, .int .i64 (-149), .bool s, U z] 33)
  generalize (w1).alloc (.cells #[.int .i64 32, .int .i64 24, .int .i64 (-149), .bool s, U z] 33) = W at *
  obtain ⟨g, hg⟩ : ∃ g, g = (w1).heap.size := ⟨_, rfl⟩
  have HGg : Hid ((w1).heap.size ≤ g) := by show _ ≤ _; omega
  rw [← hg] at X ⊢
  clear hg
  have HB2 : Hid (Below w.heap.size w W) := bwOn hb1 hb2
  clear hb1 hb2
  refine (HCH.out _).mono ?_
  rintro e w3 ⟨rfl, hb3⟩
  have X3 : Hid (B5q w3 g (.int .i64 32) (.int .i64 24) (.int .i64 (-149)) (.bool s) (U z)) := X.below hb3
  have HB3 : Hid (Below w.heap.size w w3) := bwOn HB2.out hb3
  clear hb3 X
  obtain ⟨x0, x1, x2, x3, x4, x5, x6, x7, x8, x9⟩ := X3.out
  go_wp2_with fail
  refine (of_64 _).mono ?_
  rintro e w4 ⟨rfl, hb4⟩
  have X4 : Hid (B5q w4 g (.int .i64 32) (.int .i64 24) (.int .i64 (-149)) (.bool s) (U z)) := X3.out.below hb4
  have HB4 : Hid (Below w.heap.size w w4) := bwOn HB3.out hb4
  clear hb4 x0 x1 x2 x3 x4 x5 x6 x7 x8 x9
  go_wp2_with fail
  have Y := B3.new (w4) 31 (.int .i64 64) (.int .i64 53) (.int .i64 (-1074))
  have hb5 := bwAlloc (w4) (.cells #[.int .i64 64, .int .i64 53, .int .i64 (-1074)] 31)
  generalize (w4).alloc (.cells #[.int .i64 64, .int .i64 53, .int .i64 (-1074)] 31) = W5 at *
  obtain ⟨h, hh⟩ : ∃ h, h = (w4).heap.size := ⟨_, rfl⟩
  have HGh : Hid ((w4).heap.size ≤ h) := by show _ ≤ _; omega
  rw [← hh] at Y ⊢
  clear hh
  have HB5 : Hid (Below w.heap.size w W5.drew) := bwDrew (bwOn HB4.out hb5)
  have XY : Hid (B5q W5.drew g (.int .i64 32) (.int .i64 24) (.int .i64 (-149)) (.bool s) (U z) ∧ B3 W5.drew h (.int .i64 64) (.int .i64 53) (.int .i64 (-1074))) := ⟨(X4.out.below hb5).drew, Y.drew⟩
  clear Y hb5
  refine wp_region_J (fun W' => B5q W' g (.int .i64 32) (.int .i64 24) (.int .i64 (-149)) (.bool s) (U z) ∧ B3 W' h (.int .i64 64) (.int .i64 53) (.int .i64 (-1074))) (by kernel_rfl) ?_
  refine wpJ_take (i := 0) (v := ?v1x0) rfl (by kernel_rfl) (by kernel_rfl) (by kernel_rfl) (fun _ _ _ h => h) (by rfl) ?hy1x0 XY.out ?rest1x0
  case hy1x0 => (intro W' hJ; obtain ⟨⟨x0, x1, x2, x3, x4, x5, x6, x7, x8, x9⟩, ⟨y0, y1, y2, y3, y4, y5⟩⟩ := hJ; go_simp; first | done | with_reducible rfl)
  refine wpJ_take (i := 1) (v := ?v2x1) rfl (by kernel_rfl) (by kernel_rfl) (by kernel_rfl) (fun _ _ _ h => h) (by rfl) ?hy2x1 XY.out ?rest2x1
  case hy2x1 => (intro W' hJ; obtain ⟨⟨x0, x1, x2, x3, x4, x5, x6, x7, x8, x9⟩, ⟨y0, y1, y2, y3, y4, y5⟩⟩ := hJ; go_simp; first | done | with_reducible rfl)
  refine wpJ_take (i := 2) (v := ?v3x2) rfl (by kernel_rfl) (by kernel_rfl) (by kernel_rfl) (fun _ _ _ h => h) (by rfl) ?hy3x2 XY.out ?rest3x2
  case hy3x2 => (intro W' hJ; obtain ⟨⟨x0, x1, x2, x3, x4, x5, x6, x7, x8, x9⟩, ⟨y0, y1, y2, y3, y4, y5⟩⟩ := hJ; go_simp; first | done | with_reducible rfl)
  refine wpJ_take (i := 3) (v := ?v4x3) rfl (by kernel_rfl) (by kernel_rfl) (by kernel_rfl) (fun _ _ _ h => h) (by rfl) ?hy4x3 XY.out ?rest4x3
  case hy4x3 => (intro W' hJ; obtain ⟨⟨x0, x1, x2, x3, x4, x5, x6, x7, x8, x9⟩, ⟨y0, y1, y2, y3, y4, y5⟩⟩ := hJ; go_simp; first | done | with_reducible rfl)
  refine wpJ_one (i := 4) (by kernel_rfl) rfl (by rfl) (fun K hK => ?_)
  go_simp
  refine (infinity_64 _).mono ?_
  rintro e w6 ⟨rfl, hb6⟩
  have XY6 : Hid (B5q w6 g (.int .i64 32) (.int .i64 24) (.int .i64 (-149)) (.bool s) (U z) ∧ B3 w6 h (.int .i64 64) (.int .i64 53) (.int .i64 (-1074))) := ⟨XY.out.1.below hb6, XY.out.2.below hb6⟩
  have HB6 : Hid (Below w.heap.size w w6) := bwOn HB5.out hb6
  clear hb6
  refine hK _ _ XY6.out ?_
  clear hK
  refine wpJ_one (i := 5) (by kernel_rfl) rfl (by rfl) (fun K hK => ?_)
  go_simp
  refine (qsigned_64 s 9218868437227405312 (by decide) _).mono ?_
  rintro e w7 ⟨rfl, hb7⟩
  rw [← HR.out]
  have XY7 : Hid (B5q w7 g (.int .i64 32) (.int .i64 24) (.int .i64 (-149)) (.bool s) (U z) ∧ B3 w7 h (.int .i64 64) (.int .i64 53) (.int .i64 (-1074))) := ⟨XY6.out.1.below hb7, XY6.out.2.below hb7⟩
  have HB7 : Hid (Below w.heap.size w w7) := bwOn HB6.out hb7
  clear hb7
  refine hK _ _ XY7.out ?_
  clear hK
  refine wpJ_take (i := 6) (v := ?v5x6) rfl (by kernel_rfl) (by kernel_rfl) (by kernel_rfl) (fun _ _ _ h => h) (by rfl) ?hy5x6 XY7.out ?rest5x6
  case hy5x6 => (intro W' hJ; obtain ⟨⟨x0, x1, x2, x3, x4, x5, x6, x7, x8, x9⟩, ⟨y0, y1, y2, y3, y4, y5⟩⟩ := hJ; go_simp; first | done | with_reducible rfl)
  refine wpJ_take (i := 7) (v := ?v6x7) rfl (by kernel_rfl) (by kernel_rfl) (by kernel_rfl) (fun _ _ _ h => h) (by rfl) ?hy6x7 XY7.out ?rest6x7
  case hy6x7 => (intro W' hJ; obtain ⟨⟨x0, x1, x2, x3, x4, x5, x6, x7, x8, x9⟩, ⟨y0, y1, y2, y3, y4, y5⟩⟩ := hJ; go_simp; first | done | with_reducible rfl)
  refine wpJ_done (by kernel_rfl) ?_ _
  go_wp2_with fail
  go_ret2
  exact ⟨rfl, HB7.out⟩
set_option maxRecDepth 20000 in
set_option maxHeartbeats 4000000 in
theorem widen_fin (b : Nat) (hb : b < 4294967296) (w : World) (hz : b % 2147483648 < 2139095040) (hT : qTab w) : Calls Tryd.prog 5 #[U b] w fun e w' => e = .returned (.tuple #[U (if decide (2147483648 ≤ b) then 9223372036854775808 + wV (b % 2147483648) else wV (b % 2147483648)), .int .i64 0]) ∧ Below w.heap.size w w' := by
  have HP := fun w => patternOf_32 b (by omega) w
  have HC := fun (s : Bool) (z : Nat) (w : World) => class_32 (I := 2139095040) rfl s z w
  obtain ⟨z, hzz⟩ : ∃ z, z = b % 2147483648 := ⟨_, rfl⟩
  obtain ⟨s, hs⟩ : ∃ s, s = decide (2147483648 ≤ b) := ⟨_, rfl⟩
  simp only [← hzz, ← hs] at HP hz ⊢
  obtain ⟨c, hc⟩ : ∃ c, c = clsN 8388608 2139095040 z := ⟨_, rfl⟩
  have hcv : c = 0 ∨ c = 1 ∨ c = 2 := by
    rw [hc]; unfold clsN
    by_cases h0 : z = 0
    · rw [if_pos h0]; exact .inl rfl
    · rw [if_neg h0]
      by_cases h1 : z < 8388608
      · rw [if_pos h1]; exact .inr (.inl rfl)
      · rw [if_neg h1, if_pos hz]; exact .inr (.inr rfl)
  have hc4 : (c == 4) = false := by rcases hcv with rfl | rfl | rfl <;> decide
  have hc3 : (c == 3) = false := by rcases hcv with rfl | rfl | rfl <;> decide
  obtain ⟨q, hq⟩ : ∃ q, q = z / 8388608 - 1 := ⟨_, rfl⟩
  obtain ⟨m, hm⟩ : ∃ m, m = z - q * 8388608 := ⟨_, rfl⟩
  obtain ⟨r, hr⟩ : ∃ r, r = (if s then 9223372036854775808 + wV z else wV z) := ⟨_, rfl⟩
  have HPA : Hid (∀ w : World, Calls Tryd.prog 14 #[WV 32 24 (-149), U z] w fun e w' => e = .returned (.tuple #[U m, .int .i64 (-149 + (q : Int))]) ∧ Below w.heap.size w w') := fun w => parts_32 z q m hq hm (by omega) w
  have HJO : Hid (∀ w : World, qTab w → Calls Tryd.prog 15 #[.int .i64 64, .bool s, U m, .int .i64 (-149 + (q : Int))] w fun e w' => e = .returned (.tuple #[U r, .int .i64 0]) ∧ Below w.heap.size w w') := fun w hT => by rw [hr]; exact join_wide s z q m hq hm hz w hT
  rw [← hr]
  have HT : Hid (qTab w) := hT
  obtain ⟨ex, hex⟩ : ∃ ex : Int, ex = -149 + (q : Int) := ⟨_, rfl⟩
  rw [← hex] at HPA HJO
  have HPH : Hid (∀ w : World, Calls Tryd.prog 8 #[.int .i64 32, U b] w fun e w' => e = .returned (.tuple #[PV 32 24 (-149) s z, .int .i64 0]) ∧ Below w.heap.size w w') := HP
  have HCH : Hid (∀ w : World, Calls Tryd.prog 9 #[PV 32 24 (-149) s z] w fun e w' => e = .returned (.int .i64 c) ∧ Below w.heap.size w w') := fun w => by rw [hc]; exact HC s z w
  clear HP HC hc hzz hs hz hb hcv hq hm hr hT hex
  go_enter Tryd.func5, Tryd.ntmps5
  go_wp2_with fail
  refine (HPH.out _).mono ?_
  rintro e w1 ⟨rfl, hb1⟩
  go_wp2_with fail
  have X := B5q.new (w1) 33 (.int .i64 32) (.int .i64 24) (.int .i64 (-149)) (.bool s) (U z)
  have hb2 := bwAlloc (w1) (.cells #[.int .i64 32, .int .i64 24, .int .i64 (-149), .bool s, U z] 33)
  generalize (w1).alloc (.cells #[.int .i64 32, .int .i64 24, .int .i64 (-149), .bool s, U z] 33) = W at *
  obtain ⟨g, hg⟩ : ∃ g, g = (w1).heap.size := ⟨_, rfl⟩
  have HGg : Hid ((w1).heap.size ≤ g) := by show _ ≤ _; omega
  rw [← hg] at X ⊢
  clear hg
  have HB2 : Hid (Below w.heap.size w W) := bwOn hb1 hb2
  clear hb1 hb2
  refine (HCH.out _).mono ?_
  rintro e w3 ⟨rfl, hb3⟩
  have X3 : Hid (B5q w3 g (.int .i64 32) (.int .i64 24) (.int .i64 (-149)) (.bool s) (U z)) := X.below hb3
  have HB3 : Hid (Below w.heap.size w w3) := bwOn HB2.out hb3
  clear hb3 X
  obtain ⟨x0, x1, x2, x3, x4, x5, x6, x7, x8, x9⟩ := X3.out
  go_wp2_with fail
  refine (HPA.out _).mono ?_
  rintro e w4 ⟨rfl, hb4⟩
  have X4 : Hid (B5q w4 g (.int .i64 32) (.int .i64 24) (.int .i64 (-149)) (.bool s) (U z)) := X3.out.below hb4
  have HB4 : Hid (Below w.heap.size w w4) := bwOn HB3.out hb4
  have HT4 : Hid (qTab w4) := HT.out.below HB4.out
  clear hb4 x0 x1 x2 x3 x4 x5 x6 x7 x8 x9
  obtain ⟨x0, x1, x2, x3, x4, x5, x6, x7, x8, x9⟩ := X4.out
  go_wp2_with fail
  refine (HJO.out _ HT4.out).mono ?_
  rintro e w5 ⟨rfl, hb5⟩
  have HB5 : Hid (Below w.heap.size w w5) := bwOn HB4.out hb5
  clear hb5
  go_wp2_with fail
  go_ret2
  exact ⟨rfl, HB5.out⟩

end Go.Proofs.YtmmgnkhfaiophaaDoor
