import Derived.Test.YtmhkabomabkkfaaGreatDoorJ13
import Derived.Test.YtmhkabomabkkfaaGreatDoorJ12
import Derived.Test.YtmhkabomabkkfaaGreatDoorJ10
import Derived.Deep.LoopGhost
import Derived.Deep.RegionWith
import Derived.Test.YtmhkabomabkkfaaGreatDoorVal
import Derived.Shelf.Spec.TrailingZeros
import Derived.Test.YtmhkabomabkkfaaGreatDoorJ8
import Derived.Laws.ResultCell
import Derived.Deep.DeepCutAuto
namespace Go.Proofs.YtmhkabomabkkfaaGreatDoor
open Go.RowKit Go.Shelf
set_option maxRecDepth 20000
set_option maxHeartbeats 0
theorem beyond_32 (w : World) : Calls Tryz.prog 85 #[WV 32 24 (-149)] w fun e w' => e = .returned (.int .i64 128) ∧ Below w.heap.size w w' := by
  go_enter Tryz.func85, Tryz.ntmps85
  go_wp2_with fail
  have X0 : B3 (w.alloc (.cells #[.int .i64 32, .int .i64 24, .int .i64 (-149)] 75)) w.heap.size (.int .i64 32) (.int .i64 24) (.int .i64 (-149)) := B3.new ..
  have hb0 : Below w.heap.size w (w.alloc (.cells #[.int .i64 32, .int .i64 24, .int .i64 (-149)] 75)) := bwAlloc w _
  generalize w.alloc (.cells #[.int .i64 32, .int .i64 24, .int .i64 (-149)] 75) = W at *
  obtain ⟨g, hg⟩ : ∃ g, g = w.heap.size := ⟨_, rfl⟩
  rw [← hg] at X0 ⊢
  clear hg
  have XB : Hid (B3 W.drew g (.int .i64 32) (.int .i64 24) (.int .i64 (-149))) := X0.drew
  have HBW : Hid (Below w.heap.size w W.drew) := bwDrew hb0
  have XW : Hid (B3 W g (.int .i64 32) (.int .i64 24) (.int .i64 (-149))) := X0
  have HB0 : Hid (Below w.heap.size w W) := hb0
  clear X0 hb0
  refine wp_region_J (fun W' => B3 W' g (.int .i64 32) (.int .i64 24) (.int .i64 (-149))) (by kernel_rfl) ?_
  refine wpJ_take (i := 0) (v := ?v1x0) rfl (by kernel_rfl) (by kernel_rfl) (by kernel_rfl) (fun _ _ _ h => h) (by rfl) ?hy1x0 XB.out ?rest1x0
  case hy1x0 => (intro W' hJ; obtain ⟨c0, c1, c2, c3, c4, c5⟩ := hJ; go_simp; first | done | with_reducible rfl)
  refine wpJ_take (i := 2) (v := ?v2x2) rfl (by kernel_rfl) (by kernel_rfl) (by kernel_rfl) (fun _ _ _ h => h) (by rfl) ?hy2x2 XB.out ?rest2x2
  case hy2x2 => (intro W' hJ; obtain ⟨c0, c1, c2, c3, c4, c5⟩ := hJ; go_simp; first | done | with_reducible rfl)
  refine wpJ_on 1 rfl fun K hK => ?_
  go_simp
  refine (infinity_32 _).mono ?_
  rintro e w1 ⟨rfl, hb1⟩
  have Xw1 : Hid (B3 w1 g (.int .i64 32) (.int .i64 24) (.int .i64 (-149))) := XB.out.below hb1
  have HBw1 : Hid (Below w.heap.size w w1) := bwOn HBW.out hb1
  clear hb1
  refine hK _ _ Xw1.out ?_
  clear hK
  refine wpJ_on 3 rfl fun K hK => ?_
  go_simp
  refine (stored_32 _).mono ?_
  rintro e w2 ⟨rfl, hb2⟩
  have Xw2 : Hid (B3 w2 g (.int .i64 32) (.int .i64 24) (.int .i64 (-149))) := Xw1.out.below hb2
  have HBw2 : Hid (Below w.heap.size w w2) := bwOn HBw1.out hb2
  clear hb2
  refine hK _ _ Xw2.out ?_
  clear hK
  refine wpJ_take (i := 4) (v := ?v3x4) rfl (by kernel_rfl) (by kernel_rfl) (by kernel_rfl) (fun _ _ _ h => h) (by rfl) ?hy3x4 Xw2.out ?rest3x4
  case hy3x4 => (intro W' hJ; obtain ⟨c0, c1, c2, c3, c4, c5⟩ := hJ; go_simp; first | done | with_reducible rfl)
  refine wpJ_take (i := 5) (v := ?v4x5) rfl (by kernel_rfl) (by kernel_rfl) (by kernel_rfl) (fun _ _ _ h => h) (by rfl) ?hy4x5 Xw2.out ?rest4x5
  case hy4x5 => (intro W' hJ; obtain ⟨c0, c1, c2, c3, c4, c5⟩ := hJ; go_simp; first | done | with_reducible rfl)
  refine wpJ_take (i := 6) (v := ?v5x6) rfl (by kernel_rfl) (by kernel_rfl) (by kernel_rfl) (fun _ _ _ h => h) (by rfl) ?hy5x6 Xw2.out ?rest5x6
  case hy5x6 => (intro W' hJ; obtain ⟨c0, c1, c2, c3, c4, c5⟩ := hJ; go_simp; first | done | with_reducible rfl)
  refine wpJ_done (by kernel_rfl) ?_ _
  clear XB HBW XW HB0 Xw1 HBw1
  have XB : Hid (B3 w2.drew g (.int .i64 32) (.int .i64 24) (.int .i64 (-149))) := Xw2.out.drew
  have HBW : Hid (Below w.heap.size w w2.drew) := bwDrew HBw2.out
  have hwr : IntKind.i64.wrap 255 = 255 := by decide
  go_wp2_with fail
  refine wp_region_J (fun W' => B3 W' g (.int .i64 32) (.int .i64 24) (.int .i64 (-149))) (by kernel_rfl) ?_
  refine wpJ_take (i := 0) (v := ?v6x0) rfl (by kernel_rfl) (by kernel_rfl) (by kernel_rfl) (fun _ _ _ h => h) (by rfl) ?hy6x0 XB.out ?rest6x0
  case hy6x0 => (intro W' hJ; obtain ⟨c0, c1, c2, c3, c4, c5⟩ := hJ; go_simp; first | done | with_reducible rfl)
  refine wpJ_take (i := 1) (v := ?v7x1) rfl (by kernel_rfl) (by kernel_rfl) (by kernel_rfl) (fun _ _ _ h => h) (by rfl) ?hy7x1 XB.out ?rest7x1
  case hy7x1 => (intro W' hJ; obtain ⟨c0, c1, c2, c3, c4, c5⟩ := hJ; go_simp; first | done | with_reducible rfl)
  refine wpJ_take (i := 2) (v := ?v8x2) rfl (by kernel_rfl) (by kernel_rfl) (by kernel_rfl) (fun _ _ _ h => h) (by rfl) ?hy8x2 XB.out ?rest8x2
  case hy8x2 => (intro W' hJ; obtain ⟨c0, c1, c2, c3, c4, c5⟩ := hJ; go_simp; first | done | with_reducible rfl)
  refine wpJ_take (i := 3) (v := ?v9x3) rfl (by kernel_rfl) (by kernel_rfl) (by kernel_rfl) (fun _ _ _ h => h) (by rfl) ?hy9x3 XB.out ?rest9x3
  case hy9x3 => (intro W' hJ; obtain ⟨c0, c1, c2, c3, c4, c5⟩ := hJ; go_simp; first | done | with_reducible rfl)
  refine wpJ_take (i := 4) (v := ?v10x4) rfl (by kernel_rfl) (by kernel_rfl) (by kernel_rfl) (fun _ _ _ h => h) (by rfl) ?hy10x4 XB.out ?rest10x4
  case hy10x4 => (intro W' hJ; obtain ⟨c0, c1, c2, c3, c4, c5⟩ := hJ; go_simp; first | done | with_reducible rfl)
  refine wpJ_take (i := 5) (v := ?v11x5) rfl (by kernel_rfl) (by kernel_rfl) (by kernel_rfl) (fun _ _ _ h => h) (by rfl) ?hy11x5 XB.out ?rest11x5
  case hy11x5 => (intro W' hJ; obtain ⟨c0, c1, c2, c3, c4, c5⟩ := hJ; go_simp; first | done | with_reducible rfl)
  refine wpJ_on 6 rfl fun K hK => ?_
  go_simp
  refine (stored_32 _).mono ?_
  rintro e w3 ⟨rfl, hb3⟩
  have Xw3 : Hid (B3 w3 g (.int .i64 32) (.int .i64 24) (.int .i64 (-149))) := XB.out.below hb3
  have HBw3 : Hid (Below w.heap.size w w3) := bwOn HBW.out hb3
  clear hb3
  refine hK _ _ Xw3.out ?_
  clear hK
  refine wpJ_take (i := 7) (v := ?v12x7) rfl (by kernel_rfl) (by kernel_rfl) (by kernel_rfl) (fun _ _ _ h => h) (by rfl) ?hy12x7 Xw3.out ?rest12x7
  case hy12x7 => (intro W' hJ; obtain ⟨c0, c1, c2, c3, c4, c5⟩ := hJ; go_simp; first | done | with_reducible rfl)
  refine wpJ_take (i := 8) (v := ?v13x8) rfl (by kernel_rfl) (by kernel_rfl) (by kernel_rfl) (fun _ _ _ h => h) (by rfl) ?hy13x8 Xw3.out ?rest13x8
  case hy13x8 => (intro W' hJ; obtain ⟨c0, c1, c2, c3, c4, c5⟩ := hJ; go_simp; first | done | with_reducible rfl)
  refine wpJ_done (by kernel_rfl) ?_ _
  go_wp2_with fail
  go_ret
  exact ⟨rfl, HBw3.out⟩
theorem unitg_64 (top : Int) (h1 : -1000000000000 ≤ top) (h2 : top ≤ 5000) (w : World) : Calls Tryz.prog 87 #[WV 64 53 (-1074), .int .i64 top] w fun e w' => e = .returned (.int .i64 (max (top - 52) (-1074))) ∧ Below w.heap.size w w' := by
  obtain ⟨r0, hr0⟩ : ∃ r, r = top - 52 := ⟨_, rfl⟩
  obtain ⟨r, hr⟩ : ∃ r, r = max (top - 52) (-1074) := ⟨_, rfl⟩
  have e1 : IntKind.i64.wrap (top - 52) = r0 := by rw [hr0]; simp [IntKind.wrap, IntKind.signed, IntKind.bits]; omega
  have e2 : max r0 (-1074) = r := by omega
  rw [← hr]
  clear hr hr0 h1 h2
  go_enter Tryz.func87, Tryz.ntmps87
  go_wp2_with fail
  have X0 : B3 (w.alloc (.cells #[.int .i64 64, .int .i64 53, .int .i64 (-1074)] 75)) w.heap.size (.int .i64 64) (.int .i64 53) (.int .i64 (-1074)) := B3.new ..
  have hb0 : Below w.heap.size w (w.alloc (.cells #[.int .i64 64, .int .i64 53, .int .i64 (-1074)] 75)) := bwAlloc w _
  generalize w.alloc (.cells #[.int .i64 64, .int .i64 53, .int .i64 (-1074)] 75) = W at *
  obtain ⟨g, hg⟩ : ∃ g, g = w.heap.size := ⟨_, rfl⟩
  rw [← hg] at X0 ⊢
  clear hg
  have XB : Hid (B3 W.drew g (.int .i64 64) (.int .i64 53) (.int .i64 (-1074))) := X0.drew
  have HBW : Hid (Below w.heap.size w W.drew) := bwDrew hb0
  have XW : Hid (B3 W g (.int .i64 64) (.int .i64 53) (.int .i64 (-1074))) := X0
  have HB0 : Hid (Below w.heap.size w W) := hb0
  clear X0 hb0
  refine wp_region_J (fun W' => B3 W' g (.int .i64 64) (.int .i64 53) (.int .i64 (-1074))) (by kernel_rfl) ?_
  refine wpJ_take (i := 0) (v := ?v14x0) rfl (by kernel_rfl) (by kernel_rfl) (by kernel_rfl) (fun _ _ _ h => h) (by rfl) ?hy14x0 XB.out ?rest14x0
  case hy14x0 => (intro W' hJ; obtain ⟨c0, c1, c2, c3, c4, c5⟩ := hJ; go_simp; first | done | with_reducible rfl)
  refine wpJ_take (i := 1) (v := ?v15x1) rfl (by kernel_rfl) (by kernel_rfl) (by kernel_rfl) (fun _ _ _ h => h) (by rfl) ?hy15x1 XB.out ?rest15x1
  case hy15x1 => (intro W' hJ; obtain ⟨c0, c1, c2, c3, c4, c5⟩ := hJ; go_simp; first | done | with_reducible rfl)
  refine wpJ_take (i := 4) (v := ?v16x4) rfl (by kernel_rfl) (by kernel_rfl) (by kernel_rfl) (fun _ _ _ h => h) (by rfl) ?hy16x4 XB.out ?rest16x4
  case hy16x4 => (intro W' hJ; obtain ⟨c0, c1, c2, c3, c4, c5⟩ := hJ; go_simp; first | done | with_reducible rfl)
  refine wpJ_take (i := 5) (v := ?v17x5) rfl (by kernel_rfl) (by kernel_rfl) (by kernel_rfl) (fun _ _ _ h => h) (by rfl) ?hy17x5 XB.out ?rest17x5
  case hy17x5 => (intro W' hJ; obtain ⟨c0, c1, c2, c3, c4, c5⟩ := hJ; go_simp; first | done | with_reducible rfl)
  refine wpJ_on 2 rfl fun K hK => ?_
  go_simp
  refine (stored_64 _).mono ?_
  rintro e w2 ⟨rfl, hb2⟩
  have Xw2 : Hid (B3 w2 g (.int .i64 64) (.int .i64 53) (.int .i64 (-1074))) := XB.out.below hb2
  have HBw2 : Hid (Below w.heap.size w w2) := bwOn HBW.out hb2
  clear hb2
  refine hK _ _ Xw2.out ?_
  clear hK
  refine wpJ_take (i := 3) (v := ?v18x3) rfl (by kernel_rfl) (by kernel_rfl) (by kernel_rfl) (fun _ _ _ h => h) (by rfl) ?hy18x3 Xw2.out ?rest18x3
  case hy18x3 => (intro W' hJ; obtain ⟨c0, c1, c2, c3, c4, c5⟩ := hJ; go_simp; first | done | with_reducible rfl)
  refine wpJ_take (i := 6) (v := ?v19x6) rfl (by kernel_rfl) (by kernel_rfl) (by kernel_rfl) (fun _ _ _ h => h) (by rfl) ?hy19x6 Xw2.out ?rest19x6
  case hy19x6 => (intro W' hJ; obtain ⟨c0, c1, c2, c3, c4, c5⟩ := hJ; go_simp; first | done | with_reducible rfl)
  refine wpJ_take (i := 7) (v := ?v20x7) rfl (by kernel_rfl) (by kernel_rfl) (by kernel_rfl) (fun _ _ _ h => h) (by rfl) ?hy20x7 Xw2.out ?rest20x7
  case hy20x7 => (intro W' hJ; obtain ⟨c0, c1, c2, c3, c4, c5⟩ := hJ; go_simp; first | done | with_reducible rfl)
  refine wpJ_done (by kernel_rfl) ?_ _
  clear XB HBW XW HB0
  go_wp2_with fail
  go_ret
  exact ⟨rfl, HBw2.out⟩
theorem unitg_32 (top : Int) (h1 : -1000000000000 ≤ top) (h2 : top ≤ 5000) (w : World) : Calls Tryz.prog 87 #[WV 32 24 (-149), .int .i64 top] w fun e w' => e = .returned (.int .i64 (max (top - 23) (-149))) ∧ Below w.heap.size w w' := by
  obtain ⟨r0, hr0⟩ : ∃ r, r = top - 23 := ⟨_, rfl⟩
  obtain ⟨r, hr⟩ : ∃ r, r = max (top - 23) (-149) := ⟨_, rfl⟩
  have e1 : IntKind.i64.wrap (top - 23) = r0 := by rw [hr0]; simp [IntKind.wrap, IntKind.signed, IntKind.bits]; omega
  have e2 : max r0 (-149) = r := by omega
  rw [← hr]
  clear hr hr0 h1 h2
  go_enter Tryz.func87, Tryz.ntmps87
  go_wp2_with fail
  have X0 : B3 (w.alloc (.cells #[.int .i64 32, .int .i64 24, .int .i64 (-149)] 75)) w.heap.size (.int .i64 32) (.int .i64 24) (.int .i64 (-149)) := B3.new ..
  have hb0 : Below w.heap.size w (w.alloc (.cells #[.int .i64 32, .int .i64 24, .int .i64 (-149)] 75)) := bwAlloc w _
  generalize w.alloc (.cells #[.int .i64 32, .int .i64 24, .int .i64 (-149)] 75) = W at *
  obtain ⟨g, hg⟩ : ∃ g, g = w.heap.size := ⟨_, rfl⟩
  rw [← hg] at X0 ⊢
  clear hg
  have XB : Hid (B3 W.drew g (.int .i64 32) (.int .i64 24) (.int .i64 (-149))) := X0.drew
  have HBW : Hid (Below w.heap.size w W.drew) := bwDrew hb0
  have XW : Hid (B3 W g (.int .i64 32) (.int .i64 24) (.int .i64 (-149))) := X0
  have HB0 : Hid (Below w.heap.size w W) := hb0
  clear X0 hb0
  refine wp_region_J (fun W' => B3 W' g (.int .i64 32) (.int .i64 24) (.int .i64 (-149))) (by kernel_rfl) ?_
  refine wpJ_take (i := 0) (v := ?v14x0) rfl (by kernel_rfl) (by kernel_rfl) (by kernel_rfl) (fun _ _ _ h => h) (by rfl) ?hy14x0 XB.out ?rest14x0
  case hy14x0 => (intro W' hJ; obtain ⟨c0, c1, c2, c3, c4, c5⟩ := hJ; go_simp; first | done | with_reducible rfl)
  refine wpJ_take (i := 1) (v := ?v15x1) rfl (by kernel_rfl) (by kernel_rfl) (by kernel_rfl) (fun _ _ _ h => h) (by rfl) ?hy15x1 XB.out ?rest15x1
  case hy15x1 => (intro W' hJ; obtain ⟨c0, c1, c2, c3, c4, c5⟩ := hJ; go_simp; first | done | with_reducible rfl)
  refine wpJ_take (i := 4) (v := ?v16x4) rfl (by kernel_rfl) (by kernel_rfl) (by kernel_rfl) (fun _ _ _ h => h) (by rfl) ?hy16x4 XB.out ?rest16x4
  case hy16x4 => (intro W' hJ; obtain ⟨c0, c1, c2, c3, c4, c5⟩ := hJ; go_simp; first | done | with_reducible rfl)
  refine wpJ_take (i := 5) (v := ?v17x5) rfl (by kernel_rfl) (by kernel_rfl) (by kernel_rfl) (fun _ _ _ h => h) (by rfl) ?hy17x5 XB.out ?rest17x5
  case hy17x5 => (intro W' hJ; obtain ⟨c0, c1, c2, c3, c4, c5⟩ := hJ; go_simp; first | done | with_reducible rfl)
  refine wpJ_on 2 rfl fun K hK => ?_
  go_simp
  refine (stored_32 _).mono ?_
  rintro e w2 ⟨rfl, hb2⟩
  have Xw2 : Hid (B3 w2 g (.int .i64 32) (.int .i64 24) (.int .i64 (-149))) := XB.out.below hb2
  have HBw2 : Hid (Below w.heap.size w w2) := bwOn HBW.out hb2
  clear hb2
  refine hK _ _ Xw2.out ?_
  clear hK
  refine wpJ_take (i := 3) (v := ?v18x3) rfl (by kernel_rfl) (by kernel_rfl) (by kernel_rfl) (fun _ _ _ h => h) (by rfl) ?hy18x3 Xw2.out ?rest18x3
  case hy18x3 => (intro W' hJ; obtain ⟨c0, c1, c2, c3, c4, c5⟩ := hJ; go_simp; first | done | with_reducible rfl)
  refine wpJ_take (i := 6) (v := ?v19x6) rfl (by kernel_rfl) (by kernel_rfl) (by kernel_rfl) (fun _ _ _ h => h) (by rfl) ?hy19x6 Xw2.out ?rest19x6
  case hy19x6 => (intro W' hJ; obtain ⟨c0, c1, c2, c3, c4, c5⟩ := hJ; go_simp; first | done | with_reducible rfl)
  refine wpJ_take (i := 7) (v := ?v20x7) rfl (by kernel_rfl) (by kernel_rfl) (by kernel_rfl) (fun _ _ _ h => h) (by rfl) ?hy20x7 Xw2.out ?rest20x7
  case hy20x7 => (intro W' hJ; obtain ⟨c0, c1, c2, c3, c4, c5⟩ := hJ; go_simp; first | done | with_reducible rfl)
  refine wpJ_done (by kernel_rfl) ?_ _
  clear XB HBW XW HB0
  go_wp2_with fail
  go_ret
  exact ⟨rfl, HBw2.out⟩
theorem size_32 (man q : Nat) (u : Int) (hu : u = (q : Int) - 149) (hq : q < 2048) (hm : man ≤ 16777216) (w : World) : Calls Tryz.prog 88 #[WV 32 24 (-149), U man, .int .i64 u] w fun e w' => e = .returned (U (q * 8388608 + man)) ∧ Below w.heap.size w w' := by
  obtain ⟨r, hr⟩ : ∃ r, r = q * 8388608 + man := ⟨_, rfl⟩
  obtain ⟨y, hy⟩ : ∃ y, y = q * 8388608 := ⟨_, rfl⟩
  rw [← hr]
  have e1 : IntKind.i64.wrap (u - -149) = (q : Int) := by simp [IntKind.wrap, IntKind.signed, IntKind.bits]; omega
  have e1' : IntKind.i64.wrap (u + 149) = (q : Int) := by simp [IntKind.wrap, IntKind.signed, IntKind.bits]; omega
  have e2 : IntKind.u64.wrap (q : Int) = (q : Int) := by rw [IntKind.wrap_u64]; omega
  have e3 : IntKind.u64.wrap ((q : Int) * 8388608) = (y : Int) := by rw [IntKind.wrap_u64]; omega
  have e4 : IntKind.u64.wrap ((y : Int) + (man : Int)) = (r : Int) := by rw [IntKind.wrap_u64]; omega
  clear hr hy hq hm hu
  go_enter Tryz.func88, Tryz.ntmps88
  go_wp2_with fail
  have X0 : B3 (w.alloc (.cells #[.int .i64 32, .int .i64 24, .int .i64 (-149)] 75)) w.heap.size (.int .i64 32) (.int .i64 24) (.int .i64 (-149)) := B3.new ..
  have hb0 : Below w.heap.size w (w.alloc (.cells #[.int .i64 32, .int .i64 24, .int .i64 (-149)] 75)) := bwAlloc w _
  generalize w.alloc (.cells #[.int .i64 32, .int .i64 24, .int .i64 (-149)] 75) = W at *
  obtain ⟨g, hg⟩ : ∃ g, g = w.heap.size := ⟨_, rfl⟩
  rw [← hg] at X0 ⊢
  clear hg
  have XB : Hid (B3 W.drew g (.int .i64 32) (.int .i64 24) (.int .i64 (-149))) := X0.drew
  have HBW : Hid (Below w.heap.size w W.drew) := bwDrew hb0
  have XW : Hid (B3 W g (.int .i64 32) (.int .i64 24) (.int .i64 (-149))) := X0
  have HB0 : Hid (Below w.heap.size w W) := hb0
  clear X0 hb0
  refine wp_region_J (fun W' => B3 W' g (.int .i64 32) (.int .i64 24) (.int .i64 (-149))) (by kernel_rfl) ?_
  refine wpJ_take (i := 0) (v := ?v21x0) rfl (by kernel_rfl) (by kernel_rfl) (by kernel_rfl) (fun _ _ _ h => h) (by rfl) ?hy21x0 XB.out ?rest21x0
  case hy21x0 => (intro W' hJ; obtain ⟨c0, c1, c2, c3, c4, c5⟩ := hJ; go_simp; first | done | with_reducible rfl)
  refine wpJ_take (i := 1) (v := ?v22x1) rfl (by kernel_rfl) (by kernel_rfl) (by kernel_rfl) (fun _ _ _ h => h) (by rfl) ?hy22x1 XB.out ?rest22x1
  case hy22x1 => (intro W' hJ; obtain ⟨c0, c1, c2, c3, c4, c5⟩ := hJ; go_simp; first | done | with_reducible rfl)
  refine wpJ_take (i := 2) (v := ?v23x2) rfl (by kernel_rfl) (by kernel_rfl) (by kernel_rfl) (fun _ _ _ h => h) (by rfl) ?hy23x2 XB.out ?rest23x2
  case hy23x2 => (intro W' hJ; obtain ⟨c0, c1, c2, c3, c4, c5⟩ := hJ; go_simp; first | done | with_reducible rfl)
  refine wpJ_take (i := 3) (v := ?v24x3) rfl (by kernel_rfl) (by kernel_rfl) (by kernel_rfl) (fun _ _ _ h => h) (by rfl) ?hy24x3 XB.out ?rest24x3
  case hy24x3 => (intro W' hJ; obtain ⟨c0, c1, c2, c3, c4, c5⟩ := hJ; go_simp; first | done | with_reducible rfl)
  refine wpJ_take (i := 4) (v := ?v25x4) rfl (by kernel_rfl) (by kernel_rfl) (by kernel_rfl) (fun _ _ _ h => h) (by rfl) ?hy25x4 XB.out ?rest25x4
  case hy25x4 => (intro W' hJ; obtain ⟨c0, c1, c2, c3, c4, c5⟩ := hJ; go_simp; first | done | with_reducible rfl)
  refine wpJ_take (i := 5) (v := ?v26x5) rfl (by kernel_rfl) (by kernel_rfl) (by kernel_rfl) (fun _ _ _ h => h) (by rfl) ?hy26x5 XB.out ?rest26x5
  case hy26x5 => (intro W' hJ; obtain ⟨c0, c1, c2, c3, c4, c5⟩ := hJ; go_simp; first | done | with_reducible rfl)
  refine wpJ_take (i := 8) (v := ?v27x8) rfl (by kernel_rfl) (by kernel_rfl) (by kernel_rfl) (fun _ _ _ h => h) (by rfl) ?hy27x8 XB.out ?rest27x8
  case hy27x8 => (intro W' hJ; obtain ⟨c0, c1, c2, c3, c4, c5⟩ := hJ; go_simp; first | done | with_reducible rfl)
  refine wpJ_on 6 rfl fun K hK => ?_
  go_simp
  refine (stored_32 _).mono ?_
  rintro e w2 ⟨rfl, hb2⟩
  have Xw2 : Hid (B3 w2 g (.int .i64 32) (.int .i64 24) (.int .i64 (-149))) := XB.out.below hb2
  have HBw2 : Hid (Below w.heap.size w w2) := bwOn HBW.out hb2
  clear hb2
  refine hK _ _ Xw2.out ?_
  clear hK
  refine wpJ_take (i := 7) (v := ?v28x7) rfl (by kernel_rfl) (by kernel_rfl) (by kernel_rfl) (fun _ _ _ h => h) (by rfl) ?hy28x7 Xw2.out ?rest28x7
  case hy28x7 => (intro W' hJ; obtain ⟨c0, c1, c2, c3, c4, c5⟩ := hJ; go_simp; first | done | with_reducible rfl)
  refine wpJ_take (i := 9) (v := ?v29x9) rfl (by kernel_rfl) (by kernel_rfl) (by kernel_rfl) (fun _ _ _ h => h) (by rfl) ?hy29x9 Xw2.out ?rest29x9
  case hy29x9 => (intro W' hJ; obtain ⟨c0, c1, c2, c3, c4, c5⟩ := hJ; go_simp; first | done | with_reducible rfl)
  refine wpJ_take (i := 10) (v := ?v30x10) rfl (by kernel_rfl) (by kernel_rfl) (by kernel_rfl) (fun _ _ _ h => h) (by rfl) ?hy30x10 Xw2.out ?rest30x10
  case hy30x10 => (intro W' hJ; obtain ⟨c0, c1, c2, c3, c4, c5⟩ := hJ; go_simp; first | done | with_reducible rfl)
  refine wpJ_done (by kernel_rfl) ?_ _
  clear XB HBW XW HB0
  go_wp2_with fail
  go_ret
  exact ⟨rfl, HBw2.out⟩
def Says (fn : FuncId) (x y : Value) (v u : Value) : Prop := ∀ w, Calls Tryz.prog fn #[x, y] w fun e w' => e = .returned (.tuple #[v, u]) ∧ Below w.heap.size w w'
variable {f p m l P E G : Int} {S I Q : Nat}
theorem Says.cast {fn : FuncId} {x y v u : Value} {v' : Value} (h : Says fn x y v u) (e : v = v') : Says fn x y v' u := e ▸ h
theorem dv_mul {z c e f : Int} (he : -2097152 ≤ e) (hf : -2097152 ≤ f) : dv (z * c) (e + f) * ((2 ^ 4194304 : Nat) : Int) = dv z e * dv c f := by
  unfold dv
  obtain ⟨S, hS⟩ : ∃ S : Nat, S = 4194304 := ⟨_, rfl⟩
  rw [← hS]
  obtain ⟨a, ha⟩ : ∃ a : Nat, a = (e + 4194304).toNat := ⟨_, rfl⟩
  obtain ⟨b, hb⟩ : ∃ b : Nat, b = (f + 4194304).toNat := ⟨_, rfl⟩
  obtain ⟨d, hd⟩ : ∃ d : Nat, d = (e + f + 4194304).toNat := ⟨_, rfl⟩
  rw [← ha, ← hb, ← hd]
  have h1 : d + S = a + b := by omega
  have h2 : ((2 ^ d : Nat) : Int) * ((2 ^ S : Nat) : Int) = ((2 ^ a : Nat) : Int) * ((2 ^ b : Nat) : Int) := by
    rw [← Int.natCast_mul, ← Int.natCast_mul, ← Nat.pow_add, ← Nat.pow_add, h1]
  rw [Int.mul_assoc, h2, Int.mul_assoc, Int.mul_assoc, Int.mul_left_comm c]
structure RSubR (w : World) (g N : Nat) (xs ys : List Nat) (i ow : Nat) (ss : List Nat) (wr : World) : Prop where
  bel : Below g w wr
  own : wr.ownsRow g 34 1 (.slice (some ⟨g, 0, none⟩) i N) i (cellsV ss)
  len : ss.length = i
  dig : Dig B32 ss
  car : ow ≤ 1
  sum : valB B32 ss + valB B32 (ys.take i) = valB B32 (xs.take i) + B32 ^ i * ow
theorem RSubR.at_ {w : World} {g N : Nat} {xs ys : List Nat} {i cy : Nat} {ss : List Nat} {wr : World} (h : RSubR w g N xs ys i cy ss wr) : At32 wr (some ⟨g, 0, none⟩) i N ss := by
  rcases h.own.2 with ⟨h', _⟩ | ⟨g', cap', cur, h', hbase, hgc, hcap', hmx, hsz, htake⟩
  · simp at h'
  · simp only [Value.slice.injEq, Option.some.injEq, Addr.mk.injEq, and_true, true_and] at h'
    obtain ⟨rfl, rfl⟩ := h'
    refine ⟨h.len, hcap', hmx, h.dig, .inr ⟨g, 0, rfl, fun jj hj => ?_⟩⟩
    rw [Nat.zero_add, cell_of_row wr g jj _ _ _ hgc]
    have e1 := cellsV_get ss jj (by rw [h.len]; exact hj)
    rw [← htake, Nat.mul_one, List.getElem?_take, if_pos hj] at e1
    rw [← Array.getElem?_toList]; exact e1
structure ZR (w : World) (s : Bool) (p : Option Addr) (m : Nat) (z : Int) : Prop where
  ex : ∃ zs, At32 w p m m zs ∧ Nf B32 zs z.natAbs
  sg : s = decide (z < 0)
theorem ZR.below {w w' : World} {s : Bool} {p : Option Addr} {m : Nat} {z : Int} (h : ZR w s p m z) (hb : Below w.heap.size w w') : ZR w' s p m z := by
  obtain ⟨zs, hA, hN⟩ := h.ex
  exact ⟨⟨zs, hA.below hb, hN⟩, h.sg⟩
theorem ZR.cast {w : World} {s : Bool} {p : Option Addr} {m : Nat} {z z' : Int} (h : ZR w s p m z) (e : z = z') : ZR w s p m z' := e ▸ h
theorem ZR.zero {w : World} {s : Bool} {p : Option Addr} {m : Nat} {z : Int} (h : ZR w s p m z) : m = 0 ↔ z = 0 := by
  obtain ⟨zs, hA, hN⟩ := h.ex
  have h1 := hN.zero_iff B32_one
  have h2 := hA.len
  constructor
  · intro e
    have := h1.1 (List.eq_nil_of_length_eq_zero (by omega))
    omega
  · intro e
    have := h1.2 (by omega)
    rw [← h2, this]; rfl
theorem ZR.iv {w : World} {s : Bool} {p : Option Addr} {m : Nat} {z : Int} (h : ZR w s p m z) : Go.Proofs.YtmhkabomabkkfaaGreatDoor.iv s z.natAbs = z := by rw [h.sg]; exact iv_abs z
theorem ZR.set {w : World} {s : Bool} {g m : Nat} {z : Int} (h : ZR w s (some ⟨g, 0, none⟩) m z) (g2 o2 : Nat) (v : Value) (hne : g ≠ g2) : ZR (w.setCell ⟨g2, o2, none⟩ v) s (some ⟨g, 0, none⟩) m z := by
  obtain ⟨zs, hA, hN⟩ := h.ex
  exact ⟨⟨zs, hA.setOther g2 o2 v hne, hN⟩, h.sg⟩
theorem DN.set {w : World} {s : Bool} {g m c : Nat} {e z : Int} (h : DN w s (some ⟨g, 0, none⟩) m c e z) (g2 o2 : Nat) (v : Value) (hne : g ≠ g2) : DN (w.setCell ⟨g2, o2, none⟩ v) s (some ⟨g, 0, none⟩) m c e z := by
  obtain ⟨xs, hX⟩ := h.zn.ex
  exact ⟨⟨⟨xs, hX.at_.setOther g2 o2 v hne, hX.nf, hX.le⟩, h.zn.sg⟩, h.fm⟩
theorem isnan_i (x : Int) (w : World) : Calls Tryz.prog 81 #[.int .i64 x] w fun en w' => en = .returned (.bool false) ∧ w' = w := by
  have hb : (x == x) = true := by simp
  have hc : (x != x) = false := by simp
  go_enter Tryz.func81, Tryz.ntmps81
  go_wp2_with fail
  go_ret
  exact ⟨rfl, rfl⟩
theorem sgn3 (x : Int) : (x < 0 ∧ sgnI x = -1) ∨ (x = 0 ∧ sgnI x = 0) ∨ (0 < x ∧ sgnI x = 1) := by
  unfold sgnI
  rcases Int.lt_trichotomy x 0 with h | h | h
  · exact .inl ⟨h, if_pos h⟩
  · exact .inr (.inl ⟨h, by rw [if_neg (by omega), if_pos h]⟩)
  · exact .inr (.inr ⟨h, by rw [if_neg (by omega), if_neg (by omega)]⟩)
theorem dv3 (z e : Int) : (z < 0 ∧ dv z e < 0) ∨ (z = 0 ∧ dv z e = 0) ∨ (0 < z ∧ 0 < dv z e) := by
  have h1 : (0 : Int) < ((2 ^ (e + 4194304).toNat : Nat) : Int) := by have := Nat.pow_pos (n := (e + 4194304).toNat) (show 0 < 2 by omega); omega
  rcases Int.lt_trichotomy z 0 with h | h | h
  · exact .inl ⟨h, Int.mul_neg_of_neg_of_pos h h1⟩
  · exact .inr (.inl ⟨h, by rw [h, dv_zero]⟩)
  · exact .inr (.inr ⟨h, Int.mul_pos h h1⟩)
theorem ccmp_l (a b : Int) (w : World) (h1 : a < b) : Calls Tryz.prog 46 #[.int .i64 a, .int .i64 b] w fun en w' => en = .returned (.int .i64 (-1)) ∧ Below w.heap.size w w' := by
  go_enter Tryz.func46, Tryz.ntmps46
  go_wp2_with fail
  refine (isnan_i a w).mono ?_
  rintro e2 v1 ⟨rfl, hw⟩
  obtain rfl := hw.symm
  clear hw
  go_wp2_with fail
  refine (isnan_i b w).mono ?_
  rintro e2 v1 ⟨rfl, hw⟩
  obtain rfl := hw.symm
  clear hw
  go_wp2_with fail
  go_ret
  exact ⟨rfl, Below.refl _ _⟩
theorem ccmp_g (a b : Int) (w : World) (h2 : b < a) : Calls Tryz.prog 46 #[.int .i64 a, .int .i64 b] w fun en w' => en = .returned (.int .i64 (1)) ∧ Below w.heap.size w w' := by
  have h1 : ¬ a < b := by omega
  go_enter Tryz.func46, Tryz.ntmps46
  go_wp2_with fail
  refine (isnan_i a w).mono ?_
  rintro e2 v1 ⟨rfl, hw⟩
  obtain rfl := hw.symm
  clear hw
  go_wp2_with fail
  refine (isnan_i b w).mono ?_
  rintro e2 v1 ⟨rfl, hw⟩
  obtain rfl := hw.symm
  clear hw
  go_wp2_with fail
  go_ret
  exact ⟨rfl, Below.refl _ _⟩
theorem ccmp_e (a b : Int) (w : World) (h1 : ¬ a < b) (h2 : ¬ b < a) : Calls Tryz.prog 46 #[.int .i64 a, .int .i64 b] w fun en w' => en = .returned (.int .i64 (0)) ∧ Below w.heap.size w w' := by
  go_enter Tryz.func46, Tryz.ntmps46
  go_wp2_with fail
  refine (isnan_i a w).mono ?_
  rintro e2 v1 ⟨rfl, hw⟩
  obtain rfl := hw.symm
  clear hw
  go_wp2_with fail
  refine (isnan_i b w).mono ?_
  rintro e2 v1 ⟨rfl, hw⟩
  obtain rfl := hw.symm
  clear hw
  go_wp2_with fail
  go_ret
  exact ⟨rfl, Below.refl _ _⟩
theorem ccmp (a b : Int) (w : World) : Calls Tryz.prog 46 #[.int .i64 a, .int .i64 b] w fun en w' => en = .returned (.int .i64 (cmpI a b)) ∧ Below w.heap.size w w' := by
  unfold cmpI
  rcases Int.lt_trichotomy a b with h | h | h
  · rw [if_pos h]; exact ccmp_l a b w h
  · rw [if_neg (by omega), if_pos h]; exact ccmp_e a b w (by omega) (by omega)
  · rw [if_neg (by omega), if_neg (by omega)]; exact ccmp_g a b w h
end Go.Proofs.YtmhkabomabkkfaaGreatDoor
namespace Go.Proofs.YtmhkabomabkkfaaGreatDoor
open Go.RowKit
set_option maxRecDepth 20000
set_option maxHeartbeats 0
def vs (H s : Nat) : Nat := (s - (s / H - 1) * H) * 2 ^ (s / H - 1)
theorem vs_zero (H : Nat) : vs H 0 = 0 := by unfold vs; simp
theorem vs_succ {H : Nat} (hH : 0 < H) (s : Nat) : vs H s < vs H (s + 1) := by
  have h1 := Nat.div_add_mod s H
  have h2 := Nat.mod_lt s hH
  have h3 := Nat.div_add_mod (s + 1) H
  have h4 := Nat.mod_lt (s + 1) hH
  have h5 : s / H ≤ (s + 1) / H := Nat.div_le_div_right (by omega)
  have h6 : (s + 1) / H ≤ s / H + 1 := by
    have : (s + 1) / H ≤ (s + H) / H := Nat.div_le_div_right (by omega)
    rw [Nat.add_div_right _ hH] at this
    exact this
  unfold vs
  by_cases h7 : (s + 1) / H = s / H
  · rw [h7]
    have hq : (s / H - 1) * H ≤ s := by
      rw [Nat.sub_mul, Nat.mul_comm]; omega
    have hp : 0 < 2 ^ (s / H - 1) := Nat.pow_pos (by omega)
    exact Nat.mul_lt_mul_of_pos_right (by omega) hp
  · have h8 : (s + 1) / H = s / H + 1 := by omega
    rw [h8, Nat.add_sub_cancel]
    rw [h8, Nat.mul_add, Nat.mul_one] at h3
    obtain ⟨k, hk⟩ : ∃ k, k = s / H := ⟨_, rfl⟩
    rw [← hk] at h1 h3 ⊢
    obtain ⟨y, hy⟩ : ∃ y, y = H * k := ⟨_, rfl⟩
    rw [← hy] at h1 h3
    rw [Nat.mul_comm k H, ← hy]
    by_cases h9 : k = 0
    · subst h9
      have : y = 0 := by rw [hy]; simp
      simp
      omega
    · obtain ⟨j, rfl⟩ : ∃ j, k = j + 1 := ⟨k - 1, by omega⟩
      rw [Nat.add_sub_cancel, Nat.pow_succ]
      have hj : j * H + H = y := by rw [hy, Nat.mul_comm H, Nat.add_mul, Nat.one_mul]
      have hp : 0 < 2 ^ j := Nat.pow_pos (by omega)
      have e1 : s + 1 - y = H := by omega
      rw [e1, Nat.mul_comm (2 ^ j) 2, ← Nat.mul_assoc]
      exact Nat.mul_lt_mul_of_pos_right (by omega) hp
theorem vs_mono {H : Nat} (hH : 0 < H) {s t : Nat} (h : s < t) : vs H s < vs H t := by
  induction t with
  | zero => omega
  | succ t ih =>
    rcases Nat.lt_or_ge s t with h1 | h1
    · exact Nat.lt_trans (ih h1) (vs_succ hH t)
    · rw [show s = t by omega]; exact vs_succ hH t
def gR (H : Nat) (r : Int) : Int := if r < 0 then -(vs H r.natAbs : Int) else (vs H r.natAbs : Int)
def rkS (S b : Nat) : Int := if S ≤ b then -((b % S : Nat) : Int) else ((b % S : Nat) : Int)
def svS (S H b : Nat) : Int := gR H (rkS S b)
theorem svS_eq (S H b : Nat) : svS S H b = if S ≤ b then -(vs H (b % S) : Int) else (vs H (b % S) : Int) := by
  have hz := vs_zero H
  unfold svS gR rkS
  by_cases h : S ≤ b
  · rw [if_pos h, if_pos h]
    by_cases h0 : b % S = 0
    · rw [h0, hz]; simp [hz]
    · rw [if_pos (by omega), Int.natAbs_neg, Int.natAbs_natCast]
  · rw [if_neg h, if_neg h, if_neg (by omega), Int.natAbs_natCast]
end Go.Proofs.YtmhkabomabkkfaaGreatDoor
namespace Go.Proofs.YtmhkabomabkkfaaGreatDoor
open Go.RowKit Go.Shelf
set_option maxRecDepth 20000
set_option maxHeartbeats 0
structure VF (S H : Nat) (l : Int) (b : Nat) (zo eo : Int) : Prop where
  fm : DFm zo eo
  v : dv zo eo = dv (svS S H b) l
theorem vf_ex {f p m l : Int} {S I H : Nat} (F : Pm f p m l S I H) {b : Nat} (hr : b % S < I) : ∃ zo eo, VF S H l b zo eo ∧ dv zo eo = dv (if S ≤ b then -(((b % S - (b % S / H - 1) * H : Nat)) : Int) else ((b % S - (b % S / H - 1) * H : Nat) : Int)) (l + ((b % S / H - 1 : Nat) : Int)) := by
  have hst := F.st _ hr
  have hlo := F.lo
  have h9 := F.h9
  have hp := F.hp
  have e1 : dv (if S ≤ b then -(((b % S - (b % S / H - 1) * H : Nat)) : Int) else ((b % S - (b % S / H - 1) * H : Nat) : Int)) (l + ((b % S / H - 1 : Nat) : Int)) = dv (svS S H b) l := by
    rw [dv_up _ (by omega), svS_eq]
    unfold vs
    by_cases h : S ≤ b
    · rw [if_pos h, if_pos h, Int.neg_mul, ← Int.natCast_mul]
    · rw [if_neg h, if_neg h, ← Int.natCast_mul]
  have hmn : b % S - (b % S / H - 1) * H < 2 * H := by
    have h1 := Nat.div_add_mod (b % S) H
    have h2 := Nat.mod_lt (b % S) hp
    rw [Nat.mul_comm] at h1
    by_cases h3 : b % S / H = 0
    · rw [h3] at h1 ⊢; omega
    · rw [Nat.sub_mul]; omega
  obtain ⟨mn, hmn2⟩ : ∃ mn, mn = b % S - (b % S / H - 1) * H := ⟨_, rfl⟩
  rw [← hmn2] at hmn e1 ⊢
  rw [e1]
  obtain ⟨z, hz⟩ : ∃ z : Int, z = (if S ≤ b then -(mn : Int) else (mn : Int)) := ⟨_, rfl⟩
  have hzn : z.natAbs = mn := by rw [hz]; split <;> omega
  rw [← hz] at e1
  by_cases h0 : z = 0
  · exact ⟨0, 0, ⟨.inl ⟨rfl, rfl⟩, by rw [← e1, h0, dv_zero, dv_zero]⟩, by rw [← e1, h0, dv_zero, dv_zero]⟩
  · have h53 : z.natAbs ≤ 2 ^ 53 := by
      have h54 : (2 : Nat) ^ 53 = 9007199254740992 := by decide
      rw [hzn, h54]
      omega
    obtain ⟨zo, eo, g1, g2, _⟩ := form_ex (L := 53) (e := l + ((b % S / H - 1 : Nat) : Int)) h0 (by omega) h53 (by omega)
    exact ⟨zo, eo, ⟨g1, by rw [g2, e1]⟩, by rw [g2, e1]⟩
theorem value_v {f p m l : Int} {S I H : Nat} (F : Pm f p m l S I H) {b : Nat} (hb : b < 2 * S) (hr : b % S < I) {zo eo : Int} (hv : VF S H l b zo eo) (w : World) (hT : Tab w) :
    Calls Tryz.prog 59 #[.int .i64 f, U b] w fun en w' => ∃ v, en = .returned (.tuple #[v, .int .i64 0]) ∧ AnsD w.heap.size w' v zo eo ∧ Below w.heap.size w w' := by
  obtain ⟨z1, e1, v1, v2⟩ := vf_ex F hr
  refine (value_ok F b hb hr w hT).mono fun en w' ⟨h1, h2⟩ => ?_
  obtain ⟨v, h3, h4⟩ := h1.form hv.fm (by rw [hv.v, ← v2, v1.v])
  exact ⟨v, h3, h4, h2⟩
def xsS (S a : Nat) : Nat := if S ≤ a then a - S else a + S
def qTzIs (v k : Nat) : Prop := v % 2 ^ k = 0 ∧ v / 2 ^ k % 2 = 1
theorem qTzIs.inj {v k l : Nat} (h : qTzIs v k) (h' : qTzIs v l) : k = l := by
  have aux : ∀ {a b : Nat}, qTzIs v a → qTzIs v b → ¬ a < b := by
    intro a b ha hb hab
    obtain ⟨d, hd⟩ : ∃ d, b = a + (d + 1) := ⟨b - a - 1, by omega⟩
    have h1 := Nat.dvd_of_mod_eq_zero hb.1
    obtain ⟨q, hq⟩ := h1
    have h2 := ha.2
    rw [hq, hd, Nat.pow_add, Nat.mul_assoc, Nat.mul_div_cancel_left _ (Nat.pow_pos (by decide)), Nat.pow_succ, Nat.mul_comm (2 ^ d) 2, Nat.mul_assoc, Nat.mul_mod_right] at h2
    exact absurd h2 (by decide)
  rcases Nat.lt_trichotomy k l with e | e | e
  · exact absurd e (aux h h')
  · exact e
  · exact absurd e (aux h' h)
def qrenTz : Ren := ⟨fun x => match x with | 29 => 86 | n => n, fun x => match x with | 0 => 0 | 3 => 3 | 4 => 4 | 5 => 5 | 22 => 22 | 25 => 143 | 54 => 157 | n => n, fun x => match x with | 1 => 1 | n => n⟩
theorem qlaysTz : Lays7.n29 Tryz.prog qrenTz :=
  { mixed := by kernel_rfl, f29 := Tryz.func86.trans (congrArg some (by kernel_rfl)),
    t0 := by kernel_rfl, a0 := fun w => by kernel_rfl, z0 := fun w => by kernel_rfl, v0 := fun w => by kernel_rfl, i0 := by kernel_rfl,
    t3 := Tryz.underlying3, a3 := Tryz.isAgg3, z3 := Tryz.sizeOf3, v3 := Tryz.zeroValue3, i3 := by kernel_rfl,
    t4 := Tryz.underlying4, a4 := Tryz.isAgg4, z4 := Tryz.sizeOf4, v4 := Tryz.zeroValue4, i4 := by kernel_rfl,
    t5 := Tryz.underlying5, a5 := Tryz.isAgg5, z5 := Tryz.sizeOf5, v5 := Tryz.zeroValue5, i5 := by kernel_rfl,
    t22 := Tryz.underlying22, a22 := Tryz.isAgg22, z22 := Tryz.sizeOf22, v22 := Tryz.zeroValue22, i22 := by kernel_rfl,
    t25 := Tryz.underlying143, a25 := Tryz.isAgg143, z25 := Tryz.sizeOf143, v25 := Tryz.zeroValue143, i25 := by kernel_rfl,
    t54 := Tryz.underlying157, a54 := Tryz.isAgg157, z54 := Tryz.sizeOf157, g1 := by kernel_rfl }

def qTab (w : World) : Prop := TabAt 1 Lib.deBruijn64tab w
theorem qTab.below {w w' : World} (h : qTab w) (hb : Below w.heap.size w w') : qTab w' := by
  intro j hj
  have h1 := h j hj
  have hl : 1 < w.heap.size := World.block_lt_of_cell? w _ h1
  exact (hb.cell (p := ⟨1, j, none⟩) hl).trans h1
theorem qctz_is {x : Nat} (h0 : x ≠ 0) (hx : x < B64) : qTzIs x (Lib.ctz 64 x) ∧ Lib.ctz 64 x < 64 := by
  rw [(show B64 = 2 ^ 64 from rfl)] at hx
  unfold Lib.ctz
  rw [if_neg h0]
  obtain ⟨m, hm, hk⟩ := Lib.ctzFrom_spec 64 x (by omega) hx
  generalize Lib.ctzFrom 64 x = k at *
  refine ⟨⟨?_, ?_⟩, hk⟩
  · rw [hm, Nat.mul_mod_right]
  · rw [hm, Nat.mul_div_cancel_left _ (Nat.pow_pos (by decide))]; omega
theorem qtz_any {x r : Nat} (h0 : x ≠ 0) (hx : x < B64) (hr : qTzIs x r) {w : World} (hT : qTab w) : Calls Tryz.prog 86 #[U x] w fun e w' => e = .returned (.int .i64 r) ∧ w' = w := by
  obtain ⟨h1, _⟩ := qctz_is h0 hx
  obtain rfl := hr.inj h1
  exact Any7.bits_TrailingZeros64 qlaysTz x (by rw [B64_eq] at hx; exact hx) w (fun _ => hT)

theorem qsigned_64 (neg : Bool) (s : Nat) (hs : s < 9223372036854775808) (w : World) : Calls Tryz.prog 51 #[WV 64 53 (-1074), .bool neg, U s] w fun e w' => e = .returned (U (if neg then 9223372036854775808 + s else s)) ∧ Below w.heap.size w w' := by
  have e1 : bits BinOp.or IntKind.u64 9223372036854775808 (s : Int) = _ := sign_or s 9223372036854775808 63 (by decide) (by decide) hs
  obtain ⟨r, hr⟩ : ∃ r, r = 9223372036854775808 + s := ⟨_, rfl⟩
  rw [← hr] at e1 ⊢
  clear hr hs
  cases neg
  · clear e1
    go_enter Tryz.func51, Tryz.ntmps51
    go_wp2_with fail
    go_ret
    exact ⟨rfl, bwAlloc w _⟩
  · go_enter Tryz.func51, Tryz.ntmps51
    go_wp2_with fail
    refine (sign_64 _).mono ?_
    rintro e w1 ⟨rfl, hb1⟩
    have HB1 : Hid (Below w.heap.size w w1) := bwOn (bwAlloc w _) hb1
    clear hb1
    go_wp2_with fail
    go_ret
    exact ⟨rfl, HB1.out⟩
theorem join_zero (neg : Bool) (exp : Int) (w : World) : Calls Tryz.prog 54 #[.int .i64 64, .bool neg, .int .u64 0, .int .i64 exp] w fun e w' => e = .returned (.tuple #[U (if neg then 9223372036854775808 else 0), .int .i64 0]) ∧ Below w.heap.size w w' := by
  have hS := qsigned_64 neg 0 (by decide)
  have HS : Hid (∀ w : World, Calls Tryz.prog 51 #[WV 64 53 (-1074), .bool neg, U 0] w fun e w' => e = .returned (U (if neg then 9223372036854775808 else 0)) ∧ Below w.heap.size w w') := hS
  clear hS
  obtain ⟨r, hr⟩ : ∃ r : Nat, r = (if neg then 9223372036854775808 else 0) := ⟨_, rfl⟩
  rw [← hr] at HS ⊢
  clear hr
  go_enter Tryz.func54, Tryz.ntmps54
  go_wp2_with fail
  refine (of_64 _).mono ?_
  rintro e w1 ⟨rfl, hb1⟩
  go_wp2_with fail
  refine (HS.out _).mono ?_
  rintro e w2 ⟨rfl, hb2⟩
  have hbw := bwOn (bwOn hb1 (bwAlloc w1 _)) hb2
  clear hb1 hb2
  go_wp2_with fail
  go_ret2
  exact ⟨rfl, hbw⟩
theorem join_norm (neg : Bool) (man t mo L q : Nat) (exp top : Int) (hm0 : man ≠ 0) (hm9 : man < B64) (ht : qTzIs man t) (hmo : mo = man / 2 ^ t) (hL : L = bl_bitsN mo) (hL53 : L ≤ 53) (htop : top = exp + t + L - 1) (h1 : -1022 ≤ top) (h2 : top < 1024) (hex : -1137 ≤ exp) (hex2 : exp < 1024) (ht64 : t < 64) (hq : (q : Int) = top + 1022)
    (w : World) (hT : qTab w) : Calls Tryz.prog 54 #[.int .i64 64, .bool neg, U man, .int .i64 exp] w fun e w' => e = .returned (.tuple #[U (if neg then 9223372036854775808 + (q * 4503599627370496 + mo * 2 ^ (53 - L)) else q * 4503599627370496 + mo * 2 ^ (53 - L)), .int .i64 0]) ∧ Below w.heap.size w w' := by
  have hmb : ((man : Int) == 0) = false := by simp; omega
  obtain ⟨ex2, hex3⟩ : ∃ ex2 : Int, ex2 = exp + t := ⟨_, rfl⟩
  obtain ⟨s1, hs1⟩ : ∃ s1 : Int, s1 = ex2 + L := ⟨_, rfl⟩
  obtain ⟨un, hun⟩ : ∃ un : Int, un = top - 52 := ⟨_, rfl⟩
  obtain ⟨sf, hsf⟩ : ∃ sf : Nat, sf = 53 - L := ⟨_, rfl⟩
  obtain ⟨y, hy⟩ : ∃ y : Nat, y = mo * 2 ^ sf := ⟨_, rfl⟩
  obtain ⟨r, hr⟩ : ∃ r : Nat, r = (if neg then 9223372036854775808 + (q * 4503599627370496 + y) else q * 4503599627370496 + y) := ⟨_, rfl⟩
  rw [← hsf, ← hy, ← hr]
  have hyl : y < 9007199254740992 := by
    have hA := bl_bitsN_lt mo
    rw [← hL] at hA
    have hB : mo * 2 ^ sf < 2 ^ L * 2 ^ sf := Nat.mul_lt_mul_of_pos_right hA (Nat.two_pow_pos _)
    rw [← Nat.pow_add, show L + sf = 53 by omega] at hB
    rw [hy]
    exact Nat.lt_of_lt_of_le hB (by decide)
  have hmo9 : mo < B64 := by rw [hmo]; exact Nat.lt_of_le_of_lt (Nat.div_le_self _ _) hm9
  have a1 : (man : Int) / 2 ^ t = (mo : Int) := by rw [hmo]; simp
  have a2 : IntKind.i64.wrap (exp + (t : Int)) = ex2 := by rw [hex3]; simp [IntKind.wrap, IntKind.signed, IntKind.bits]; omega
  have a3 : IntKind.i64.wrap (ex2 + (L : Int)) = s1 := by rw [hs1]; simp [IntKind.wrap, IntKind.signed, IntKind.bits]; omega
  have a4 : IntKind.i64.wrap (s1 - 1) = top := by simp [IntKind.wrap, IntKind.signed, IntKind.bits]; omega
  have a5 : IntKind.i64.wrap (ex2 - un) = (sf : Int) := by simp [IntKind.wrap, IntKind.signed, IntKind.bits]; omega
  have a6 : IntKind.u64.wrap ((mo : Int) * 2 ^ sf) = (y : Int) := by
    have hyc : ((mo : Int) * 2 ^ sf) = (y : Int) := by rw [hy]; simp
    rw [hyc, IntKind.wrap_u64]; omega
  have c1 : decide (exp < -1137) = false := decide_eq_false (by omega)
  have c2 : decide (1024 ≤ exp) = false := decide_eq_false (by omega)
  have c3 : decide (ex2 < un) = false := decide_eq_false (by omega)
  have c4 : decide (1024 ≤ top) = false := decide_eq_false (by omega)
  have hsf64 : sf < 64 := by omega
  have HUN : Hid (un = top - 52) := hun
  have HUQ : Hid (un = (q : Int) - 1074) := by show _ = _; omega
  have HQ2 : Hid (q < 2048) := by show _ < _; omega
  have HT1 : Hid (-1022 ≤ top ∧ top ≤ 5000) := ⟨h1, by omega⟩
  have HYL : Hid (y < 9007199254740992) := hyl
  have HQY : Hid (q * 4503599627370496 + y < 9223372036854775808) := by show _ < _; omega
  have HR : Hid (r = (if neg then 9223372036854775808 + (q * 4503599627370496 + y) else q * 4503599627370496 + y)) := hr
  have HMO9 : Hid (mo < B64) := hmo9
  have HL : Hid (L = bl_bitsN mo) := hL
  have HM9 : Hid (man < B64) := hm9
  have HT0 : Hid (qTab w) := hT
  have HTZ : Hid (qTzIs man t) := ht
  have HM0 : Hid (man ≠ 0) := hm0
  clear hq htop hL hmo hm9 hT ht hm0 hex3 hs1 hun hsf hy hr hyl hmo9 h1 h2 hex hex2 hL53
  go_enter Tryz.func54, Tryz.ntmps54
  go_wp2_with fail
  refine (of_64 _).mono ?_
  rintro e w1 ⟨rfl, hb1⟩
  go_wp2_with fail
  clear c1
  have X := B3.new (w1) 75 (.int .i64 64) (.int .i64 53) (.int .i64 (-1074))
  have hb2 := bwAlloc (w1) (.cells #[.int .i64 64, .int .i64 53, .int .i64 (-1074)] 75)
  generalize (w1).alloc (.cells #[.int .i64 64, .int .i64 53, .int .i64 (-1074)] 75) = W at *
  obtain ⟨g, hg⟩ : ∃ g, g = (w1).heap.size := ⟨_, rfl⟩
  have HGg : Hid ((w1).heap.size ≤ g) := by show _ ≤ _; omega
  rw [← hg] at X ⊢
  clear hg
  have hbx := bwOn hb1 hb2
  have HTW : Hid (qTab W) := HT0.out.below hbx
  have HBW : Hid (Below w.heap.size w W) := hbx
  clear hb1 hb2 hbx HT0
  refine (beyond_64 _).mono ?_
  rintro e w3 ⟨rfl, hb3⟩
  have X3 : Hid (B3 w3 g (.int .i64 64) (.int .i64 53) (.int .i64 (-1074))) := X.below hb3
  have HT3 : Hid (qTab w3) := HTW.out.below hb3
  have HB3 : Hid (Below w.heap.size w w3) := bwOn HBW.out hb3
  clear hb3 X HTW HBW
  go_wp2_with fail
  clear c2
  refine (qtz_any HM0.out HM9.out HTZ.out HT3.out).mono ?_
  rintro e w4 ⟨rfl, hw⟩
  obtain rfl := hw.symm
  clear hw
  go_wp2_with fail
  refine (bl_len_any mo _ HMO9.out).mono ?_
  rintro e w4 ⟨rfl, hw⟩
  rw [← HL.out]
  obtain rfl := hw.symm
  clear hw
  obtain ⟨x0, x1, x2, x3, x4, x5⟩ := X3.out
  go_wp2_with fail
  refine (unit_64 top HT1.out.1 HT1.out.2 _).mono ?_
  rintro e w5 ⟨rfl, hb5⟩
  rw [← HUN.out]
  have X5 : Hid (B3 w5 g (.int .i64 64) (.int .i64 53) (.int .i64 (-1074))) := X3.out.below hb5
  have HB5 : Hid (Below w.heap.size w w5) := bwOn HB3.out hb5
  clear hb5 HT3 HB3 x0 x1 x2 x3 x4 x5 X3 a1 a2 a3 a4
  obtain ⟨x0, x1, x2, x3, x4, x5⟩ := X5.out
  go_wp2_with fail
  refine (beyond_64 _).mono ?_
  rintro e w6 ⟨rfl, hb6⟩
  have X6 : Hid (B3 w6 g (.int .i64 64) (.int .i64 53) (.int .i64 (-1074))) := X5.out.below hb6
  have HB6 : Hid (Below w.heap.size w w6) := bwOn HB5.out hb6
  clear hb6 HB5 x0 x1 x2 x3 x4 x5 X5 c3
  obtain ⟨x0, x1, x2, x3, x4, x5⟩ := X6.out
  go_wp2_with fail
  clear x0 x1 x2 x3 x4 x5 c4
  have X7 : Hid (B3 w6.drew g (.int .i64 64) (.int .i64 53) (.int .i64 (-1074))) := X6.out.drew
  have HB7 : Hid (Below w.heap.size w w6.drew) := bwDrew HB6.out
  refine wp_region_J (fun W' => B3 W' g (.int .i64 64) (.int .i64 53) (.int .i64 (-1074))) (by kernel_rfl) ?_
  refine wpJ_take (i := 0) (v := ?v1x0) rfl (by kernel_rfl) (by kernel_rfl) (by kernel_rfl) (fun _ _ _ h => h) (by rfl) ?hy1x0 X7.out ?rest1x0
  case hy1x0 => (intro W' hJ; obtain ⟨x0, x1, x2, x3, x4, x5⟩ := hJ; go_simp; first | done | with_reducible rfl)
  refine wpJ_take (i := 1) (v := ?v2x1) rfl (by kernel_rfl) (by kernel_rfl) (by kernel_rfl) (fun _ _ _ h => h) (by rfl) ?hy2x1 X7.out ?rest2x1
  case hy2x1 => (intro W' hJ; obtain ⟨x0, x1, x2, x3, x4, x5⟩ := hJ; go_simp; first | done | with_reducible rfl)
  refine wpJ_take (i := 2) (v := ?v3x2) rfl (by kernel_rfl) (by kernel_rfl) (by kernel_rfl) (fun _ _ _ h => h) (by rfl) ?hy3x2 X7.out ?rest3x2
  case hy3x2 => (intro W' hJ; obtain ⟨x0, x1, x2, x3, x4, x5⟩ := hJ; go_simp; first | done | with_reducible rfl)
  refine wpJ_take (i := 3) (v := ?v4x3) rfl (by kernel_rfl) (by kernel_rfl) (by kernel_rfl) (fun _ _ _ h => h) (by rfl) ?hy4x3 X7.out ?rest4x3
  case hy4x3 => (intro W' hJ; obtain ⟨x0, x1, x2, x3, x4, x5⟩ := hJ; go_simp; first | done | with_reducible rfl)
  refine wpJ_take (i := 4) (v := ?v5x4) rfl (by kernel_rfl) (by kernel_rfl) (by kernel_rfl) (fun _ _ _ h => h) (by rfl) ?hy5x4 X7.out ?rest5x4
  case hy5x4 => (intro W' hJ; obtain ⟨x0, x1, x2, x3, x4, x5⟩ := hJ; go_simp; first | done | with_reducible rfl)
  refine wpJ_take (i := 5) (v := ?v6x5) rfl (by kernel_rfl) (by kernel_rfl) (by kernel_rfl) (fun _ _ _ h => h) (by rfl) ?hy6x5 X7.out ?rest6x5
  case hy6x5 => (intro W' hJ; obtain ⟨x0, x1, x2, x3, x4, x5⟩ := hJ; go_simp; first | done | with_reducible rfl)
  refine wpJ_take (i := 6) (v := ?v7x6) rfl (by kernel_rfl) (by kernel_rfl) (by kernel_rfl) (fun _ _ _ h => h) (by rfl) ?hy7x6 X7.out ?rest7x6
  case hy7x6 => (intro W' hJ; obtain ⟨x0, x1, x2, x3, x4, x5⟩ := hJ; go_simp; first | done | with_reducible rfl)
  refine wpJ_take (i := 7) (v := ?v8x7) rfl (by kernel_rfl) (by kernel_rfl) (by kernel_rfl) (fun _ _ _ h => h) (by rfl) ?hy8x7 X7.out ?rest8x7
  case hy8x7 => (intro W' hJ; obtain ⟨x0, x1, x2, x3, x4, x5⟩ := hJ; go_simp; first | done | with_reducible rfl)
  refine wpJ_take (i := 8) (v := ?v9x8) rfl (by kernel_rfl) (by kernel_rfl) (by kernel_rfl) (fun _ _ _ h => h) (by rfl) ?hy9x8 X7.out ?rest9x8
  case hy9x8 => (intro W' hJ; obtain ⟨x0, x1, x2, x3, x4, x5⟩ := hJ; go_simp; first | done | with_reducible rfl)
  refine wpJ_on 9 rfl fun K hK => ?_
  go_simp
  refine (size_64 y q un HUQ.out HQ2.out (Nat.le_of_lt HYL.out) _).mono ?_
  rintro e w8 ⟨rfl, hb8⟩
  have X8 : Hid (B3 w8 g (.int .i64 64) (.int .i64 53) (.int .i64 (-1074))) := X7.out.below hb8
  have HB8 : Hid (Below w.heap.size w w8) := bwOn HB7.out hb8
  clear hb8
  refine hK _ _ X8.out ?_
  clear hK
  refine wpJ_on 10 rfl fun K hK => ?_
  go_simp
  refine (qsigned_64 neg (q * 4503599627370496 + y) HQY.out _).mono ?_
  rintro e w9 ⟨rfl, hb9⟩
  rw [← HR.out]
  have X9 : Hid (B3 w9 g (.int .i64 64) (.int .i64 53) (.int .i64 (-1074))) := X8.out.below hb9
  have HB9 : Hid (Below w.heap.size w w9) := bwOn HB8.out hb9
  clear hb9
  refine hK _ _ X9.out ?_
  clear hK
  refine wpJ_take (i := 11) (v := ?v10x11) rfl (by kernel_rfl) (by kernel_rfl) (by kernel_rfl) (fun _ _ _ h => h) (by rfl) ?hy10x11 X9.out ?rest10x11
  case hy10x11 => (intro W' hJ; obtain ⟨x0, x1, x2, x3, x4, x5⟩ := hJ; go_simp; first | done | with_reducible rfl)
  refine wpJ_take (i := 12) (v := ?v11x12) rfl (by kernel_rfl) (by kernel_rfl) (by kernel_rfl) (fun _ _ _ h => h) (by rfl) ?hy11x12 X9.out ?rest11x12
  case hy11x12 => (intro W' hJ; obtain ⟨x0, x1, x2, x3, x4, x5⟩ := hJ; go_simp; first | done | with_reducible rfl)
  refine wpJ_done (by kernel_rfl) ?_ _
  go_wp2_with fail
  go_ret2
  exact ⟨rfl, HB9.out⟩
end Go.Proofs.YtmhkabomabkkfaaGreatDoor
namespace Go.Proofs.YtmhkabomabkkfaaGreatDoor
open Go.RowKit
set_option maxRecDepth 20000
set_option maxHeartbeats 0
theorem wquiet_32 (w : World) : Calls Tryz.prog 58 #[WV 32 24 (-149)] w fun e w' => e = .returned (.int .u64 2143289345) ∧ Below w.heap.size w w' := by
  go_enter Tryz.func58, Tryz.ntmps58
  go_wp2_with fail
  have X0 : B3 (w.alloc (.cells #[.int .i64 32, .int .i64 24, .int .i64 (-149)] 75)) w.heap.size (.int .i64 32) (.int .i64 24) (.int .i64 (-149)) := B3.new ..
  have hb0 : Below w.heap.size w (w.alloc (.cells #[.int .i64 32, .int .i64 24, .int .i64 (-149)] 75)) := bwAlloc w _
  generalize w.alloc (.cells #[.int .i64 32, .int .i64 24, .int .i64 (-149)] 75) = W at *
  obtain ⟨g, hg⟩ : ∃ g, g = w.heap.size := ⟨_, rfl⟩
  have HG : Hid (w.heap.size ≤ g) := by show _ ≤ _; omega
  rw [← hg] at X0 ⊢
  clear hg
  have XB : Hid (B3 W.drew g (.int .i64 32) (.int .i64 24) (.int .i64 (-149))) := ⟨X0.c0, X0.c1, X0.c2, X0.f0, X0.f1, X0.f2⟩
  have HBW : Hid (Below w.heap.size w W.drew) := bwDrew hb0
  obtain ⟨c0, c1, c2, c3, c4, c5⟩ := X0
  have hwr : IntKind.i64.wrap 22 = 22 := by decide
  clear hb0
  go_region_with (first
      | (go_at_call 52; (with_reducible refine (infinity_32 _).mono ?_); rintro e w1 ⟨rfl, hb1⟩; obtain ⟨d0, d1, d2, d3, d4, d5⟩ := XB.out.below hb1; have HBW1 : Hid (Below w.heap.size w w1) := bwOn HBW.out hb1; clear hb1)
      | (go_at_call 84; (with_reducible refine (stored_32 _).mono ?_); rintro e w2 ⟨rfl, hb2⟩; have HBW2 : Hid (Below w.heap.size w w2) := bwOn HBW1.out hb2; clear hb2))
  all_goals
    (go_wp2_with fail
     go_ret
     exact ⟨rfl, HBW2.out⟩)
theorem quiet_32 (w : World) : Calls Tryz.prog 49 #[.int .i64 32] w fun e w' => e = .returned (.tuple #[.int .u64 2143289345, .int .i64 0]) ∧ Below w.heap.size w w' := by
  go_enter Tryz.func49, Tryz.ntmps49
  go_wp2_with fail
  refine (of_32 _).mono ?_
  rintro e w1 ⟨rfl, hb1⟩
  go_wp2_with fail
  refine (wquiet_32 _).mono ?_
  rintro e w2 ⟨rfl, hb2⟩
  have hbw := bwOn (bwOn hb1 (bwAlloc w1 _)) hb2
  clear hb1 hb2
  go_wp2_with fail
  go_ret2
  exact ⟨rfl, hbw⟩
theorem wquiet_64 (w : World) : Calls Tryz.prog 58 #[WV 64 53 (-1074)] w fun e w' => e = .returned (.int .u64 9221120237041090561) ∧ Below w.heap.size w w' := by
  go_enter Tryz.func58, Tryz.ntmps58
  go_wp2_with fail
  have X0 : B3 (w.alloc (.cells #[.int .i64 64, .int .i64 53, .int .i64 (-1074)] 75)) w.heap.size (.int .i64 64) (.int .i64 53) (.int .i64 (-1074)) := B3.new ..
  have hb0 : Below w.heap.size w (w.alloc (.cells #[.int .i64 64, .int .i64 53, .int .i64 (-1074)] 75)) := bwAlloc w _
  generalize w.alloc (.cells #[.int .i64 64, .int .i64 53, .int .i64 (-1074)] 75) = W at *
  obtain ⟨g, hg⟩ : ∃ g, g = w.heap.size := ⟨_, rfl⟩
  have HG : Hid (w.heap.size ≤ g) := by show _ ≤ _; omega
  rw [← hg] at X0 ⊢
  clear hg
  have XB : Hid (B3 W.drew g (.int .i64 64) (.int .i64 53) (.int .i64 (-1074))) := ⟨X0.c0, X0.c1, X0.c2, X0.f0, X0.f1, X0.f2⟩
  have HBW : Hid (Below w.heap.size w W.drew) := bwDrew hb0
  obtain ⟨c0, c1, c2, c3, c4, c5⟩ := X0
  have hwr : IntKind.i64.wrap 51 = 51 := by decide
  clear hb0
  go_region_with (first
      | (go_at_call 52; (with_reducible refine (infinity_64 _).mono ?_); rintro e w1 ⟨rfl, hb1⟩; obtain ⟨d0, d1, d2, d3, d4, d5⟩ := XB.out.below hb1; have HBW1 : Hid (Below w.heap.size w w1) := bwOn HBW.out hb1; clear hb1)
      | (go_at_call 84; (with_reducible refine (stored_64 _).mono ?_); rintro e w2 ⟨rfl, hb2⟩; have HBW2 : Hid (Below w.heap.size w w2) := bwOn HBW1.out hb2; clear hb2))
  all_goals
    (go_wp2_with fail
     go_ret
     exact ⟨rfl, HBW2.out⟩)
theorem quiet_64 (w : World) : Calls Tryz.prog 49 #[.int .i64 64] w fun e w' => e = .returned (.tuple #[.int .u64 9221120237041090561, .int .i64 0]) ∧ Below w.heap.size w w' := by
  go_enter Tryz.func49, Tryz.ntmps49
  go_wp2_with fail
  refine (of_64 _).mono ?_
  rintro e w1 ⟨rfl, hb1⟩
  go_wp2_with fail
  refine (wquiet_64 _).mono ?_
  rintro e w2 ⟨rfl, hb2⟩
  have hbw := bwOn (bwOn hb1 (bwAlloc w1 _)) hb2
  clear hb1 hb2
  go_wp2_with fail
  go_ret2
  exact ⟨rfl, hbw⟩
end Go.Proofs.YtmhkabomabkkfaaGreatDoor
namespace Go.Proofs.YtmhkabomabkkfaaGreatDoor
open Go.RowKit Go.Shelf
set_option maxRecDepth 20000
set_option maxHeartbeats 0
def wV (z : Nat) : Nat :=
  if z = 0 then 0 else
  (872 + (z / 8388608 - 1) + bl_bitsN (z - (z / 8388608 - 1) * 8388608)) * 4503599627370496 + (z - (z / 8388608 - 1) * 8388608) * 2 ^ (53 - bl_bitsN (z - (z / 8388608 - 1) * 8388608))
theorem bits_shift {m t : Nat} (hm : m ≠ 0) : bl_bitsN (m * 2 ^ t) = bl_bitsN m + t := by
  have h1 := bl_bitsN_lt m
  have h2 := bl_bitsN_le m hm
  have h3 : bl_bitsN m ≠ 0 := by unfold bl_bitsN; rw [if_neg hm]; omega
  have hp := Nat.two_pow_pos t
  refine bl_bitsN_unique ?_ (fun _ => ?_) (fun e => ?_)
  · rw [Nat.pow_add]; exact Nat.mul_lt_mul_of_pos_right h1 hp
  · rw [show bl_bitsN m + t - 1 = (bl_bitsN m - 1) + t by omega, Nat.pow_add]; exact Nat.mul_le_mul_right _ h2
  · exfalso
    rcases Nat.mul_eq_zero.1 e with e | e
    · exact hm e
    · omega
theorem join_wide (neg : Bool) (z q m : Nat) (hq : q = z / 8388608 - 1) (hm : m = z - q * 8388608) (hz : z < 2139095040) (w : World) (hT : qTab w) :
    Calls Tryz.prog 54 #[.int .i64 64, .bool neg, U m, .int .i64 (-149 + (q : Int))] w fun e w' => e = .returned (.tuple #[U (if neg then 9223372036854775808 + wV z else wV z), .int .i64 0]) ∧ Below w.heap.size w w' := by
  by_cases z0 : z = 0
  · subst z0
    have hm0 : m = 0 := by omega
    subst hm0
    have h := join_zero neg (-149 + (q : Int)) w
    have hv : wV 0 = 0 := rfl
    rw [hv]
    exact h
  · have hm0 : m ≠ 0 := by omega
    have hmb : m < 16777216 := by omega
    have hq9 : q ≤ 253 := by omega
    obtain ⟨ht, ht64⟩ := qctz_is hm0 (show m < B64 by rw [B64_eq]; omega)
    generalize Lib.ctz 64 m = t at *
    obtain ⟨mo, hmo⟩ : ∃ mo, mo = m / 2 ^ t := ⟨_, rfl⟩
    have hdec : m = mo * 2 ^ t := by
      have h1 := Nat.div_add_mod m (2 ^ t)
      rw [ht.1, Nat.add_zero, Nat.mul_comm, ← hmo] at h1
      exact h1.symm
    have hmo0 : mo ≠ 0 := by
      rintro rfl
      rw [Nat.zero_mul] at hdec
      exact hm0 hdec
    have hbs : bl_bitsN m = bl_bitsN mo + t := by rw [hdec]; exact bits_shift hmo0
    have hb24 : bl_bitsN m ≤ 24 := bl_le (show m < 2 ^ 24 by omega)
    have hb1 : 1 ≤ bl_bitsN mo := by unfold bl_bitsN; rw [if_neg hmo0]; omega
    have hv : wV z = (872 + q + bl_bitsN m) * 4503599627370496 + mo * 2 ^ (53 - bl_bitsN mo) := by
      unfold wV
      rw [if_neg z0, ← hq, ← hm]
      congr 1
      rw [show 53 - bl_bitsN mo = t + (53 - bl_bitsN m) by omega, Nat.pow_add, ← Nat.mul_assoc, ← hdec]
    rw [hv]
    exact join_norm neg m t mo (bl_bitsN mo) (872 + q + bl_bitsN m) (-149 + (q : Int)) (-149 + (q : Int) + t + bl_bitsN mo - 1) hm0 (by rw [B64_eq]; omega) ht hmo rfl (by omega) rfl (by omega) (by omega) (by omega) (by omega) ht64 (by omega) w hT

theorem widen_nan (b : Nat) (hb : b < 4294967296) (w : World) (hz : 2139095040 < b % 2147483648) : Calls Tryz.prog 15 #[U b] w fun e w' => e = .returned (.tuple #[.int .u64 9221120237041090561, .int .i64 0]) ∧ Below w.heap.size w w' := by
  have HP := fun w => patternOf_32 b (by omega) w
  have HC := fun (s : Bool) (z : Nat) (w : World) => class_32 (I := 2139095040) rfl s z w
  obtain ⟨z, hzz⟩ : ∃ z, z = b % 2147483648 := ⟨_, rfl⟩
  obtain ⟨s, hs⟩ : ∃ s, s = decide (2147483648 ≤ b) := ⟨_, rfl⟩
  simp only [← hzz, ← hs] at HP hz ⊢
  obtain ⟨c, hc⟩ : ∃ c, c = clsN 8388608 2139095040 z := ⟨_, rfl⟩
  have hcv : c = 4 := by rw [hc]; unfold clsN; rw [if_neg (by omega), if_neg (by omega), if_neg (by omega), if_neg (by omega)]
  have HPH : Hid (∀ w : World, Calls Tryz.prog 47 #[.int .i64 32, U b] w fun e w' => e = .returned (.tuple #[PV 32 24 (-149) s z, .int .i64 0]) ∧ Below w.heap.size w w') := HP
  have HCH : Hid (∀ w : World, Calls Tryz.prog 48 #[PV 32 24 (-149) s z] w fun e w' => e = .returned (.int .i64 c) ∧ Below w.heap.size w w') := fun w => by rw [hc]; exact HC s z w
  clear HP HC hc hzz hs hz hb
  subst hcv
  go_enter Tryz.func15, Tryz.ntmps15
  go_wp2_with fail
  refine (HPH.out _).mono ?_
  rintro e w1 ⟨rfl, hb1⟩
  go_wp2_with fail
  have X := B5q.new (w1) 77 (.int .i64 32) (.int .i64 24) (.int .i64 (-149)) (.bool s) (U z)
  have hb2 := bwAlloc (w1) (.cells #[.int .i64 32, .int .i64 24, .int .i64 (-149), .bool s, U z] 77)
  generalize (w1).alloc (.cells #[.int .i64 32, .int .i64 24, .int .i64 (-149), .bool s, U z] 77) = W at *
  obtain ⟨g, hg⟩ : ∃ g, g = (w1).heap.size := ⟨_, rfl⟩
  have HGg : Hid ((w1).heap.size ≤ g) := by show _ ≤ _; omega
  rw [← hg] at X ⊢
  clear hg
  have HB2 : Hid (Below w.heap.size w W) := bwOn hb1 hb2
  clear hb1 hb2
  refine (HCH.out _).mono ?_
  rintro e w3 ⟨rfl, hb3⟩
  have X3 : Hid (B5q w3 g (.int .i64 32) (.int .i64 24) (.int .i64 (-149)) (.bool s) (U z)) := X.below hb3
  have HB3 : Hid (Below w.heap.size w w3) := bwOn HB2.out hb3
  clear hb3 X
  obtain ⟨x0, x1, x2, x3, x4, x5, x6, x7, x8, x9⟩ := X3.out
  go_wp2_with fail
  refine (quiet_64 _).mono ?_
  rintro e w4 ⟨rfl, hb4⟩
  have HB4 : Hid (Below w.heap.size w w4) := bwOn HB3.out hb4
  clear hb4
  go_wp2_with fail
  go_ret2
  exact ⟨rfl, HB4.out⟩
theorem widen_inf (b : Nat) (hb : b < 4294967296) (w : World) (hz : b % 2147483648 = 2139095040) : Calls Tryz.prog 15 #[U b] w fun e w' => e = .returned (.tuple #[U (if decide (2147483648 ≤ b) then 9223372036854775808 + 9218868437227405312 else 9218868437227405312), .int .i64 0]) ∧ Below w.heap.size w w' := by
  have HP := fun w => patternOf_32 b (by omega) w
  have HC := fun (s : Bool) (z : Nat) (w : World) => class_32 (I := 2139095040) rfl s z w
  obtain ⟨z, hzz⟩ : ∃ z, z = b % 2147483648 := ⟨_, rfl⟩
  obtain ⟨s, hs⟩ : ∃ s, s = decide (2147483648 ≤ b) := ⟨_, rfl⟩
  simp only [← hzz, ← hs] at HP hz ⊢
  obtain ⟨c, hc⟩ : ∃ c, c = clsN 8388608 2139095040 z := ⟨_, rfl⟩
  have hcv : c = 3 := by rw [hc]; unfold clsN; rw [if_neg (by omega), if_neg (by omega), if_neg (by omega), if_pos hz]
  obtain ⟨r, hr⟩ : ∃ r : Nat, r = (if s = true then 18442240474082181120 else 9218868437227405312) := ⟨_, rfl⟩
  have HR : Hid (r = (if s then 9223372036854775808 + 9218868437227405312 else 9218868437227405312)) := hr
  rw [← hr]
  clear hr
  have HPH : Hid (∀ w : World, Calls Tryz.prog 47 #[.int .i64 32, U b] w fun e w' => e = .returned (.tuple #[PV 32 24 (-149) s z, .int .i64 0]) ∧ Below w.heap.size w w') := HP
  have HCH : Hid (∀ w : World, Calls Tryz.prog 48 #[PV 32 24 (-149) s z] w fun e w' => e = .returned (.int .i64 c) ∧ Below w.heap.size w w') := fun w => by rw [hc]; exact HC s z w
  clear HP HC hc hzz hs hz hb
  subst hcv
  go_enter Tryz.func15, Tryz.ntmps15
  go_wp2_with fail
  refine (HPH.out _).mono ?_
  rintro e w1 ⟨rfl, hb1⟩
  go_wp2_with fail
  have X := B5q.new (w1) 77 (.int .i64 32) (.int .i64 24) (.int .i64 (-149)) (.bool s) (U z)
  have hb2 := bwAlloc (w1) (.cells #[.int .i64 32, .int .i64 24, .int .i64 (-149), .bool s, U z] 77)
  generalize (w1).alloc (.cells #[.int .i64 32, .int .i64 24, .int .i64 (-149), .bool s, U z] 77) = W at *
  obtain ⟨g, hg⟩ : ∃ g, g = (w1).heap.size := ⟨_, rfl⟩
  have HGg : Hid ((w1).heap.size ≤ g) := by show _ ≤ _; omega
  rw [← hg] at X ⊢
  clear hg
  have HB2 : Hid (Below w.heap.size w W) := bwOn hb1 hb2
  clear hb1 hb2
  refine (HCH.out _).mono ?_
  rintro e w3 ⟨rfl, hb3⟩
  have X3 : Hid (B5q w3 g (.int .i64 32) (.int .i64 24) (.int .i64 (-149)) (.bool s) (U z)) := X.below hb3
  have HB3 : Hid (Below w.heap.size w w3) := bwOn HB2.out hb3
  clear hb3 X
  obtain ⟨x0, x1, x2, x3, x4, x5, x6, x7, x8, x9⟩ := X3.out
  go_wp2_with fail
  refine (of_64 _).mono ?_
  rintro e w4 ⟨rfl, hb4⟩
  have X4 : Hid (B5q w4 g (.int .i64 32) (.int .i64 24) (.int .i64 (-149)) (.bool s) (U z)) := X3.out.below hb4
  have HB4 : Hid (Below w.heap.size w w4) := bwOn HB3.out hb4
  clear hb4 x0 x1 x2 x3 x4 x5 x6 x7 x8 x9
  go_wp2_with fail
  have Y := B3.new (w4) 75 (.int .i64 64) (.int .i64 53) (.int .i64 (-1074))
  have hb5 := bwAlloc (w4) (.cells #[.int .i64 64, .int .i64 53, .int .i64 (-1074)] 75)
  generalize (w4).alloc (.cells #[.int .i64 64, .int .i64 53, .int .i64 (-1074)] 75) = W5 at *
  obtain ⟨h, hh⟩ : ∃ h, h = (w4).heap.size := ⟨_, rfl⟩
  have HGh : Hid ((w4).heap.size ≤ h) := by show _ ≤ _; omega
  rw [← hh] at Y ⊢
  clear hh
  have HB5 : Hid (Below w.heap.size w W5.drew) := bwDrew (bwOn HB4.out hb5)
  have XY : Hid (B5q W5.drew g (.int .i64 32) (.int .i64 24) (.int .i64 (-149)) (.bool s) (U z) ∧ B3 W5.drew h (.int .i64 64) (.int .i64 53) (.int .i64 (-1074))) := ⟨(X4.out.below hb5).drew, Y.drew⟩
  clear Y hb5
  refine wp_region_J (fun W' => B5q W' g (.int .i64 32) (.int .i64 24) (.int .i64 (-149)) (.bool s) (U z) ∧ B3 W' h (.int .i64 64) (.int .i64 53) (.int .i64 (-1074))) (by kernel_rfl) ?_
  refine wpJ_take (i := 0) (v := ?v1x0) rfl (by kernel_rfl) (by kernel_rfl) (by kernel_rfl) (fun _ _ _ h => h) (by rfl) ?hy1x0 XY.out ?rest1x0
  case hy1x0 => (intro W' hJ; obtain ⟨⟨x0, x1, x2, x3, x4, x5, x6, x7, x8, x9⟩, ⟨y0, y1, y2, y3, y4, y5⟩⟩ := hJ; go_simp; first | done | with_reducible rfl)
  refine wpJ_take (i := 1) (v := ?v2x1) rfl (by kernel_rfl) (by kernel_rfl) (by kernel_rfl) (fun _ _ _ h => h) (by rfl) ?hy2x1 XY.out ?rest2x1
  case hy2x1 => (intro W' hJ; obtain ⟨⟨x0, x1, x2, x3, x4, x5, x6, x7, x8, x9⟩, ⟨y0, y1, y2, y3, y4, y5⟩⟩ := hJ; go_simp; first | done | with_reducible rfl)
  refine wpJ_take (i := 2) (v := ?v3x2) rfl (by kernel_rfl) (by kernel_rfl) (by kernel_rfl) (fun _ _ _ h => h) (by rfl) ?hy3x2 XY.out ?rest3x2
  case hy3x2 => (intro W' hJ; obtain ⟨⟨x0, x1, x2, x3, x4, x5, x6, x7, x8, x9⟩, ⟨y0, y1, y2, y3, y4, y5⟩⟩ := hJ; go_simp; first | done | with_reducible rfl)
  refine wpJ_take (i := 3) (v := ?v4x3) rfl (by kernel_rfl) (by kernel_rfl) (by kernel_rfl) (fun _ _ _ h => h) (by rfl) ?hy4x3 XY.out ?rest4x3
  case hy4x3 => (intro W' hJ; obtain ⟨⟨x0, x1, x2, x3, x4, x5, x6, x7, x8, x9⟩, ⟨y0, y1, y2, y3, y4, y5⟩⟩ := hJ; go_simp; first | done | with_reducible rfl)
  refine wpJ_on 4 rfl fun K hK => ?_
  go_simp
  refine (infinity_64 _).mono ?_
  rintro e w6 ⟨rfl, hb6⟩
  have XY6 : Hid (B5q w6 g (.int .i64 32) (.int .i64 24) (.int .i64 (-149)) (.bool s) (U z) ∧ B3 w6 h (.int .i64 64) (.int .i64 53) (.int .i64 (-1074))) := ⟨XY.out.1.below hb6, XY.out.2.below hb6⟩
  have HB6 : Hid (Below w.heap.size w w6) := bwOn HB5.out hb6
  clear hb6
  refine hK _ _ XY6.out ?_
  clear hK
  refine wpJ_on 5 rfl fun K hK => ?_
  go_simp
  refine (qsigned_64 s 9218868437227405312 (by decide) _).mono ?_
  rintro e w7 ⟨rfl, hb7⟩
  rw [← HR.out]
  have XY7 : Hid (B5q w7 g (.int .i64 32) (.int .i64 24) (.int .i64 (-149)) (.bool s) (U z) ∧ B3 w7 h (.int .i64 64) (.int .i64 53) (.int .i64 (-1074))) := ⟨XY6.out.1.below hb7, XY6.out.2.below hb7⟩
  have HB7 : Hid (Below w.heap.size w w7) := bwOn HB6.out hb7
  clear hb7
  refine hK _ _ XY7.out ?_
  clear hK
  refine wpJ_take (i := 6) (v := ?v5x6) rfl (by kernel_rfl) (by kernel_rfl) (by kernel_rfl) (fun _ _ _ h => h) (by rfl) ?hy5x6 XY7.out ?rest5x6
  case hy5x6 => (intro W' hJ; obtain ⟨⟨x0, x1, x2, x3, x4, x5, x6, x7, x8, x9⟩, ⟨y0, y1, y2, y3, y4, y5⟩⟩ := hJ; go_simp; first | done | with_reducible rfl)
  refine wpJ_take (i := 7) (v := ?v6x7) rfl (by kernel_rfl) (by kernel_rfl) (by kernel_rfl) (fun _ _ _ h => h) (by rfl) ?hy6x7 XY7.out ?rest6x7
  case hy6x7 => (intro W' hJ; obtain ⟨⟨x0, x1, x2, x3, x4, x5, x6, x7, x8, x9⟩, ⟨y0, y1, y2, y3, y4, y5⟩⟩ := hJ; go_simp; first | done | with_reducible rfl)
  refine wpJ_done (by kernel_rfl) ?_ _
  go_wp2_with fail
  go_ret2
  exact ⟨rfl, HB7.out⟩
theorem widen_fin (b : Nat) (hb : b < 4294967296) (w : World) (hz : b % 2147483648 < 2139095040) (hT : qTab w) : Calls Tryz.prog 15 #[U b] w fun e w' => e = .returned (.tuple #[U (if decide (2147483648 ≤ b) then 9223372036854775808 + wV (b % 2147483648) else wV (b % 2147483648)), .int .i64 0]) ∧ Below w.heap.size w w' := by
  have HP := fun w => patternOf_32 b (by omega) w
  have HC := fun (s : Bool) (z : Nat) (w : World) => class_32 (I := 2139095040) rfl s z w
  obtain ⟨z, hzz⟩ : ∃ z, z = b % 2147483648 := ⟨_, rfl⟩
  obtain ⟨s, hs⟩ : ∃ s, s = decide (2147483648 ≤ b) := ⟨_, rfl⟩
  simp only [← hzz, ← hs] at HP hz ⊢
  obtain ⟨c, hc⟩ : ∃ c, c = clsN 8388608 2139095040 z := ⟨_, rfl⟩
  have hcv : c = 0 ∨ c = 1 ∨ c = 2 := by
    rw [hc]; unfold clsN
    by_cases h0 : z = 0
    · rw [if_pos h0]; exact .inl rfl
    · rw [if_neg h0]
      by_cases h1 : z < 8388608
      · rw [if_pos h1]; exact .inr (.inl rfl)
      · rw [if_neg h1, if_pos hz]; exact .inr (.inr rfl)
  have hc4 : (c == 4) = false := by rcases hcv with rfl | rfl | rfl <;> decide
  have hc3 : (c == 3) = false := by rcases hcv with rfl | rfl | rfl <;> decide
  obtain ⟨q, hq⟩ : ∃ q, q = z / 8388608 - 1 := ⟨_, rfl⟩
  obtain ⟨m, hm⟩ : ∃ m, m = z - q * 8388608 := ⟨_, rfl⟩
  obtain ⟨r, hr⟩ : ∃ r, r = (if s then 9223372036854775808 + wV z else wV z) := ⟨_, rfl⟩
  have HPA : Hid (∀ w : World, Calls Tryz.prog 53 #[WV 32 24 (-149), U z] w fun e w' => e = .returned (.tuple #[U m, .int .i64 (-149 + (q : Int))]) ∧ Below w.heap.size w w') := fun w => parts_32 z q m hq hm (by omega) w
  have HJO : Hid (∀ w : World, qTab w → Calls Tryz.prog 54 #[.int .i64 64, .bool s, U m, .int .i64 (-149 + (q : Int))] w fun e w' => e = .returned (.tuple #[U r, .int .i64 0]) ∧ Below w.heap.size w w') := fun w hT => by rw [hr]; exact join_wide s z q m hq hm hz w hT
  rw [← hr]
  have HT : Hid (qTab w) := hT
  obtain ⟨ex, hex⟩ : ∃ ex : Int, ex = -149 + (q : Int) := ⟨_, rfl⟩
  rw [← hex] at HPA HJO
  have HPH : Hid (∀ w : World, Calls Tryz.prog 47 #[.int .i64 32, U b] w fun e w' => e = .returned (.tuple #[PV 32 24 (-149) s z, .int .i64 0]) ∧ Below w.heap.size w w') := HP
  have HCH : Hid (∀ w : World, Calls Tryz.prog 48 #[PV 32 24 (-149) s z] w fun e w' => e = .returned (.int .i64 c) ∧ Below w.heap.size w w') := fun w => by rw [hc]; exact HC s z w
  clear HP HC hc hzz hs hz hb hcv hq hm hr hT hex
  go_enter Tryz.func15, Tryz.ntmps15
  go_wp2_with fail
  refine (HPH.out _).mono ?_
  rintro e w1 ⟨rfl, hb1⟩
  go_wp2_with fail
  have X := B5q.new (w1) 77 (.int .i64 32) (.int .i64 24) (.int .i64 (-149)) (.bool s) (U z)
  have hb2 := bwAlloc (w1) (.cells #[.int .i64 32, .int .i64 24, .int .i64 (-149), .bool s, U z] 77)
  generalize (w1).alloc (.cells #[.int .i64 32, .int .i64 24, .int .i64 (-149), .bool s, U z] 77) = W at *
  obtain ⟨g, hg⟩ : ∃ g, g = (w1).heap.size := ⟨_, rfl⟩
  have HGg : Hid ((w1).heap.size ≤ g) := by show _ ≤ _; omega
  rw [← hg] at X ⊢
  clear hg
  have HB2 : Hid (Below w.heap.size w W) := bwOn hb1 hb2
  clear hb1 hb2
  refine (HCH.out _).mono ?_
  rintro e w3 ⟨rfl, hb3⟩
  have X3 : Hid (B5q w3 g (.int .i64 32) (.int .i64 24) (.int .i64 (-149)) (.bool s) (U z)) := X.below hb3
  have HB3 : Hid (Below w.heap.size w w3) := bwOn HB2.out hb3
  clear hb3 X
  obtain ⟨x0, x1, x2, x3, x4, x5, x6, x7, x8, x9⟩ := X3.out
  go_wp2_with fail
  refine (HPA.out _).mono ?_
  rintro e w4 ⟨rfl, hb4⟩
  have X4 : Hid (B5q w4 g (.int .i64 32) (.int .i64 24) (.int .i64 (-149)) (.bool s) (U z)) := X3.out.below hb4
  have HB4 : Hid (Below w.heap.size w w4) := bwOn HB3.out hb4
  have HT4 : Hid (qTab w4) := HT.out.below HB4.out
  clear hb4 x0 x1 x2 x3 x4 x5 x6 x7 x8 x9
  obtain ⟨x0, x1, x2, x3, x4, x5, x6, x7, x8, x9⟩ := X4.out
  go_wp2_with fail
  refine (HJO.out _ HT4.out).mono ?_
  rintro e w5 ⟨rfl, hb5⟩
  have HB5 : Hid (Below w.heap.size w w5) := bwOn HB4.out hb5
  clear hb5
  go_wp2_with fail
  go_ret2
  exact ⟨rfl, HB5.out⟩
structure Jm (f p m l : Int) (S I H sd : Nat) (Be : Int) : Prop where
  pm : Pm f p m l S I H
  be : ∀ w, Calls Tryz.prog 85 #[WV p m l] w fun e w' => e = .returned (.int .i64 Be) ∧ Below w.heap.size w w'
  un : ∀ (top : Int) w, -1000000000000 ≤ top → top ≤ 5000 → Calls Tryz.prog 87 #[WV p m l, .int .i64 top] w fun e w' => e = .returned (.int .i64 (max (top - sd) l)) ∧ Below w.heap.size w w'
  sz : ∀ (man q : Nat) (u : Int) w, u = l + q → q < 2046 → (q : Int) < Be - l - sd → man ≤ 2 * H → Calls Tryz.prog 88 #[WV p m l, U man, .int .i64 u] w fun e w' => e = .returned (U (q * H + man)) ∧ Below w.heap.size w w'
  hs : H = 2 ^ sd
  sl : 1 ≤ sd ∧ sd ≤ 52
  bq : ∀ s, s < I → ((s / H - 1 : Nat) : Int) ≤ Be - l - sd - 1
  bu : Be ≤ 1024 ∧ 0 < Be
theorem jm_32 : Jm 32 32 24 (-149) 2147483648 2139095040 8388608 23 128 :=
  ⟨pm_32, beyond_32, fun top w h1 h2 => unitg_32 top h1 h2 w, fun man q u w h1 _ h3 h2 => size_32 man q u (by omega) (by omega) h2 w, by decide, by decide, fun s hs => by omega, by decide⟩
theorem jm_64 : Jm 64 64 53 (-1074) 9223372036854775808 9218868437227405312 4503599627370496 52 1024 :=
  ⟨pm_64, beyond_64, fun top w h1 h2 => unitg_64 top h1 h2 w, fun man q u w h1 _ _ h2 => size_64 man q u (by omega) (by omega) h2 w, by decide, by decide, fun s hs => by omega, by decide⟩
structure B5 (W : World) (g : Nat) (v0 v1 v2 v3 v4 : Value) : Prop where
  c0 : W.cell? ⟨g, 0, none⟩ = some v0
  c1 : W.cell? ⟨g, 1, none⟩ = some v1
  c2 : W.cell? ⟨g, 2, none⟩ = some v2
  c3 : W.cell? ⟨g, 3, none⟩ = some v3
  c4 : W.cell? ⟨g, 4, none⟩ = some v4
  f0 : W.frozen? ⟨g, 0, none⟩ = false
  f1 : W.frozen? ⟨g, 1, none⟩ = false
  f2 : W.frozen? ⟨g, 2, none⟩ = false
  f3 : W.frozen? ⟨g, 3, none⟩ = false
  f4 : W.frozen? ⟨g, 4, none⟩ = false
theorem B5.below {W W' : World} {g : Nat} {v0 v1 v2 v3 v4 : Value} (h : B5 W g v0 v1 v2 v3 v4) (hb : Below W.heap.size W W') : B5 W' g v0 v1 v2 v3 v4 := by
  have hl : g < W.heap.size := World.block_lt_of_cell? W _ h.c0
  exact ⟨(hb.cell (p := ⟨g, 0, none⟩) hl).trans h.c0, (hb.cell (p := ⟨g, 1, none⟩) hl).trans h.c1, (hb.cell (p := ⟨g, 2, none⟩) hl).trans h.c2, (hb.cell (p := ⟨g, 3, none⟩) hl).trans h.c3, (hb.cell (p := ⟨g, 4, none⟩) hl).trans h.c4,
    (hb.frozen (p := ⟨g, 0, none⟩) hl).trans h.f0, (hb.frozen (p := ⟨g, 1, none⟩) hl).trans h.f1, (hb.frozen (p := ⟨g, 2, none⟩) hl).trans h.f2, (hb.frozen (p := ⟨g, 3, none⟩) hl).trans h.f3, (hb.frozen (p := ⟨g, 4, none⟩) hl).trans h.f4⟩
theorem B5.new (w : World) (ty : TypeId) (v0 v1 v2 v3 v4 : Value) : B5 (w.alloc (.cells #[v0, v1, v2, v3, v4] ty)) w.heap.size v0 v1 v2 v3 v4 :=
  ⟨by go_simp, by go_simp, by go_simp, by go_simp, by go_simp, by go_simp, by go_simp, by go_simp, by go_simp, by go_simp⟩
theorem DocIs.inj {v : Nat} {us us' : List Nat} {f f' : Int} (h : DocIs v us f) (k : DocIs v us' f') : us = us' ∧ f = f' := by
  rcases h with ⟨h1, h2, rfl⟩ | ⟨h1, rfl, rfl⟩ <;> rcases k with ⟨k1, k2, rfl⟩ | ⟨k1, rfl, rfl⟩
  · exact ⟨h2.inj B64_one k2, rfl⟩
  · omega
  · omega
  · exact ⟨rfl, rfl⟩
theorem DocIs.er {v : Nat} {us : List Nat} {f : Int} (h : DocIs v us f) : f = 0 ∨ f = 5 := by
  rcases h with ⟨_, _, rfl⟩ | ⟨_, _, rfl⟩ <;> simp
abbrev OV (k f : Int) (b : Nat) (neg : Bool) (n : Int) : Value := .agg #[.int .i64 k, .int .i64 f, U b, .bool neg, .int .i64 n]
structure Op7 where
  k : Int
  f : Int
  b : Nat
  neg : Bool
  n : Int
structure Scr7 (w : World) (P : Option Addr) (N C : Nat) (its : List Op7) : Prop where
  len : its.length = N
  cap : N ≤ C
  big : C ≤ maxLen
  ats : ∀ t ∈ its, t.b < B64 ∧ -9223372036854775808 ≤ t.n ∧ t.n ≤ 9223372036854775807
  cells : N = 0 ∨ ∃ g off, P = some ⟨g, off, none⟩ ∧ ∀ i (h : i < its.length), w.cell? ⟨g, off + i * 5, none⟩ = some (.int .i64 its[i].k) ∧ w.cell? ⟨g, off + i * 5 + 1, none⟩ = some (.int .i64 its[i].f) ∧
    w.cell? ⟨g, off + i * 5 + 2, none⟩ = some (U its[i].b) ∧ w.cell? ⟨g, off + i * 5 + 3, none⟩ = some (.bool its[i].neg) ∧ w.cell? ⟨g, off + i * 5 + 4, none⟩ = some (.int .i64 its[i].n)
theorem Scr7.below {w w' : World} {P : Option Addr} {N C : Nat} {its : List Op7} (h : Scr7 w P N C its) (hb : Below w.heap.size w w') : Scr7 w' P N C its := by
  refine ⟨h.len, h.cap, h.big, h.ats, ?_⟩
  rcases h.cells with h0 | ⟨g, off, hP, hc⟩
  · exact .inl h0
  · refine .inr ⟨g, off, hP, fun i hi => ?_⟩
    obtain ⟨h0, h1, h2, h3, h4⟩ := hc i hi
    have hl : g < w.heap.size := World.block_lt_of_cell? w _ h0
    exact ⟨(hb.cell (p := ⟨g, off + i * 5, none⟩) hl).trans h0, (hb.cell (p := ⟨g, off + i * 5 + 1, none⟩) hl).trans h1, (hb.cell (p := ⟨g, off + i * 5 + 2, none⟩) hl).trans h2,
      (hb.cell (p := ⟨g, off + i * 5 + 3, none⟩) hl).trans h3, (hb.cell (p := ⟨g, off + i * 5 + 4, none⟩) hl).trans h4⟩
structure Kds (w : World) (g : Nat) (ks : List Int) : Prop where
  c : ∀ j (h : j < ks.length), w.cell? ⟨g, j, none⟩ = some (.int .i64 ks[j])
  lt : g < w.heap.size
theorem Kds.below {w w' : World} {g : Nat} {ks : List Int} (h : Kds w g ks) (hb : Below w.heap.size w w') : Kds w' g ks :=
  ⟨fun j hj => (hb.cell (p := ⟨g, j, none⟩) h.lt).trans (h.c j hj), Nat.lt_of_lt_of_le h.lt hb.size⟩
theorem blb_le {m k : Nat} (h : m < 2 ^ k) : bl_bitsN m ≤ k := by
  by_cases h0 : m = 0
  · rw [h0, bl_bitsN_zero]; omega
  have h1 := bl_bitsN_le m h0
  have := (Nat.pow_lt_pow_iff_right (by omega : 1 < 2)).1 (Nat.lt_of_le_of_lt h1 h)
  omega
theorem blb_pos {m : Nat} (h : m ≠ 0) : 0 < bl_bitsN m := by unfold bl_bitsN; rw [if_neg h]; omega
theorem wV_parts {z : Nat} (hz : z < 2139095040) (h0 : z ≠ 0) : ∃ q m L, q = z / 8388608 - 1 ∧ m = z - q * 8388608 ∧ L = bl_bitsN m ∧ 1 ≤ L ∧ L ≤ 24 ∧ q ≤ 253 ∧ wV z = (872 + q + L) * 4503599627370496 + m * 2 ^ (53 - L) ∧ 4503599627370496 ≤ m * 2 ^ (53 - L) ∧ m * 2 ^ (53 - L) < 2 * 4503599627370496 := by
  obtain ⟨q, hq⟩ : ∃ q, q = z / 8388608 - 1 := ⟨_, rfl⟩
  obtain ⟨m, hm⟩ : ∃ m, m = z - q * 8388608 := ⟨_, rfl⟩
  obtain ⟨L, hL⟩ : ∃ L, L = bl_bitsN m := ⟨_, rfl⟩
  have hm0 : m ≠ 0 := by omega
  have hm1 : m < 16777216 := by omega
  have l1 := blb_pos hm0
  have l2 := blb_le (m := m) (k := 24) (by omega)
  have b1 := bl_bitsN_lt m
  have b2 := bl_bitsN_le m hm0
  rw [← hL] at l1 l2 b1 b2
  have e1 : (2 : Nat) ^ 52 = 4503599627370496 := by decide
  have h1 : 2 ^ (L - 1) * 2 ^ (53 - L) ≤ m * 2 ^ (53 - L) := Nat.mul_le_mul_right _ b2
  have h2 : m * 2 ^ (53 - L) < 2 ^ L * 2 ^ (53 - L) := Nat.mul_lt_mul_of_pos_right b1 (Nat.pow_pos (by omega))
  rw [← Nat.pow_add, show L - 1 + (53 - L) = 52 from by omega, e1] at h1
  rw [← Nat.pow_add, show L + (53 - L) = 52 + 1 from by omega, Nat.pow_succ, e1] at h2
  refine ⟨q, m, L, hq, hm, hL, l1, l2, by omega, ?_, h1, by omega⟩
  unfold wV
  rw [if_neg h0, ← hq, ← hm, ← hL]
theorem wV_vs {z K : Nat} (hz : z < 2139095040) (hK : K = 925) : vs 4503599627370496 (wV z) = vs 8388608 z * 2 ^ K := by
  by_cases h0 : z = 0
  · subst h0
    unfold wV
    rw [if_pos rfl, vs_zero, vs_zero, Nat.zero_mul]
  obtain ⟨q, m, L, hq, hm, _, l1, l2, l3, hw, h1, h2⟩ := wV_parts hz h0
  have hd : wV z / 4503599627370496 - 1 = 872 + q + L := by
    rw [hw]
    generalize m * 2 ^ (53 - L) = M at *
    omega
  have e1 : vs 8388608 z = m * 2 ^ q := by unfold vs; rw [← hq, ← hm]
  have e2 : wV z - (872 + q + L) * 4503599627370496 = m * 2 ^ (53 - L) := by
    rw [hw]
    generalize m * 2 ^ (53 - L) = M at *
    omega
  rw [e1]
  unfold vs
  rw [hd, e2, Nat.mul_assoc, Nat.mul_assoc, ← Nat.pow_add, ← Nat.pow_add, show 53 - L + (872 + q + L) = q + K from by omega]
theorem wV_lt {y z : Nat} (hy : y < 2139095040) (hz : z < 2139095040) (h : y < z) : wV y < wV z := by
  rcases Nat.lt_or_ge (wV y) (wV z) with h1 | h1
  · exact h1
  · have h2 := vs_mono (H := 8388608) (by decide) h
    have h3 : vs 4503599627370496 (wV z) ≤ vs 4503599627370496 (wV y) := by
      rcases Nat.lt_or_eq_of_le h1 with h4 | h4
      · exact Nat.le_of_lt (vs_mono (by decide) h4)
      · rw [h4]; exact Nat.le_refl _
    obtain ⟨K, hK⟩ : ∃ K, K = 925 := ⟨_, rfl⟩
    rw [wV_vs hy hK, wV_vs hz hK] at h3
    have h5 := Nat.le_of_mul_le_mul_right h3 (Nat.pow_pos (by omega))
    omega
theorem wV_cls {z : Nat} (hz : z < 2139095040) : wV z < 9218868437227405312 ∧ (z = 0 → wV z = 0) ∧ (z ≠ 0 → 4503599627370496 ≤ wV z) := by
  by_cases h0 : z = 0
  · subst h0
    have : wV 0 = 0 := by unfold wV; rw [if_pos rfl]
    rw [this]
    exact ⟨by decide, fun _ => rfl, fun h => absurd rfl h⟩
  obtain ⟨q, m, L, hq, hm, _, l1, l2, l3, hw, h1, h2⟩ := wV_parts hz h0
  rw [hw]
  generalize m * 2 ^ (53 - L) = M at *
  exact ⟨by omega, fun h => absurd h h0, fun _ => by omega⟩
structure WF (a x : Nat) : Prop where
  lt : x < 2 * 9223372036854775808
  nan : 2139095040 < a % 2147483648 → 9218868437227405312 < x % 9223372036854775808
  inf : a % 2147483648 = 2139095040 → x % 9223372036854775808 = 9218868437227405312
  fin : a % 2147483648 < 2139095040 → x % 9223372036854775808 = wV (a % 2147483648) ∧ (9223372036854775808 ≤ x ↔ 2147483648 ≤ a)
theorem cls_four {H I s : Nat} (hH : H ≤ I) : (clsN H I s == 4) = decide (I < s) := by
  by_cases h : I < s
  · rw [cls_nan hH h, decide_eq_true h]; rfl
  · rw [decide_eq_false h]; simp [cls_ne (Nat.le_of_not_lt h)]
theorem WF.cls {a x : Nat} (h : WF a x) : (clsN 8388608 2139095040 (a % 2147483648) == 4) = (clsN 4503599627370496 9218868437227405312 (x % 9223372036854775808) == 4) ∧ (clsN 8388608 2139095040 (a % 2147483648) == 3) = (clsN 4503599627370496 9218868437227405312 (x % 9223372036854775808) == 3) := by
  rw [cls_four (by decide), cls_four (by decide), cls_inf (by decide) (by decide), cls_inf (by decide) (by decide)]
  have h1 := h.nan
  have h2 := h.inf
  have h3 := h.fin
  rcases Nat.lt_trichotomy (a % 2147483648) 2139095040 with k | k | k
  · have k1 := (wV_cls k).1
    rw [← (h3 k).1] at k1
    refine ⟨decide_eq_decide.2 ⟨?_, ?_⟩, decide_eq_decide.2 ⟨?_, ?_⟩⟩ <;> omega
  · have := h2 k
    refine ⟨decide_eq_decide.2 ⟨?_, ?_⟩, decide_eq_decide.2 ⟨?_, ?_⟩⟩ <;> omega
  · have := h1 k
    refine ⟨decide_eq_decide.2 ⟨?_, ?_⟩, decide_eq_decide.2 ⟨?_, ?_⟩⟩ <;> omega
theorem WF.val {zo eo : Int} {a' x' : Nat} (h : WF a' x') (hf : a' % 2147483648 < 2139095040) (hv : VF 2147483648 8388608 (-149) a' zo eo) : VF 9223372036854775808 4503599627370496 (-1074) x' zo eo := by
  obtain ⟨h1, h2⟩ := h.fin hf
  refine ⟨hv.fm, ?_⟩
  obtain ⟨K, hK⟩ : ∃ K, K = 925 := ⟨_, rfl⟩
  have h3 := wV_vs hf hK
  rw [hv.v, show (-149 : Int) = -1074 + (K : Int) from by omega, dv_up K (by decide), svS_eq, svS_eq, h1, h3]
  by_cases h4 : 2147483648 ≤ a'
  · rw [if_pos h4, if_pos (h2.2 h4), Int.neg_mul, ← Int.natCast_mul]
  · rw [if_neg h4, if_neg (fun k => h4 (h2.1 k)), ← Int.natCast_mul]
theorem WF.rank {a x b y : Nat} (h : WF a x) (k : WF b y) (ha : a % 2147483648 < 2139095040) (hb : b % 2147483648 < 2139095040) : rkS 2147483648 a < rkS 2147483648 b ↔ rkS 9223372036854775808 x < rkS 9223372036854775808 y := by
  obtain ⟨h1, h2⟩ := h.fin ha
  obtain ⟨k1, k2⟩ := k.fin hb
  have a0 := (wV_cls ha).2
  have b0 := (wV_cls hb).2
  have l1 : a % 2147483648 < b % 2147483648 → wV (a % 2147483648) < wV (b % 2147483648) := wV_lt ha hb
  have l2 : b % 2147483648 < a % 2147483648 → wV (b % 2147483648) < wV (a % 2147483648) := wV_lt hb ha
  have l3 : a % 2147483648 = b % 2147483648 → wV (a % 2147483648) = wV (b % 2147483648) := fun e => by rw [e]
  unfold rkS
  rw [h1, k1]
  generalize a % 2147483648 = A at *
  generalize b % 2147483648 = B at *
  generalize wV A = WA at *
  generalize wV B = WB at *
  by_cases c1 : 2147483648 ≤ a <;> by_cases c2 : 2147483648 ≤ b
  · rw [if_pos c1, if_pos c2, if_pos (h2.2 c1), if_pos (k2.2 c2)]; omega
  · rw [if_pos c1, if_neg c2, if_pos (h2.2 c1), if_neg (fun e => c2 (k2.1 e))]; omega
  · rw [if_neg c1, if_pos c2, if_neg (fun e => c1 (h2.1 e)), if_pos (k2.2 c2)]; omega
  · rw [if_neg c1, if_neg c2, if_neg (fun e => c1 (h2.1 e)), if_neg (fun e => c2 (k2.1 e))]; omega
theorem clsof_32 (b : Nat) (hb : b < 2 * 2147483648) (w : World) :
    Calls Tryz.prog 57 #[.int .i64 32, U b] w fun en w' => en = .returned (.tuple #[.int .i64 (clsN 8388608 2139095040 (b % 2147483648)), .int .i64 0]) ∧ Below w.heap.size w w' := by
  have hbw : Below w.heap.size w w := Below.refl _ _
  obtain ⟨z, hz⟩ : ∃ z : Nat, z = b % 2147483648 := ⟨_, rfl⟩
  obtain ⟨s, hs⟩ : ∃ s, s = decide (2147483648 ≤ b) := ⟨_, rfl⟩
  obtain ⟨c, hc⟩ : ∃ c, c = clsN 8388608 2139095040 z := ⟨_, rfl⟩
  have HPT : Hid (∀ w, Calls Tryz.prog 47 #[.int .i64 32, U b] w fun e w' => e = .returned (.tuple #[PV 32 24 (-149) s z, .int .i64 0]) ∧ Below w.heap.size w w') := by rw [hz, hs]; exact fun w => fm_32.pat b w hb
  rw [← hz, ← hc]
  have HC : Hid (clsN 8388608 2139095040 z = c) := hc.symm
  clear hz hs hc hb
  go_enter Tryz.func57, Tryz.ntmps57
  go_wp2_with fail
  refine (HPT.out _).mono ?_
  rintro e v1 ⟨rfl, hb1⟩
  replace hbw := Below.on hbw hb1
  clear hb1
  go_wp2_with fail
  have Xp0 : Hid (B5q (v1.alloc (.cells #[.int .i64 32, .int .i64 24, .int .i64 (-149), .bool s, U z] 77)) v1.heap.size (.int .i64 32) (.int .i64 24) (.int .i64 (-149)) (.bool s) (U z)) := B5q.new v1 _ _ _ _ _ _
  have hbn : Below v1.heap.size v1 (v1.alloc (.cells #[.int .i64 32, .int .i64 24, .int .i64 (-149), .bool s, U z] 77)) := below1 v1 _
  generalize v1.alloc (.cells #[.int .i64 32, .int .i64 24, .int .i64 (-149), .bool s, U z] 77) = Wp at *
  have HGp : Hid (w.heap.size ≤ v1.heap.size) := hbw.size
  replace hbw := Below.on hbw hbn
  clear hbn
  generalize v1.heap.size = gp at *
  have Xp := Xp0
  clear Xp0
  refine (class_32 rfl s z _).mono ?_
  rintro e2 v2 ⟨rfl, hb2⟩
  rw [HC.out]
  replace Xp : Hid _ := Xp.out.below hb2
  replace hbw := Below.on hbw hb2
  clear hb2
  go_wp2_with fail
  go_ret2
  exact ⟨rfl, hbw⟩
theorem clsof_64 (b : Nat) (hb : b < 2 * 9223372036854775808) (w : World) :
    Calls Tryz.prog 57 #[.int .i64 64, U b] w fun en w' => en = .returned (.tuple #[.int .i64 (clsN 4503599627370496 9218868437227405312 (b % 9223372036854775808)), .int .i64 0]) ∧ Below w.heap.size w w' := by
  have hbw : Below w.heap.size w w := Below.refl _ _
  obtain ⟨z, hz⟩ : ∃ z : Nat, z = b % 9223372036854775808 := ⟨_, rfl⟩
  obtain ⟨s, hs⟩ : ∃ s, s = decide (9223372036854775808 ≤ b) := ⟨_, rfl⟩
  obtain ⟨c, hc⟩ : ∃ c, c = clsN 4503599627370496 9218868437227405312 z := ⟨_, rfl⟩
  have HPT : Hid (∀ w, Calls Tryz.prog 47 #[.int .i64 64, U b] w fun e w' => e = .returned (.tuple #[PV 64 53 (-1074) s z, .int .i64 0]) ∧ Below w.heap.size w w') := by rw [hz, hs]; exact fun w => fm_64.pat b w hb
  rw [← hz, ← hc]
  have HC : Hid (clsN 4503599627370496 9218868437227405312 z = c) := hc.symm
  clear hz hs hc hb
  go_enter Tryz.func57, Tryz.ntmps57
  go_wp2_with fail
  refine (HPT.out _).mono ?_
  rintro e v1 ⟨rfl, hb1⟩
  replace hbw := Below.on hbw hb1
  clear hb1
  go_wp2_with fail
  have Xp0 : Hid (B5q (v1.alloc (.cells #[.int .i64 64, .int .i64 53, .int .i64 (-1074), .bool s, U z] 77)) v1.heap.size (.int .i64 64) (.int .i64 53) (.int .i64 (-1074)) (.bool s) (U z)) := B5q.new v1 _ _ _ _ _ _
  have hbn : Below v1.heap.size v1 (v1.alloc (.cells #[.int .i64 64, .int .i64 53, .int .i64 (-1074), .bool s, U z] 77)) := below1 v1 _
  generalize v1.alloc (.cells #[.int .i64 64, .int .i64 53, .int .i64 (-1074), .bool s, U z] 77) = Wp at *
  have HGp : Hid (w.heap.size ≤ v1.heap.size) := hbw.size
  replace hbw := Below.on hbw hbn
  clear hbn
  generalize v1.heap.size = gp at *
  have Xp := Xp0
  clear Xp0
  refine (class_64 rfl s z _).mono ?_
  rintro e2 v2 ⟨rfl, hb2⟩
  rw [HC.out]
  replace Xp : Hid _ := Xp.out.below hb2
  replace hbw := Below.on hbw hb2
  clear hb2
  go_wp2_with fail
  go_ret2
  exact ⟨rfl, hbw⟩
theorem xs_neg {S H : Nat} {l : Int} {b : Nat} {zo eo : Int} (hb : b < 2 * S) (hv : VF S H l b zo eo) : VF S H l (xsS S b) (-zo) eo ∧ xsS S b < 2 * S ∧ xsS S b % S = b % S := by
  have hm : xsS S b % S = b % S := by
    unfold xsS
    split
    · rename_i h
      rw [Nat.mod_eq_sub_mod h]
    · rw [Nat.add_mod_right]
  refine ⟨⟨hv.fm.neg, ?_⟩, by unfold xsS; split <;> omega, hm⟩
  rw [dv_neg, hv.v, ← dv_neg, svS_eq, svS_eq, hm]
  unfold xsS
  by_cases h : S ≤ b
  · rw [if_pos h, if_pos h, if_neg (by omega), Int.neg_neg]
  · rw [if_neg h, if_neg h, if_pos (by omega)]
theorem vs_next {H : Nat} (hH : 0 < H) (s : Nat) : vs H (s + 1) = vs H s + 2 ^ (s / H - 1) := by
  have h1 := Nat.div_add_mod s H
  have h2 := Nat.mod_lt s hH
  have h3 := Nat.div_add_mod (s + 1) H
  have h4 := Nat.mod_lt (s + 1) hH
  have h5 : s / H ≤ (s + 1) / H := Nat.div_le_div_right (by omega)
  have h6 : (s + 1) / H ≤ s / H + 1 := by
    have : (s + 1) / H ≤ (s + H) / H := Nat.div_le_div_right (by omega)
    rw [Nat.add_div_right _ hH] at this
    exact this
  unfold vs
  by_cases h7 : (s + 1) / H = s / H
  · rw [h7]
    have hq : (s / H - 1) * H ≤ s := by
      rw [Nat.sub_mul, Nat.mul_comm]; omega
    rw [show s + 1 - (s / H - 1) * H = s - (s / H - 1) * H + 1 from by omega, Nat.add_mul, Nat.one_mul]
  · have h8 : (s + 1) / H = s / H + 1 := by omega
    rw [h8, Nat.add_sub_cancel]
    rw [h8, Nat.mul_add, Nat.mul_one] at h3
    obtain ⟨k, hk⟩ : ∃ k, k = s / H := ⟨_, rfl⟩
    rw [← hk] at h1 h3 ⊢
    obtain ⟨y, hy⟩ : ∃ y, y = H * k := ⟨_, rfl⟩
    rw [← hy] at h1 h3
    rw [Nat.mul_comm k H, ← hy]
    by_cases h9 : k = 0
    · subst h9
      have : y = 0 := by rw [hy]; simp
      simp
      omega
    · obtain ⟨j, rfl⟩ : ∃ j, k = j + 1 := ⟨k - 1, by omega⟩
      rw [Nat.add_sub_cancel, Nat.pow_succ]
      have hj : j * H + H = y := by rw [hy, Nat.mul_comm H, Nat.add_mul, Nat.one_mul]
      have e1 : s + 1 - y = H := by omega
      have e2 : s - j * H = 2 * H - 1 := by omega
      rw [e1, e2, Nat.mul_comm (2 ^ j) 2, ← Nat.mul_assoc, Nat.sub_mul, Nat.one_mul, Nat.mul_comm H 2]
      have : 1 * 2 ^ j ≤ 2 * H * 2 ^ j := Nat.mul_le_mul_right _ (by omega)
      omega
theorem rd_size (up : Bool) {z : Int} {b n : Nat} (hb : z.natAbs < 2 ^ b) : (rd up z (2 ^ n)).natAbs ≤ 2 ^ (b - n) := by
  have h1 : z.natAbs < 2 ^ (b - n) * 2 ^ n := by
    rw [← Nat.pow_add]
    exact Nat.lt_of_lt_of_le hb (Nat.pow_le_pow_right (by omega) (by omega))
  have hd : 0 < 2 ^ n := Nat.pow_pos (by omega)
  generalize hD : 2 ^ n = d at *
  generalize hP : 2 ^ (b - n) = P at *
  have h3 : z < (P : Int) * d ∧ -((P : Int) * d) < z := by
    have : ((P * d : Nat) : Int) = (P : Int) * d := Int.natCast_mul _ _
    omega
  cases up
  · have h4 := rd_down z hd
    generalize rd false z d = F at *
    have h6 := Int.lt_of_mul_lt_mul_right (show F * d < P * d by omega) (by omega)
    have h8 := Int.lt_of_mul_lt_mul_right (show (-(P : Int)) * d < (F + 1) * d by rw [Int.neg_mul]; omega) (by omega)
    omega
  · have h4 := rd_up z hd
    generalize rd true z d = F at *
    have h6 := Int.lt_of_mul_lt_mul_right (show (F - 1) * d < P * d by omega) (by omega)
    have h8 := Int.lt_of_mul_lt_mul_right (show (-(P : Int)) * d < F * d by rw [Int.neg_mul]; omega) (by omega)
    omega
theorem dv_lt {x y : Int} (e : Int) (h : x < y) : dv x e < dv y e := by
  have h1 : (0 : Int) < ((2 ^ (e + 4194304).toNat : Nat) : Int) := by have := Nat.pow_pos (n := (e + 4194304).toNat) (show 0 < 2 by omega); omega
  exact Int.mul_lt_mul_of_pos_right h h1
theorem form_len {z e F g h : Int} (hv : dv z e = dv F g) (h1 : g ≤ h) (h2 : h ≤ e) (hg : -4194304 ≤ g) : (z * 2 ^ (e - h).toNat).natAbs ≤ F.natAbs := by
  rw [dv_shift (show g ≤ e by omega) hg] at hv
  unfold dv at hv
  have h3 := Int.eq_of_mul_eq_mul_right (pow_pos_int _) hv
  rw [← h3, pow_cast, Int.natAbs_mul, Int.natAbs_mul, Int.natAbs_natCast, Int.natAbs_natCast]
  exact Nat.mul_le_mul_left _ (Nat.pow_le_pow_right (by omega) (by omega))
def neN (a d : Nat) : Nat := a / d + (neUp a d).toNat
theorem neN_mul (a d c : Nat) (hc : 0 < c) : neN (a * c) (d * c) = neN a d := by
  have h1 : a * c / (d * c) = a / d := Nat.mul_div_mul_right _ _ hc
  have h2 : a * c % (d * c) = a % d * c := Nat.mul_mod_mul_right _ _ _
  have h3 : decide (d * c < 2 * (a % d * c)) = decide (d < 2 * (a % d)) := by
    rw [← Nat.mul_assoc]
    exact decide_eq_decide.2 (Nat.mul_lt_mul_right hc)
  have h4 : decide (2 * (a % d * c) = d * c) = decide (2 * (a % d) = d) := by
    rw [← Nat.mul_assoc]
    exact decide_eq_decide.2 (Nat.mul_right_cancel_iff hc)
  unfold neN neUp
  rw [h1, h2, h3, h4]
theorem neN_ex (a d : Nat) (hd : 0 < d) : neN (a * d) d = a := by
  unfold neN neUp
  rw [Nat.mul_div_cancel _ hd, Nat.mul_mod_left]
  have h1 : decide (d < 2 * 0) = false := decide_eq_false (by omega)
  have h2 : decide (2 * 0 = d) = false := decide_eq_false (by omega)
  rw [h1, h2]
  rfl
def hv (H z : Nat) : Nat := 2 * vs H z + 2 ^ (z / H - 1)
theorem hv_gt (H z : Nat) : 2 * vs H z < hv H z := by
  unfold hv
  have : 0 < 2 ^ (z / H - 1) := Nat.pow_pos (by omega)
  omega
theorem hv_lt {H : Nat} (hH : 0 < H) (z : Nat) : hv H z < 2 * vs H (z + 1) := by
  have : 0 < 2 ^ (z / H - 1) := Nat.pow_pos (by omega)
  rw [vs_next hH]
  unfold hv
  omega
theorem vs_le {H : Nat} (hH : 0 < H) {s t : Nat} (h : s ≤ t) : vs H s ≤ vs H t := by
  rcases Nat.lt_or_eq_of_le h with h1 | h1
  · exact Nat.le_of_lt (vs_mono hH h1)
  · rw [h1]; exact Nat.le_refl _
structure RNz (H : Nat) (l : Int) (I : Nat) (A : Int) (Z : Nat) : Prop where
  le : Z ≤ I
  lo : ∀ z, z < I → A < dv (hv H z : Int) (l - 1) → Z ≤ z
  hi : ∀ z, z < I → dv (hv H z : Int) (l - 1) < A → z < Z
  eq : ∀ z, z < I → A = dv (hv H z : Int) (l - 1) → (Z = z ∨ Z = z + 1) ∧ Z % 2 = 0
theorem RNz.mono {H : Nat} {l : Int} {I : Nat} {A B : Int} {Z Y : Nat} (h : RNz H l I A Z) (k : RNz H l I B Y) (hAB : A ≤ B) : Z ≤ Y := by
  refine Nat.le_of_not_lt fun hlt => ?_
  have hY : Y < I := Nat.lt_of_lt_of_le hlt h.le
  have hz : ∀ x : Int, x = dv (hv H Y : Int) (l - 1) → False := fun x hx => by
    rcases Int.lt_trichotomy B x with h1 | h1 | h1
    · have := h.lo Y hY (by omega); omega
    · have h2 := k.eq Y hY (by omega)
      rcases Int.lt_or_eq_of_le hAB with h3 | h3
      · have := h.lo Y hY (by omega); omega
      · have h4 := h.eq Y hY (by omega)
        omega
    · have := k.hi Y hY (by omega); omega
  exact hz _ rfl
theorem RNz.uniq {H : Nat} {l : Int} {I : Nat} {A : Int} {Z Y : Nat} (h : RNz H l I A Z) (k : RNz H l I A Y) : Z = Y :=
  Nat.le_antisymm (h.mono k (Int.le_refl _)) (k.mono h (Int.le_refl _))
def rnz (l : Int) (sd : Nat) (Be : Int) (I m : Nat) (e : Int) : Nat :=
  if Be ≤ e + bitsN m - 1 then I
  else ((max (e + bitsN m - 1 - sd) l - l).toNat) * 2 ^ sd +
    (if e < max (e + bitsN m - 1 - sd) l then neN m (2 ^ (max (e + bitsN m - 1 - sd) l - e).toNat) else m * 2 ^ (e - max (e + bitsN m - 1 - sd) l).toNat)
theorem dv_lt_iff {x y : Int} (e : Int) : dv x e < dv y e ↔ x < y := by
  refine ⟨fun h => ?_, dv_lt e⟩
  rcases Int.lt_or_le x y with h1 | h1
  · exact h1
  · have := dv_le e h1; omega
theorem nat_pow_split {a b c : Nat} (h : a + b = c) : 2 ^ a * 2 ^ b = 2 ^ c := by rw [← Nat.pow_add, h]
theorem rnz_ok {l : Int} {sd : Nat} {Be : Int} {I m : Nat} {e : Int} (hI : (I : Int) = (Be - l - sd + 1) * ((2 ^ sd : Nat) : Int)) (hsd : 1 ≤ sd) (hBe : 0 < Be - l - sd) (hl : -4194303 ≤ l) (hm : m ≠ 0) (he : -4194304 ≤ e) :
    RNz (2 ^ sd) l I (dv m e) (rnz l sd Be I m e) := by
  obtain ⟨H, hH⟩ : ∃ H, H = 2 ^ sd := ⟨_, rfl⟩
  have hHp : 0 < H := by rw [hH]; exact Nat.pow_pos (by omega)
  have hH2 : H % 2 = 0 := by
    obtain ⟨k, rfl⟩ : ∃ k, sd = k + 1 := ⟨sd - 1, by omega⟩
    rw [hH, Nat.pow_succ]; omega
  obtain ⟨t, ht⟩ : ∃ t : Int, t = min e (l - 1) := ⟨_, rfl⟩
  have hB1 := bitsN_lt m
  have hB2 := bitsN_le m hm
  have hB0 : 1 ≤ bitsN m := by unfold bitsN; rw [if_neg hm]; omega
  obtain ⟨L, hL⟩ : ∃ L, L = bitsN m := ⟨_, rfl⟩
  obtain ⟨A, hA⟩ : ∃ A, A = m * 2 ^ (e - t).toNat := ⟨_, rfl⟩
  obtain ⟨K, hK⟩ : ∃ K, K = 2 ^ (l - 1 - t).toNat := ⟨_, rfl⟩
  have hKp : 0 < K := by rw [hK]; exact Nat.pow_pos (by omega)
  have eA : dv m e = dv (A : Int) t := by
    have := dv_shift (z := (m : Int)) (e := e) (f := t) (by omega) (by omega)
    rw [this, hA, Int.natCast_mul]
  have eM : ∀ z : Nat, dv (hv H z : Int) (l - 1) = dv ((hv H z * K : Nat) : Int) t := fun z => by
    have := dv_shift (z := (hv H z : Int)) (e := l - 1) (f := t) (by omega) (by omega)
    rw [this, hK, Int.natCast_mul]
  have key : ∀ Z : Nat, Z ≤ I → (∀ z, z < I → (A < hv H z * K → Z ≤ z) ∧ (hv H z * K < A → z < Z) ∧ (A = hv H z * K → (Z = z ∨ Z = z + 1) ∧ Z % 2 = 0)) → RNz H l I (dv m e) Z := fun Z h1 h2 =>
    ⟨h1, fun z hz h => (h2 z hz).1 (by rw [eA, eM, dv_lt_iff] at h; omega), fun z hz h => (h2 z hz).2.1 (by rw [eA, eM, dv_lt_iff] at h; omega), fun z hz h => (h2 z hz).2.2 (by
      rw [eA, eM] at h
      rcases Nat.lt_trichotomy A (hv H z * K) with h3 | h3 | h3
      · have := dv_lt t (Int.ofNat_lt.2 h3); omega
      · exact h3
      · have := dv_lt t (Int.ofNat_lt.2 h3); omega)⟩
  obtain ⟨N, hN⟩ : ∃ N : Nat, (N : Int) = Be - l - sd := ⟨(Be - l - sd).toNat, by omega⟩
  have hIN : I = (N + 1) * H := by
    rw [← hN, ← hH] at hI
    exact Int.ofNat.inj (by rw [Int.ofNat_eq_natCast, hI, Int.ofNat_eq_natCast, Int.natCast_mul]; rfl)
  rw [← hH]
  unfold rnz
  rw [← hL, ← hH]
  rw [← hL] at hB1 hB2 hB0
  by_cases htop : Be ≤ e + L - 1
  · rw [if_pos htop]
    refine key I (Nat.le_refl _) fun z hz => ?_
    have h1 : hv H z * K < A := by
      have h2 := hv_lt hHp z
      have h3 := vs_le hHp (show z + 1 ≤ I from hz)
      have h4 : vs H I = H * 2 ^ N := by
        unfold vs
        rw [hIN, Nat.mul_div_cancel _ hHp, Nat.add_sub_cancel, Nat.add_mul, Nat.one_mul, Nat.add_sub_cancel_left]
      have h5 : hv H z < 2 * (H * 2 ^ N) := by omega
      have h6 : hv H z * K < 2 * (H * 2 ^ N) * K := Nat.mul_lt_mul_of_pos_right h5 hKp
      have h7 : 2 * (H * 2 ^ N) * K = 2 ^ (Be - t).toNat := by
        rw [hH, hK, nat_pow_split (rfl : sd + N = sd + N), ← Nat.pow_succ', nat_pow_split rfl]
        congr 1
        omega
      have h8 : 2 ^ (Be - t).toNat ≤ A := by
        rw [hA]
        have h9 : 2 ^ (L - 1) * 2 ^ (e - t).toNat ≤ m * 2 ^ (e - t).toNat := Nat.mul_le_mul_right _ hB2
        rw [nat_pow_split rfl] at h9
        exact Nat.le_trans (Nat.pow_le_pow_right (by omega) (by omega)) h9
      omega
    exact ⟨fun h => by omega, fun _ => hz, fun h => by omega⟩
  · rw [if_neg htop]
    obtain ⟨u, hu⟩ : ∃ u : Int, u = max (e + L - 1 - sd) l := ⟨_, rfl⟩
    rw [← hu]
    obtain ⟨q, hq⟩ : ∃ q, q = (u - l).toNat := ⟨_, rfl⟩
    rw [← hq]
    obtain ⟨D, hD⟩ : ∃ D, D = 2 ^ (u - t).toNat := ⟨_, rfl⟩
    have hDp : 0 < D := by rw [hD]; exact Nat.pow_pos (by omega)
    have hDK : D = 2 * (2 ^ q * K) := by
      rw [hD, hK, nat_pow_split rfl, ← Nat.pow_succ']
      congr 1
      omega
    have hz0 : (if e < u then neN m (2 ^ (u - e).toNat) else m * 2 ^ (e - u).toNat) = neN A D := by
      by_cases heu : e < u
      · rw [if_pos heu, hA, hD, ← neN_mul m (2 ^ (u - e).toNat) (2 ^ (e - t).toNat) (Nat.pow_pos (by omega)), nat_pow_split (a := (u - e).toNat) rfl]
        congr 2
        omega
      · rw [if_neg heu, ← neN_ex (m * 2 ^ (e - u).toNat) D hDp, hA, hD, Nat.mul_assoc, nat_pow_split (a := (e - u).toNat) rfl]
        congr 3
        omega
    rw [hz0]
    obtain ⟨y, hy⟩ : ∃ y, y = A / D := ⟨_, rfl⟩
    obtain ⟨r, hr⟩ : ∃ r, r = A % D := ⟨_, rfl⟩
    have hAyr : D * y + r = A := by rw [hy, hr]; exact Nat.div_add_mod A D
    have hrD : r < D := by rw [hr]; exact Nat.mod_lt _ hDp
    have hAlt : A < 2 * H * D := by
      have h1 : A < 2 ^ L * 2 ^ (e - t).toNat := by rw [hA]; exact Nat.mul_lt_mul_of_pos_right hB1 (Nat.pow_pos (by omega))
      rw [nat_pow_split rfl] at h1
      refine Nat.lt_of_lt_of_le h1 ?_
      rw [hH, hD, ← Nat.pow_succ', nat_pow_split rfl]
      exact Nat.pow_le_pow_right (by omega) (by omega)
    have hy2 : y < 2 * H := by rw [hy]; exact Nat.div_lt_of_lt_mul (by rw [Nat.mul_comm]; exact hAlt)
    have hyH : q ≠ 0 → H ≤ y := by
      intro hq0
      rw [hy]
      refine (Nat.le_div_iff_mul_le hDp).2 ?_
      have h9 : 2 ^ (L - 1) * 2 ^ (e - t).toNat ≤ A := by rw [hA]; exact Nat.mul_le_mul_right _ hB2
      rw [nat_pow_split rfl] at h9
      refine Nat.le_trans ?_ h9
      rw [hH, hD, nat_pow_split rfl]
      exact Nat.pow_le_pow_right (by omega) (by omega)
    obtain ⟨zf, hzf⟩ : ∃ zf, zf = q * H + y := ⟨_, rfl⟩
    have hzq : zf / H - 1 = q := by
      have h1 : zf / H = q + y / H := by rw [hzf, Nat.mul_comm, Nat.mul_add_div hHp]
      rw [h1]
      have h3 : y / H < 2 := Nat.div_lt_of_lt_mul (by omega)
      by_cases hq0 : q = 0
      · omega
      · have h2 : 1 ≤ y / H := (Nat.le_div_iff_mul_le hHp).2 (by have := hyH hq0; omega)
        omega
    have hvz : vs H zf = y * 2 ^ q := by unfold vs; rw [hzq, hzf, Nat.add_sub_cancel_left]
    have hvn : vs H (zf + 1) = (y + 1) * 2 ^ q := by rw [vs_next hHp, hvz, hzq, Nat.add_mul, Nat.one_mul]
    have hqN : q < N := by omega
    have hzI : zf < I := by
      have h1 : (q + 2) * H ≤ (N + 1) * H := Nat.mul_le_mul_right _ (by omega)
      rw [Nat.add_mul] at h1
      omega
    have hDy : 2 * (y * 2 ^ q) * K = D * y := by
      rw [hDK, Nat.mul_comm y, Nat.mul_assoc, Nat.mul_assoc, Nat.mul_assoc, Nat.mul_assoc, Nat.mul_comm y K]
    have hDy1 : 2 * ((y + 1) * 2 ^ q) * K = D * y + D := by
      rw [hDK, Nat.mul_comm (y + 1), Nat.mul_assoc, Nat.mul_assoc, Nat.mul_comm (y + 1) K, ← Nat.mul_succ, Nat.mul_assoc, Nat.mul_assoc]
    have hmid : 2 * (hv H zf * K) = 2 * (D * y) + D := by
      have h1 : hv H zf = 2 * (y * 2 ^ q) + 2 ^ q := by unfold hv; rw [hvz, hzq]
      rw [h1, Nat.add_mul, hDy, Nat.mul_add, ← hDK]
    have hne : neN A D = y + (decide (D < 2 * r) || (decide (2 * r = D) && decide (y % 2 = 1))).toNat := by
      unfold neN neUp
      rw [← hy, ← hr]
    rw [hne]
    obtain ⟨b, hb⟩ : ∃ b, b = (decide (D < 2 * r) || (decide (2 * r = D) && decide (y % 2 = 1))).toNat := ⟨_, rfl⟩
    rw [← hb]
    have hb1 : b ≤ 1 := by rw [hb]; exact Bool.toNat_le _
    have hbl : 2 * r < D → b = 0 := fun h => by
      rw [hb, decide_eq_false (show ¬ D < 2 * r by omega), decide_eq_false (show ¬ 2 * r = D by omega)]; rfl
    have hbg : D < 2 * r → b = 1 := fun h => by rw [hb, decide_eq_true h]; rfl
    have hbe : 2 * r = D → b = y % 2 := fun h => by
      rw [hb, decide_eq_false (show ¬ D < 2 * r by omega), decide_eq_true h]
      rcases Nat.mod_two_eq_zero_or_one y with h1 | h1 <;> rw [h1] <;> rfl
    have hpar : (q * H + (y + b)) % 2 = (y + b) % 2 := by
      have : q * H % 2 = 0 := by rw [Nat.mul_mod, hH2]; simp
      omega
    refine key _ (by omega) fun z hz => ?_
    rcases Nat.lt_trichotomy z zf with h1 | h1 | h1
    · have h2 := hv_lt hHp z
      have h3 := vs_le hHp (show z + 1 ≤ zf from h1)
      have h4 : hv H z < 2 * (y * 2 ^ q) := by rw [← hvz]; omega
      have h5 : hv H z * K < 2 * (y * 2 ^ q) * K := Nat.mul_lt_mul_of_pos_right h4 hKp
      exact ⟨fun h => by omega, fun _ => by omega, fun h => by omega⟩
    · subst h1
      exact ⟨fun h => by have := hbl (by omega); omega, fun h => by have := hbg (by omega); omega, fun h => by have := hbe (by omega); omega⟩
    · have h2 := hv_gt H z
      have h3 := vs_le hHp (show zf + 1 ≤ z from h1)
      have h4 : 2 * ((y + 1) * 2 ^ q) < hv H z := by rw [← hvn]; omega
      have h5 : 2 * ((y + 1) * 2 ^ q) * K < hv H z * K := Nat.mul_lt_mul_of_pos_right h4 hKp
      exact ⟨fun _ => by omega, fun h => by omega, fun h => by omega⟩
theorem RNz.exact {H : Nat} {l : Int} {I Z : Nat} (hH : 0 < H) (hl : -4194303 ≤ l) (hZ : Z ≤ I) : RNz H l I (dv (vs H Z) l) Z := by
  have e1 : dv (vs H Z : Int) l = dv ((2 * vs H Z : Nat) : Int) (l - 1) := by
    have := dv_up (x := (vs H Z : Int)) (e := l - 1) 1 (by omega)
    rw [show l - 1 + ((1 : Nat) : Int) = l from by omega] at this
    rw [this, Nat.mul_comm, Int.natCast_mul]
  have low : ∀ z, z < Z → dv (hv H z : Int) (l - 1) < dv (vs H Z) l := fun z hz => by
    rw [e1]
    have h1 := hv_lt hH z
    have h2 := vs_le hH (show z + 1 ≤ Z from hz)
    exact dv_lt _ (by omega)
  have high : ∀ z, Z ≤ z → dv (vs H Z) l < dv (hv H z : Int) (l - 1) := fun z hz => by
    rw [e1]
    have h1 := hv_gt H z
    have h2 := vs_le hH hz
    exact dv_lt _ (by omega)
  refine ⟨hZ, fun z _ h => ?_, fun z _ h => ?_, fun z _ h => ?_⟩
  · refine Nat.le_of_not_lt fun h2 => ?_
    have := low z h2; omega
  · refine Nat.lt_of_not_le fun h2 => ?_
    have := high z h2; omega
  · rcases Nat.lt_or_ge z Z with h2 | h2
    · have := low z h2; omega
    · have := high z h2; omega
structure Jn (f p m l : Int) (S I H sd : Nat) (Be : Int) : Prop where
  jm : Jm f p m l S I H sd Be
  hI : (I : Int) = (Be - l - sd + 1) * ((2 ^ sd : Nat) : Int)
  hB : 0 < Be - l - sd
  hS : S % 2 = 0
  hB9 : Be - l - sd ≤ 2046
  cl : ∀ (b : Nat) w, b < 2 * S → Calls Tryz.prog 57 #[.int .i64 f, U b] w fun en w' => en = .returned (.tuple #[.int .i64 (clsN H I (b % S)), .int .i64 0]) ∧ Below w.heap.size w w'
theorem jn_32 : Jn 32 32 24 (-149) 2147483648 2139095040 8388608 23 128 := ⟨jm_32, by decide, by decide, by decide, by decide, fun b w hb => clsof_32 b hb w⟩
theorem jn_64 : Jn 64 64 53 (-1074) 9223372036854775808 9218868437227405312 4503599627370496 52 1024 := ⟨jm_64, by decide, by decide, by decide, by decide, fun b w hb => clsof_64 b hb w⟩
def rnp (l : Int) (sd : Nat) (Be : Int) (S I : Nat) (x e : Int) : Nat :=
  if x = 0 then 0 else if x < 0 then S + rnz l sd Be I x.natAbs e else rnz l sd Be I x.natAbs e
theorem RNz.nought {H : Nat} {l : Int} {I : Nat} (hH : 0 < H) (hl : -4194303 ≤ l) : RNz H l I 0 0 := by
  have := RNz.exact (H := H) (l := l) (I := I) (Z := 0) hH hl (Nat.zero_le _)
  rwa [vs_zero, show ((0 : Nat) : Int) = 0 from rfl, dv_zero] at this
theorem mid_dv {H : Nat} {l : Int} (z : Nat) (hl : -4194303 ≤ l) : dv ((2 * (z - (z / H - 1) * H) + 1 : Nat) : Int) (l + ((z / H - 1 : Nat) : Int) - 1) = dv (hv H z : Int) (l - 1) := by
  have h1 := dv_up (x := ((2 * (z - (z / H - 1) * H) + 1 : Nat) : Int)) (e := l - 1) (z / H - 1) (by omega)
  rw [show l - 1 + ((z / H - 1 : Nat) : Int) = l + ((z / H - 1 : Nat) : Int) - 1 from by omega] at h1
  rw [h1, ← Int.natCast_mul]
  congr 2
  unfold hv vs
  rw [Nat.add_mul, Nat.one_mul, Nat.mul_assoc]
theorem RNz.cell {H : Nat} {l : Int} {I : Nat} {A : Int} {Z : Nat} (h : RNz H l I A Z) (h0 : Z ≠ 0) (h1 : Z < I) :
    dv (hv H (Z - 1) : Int) (l - 1) ≤ A ∧ A ≤ dv (hv H Z : Int) (l - 1) ∧ (Z % 2 = 1 → dv (hv H (Z - 1) : Int) (l - 1) < A ∧ A < dv (hv H Z : Int) (l - 1)) := by
  have a1 : ¬ A < dv (hv H (Z - 1) : Int) (l - 1) := fun h2 => by have := h.lo _ (by omega) h2; omega
  have a2 : ¬ dv (hv H Z : Int) (l - 1) < A := fun h2 => by have := h.hi _ h1 h2; omega
  refine ⟨by omega, by omega, fun ho => ⟨?_, ?_⟩⟩
  · rcases Int.lt_or_eq_of_le (Int.not_lt.1 a1) with h2 | h2
    · exact h2
    · have := h.eq (Z - 1) (by omega) h2.symm; omega
  · rcases Int.lt_or_eq_of_le (Int.not_lt.1 a2) with h2 | h2
    · exact h2
    · have := h.eq Z h1 h2; omega
theorem RNz.none {H : Nat} {l : Int} {I : Nat} {A : Int} (h : RNz H l I A 0) (hI : 0 < I) : A ≤ dv (hv H 0 : Int) (l - 1) :=
  Int.not_lt.1 fun h2 => by have := h.hi 0 hI h2; omega
theorem RNz.all {H : Nat} {l : Int} {I : Nat} {A : Int} (h : RNz H l I A I) (hI : 0 < I) : dv (hv H (I - 1) : Int) (l - 1) ≤ A :=
  Int.not_lt.1 fun h2 => by have := h.lo (I - 1) (by omega) h2; omega
theorem rn_of {f p m l : Int} {S I H sd : Nat} {Be : Int} (J : Jn f p m l S I H sd Be) {n : Nat} {e : Int} (hn : n ≠ 0) (he : -4194304 ≤ e) : RNz H l I (dv n e) (rnz l sd Be I n e) := by
  have := rnz_ok J.hI J.jm.sl.1 J.hB (by have := J.jm.pm.lo; omega) hn he
  rwa [← J.jm.hs] at this
theorem rnp_is {f p m l : Int} {S I H sd : Nat} {Be : Int} (J : Jn f p m l S I H sd Be) (x e : Int) (he : -4194304 ≤ e) :
    ∃ Z, Z ≤ I ∧ RNz H l I (dv x.natAbs e) Z ∧ rnp l sd Be S I x e = (if x < 0 then S + Z else Z) ∧ rnp l sd Be S I x e < 2 * S ∧ rnp l sd Be S I x e % S = Z ∧ decide (S ≤ rnp l sd Be S I x e) = decide (x < 0) ∧ rnp l sd Be S I x e % 2 = Z % 2 := by
  have hlt := J.jm.pm.fm.lt
  have hS := J.hS
  by_cases h0 : x = 0
  · refine ⟨0, by omega, ?_, ?_⟩
    · rw [h0]
      have : dv ((0 : Int).natAbs : Int) e = 0 := dv_zero e
      rw [this]
      exact RNz.nought J.jm.pm.hp (by have := J.jm.pm.lo; omega)
    · unfold rnp
      rw [if_pos h0, if_neg (by omega)]
      exact ⟨rfl, by omega, Nat.zero_mod _, by rw [decide_eq_false (by omega), decide_eq_false (by omega)], rfl⟩
  · have hR := rn_of J (n := x.natAbs) (e := e) (by omega) he
    obtain ⟨Z, hZ⟩ : ∃ Z, Z = rnz l sd Be I x.natAbs e := ⟨_, rfl⟩
    rw [← hZ] at hR
    refine ⟨Z, hR.le, hR, ?_⟩
    unfold rnp
    rw [if_neg h0, ← hZ]
    have hle := hR.le
    by_cases hx : x < 0
    · rw [if_pos hx]
      refine ⟨rfl, by omega, ?_, ?_, by omega⟩
      · rw [Nat.add_mod_left, Nat.mod_eq_of_lt (by omega)]
      · rw [decide_eq_true hx, decide_eq_true (by omega)]
    · rw [if_neg hx]
      refine ⟨rfl, by omega, Nat.mod_eq_of_lt (by omega), ?_, rfl⟩
      rw [decide_eq_false hx, decide_eq_false (by omega)]
theorem dv_abs (x e : Int) : dv x e = if x < 0 then - dv (x.natAbs : Int) e else dv (x.natAbs : Int) e := by
  by_cases h : x < 0
  · rw [if_pos h, ← dv_neg, show -(x.natAbs : Int) = x from by omega]
  · rw [if_neg h, show (x.natAbs : Int) = x from by omega]
theorem pat_eq {S b : Nat} (hb : b < 2 * S) : b = (if S ≤ b then S else 0) + b % S ∧ b % S < S := by
  have hS : 0 < S := by omega
  by_cases h : S ≤ b
  · rw [if_pos h]
    have h1 := Nat.mod_eq_sub_mod h
    rw [Nat.mod_eq_of_lt (show b - S < S by omega)] at h1
    omega
  · rw [if_neg h, Nat.mod_eq_of_lt (by omega)]; omega
theorem rn_own {f p m l : Int} {S I H sd : Nat} {Be : Int} (J : Jn f p m l S I H sd Be) {b : Nat} {x e : Int} (hb : b < 2 * S) (h0 : b % S ≠ 0) (h1 : b % S < I) (he : -4194304 ≤ e) (hx : dv x e = dv (svS S H b) l) :
    rnp l sd Be S I x e = b := by
  obtain ⟨hbe, _⟩ := pat_eq hb
  obtain ⟨Z, _, hR, hw, _⟩ := rnp_is J x e he
  obtain ⟨z, hz⟩ : ∃ z, z = b % S := ⟨_, rfl⟩
  have hp := J.jm.pm.hp
  have hlo := J.jm.pm.lo
  have hE := RNz.exact (H := H) (l := l) (I := I) (Z := z) hp (by omega) (by omega)
  have hpos : 0 < dv (vs H z : Int) l := by
    have h2 := vs_mono hp (show 0 < z by omega)
    have := dv_lt (x := 0) (y := (vs H z : Int)) l (by omega)
    rwa [dv_zero] at this
  rw [svS_eq, ← hz] at hx
  rw [← hz] at hbe h0 h1
  rw [hw]
  by_cases hs : S ≤ b
  · rw [if_pos hs] at hbe hx
    rw [dv_neg] at hx
    have hneg : x < 0 := by rcases dv3 x e with ⟨h2, _⟩ | ⟨_, h2⟩ | ⟨_, h2⟩ <;> omega
    rw [dv_abs x e, if_pos hneg] at hx
    have : dv (x.natAbs : Int) e = dv (vs H z : Int) l := by omega
    rw [this] at hR
    have := hR.uniq hE
    rw [if_pos hneg]
    omega
  · rw [if_neg hs] at hbe hx
    have hneg : ¬ x < 0 := by rcases dv3 x e with ⟨_, h2⟩ | ⟨_, h2⟩ | ⟨h2, _⟩ <;> omega
    rw [dv_abs x e, if_neg hneg] at hx
    rw [hx] at hR
    have := hR.uniq hE
    rw [if_neg hneg]
    omega
structure Opd where
  k : Nat
  s : Bool
  x : Int
  e : Int
def onan : Opd := ⟨0, false, 0, 0⟩
def oinf (s : Bool) : Opd := ⟨1, s, 0, 0⟩
def ono (s : Bool) : Opd := ⟨2, s, 0, 0⟩
def ofin (x e : Int) : Opd := ⟨3, decide (x < 0), x, e⟩
def OpB (S I H : Nat) (l : Int) (b : Nat) (o : Opd) : Prop :=
  (I < b % S ∧ o = onan) ∨ (b % S = I ∧ o = oinf (decide (S ≤ b))) ∨ (b % S = 0 ∧ o = ono (decide (S ≤ b))) ∨ (b % S ≠ 0 ∧ b % S < I ∧ ∃ x e, VF S H l b x e ∧ x ≠ 0 ∧ o = ofin x e)
def patO (l : Int) (sd : Nat) (Be : Int) (S I Q : Nat) (o : Opd) : Nat :=
  if o.k = 0 then Q else if o.k = 1 then (if o.s then S + I else I) else if o.k = 2 then (if o.s then S else 0) else rnp l sd Be S I o.x o.e
theorem patO_nan (l : Int) (sd : Nat) (Be : Int) (S I Q : Nat) : patO l sd Be S I Q onan = Q := rfl
theorem patO_inf (l : Int) (sd : Nat) (Be : Int) (S I Q : Nat) (s : Bool) : patO l sd Be S I Q (oinf s) = if s then S + I else I := rfl
theorem patO_no (l : Int) (sd : Nat) (Be : Int) (S I Q : Nat) (s : Bool) : patO l sd Be S I Q (ono s) = if s then S else 0 := rfl
theorem patO_fin (l : Int) (sd : Nat) (Be : Int) (S I Q : Nat) (x e : Int) : patO l sd Be S I Q (ofin x e) = rnp l sd Be S I x e := rfl
def negO (o : Opd) : Opd := if o.k = 0 then onan else if o.k = 3 then ofin (-o.x) o.e else ⟨o.k, !o.s, 0, 0⟩
theorem negO_nan : negO onan = onan := rfl
theorem negO_inf (s : Bool) : negO (oinf s) = oinf (!s) := rfl
theorem negO_no (s : Bool) : negO (ono s) = ono (!s) := rfl
theorem negO_fin (x e : Int) : negO (ofin x e) = ofin (-x) e := rfl
def SumO (a b c : Opd) : Prop :=
  (a.k = 0 ∨ b.k = 0 ∨ (a.k = 1 ∧ b.k = 1 ∧ a.s ≠ b.s)) ∧ c = onan ∨
  (a.k = 1 ∧ (b.k = 2 ∨ b.k = 3 ∨ b.k = 1 ∧ a.s = b.s)) ∧ c = oinf a.s ∨
  ((a.k = 2 ∨ a.k = 3) ∧ b.k = 1) ∧ c = oinf b.s ∨
  (a.k = 2 ∧ b.k = 2) ∧ c = ono (a.s && b.s) ∨
  (a.k = 2 ∧ b.k = 3) ∧ c = ofin b.x b.e ∨
  (a.k = 3 ∧ b.k = 2) ∧ c = ofin a.x a.e ∨
  (a.k = 3 ∧ b.k = 3) ∧ (dv a.x a.e + dv b.x b.e = 0 ∧ c = ono false ∨ ∃ z g, DFm z g ∧ z ≠ 0 ∧ dv z g = dv a.x a.e + dv b.x b.e ∧ c = ofin z g)
def MulO (a b c : Opd) : Prop :=
  (a.k = 0 ∨ b.k = 0 ∨ (a.k = 1 ∧ b.k = 2) ∨ (a.k = 2 ∧ b.k = 1)) ∧ c = onan ∨
  ((a.k = 1 ∧ (b.k = 1 ∨ b.k = 3)) ∨ (a.k = 3 ∧ b.k = 1)) ∧ c = oinf (a.s != b.s) ∨
  ((a.k = 2 ∧ (b.k = 2 ∨ b.k = 3)) ∨ (a.k = 3 ∧ b.k = 2)) ∧ c = ono (a.s != b.s) ∨
  (a.k = 3 ∧ b.k = 3) ∧ ∃ z g, DFm z g ∧ z ≠ 0 ∧ dv z g = dv (a.x * b.x) (a.e + b.e) ∧ c = ofin z g
theorem SumO.uniq {a b c d : Opd} (h : SumO a b c) (h' : SumO a b d) : c = d := by
  rcases h with ⟨h1, h2⟩ | ⟨h1, h2⟩ | ⟨h1, h2⟩ | ⟨h1, h2⟩ | ⟨h1, h2⟩ | ⟨h1, h2⟩ | ⟨h1, h2⟩ <;> rcases h' with ⟨k1, k2⟩ | ⟨k1, k2⟩ | ⟨k1, k2⟩ | ⟨k1, k2⟩ | ⟨k1, k2⟩ | ⟨k1, k2⟩ | ⟨k1, k2⟩
  all_goals first
    | (rw [h2, k2]; done)
    | omega
    | (exfalso; rcases h1 with h | h | ⟨_, _, h⟩ <;> rcases k1 with ⟨k, k3 | k3 | ⟨k3, k4⟩⟩ <;> first | omega | exact h k4)
    | (exfalso; rcases k1 with h | h | ⟨_, _, h⟩ <;> rcases h1 with ⟨k, k3 | k3 | ⟨k3, k4⟩⟩ <;> first | omega | exact h k4)
    | (rcases h2 with ⟨a1, a2⟩ | ⟨z, g, a1, a2, a3, a4⟩ <;> rcases k2 with ⟨b1, b2⟩ | ⟨y, f, b1, b2, b3, b4⟩
       · rw [a2, b2]
       · rw [a1] at b3; exact absurd (dv_eq_zero b3) b2
       · rw [b1] at a3; exact absurd (dv_eq_zero a3) a2
       · obtain ⟨c1, c2⟩ := dv_inj a1 b1 (a3.trans b3.symm); rw [a4, b4, c1, c2])
theorem MulO.uniq {a b c d : Opd} (h : MulO a b c) (h' : MulO a b d) : c = d := by
  rcases h with ⟨h1, h2⟩ | ⟨h1, h2⟩ | ⟨h1, h2⟩ | ⟨h1, h2⟩ <;> rcases h' with ⟨k1, k2⟩ | ⟨k1, k2⟩ | ⟨k1, k2⟩ | ⟨k1, k2⟩
  all_goals first
    | (rw [h2, k2]; done)
    | omega
    | (obtain ⟨z, g, a1, _, a3, a4⟩ := h2
       obtain ⟨y, f, b1, _, b3, b4⟩ := k2
       obtain ⟨c1, c2⟩ := dv_inj a1 b1 (a3.trans b3.symm)
       rw [a4, b4, c1, c2])
theorem rnp_neg {f p m l : Int} {S I H sd : Nat} {Be : Int} (J : Jn f p m l S I H sd Be) {x e : Int} (hx : x ≠ 0) (he : -4194304 ≤ e) : rnp l sd Be S I (-x) e = xsS S (rnp l sd Be S I x e) := by
  obtain ⟨Z, h1, h2, h3, _⟩ := rnp_is J x e he
  obtain ⟨Y, k1, k2, k3, _⟩ := rnp_is J (-x) e he
  have hlt := J.jm.pm.fm.lt
  rw [Int.natAbs_neg] at k2
  have hZ := h2.uniq k2
  rw [h3, k3]
  unfold xsS
  by_cases a : x < 0
  · rw [if_pos a, if_neg (by omega), if_pos (by omega)]; omega
  · rw [if_neg a, if_pos (by omega), if_neg (by omega)]; omega
end Go.Proofs.YtmhkabomabkkfaaGreatDoor
