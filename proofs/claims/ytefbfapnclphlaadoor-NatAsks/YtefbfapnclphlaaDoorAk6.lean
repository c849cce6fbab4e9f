import Derived.Test.YtefbfapnclphlaaDoorAk0
import Derived.Test.YtefbfapnclphlaaDoorNf4
import Derived.Test.YtefbfapnclphlaaDoorRj0
namespace Go.Proofs.YtefbfapnclphlaaDoor
open Go.RowKit Go.Shelf

set_option maxRecDepth 20000 in
set_option maxHeartbeats 40000000 in
theorem asks6 {pa pb : Option Addr} {na nb ca cb : Nat} {xa xb : List Nat} {w : World} (h : At w pa na ca xa) (k : At w pb nb cb xb) (hna : na ≤ 17592186044416) (hnb : nb ≤ 17592186044416) (nn : Int) (hnn : nn ≤ 9223372036854775807) (x : Nat) (hT : Tab w) :
    Calls Tryd.prog 24 #[.agg #[.int .i64 6, .slice pa na ca, .slice pb nb cb, .int .i64 nn, U x]] w fun e w' => e = .returned (.bool true) ∧ Below w.heap.size w w' := by
  have HA : Hid (At w pa na ca xa) := h
  have HB : Hid (At w pb nb cb xb) := k
  have HN : Hid (nn ≤ 9223372036854775807) := hnn
  have HNB : Hid (nb ≤ 17592186044416) := hnb
  obtain ⟨rr, hrr⟩ : ∃ rr, rr = (bitO (valB B64 xa) nn) := ⟨_, rfl⟩
  have HRR : Hid (rr = (bitO (valB B64 xa) nn)) := hrr
  have hff : (rr == rr) = true := by simp
  have HT : Hid (Tab w) := hT
  clear h k hT hnn hrr hnb
  go_enter Tryd.func24, Tryd.ntmps24
  go_wp2_with fail
  have X0 : B5 (w.alloc (.cells #[.int .i64 6, .slice pa na ca, .slice pb nb cb, .int .i64 nn, U x] 40)) w.heap.size (.int .i64 6) (.slice pa na ca) (.slice pb nb cb) (.int .i64 nn) (U x) := B5.new ..
  have hb0 : Below w.heap.size w (w.alloc (.cells #[.int .i64 6, .slice pa na ca, .slice pb nb cb, .int .i64 nn, U x] 40)) := below1 w _
  generalize w.alloc (.cells #[.int .i64 6, .slice pa na ca, .slice pb nb cb, .int .i64 nn, U x] 40) = W at *
  obtain ⟨g, hg⟩ : ∃ g, g = w.heap.size := ⟨_, rfl⟩
  rw [← hg] at X0 ⊢
  clear hg
  have XB : Hid (B5 W.drew g (.int .i64 6) (.slice pa na ca) (.slice pb nb cb) (.int .i64 nn) (U x)) := ⟨X0.c0, X0.c1, X0.c2, X0.c3, X0.c4, X0.f0, X0.f1, X0.f2, X0.f3, X0.f4⟩
  have HA0 : Hid (At W.drew pa na ca xa) := (HA.out.below hb0).drewN 1
  have HB0 : Hid (At W.drew pb nb cb xb) := (HB.out.below hb0).drewN 1
  have HT0 : Hid (Tab W.drew) := (HT.out.below hb0).drew
  have HBW : Hid (Below w.heap.size w W.drew) := bDrew2 hb0
  obtain ⟨c0, c1, c2, c3, c4, c5, c6, c7, c8, c9⟩ := X0
  clear hb0 HA HB HT c5 c6 c7 c8 c9 c0 c4 c2
  have HG : Hid (g < W.drew.heap.size) := World.block_lt_of_cell? _ _ XB.out.c0
  have HJ : Hid ((fun W' : World => W'.cell? ⟨g, 1, none⟩ = some (.slice pa na ca) ∧ W'.cell? ⟨g, 3, none⟩ = some (.int .i64 nn)) W.drew) := ⟨XB.out.c1, XB.out.c3⟩
  clear c1 c3
  refine wp_region_J (fun W' => W'.cell? ⟨g, 1, none⟩ = some (.slice pa na ca) ∧ W'.cell? ⟨g, 3, none⟩ = some (.int .i64 nn)) (by kernel_rfl) ?_
  refine wpJ_take (i := 0) (v := ?v0) rfl (by kernel_rfl) (by kernel_rfl) (by kernel_rfl) (fun _ _ _ h => h) (by rfl) ?hy0 HJ.out ?rest0
  case hy0 => (intro W' hJ; obtain ⟨j1, j3⟩ := hJ; go_simp; first | done | with_reducible rfl)
  refine wpJ_take (i := 1) (v := ?v1) rfl (by kernel_rfl) (by kernel_rfl) (by kernel_rfl) (fun _ _ _ h => h) (by rfl) ?hy1 HJ.out ?rest1
  case hy1 => (intro W' hJ; obtain ⟨j1, j3⟩ := hJ; go_simp; first | done | with_reducible rfl)
  refine wpJ_take (i := 3) (v := ?v3) rfl (by kernel_rfl) (by kernel_rfl) (by kernel_rfl) (fun _ _ _ h => h) (by rfl) ?hy3 HJ.out ?rest3
  case hy3 => (intro W' hJ; obtain ⟨j1, j3⟩ := hJ; go_simp; first | done | with_reducible rfl)
  refine wpJ_take (i := 4) (v := ?v4) rfl (by kernel_rfl) (by kernel_rfl) (by kernel_rfl) (fun _ _ _ h => h) (by rfl) ?hy4 HJ.out ?rest4
  case hy4 => (intro W' hJ; obtain ⟨j1, j3⟩ := hJ; go_simp; first | done | with_reducible rfl)
  refine wpJ_take (i := 6) (v := ?v6) rfl (by kernel_rfl) (by kernel_rfl) (by kernel_rfl) (fun _ _ _ h => h) (by rfl) ?hy6 HJ.out ?rest6
  case hy6 => (intro W' hJ; obtain ⟨j1, j3⟩ := hJ; go_simp; first | done | with_reducible rfl)
  refine wpJ_take (i := 7) (v := ?v7) rfl (by kernel_rfl) (by kernel_rfl) (by kernel_rfl) (fun _ _ _ h => h) (by rfl) ?hy7 HJ.out ?rest7
  case hy7 => (intro W' hJ; obtain ⟨j1, j3⟩ := hJ; go_simp; first | done | with_reducible rfl)
  refine wpJ_take (i := 8) (v := ?v8) rfl (by kernel_rfl) (by kernel_rfl) (by kernel_rfl) (fun _ _ _ h => h) (by rfl) ?hy8 HJ.out ?rest8
  case hy8 => (intro W' hJ; obtain ⟨j1, j3⟩ := hJ; go_simp; first | done | with_reducible rfl)
  refine wpJ_take (i := 9) (v := ?v9) rfl (by kernel_rfl) (by kernel_rfl) (by kernel_rfl) (fun _ _ _ h => h) (by rfl) ?hy9 HJ.out ?rest9
  case hy9 => (intro W' hJ; obtain ⟨j1, j3⟩ := hJ; go_simp; first | done | with_reducible rfl)
  refine wpJ_one (i := 2) (by kernel_rfl) rfl (by rfl) (fun K hK => ?_)
  go_simp
  refine (twin_at HA0.out hna).mono ?_
  rintro e w1 ⟨p1, rfl, hA1, hb1⟩
  have XB1 := XB.out.below hb1
  have A1 : Hid (At w1 p1 na na xa) := hA1
  have HA1 : Hid (At w1 pa na ca xa) := HA0.out.below hb1
  have HBW1 : Hid (Below w.heap.size w w1) := Below.on HBW.out hb1
  refine hK _ _ ⟨XB1.c1, XB1.c3⟩ ?_
  clear hK hA1 hb1 XB HA0 HB0 HT0 HBW HJ
  refine wpJ_one (i := 5) (by kernel_rfl) rfl (by rfl) (fun K hK => ?_)
  go_simp
  refine (bit_int A1.out hna nn HN.out).mono ?_
  rintro e w' ⟨rfl, hw⟩
  rw [← HRR.out]
  obtain rfl := hw.symm
  clear hw
  refine hK _ _ ⟨XB1.c1, XB1.c3⟩ ?_
  clear hK
  refine wpJ_one (i := 10) (by kernel_rfl) rfl (by rfl) (fun K hK => ?_)
  go_simp
  refine (docbit_any HA1.out hna nn HN.out).mono ?_
  rintro e w2 ⟨rfl, hb2⟩
  rw [← HRR.out]
  have XB2 := XB1.below hb2
  have HBW2 : Hid (Below w.heap.size w w2) := Below.on HBW1.out hb2
  have HJ2 : Hid ((fun W' : World => W'.cell? ⟨g, 1, none⟩ = some (.slice pa na ca) ∧ W'.cell? ⟨g, 3, none⟩ = some (.int .i64 nn)) w2) := ⟨XB2.c1, XB2.c3⟩
  refine hK _ _ HJ2.out ?_
  clear hK XB1 XB2 hb2
  refine wpJ_take (i := 11) (v := ?v11) rfl (by kernel_rfl) (by kernel_rfl) (by kernel_rfl) (fun _ _ _ h => h) (by rfl) ?hy11 HJ2.out ?rest11
  case hy11 => (intro W' hJ; obtain ⟨j1, j3⟩ := hJ; go_simp; first | done | with_reducible rfl)
  refine wpJ_take (i := 12) (v := ?v12) rfl (by kernel_rfl) (by kernel_rfl) (by kernel_rfl) (fun _ _ _ h => h) (by rfl) ?hy12 HJ2.out ?rest12
  case hy12 => (intro W' hJ; obtain ⟨j1, j3⟩ := hJ; go_simp; first | done | with_reducible rfl)
  refine wpJ_done (by kernel_rfl) ?_ _
  go_wp2_with fail
  go_ret
  exact ⟨rfl, HBW2.out⟩
set_option maxRecDepth 20000 in
set_option maxHeartbeats 4000000 in
theorem plays_6 {pa pb : Option Addr} {na nb ca cb : Nat} {xa xb : List Nat} {w : World} (h : At w pa na ca xa) (k : At w pb nb cb xb) (hna : na ≤ 17592186044416) (hnb : nb ≤ 17592186044416) (nn : Int) (hnn : nn ≤ 9223372036854775807) (x : Nat) (hT : Tab w) :
    Calls Tryd.prog 17 #[.agg #[.int .i64 6, .slice pa na ca, .slice pb nb cb, .int .i64 nn, U x]] w fun e w' => e = .returned (.bool true) ∧ Below w.heap.size w w' := by
  have HA : Hid (At w pa na ca xa) := h
  have HB : Hid (At w pb nb cb xb) := k
  have HT : Hid (Tab w) := hT
  have HN : Hid (nn ≤ 9223372036854775807) := hnn
  clear h k hT hnn
  go_enter Tryd.func17, Tryd.ntmps17
  go_wp2_with fail
  refine (asks6 (HA.out.alloc _) (HB.out.alloc _) hna hnb nn HN.out x (HT.out.below (below1 w _))).mono ?_
  rintro e w1 ⟨rfl, hb1⟩
  have hbw := Below.on (below1 w _) hb1
  clear hb1
  go_wp2_with fail
  go_ret
  exact ⟨rfl, hbw⟩

end Go.Proofs.YtefbfapnclphlaaDoor
