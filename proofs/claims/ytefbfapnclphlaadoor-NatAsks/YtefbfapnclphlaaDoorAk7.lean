import Derived.Test.YtefbfapnclphlaaDoorAk0
import Derived.Test.YtefbfapnclphlaaDoorNf4
import Derived.Test.YtefbfapnclphlaaDoorRj0
namespace Go.Proofs.YtefbfapnclphlaaDoor
open Go.RowKit Go.Shelf

set_option maxRecDepth 20000 in
set_option maxHeartbeats 40000000 in
theorem asks7 {pa pb : Option Addr} {na nb ca cb : Nat} {xa xb : List Nat} {w : World} (h : At w pa na ca xa) (k : At w pb nb cb xb) (hna : na ≤ 17592186044416) (hnb : nb ≤ 17592186044416) (nn : Int) (hnn : nn ≤ 9223372036854775807) (x : Nat) (hT : Tab w) :
    Calls Tryd.prog 24 #[.agg #[.int .i64 7, .slice pa na ca, .slice pb nb cb, .int .i64 nn, U x]] w fun e w' => e = .returned (.bool true) ∧ Below w.heap.size w w' := by
  have HA : Hid (At w pa na ca xa) := h
  have HB : Hid (At w pb nb cb xb) := k
  have HN : Hid (nn ≤ 9223372036854775807) := hnn
  have HNB : Hid (nb ≤ 17592186044416) := hnb
  obtain ⟨rr, hrr⟩ : ∃ rr, rr = (cmpN (valB B64 xa) (valB B64 xb)) := ⟨_, rfl⟩
  have HRR : Hid (rr = (cmpN (valB B64 xa) (valB B64 xb))) := hrr
  have hff : (rr == rr) = true := by simp
  have HT : Hid (Tab w) := hT
  clear h k hT hnn hrr
  go_enter Tryd.func24, Tryd.ntmps24
  go_wp2_with fail
  have X0 : B5 (w.alloc (.cells #[.int .i64 7, .slice pa na ca, .slice pb nb cb, .int .i64 nn, U x] 40)) w.heap.size (.int .i64 7) (.slice pa na ca) (.slice pb nb cb) (.int .i64 nn) (U x) := B5.new ..
  have hb0 : Below w.heap.size w (w.alloc (.cells #[.int .i64 7, .slice pa na ca, .slice pb nb cb, .int .i64 nn, U x] 40)) := below1 w _
  generalize w.alloc (.cells #[.int .i64 7, .slice pa na ca, .slice pb nb cb, .int .i64 nn, U x] 40) = W at *
  obtain ⟨g, hg⟩ : ∃ g, g = w.heap.size := ⟨_, rfl⟩
  rw [← hg] at X0 ⊢
  clear hg
  have XB : Hid (B5 W.drew g (.int .i64 7) (.slice pa na ca) (.slice pb nb cb) (.int .i64 nn) (U x)) := ⟨X0.c0, X0.c1, X0.c2, X0.c3, X0.c4, X0.f0, X0.f1, X0.f2, X0.f3, X0.f4⟩
  have HA0 : Hid (At W.drew pa na ca xa) := (HA.out.below hb0).drewN 1
  have HB0 : Hid (At W.drew pb nb cb xb) := (HB.out.below hb0).drewN 1
  have HT0 : Hid (Tab W.drew) := (HT.out.below hb0).drew
  have HBW : Hid (Below w.heap.size w W.drew) := bDrew2 hb0
  obtain ⟨c0, c1, c2, c3, c4, c5, c6, c7, c8, c9⟩ := X0
  clear hb0 HA HB HT c5 c6 c7 c8 c9 c0 c4 c3
  have HJ : Hid ((fun W' : World => W'.cell? ⟨g, 1, none⟩ = some (.slice pa na ca) ∧ W'.cell? ⟨g, 2, none⟩ = some (.slice pb nb cb)) W.drew) := ⟨XB.out.c1, XB.out.c2⟩
  clear c1 c2
  refine wp_region_J (fun W' => W'.cell? ⟨g, 1, none⟩ = some (.slice pa na ca) ∧ W'.cell? ⟨g, 2, none⟩ = some (.slice pb nb cb)) (by kernel_rfl) ?_
  refine wpJ_take (i := 0) (v := ?v0) rfl (by kernel_rfl) (by kernel_rfl) (by kernel_rfl) (fun _ _ _ h => h) (by rfl) ?hy0 HJ.out ?rest0
  case hy0 => (intro W' hJ; obtain ⟨j1, j2⟩ := hJ; go_simp; first | done | with_reducible rfl)
  refine wpJ_take (i := 1) (v := ?v1) rfl (by kernel_rfl) (by kernel_rfl) (by kernel_rfl) (fun _ _ _ h => h) (by rfl) ?hy1 HJ.out ?rest1
  case hy1 => (intro W' hJ; obtain ⟨j1, j2⟩ := hJ; go_simp; first | done | with_reducible rfl)
  refine wpJ_take (i := 3) (v := ?v3) rfl (by kernel_rfl) (by kernel_rfl) (by kernel_rfl) (fun _ _ _ h => h) (by rfl) ?hy3 HJ.out ?rest3
  case hy3 => (intro W' hJ; obtain ⟨j1, j2⟩ := hJ; go_simp; first | done | with_reducible rfl)
  refine wpJ_take (i := 4) (v := ?v4) rfl (by kernel_rfl) (by kernel_rfl) (by kernel_rfl) (fun _ _ _ h => h) (by rfl) ?hy4 HJ.out ?rest4
  case hy4 => (intro W' hJ; obtain ⟨j1, j2⟩ := hJ; go_simp; first | done | with_reducible rfl)
  refine wpJ_take (i := 7) (v := ?v7) rfl (by kernel_rfl) (by kernel_rfl) (by kernel_rfl) (fun _ _ _ h => h) (by rfl) ?hy7 HJ.out ?rest7
  case hy7 => (intro W' hJ; obtain ⟨j1, j2⟩ := hJ; go_simp; first | done | with_reducible rfl)
  refine wpJ_take (i := 8) (v := ?v8) rfl (by kernel_rfl) (by kernel_rfl) (by kernel_rfl) (fun _ _ _ h => h) (by rfl) ?hy8 HJ.out ?rest8
  case hy8 => (intro W' hJ; obtain ⟨j1, j2⟩ := hJ; go_simp; first | done | with_reducible rfl)
  refine wpJ_take (i := 9) (v := ?v9) rfl (by kernel_rfl) (by kernel_rfl) (by kernel_rfl) (fun _ _ _ h => h) (by rfl) ?hy9 HJ.out ?rest9
  case hy9 => (intro W' hJ; obtain ⟨j1, j2⟩ := hJ; go_simp; first | done | with_reducible rfl)
  refine wpJ_take (i := 10) (v := ?v10) rfl (by kernel_rfl) (by kernel_rfl) (by kernel_rfl) (fun _ _ _ h => h) (by rfl) ?hy10 HJ.out ?rest10
  case hy10 => (intro W' hJ; obtain ⟨j1, j2⟩ := hJ; go_simp; first | done | with_reducible rfl)
  refine wpJ_one (i := 2) (by kernel_rfl) rfl (by rfl) (fun K hK => ?_)
  go_simp
  refine (twin_at HA0.out hna).mono ?_
  rintro e w1 ⟨p1, rfl, hA1, hb1⟩
  have XB1 := XB.out.below hb1
  have A1 : Hid (At w1 p1 na na xa) := hA1
  have HA1 : Hid (At w1 pa na ca xa) := HA0.out.below hb1
  have HB1 : Hid (At w1 pb nb cb xb) := HB0.out.below hb1
  have HBW1 : Hid (Below w.heap.size w w1) := Below.on HBW.out hb1
  refine hK _ _ ⟨XB1.c1, XB1.c2⟩ ?_
  clear hK hA1 hb1 XB HA0 HB0 HT0 HBW HJ
  refine wpJ_one (i := 5) (by kernel_rfl) rfl (by rfl) (fun K hK => ?_)
  go_simp
  refine (twin_at HB1.out hnb).mono ?_
  rintro e w2 ⟨p2, rfl, hA2, hb2⟩
  have XB2 := XB1.below hb2
  have A1' : Hid (At w2 p1 na na xa) := A1.out.below hb2
  have A2 : Hid (At w2 p2 nb nb xb) := hA2
  have HA2 : Hid (At w2 pa na ca xa) := HA1.out.below hb2
  have HB2 : Hid (At w2 pb nb cb xb) := HB1.out.below hb2
  have HBW2 : Hid (Below w.heap.size w w2) := Below.on HBW1.out hb2
  refine hK _ _ ⟨XB2.c1, XB2.c2⟩ ?_
  clear hK hA2 hb2 A1 HA1 HB1 HBW1 XB1
  refine wpJ_one (i := 6) (by kernel_rfl) rfl (by rfl) (fun K hK => ?_)
  go_simp
  refine (cmp_w A1'.out A2.out).mono ?_
  rintro e w3 ⟨rfl, hb3⟩
  rw [← HRR.out]
  have XB3 := XB2.below hb3
  have HA3 : Hid (At w3 pa na ca xa) := HA2.out.below hb3
  have HB3 : Hid (At w3 pb nb cb xb) := HB2.out.below hb3
  have HBW3 : Hid (Below w.heap.size w w3) := Below.on HBW2.out hb3
  refine hK _ _ ⟨XB3.c1, XB3.c2⟩ ?_
  clear hK hb3 A1' A2 HA2 HB2 HBW2 XB2
  refine wpJ_one (i := 11) (by kernel_rfl) rfl (by rfl) (fun K hK => ?_)
  go_simp
  refine (doccmp_any HA3.out hna HB3.out hnb).mono ?_
  rintro e w4 ⟨rfl, hb4⟩
  rw [← HRR.out]
  have XB4 := XB3.below hb4
  have HBW4 : Hid (Below w.heap.size w w4) := Below.on HBW3.out hb4
  have HJ4 : Hid ((fun W' : World => W'.cell? ⟨g, 1, none⟩ = some (.slice pa na ca) ∧ W'.cell? ⟨g, 2, none⟩ = some (.slice pb nb cb)) w4) := ⟨XB4.c1, XB4.c2⟩
  refine hK _ _ HJ4.out ?_
  clear hK XB3 XB4 hb4
  refine wpJ_take (i := 12) (v := ?v12) rfl (by kernel_rfl) (by kernel_rfl) (by kernel_rfl) (fun _ _ _ h => h) (by rfl) ?hy12 HJ4.out ?rest12
  case hy12 => (intro W' hJ; obtain ⟨j1, j2⟩ := hJ; go_simp; first | done | with_reducible rfl)
  refine wpJ_take (i := 13) (v := ?v13) rfl (by kernel_rfl) (by kernel_rfl) (by kernel_rfl) (fun _ _ _ h => h) (by rfl) ?hy13 HJ4.out ?rest13
  case hy13 => (intro W' hJ; obtain ⟨j1, j2⟩ := hJ; go_simp; first | done | with_reducible rfl)
  refine wpJ_done (by kernel_rfl) ?_ _
  go_wp2_with fail
  go_ret
  exact ⟨rfl, HBW4.out⟩
set_option maxRecDepth 20000 in
set_option maxHeartbeats 4000000 in
theorem plays_7 {pa pb : Option Addr} {na nb ca cb : Nat} {xa xb : List Nat} {w : World} (h : At w pa na ca xa) (k : At w pb nb cb xb) (hna : na ≤ 17592186044416) (hnb : nb ≤ 17592186044416) (nn : Int) (hnn : nn ≤ 9223372036854775807) (x : Nat) (hT : Tab w) :
    Calls Tryd.prog 17 #[.agg #[.int .i64 7, .slice pa na ca, .slice pb nb cb, .int .i64 nn, U x]] w fun e w' => e = .returned (.bool true) ∧ Below w.heap.size w w' := by
  have HA : Hid (At w pa na ca xa) := h
  have HB : Hid (At w pb nb cb xb) := k
  have HT : Hid (Tab w) := hT
  have HN : Hid (nn ≤ 9223372036854775807) := hnn
  clear h k hT hnn
  go_enter Tryd.func17, Tryd.ntmps17
  go_wp2_with fail
  refine (asks7 (HA.out.alloc _) (HB.out.alloc _) hna hnb nn HN.out x (HT.out.below (below1 w _))).mono ?_
  rintro e w1 ⟨rfl, hb1⟩
  have hbw := Below.on (below1 w _) hb1
  clear hb1
  go_wp2_with fail
  go_ret
  exact ⟨rfl, hbw⟩

end Go.Proofs.YtefbfapnclphlaaDoor
