import Derived.Test.YtefbfapnclphlaaDoorAk0
import Derived.Test.YtefbfapnclphlaaDoorNf4
namespace Go.Proofs.YtefbfapnclphlaaDoor
open Go.RowKit Go.Shelf

set_option maxRecDepth 20000 in
set_option maxHeartbeats 4000000 in
theorem asks5 {pa pb : Option Addr} {na nb ca cb : Nat} {xa xb : List Nat} {w : World} (h : At w pa na ca xa) (k : At w pb nb cb xb) (hna : na ≤ 17592186044416) (hnb : nb ≤ 17592186044416) (nn : Int) (hnn : nn ≤ 9223372036854775807) (x : Nat) (hT : Tab w) :
    Calls Tryd.prog 24 #[.agg #[.int .i64 5, .slice pa na ca, .slice pb nb cb, .int .i64 nn, U x]] w fun e w' => e = .returned (.bool true) ∧ Below w.heap.size w w' := by
  have HA : Hid (At w pa na ca xa) := h
  have HB : Hid (At w pb nb cb xb) := k
  have HN : Hid (nn ≤ 9223372036854775807) := hnn
  have HNB : Hid (nb ≤ 17592186044416) := hnb
  obtain ⟨k0, hk0⟩ := TzO.ex (valB B64 xa)
  have HK : Hid (TzO (valB B64 xa) k0) := hk0
  clear hk0
  obtain ⟨rr, hrr⟩ : ∃ rr, rr = k0 := ⟨_, rfl⟩
  have HRR : Hid (rr = k0) := hrr
  have hff : ((rr : Int) == (rr : Int)) = true := by simp
  have HT : Hid (Tab w) := hT
  clear h k hT hnn hrr hnb
  go_enter Tryd.func24, Tryd.ntmps24
  go_wp2_with fail
  have X0 : B5 (w.alloc (.cells #[.int .i64 5, .slice pa na ca, .slice pb nb cb, .int .i64 nn, U x] 40)) w.heap.size (.int .i64 5) (.slice pa na ca) (.slice pb nb cb) (.int .i64 nn) (U x) := B5.new ..
  have hb0 : Below w.heap.size w (w.alloc (.cells #[.int .i64 5, .slice pa na ca, .slice pb nb cb, .int .i64 nn, U x] 40)) := below1 w _
  generalize w.alloc (.cells #[.int .i64 5, .slice pa na ca, .slice pb nb cb, .int .i64 nn, U x] 40) = W at *
  obtain ⟨g, hg⟩ : ∃ g, g = w.heap.size := ⟨_, rfl⟩
  rw [← hg] at X0 ⊢
  clear hg
  have XB : Hid (B5 W.drew g (.int .i64 5) (.slice pa na ca) (.slice pb nb cb) (.int .i64 nn) (U x)) := ⟨X0.c0, X0.c1, X0.c2, X0.c3, X0.c4, X0.f0, X0.f1, X0.f2, X0.f3, X0.f4⟩
  have HA0 : Hid (At W.drew pa na ca xa) := (HA.out.below hb0).drewN 1
  have HB0 : Hid (At W.drew pb nb cb xb) := (HB.out.below hb0).drewN 1
  have HT0 : Hid (Tab W.drew) := (HT.out.below hb0).drew
  have HBW : Hid (Below w.heap.size w W.drew) := bDrew2 hb0
  obtain ⟨c0, c1, c2, c3, c4, c5, c6, c7, c8, c9⟩ := X0
  clear hb0 HA HB HT
  (go_region_with (first
      | (go_at_call 31; (with_reducible refine (twin_at HA0.out hna).mono ?_); rintro e w1 ⟨p1, rfl, hA1, hb1⟩; have XB1 : Hid (B5 w1 g (.int .i64 5) (.slice pa na ca) (.slice pb nb cb) (.int .i64 nn) (U x)) := XB.out.below hb1; obtain ⟨d0, d1, d2, d3, d4, d5, d6, d7, d8, d9⟩ := XB1.out; have A1 : Hid (At w1 p1 na na xa) := hA1; have HA1 : Hid (At w1 pa na ca xa) := HA0.out.below hb1; have HB1 : Hid (At w1 pb nb cb xb) := HB0.out.below hb1; have HT1 : Hid (Tab w1) := HT0.out.below hb1; have HBW1 : Hid (Below w.heap.size w w1) := Below.on HBW.out hb1; clear hA1 hb1 XB HA0 HB0 HT0 HBW)
      | (go_at_call 6; (with_reducible refine (trail_any A1.out hna HK.out HT1.out).mono ?_); rintro e w' ⟨rfl, hw⟩; rw [← HRR.out]; obtain rfl := hw.symm; clear hw)
      | (go_at_call 34; (with_reducible refine (doctrail_any HA1.out hna HK.out).mono ?_); rintro e w2 ⟨rfl, hb2⟩; rw [← HRR.out]; have HBW2 : Hid (Below w.heap.size w w2) := Below.on HBW1.out hb2; clear hb2)))
  all_goals
    (go_wp2_with fail
     go_ret
     exact ⟨rfl, HBW2.out⟩)
set_option maxRecDepth 20000 in
set_option maxHeartbeats 4000000 in
theorem plays_5 {pa pb : Option Addr} {na nb ca cb : Nat} {xa xb : List Nat} {w : World} (h : At w pa na ca xa) (k : At w pb nb cb xb) (hna : na ≤ 17592186044416) (hnb : nb ≤ 17592186044416) (nn : Int) (hnn : nn ≤ 9223372036854775807) (x : Nat) (hT : Tab w) :
    Calls Tryd.prog 17 #[.agg #[.int .i64 5, .slice pa na ca, .slice pb nb cb, .int .i64 nn, U x]] w fun e w' => e = .returned (.bool true) ∧ Below w.heap.size w w' := by
  have HA : Hid (At w pa na ca xa) := h
  have HB : Hid (At w pb nb cb xb) := k
  have HT : Hid (Tab w) := hT
  have HN : Hid (nn ≤ 9223372036854775807) := hnn
  clear h k hT hnn
  go_enter Tryd.func17, Tryd.ntmps17
  go_wp2_with fail
  refine (asks5 (HA.out.alloc _) (HB.out.alloc _) hna hnb nn HN.out x (HT.out.below (below1 w _))).mono ?_
  rintro e w1 ⟨rfl, hb1⟩
  have hbw := Below.on (below1 w _) hb1
  clear hb1
  go_wp2_with fail
  go_ret
  exact ⟨rfl, hbw⟩

end Go.Proofs.YtefbfapnclphlaaDoor
