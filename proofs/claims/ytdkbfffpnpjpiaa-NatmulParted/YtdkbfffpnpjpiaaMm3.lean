import Derived.Test.YtdkbfffpnpjpiaaMm2
import Derived.Deep.RegionWith
import Derived.Deep.DeepCutAuto
namespace Go.Proofs.Ytdkbfffpnpjpiaa
open Go.RowKit Go.Shelf

/-- A struct of five cells where it lies in memory. -/
structure B5 (W : World) (g : Nat) (v0 v1 v2 v3 v4 : Value) : Prop where
  c0 : W.cell? ⟨g, 0, none⟩ = some v0
  c1 : W.cell? ⟨g, 1, none⟩ = some v1
  c2 : W.cell? ⟨g, 2, none⟩ = some v2
  c3 : W.cell? ⟨g, 3, none⟩ = some v3
  c4 : W.cell? ⟨g, 4, none⟩ = some v4
theorem B5.below {W W' : World} {g : Nat} {v0 v1 v2 v3 v4 : Value} (h : B5 W g v0 v1 v2 v3 v4) (hb : Below W.heap.size W W') : B5 W' g v0 v1 v2 v3 v4 := by
  have hl : g < W.heap.size := World.block_lt_of_cell? W _ h.c0
  exact ⟨(hb.cell (p := ⟨g, 0, none⟩) hl).trans h.c0, (hb.cell (p := ⟨g, 1, none⟩) hl).trans h.c1, (hb.cell (p := ⟨g, 2, none⟩) hl).trans h.c2, (hb.cell (p := ⟨g, 3, none⟩) hl).trans h.c3, (hb.cell (p := ⟨g, 4, none⟩) hl).trans h.c4⟩
theorem B5.new (w : World) (ty : TypeId) (v0 v1 v2 v3 v4 : Value) : B5 (w.alloc (.cells #[v0, v1, v2, v3, v4] ty)) w.heap.size v0 v1 v2 v3 v4 :=
  ⟨World.cell?_alloc_new .., World.cell?_alloc_new .., World.cell?_alloc_new .., World.cell?_alloc_new .., World.cell?_alloc_new ..⟩
theorem bDrew2 {B : Nat} {a w : World} (h : Below B a w) : Below B a w.drew := ⟨h.os, h.tape, h.output, h.size, h.block⟩

set_option maxRecDepth 20000 in
set_option maxHeartbeats 4000000 in
theorem plays1 {pa pb pl : Option Addr} {na nb nl ca cb cl : Nat} {xa xb : List Nat} {w : World} (h : At w pa na ca xa) (k : At w pb nb cb xb) (hna : na ≤ 17592186044416) (hnb : nb ≤ 17592186044416) (nn : Int) :
    Calls Try.prog 19 #[.agg #[.int .i64 1, .slice pa na ca, .slice pb nb cb, .int .i64 nn, .slice pl nl cl]] w fun e w' => e = .returned (.bool true) ∧ Below w.heap.size w w' := by
  have HA : Hid (At w pa na ca xa) := h
  have HB : Hid (At w pb nb cb xb) := k
  clear h k
  go_enter Try.func19, Try.ntmps19
  go_wp2_with fail
  have X0 : B5 (w.alloc (.cells #[.int .i64 1, .slice pa na ca, .slice pb nb cb, .int .i64 nn, .slice pl nl cl] 43)) w.heap.size (.int .i64 1) (.slice pa na ca) (.slice pb nb cb) (.int .i64 nn) (.slice pl nl cl) := B5.new ..
  have hb0 : Below w.heap.size w (w.alloc (.cells #[.int .i64 1, .slice pa na ca, .slice pb nb cb, .int .i64 nn, .slice pl nl cl] 43)) := below1 w _
  generalize w.alloc (.cells #[.int .i64 1, .slice pa na ca, .slice pb nb cb, .int .i64 nn, .slice pl nl cl] 43) = W at *
  obtain ⟨g, hg⟩ : ∃ g, g = w.heap.size := ⟨_, rfl⟩
  rw [← hg] at X0 ⊢
  clear hg
  have XB : Hid (B5 W.drew g (.int .i64 1) (.slice pa na ca) (.slice pb nb cb) (.int .i64 nn) (.slice pl nl cl)) := ⟨X0.c0, X0.c1, X0.c2, X0.c3, X0.c4⟩
  have HA0 : Hid (At W.drew pa na ca xa) := (HA.out.below hb0).drewN 1
  have HB0 : Hid (At W.drew pb nb cb xb) := (HB.out.below hb0).drewN 1
  have HBW : Hid (Below w.heap.size w W.drew) := bDrew2 hb0
  obtain ⟨c0, c1, c2, c3, c4⟩ := X0
  clear hb0 HA HB
  go_cut [3, 4] (fun s3 s4 wx => ∃ p1 p2, s3 = Value.slice p1 na na ∧ s4 = Value.slice p2 nb nb ∧ At wx p1 na na xa ∧ At wx p2 nb nb xb ∧ At wx pa na ca xa ∧ At wx pb nb cb xb ∧ B5 wx g (.int .i64 1) (.slice pa na ca) (.slice pb nb cb) (.int .i64 nn) (.slice pl nl cl) ∧ Below w.heap.size w wx)
  case first =>
    (go_region_with (first
      | (go_at_call 29; (with_reducible refine (twin_at HA0.out hna).mono ?_); rintro e w1 ⟨p1, rfl, hA1, hb1⟩; obtain ⟨d0, d1, d2, d3, d4⟩ := XB.out.below hb1; have A1 : Hid (At w1 p1 na na xa) := hA1; have HA1 : Hid (At w1 pa na ca xa) := HA0.out.below hb1; have HB1 : Hid (At w1 pb nb cb xb) := HB0.out.below hb1; have XB1 : Hid (B5 w1 g (.int .i64 1) (.slice pa na ca) (.slice pb nb cb) (.int .i64 nn) (.slice pl nl cl)) := XB.out.below hb1; have HBW1 : Hid (Below w.heap.size w w1) := Below.on HBW.out hb1; clear hA1 hb1)
      | (go_at_call 29; (with_reducible refine (twin_at HB1.out hnb).mono ?_); rintro e w2 ⟨p2, rfl, hA2, hb2⟩; have RR : Hid (At w2 p1 na na xa ∧ At w2 p2 nb nb xb ∧ At w2 pa na ca xa ∧ At w2 pb nb cb xb ∧ B5 w2 g (.int .i64 1) (.slice pa na ca) (.slice pb nb cb) (.int .i64 nn) (.slice pl nl cl) ∧ Below w.heap.size w w2) := ⟨A1.out.below hb2, hA2, HA1.out.below hb2, HB1.out.below hb2, XB1.out.below hb2, Below.on HBW1.out hb2⟩; clear hA2 hb2)))
    all_goals
      (go_wp2_with fail
       go_meet
       exact ⟨p1, p2, rfl, rfl, RR.out⟩)
  case rest =>
    obtain ⟨p1, p2, rfl, rfl, a1, a2, ha, hb, X, hbw⟩ := hcut
    have A1 : Hid (At wc p1 na na xa) := a1
    have A2 : Hid (At wc p2 nb nb xb) := a2
    have HA : Hid (At wc pa na ca xa) := ha
    have HB : Hid (At wc pb nb cb xb) := hb
    have XC : Hid (B5 wc g (.int .i64 1) (.slice pa na ca) (.slice pb nb cb) (.int .i64 nn) (.slice pl nl cl)) := X
    clear XB HA0 HB0 HBW c0 c1 c2 c3 c4 a1 a2 ha hb
    obtain ⟨c0, c1, c2, c3, c4⟩ := X
    go_wp2_with fail
    refine (mulP A1.out A2.out).mono ?_
    rintro e w3 ⟨p3, m3, z3, f3, rfl, hA3, hM3, hb3⟩
    clear c0 c1 c2 c3 c4
    have A3 : Hid (At w3 p3 m3 m3 z3) := hA3
    have M3 : Hid (MulIs xa xb z3 f3) := hM3
    have HA3 : Hid (At w3 pa na ca xa) := HA.out.below hb3
    have HB3 : Hid (At w3 pb nb cb xb) := HB.out.below hb3
    have hbw3 := Below.on hbw hb3
    obtain ⟨c0, c1, c2, c3, c4⟩ := XC.out.below hb3
    clear A1 A2 HA HB XC hbw hA3 hM3 hb3
    go_wp2_with fail
    refine (docmulD HA3.out HB3.out).mono ?_
    rintro e w4 ⟨p4, m4, N4, z4, f4, rfl, hA4, hM4, hb4⟩
    clear c0 c1 c2 c3 c4
    obtain ⟨ez, ef⟩ := M3.out.inj hM4
    subst ez ef
    have A4 : Hid (At w4 p4 m4 N4 z3) := hA4
    have A34 : Hid (At w4 p3 m3 m3 z3) := A3.out.below hb4
    have hbw4 := Below.on hbw3 hb4
    clear hA4 hM4 hb4 A3 HA3 HB3 hbw3
    go_wp2_with fail
    refine (told_e f3 (by rcases M3.out.er with e | e | e <;> simp [e]) A34.out A4.out).mono ?_
    rintro e w5 ⟨rfl, hb5⟩
    have hbw5 := Below.on hbw4 hb5
    go_wp2_with fail
    go_ret
    exact ⟨rfl, hbw5⟩

set_option maxRecDepth 20000 in
set_option maxHeartbeats 4000000 in
theorem plays2 {pa pb pl : Option Addr} {na nb nl ca cb cl : Nat} {xa xb : List Nat} {w : World} (h : At w pa na ca xa) (k : At w pb nb cb xb) (hna : na ≤ 17592186044416) (hnb : nb ≤ 17592186044416) (nn : Int) :
    Calls Try.prog 19 #[.agg #[.int .i64 2, .slice pa na ca, .slice pb nb cb, .int .i64 nn, .slice pl nl cl]] w fun e w' => e = .returned (.bool true) ∧ Below w.heap.size w w' := by
  have HA : Hid (At w pa na ca xa) := h
  have HB : Hid (At w pb nb cb xb) := k
  clear h k
  go_enter Try.func19, Try.ntmps19
  go_wp2_with fail
  have X0 : B5 (w.alloc (.cells #[.int .i64 2, .slice pa na ca, .slice pb nb cb, .int .i64 nn, .slice pl nl cl] 43)) w.heap.size (.int .i64 2) (.slice pa na ca) (.slice pb nb cb) (.int .i64 nn) (.slice pl nl cl) := B5.new ..
  have hb0 : Below w.heap.size w (w.alloc (.cells #[.int .i64 2, .slice pa na ca, .slice pb nb cb, .int .i64 nn, .slice pl nl cl] 43)) := below1 w _
  generalize w.alloc (.cells #[.int .i64 2, .slice pa na ca, .slice pb nb cb, .int .i64 nn, .slice pl nl cl] 43) = W at *
  obtain ⟨g, hg⟩ : ∃ g, g = w.heap.size := ⟨_, rfl⟩
  rw [← hg] at X0 ⊢
  clear hg
  have XB : Hid (B5 W.drew g (.int .i64 2) (.slice pa na ca) (.slice pb nb cb) (.int .i64 nn) (.slice pl nl cl)) := ⟨X0.c0, X0.c1, X0.c2, X0.c3, X0.c4⟩
  have HA0 : Hid (At W.drew pa na ca xa) := (HA.out.below hb0).drewN 1
  have HB0 : Hid (At W.drew pb nb cb xb) := (HB.out.below hb0).drewN 1
  have HBW : Hid (Below w.heap.size w W.drew) := bDrew2 hb0
  obtain ⟨c0, c1, c2, c3, c4⟩ := X0
  clear hb0 HA HB
  go_cut [3, 4] (fun s3 s4 wx => ∃ p1 p2, s3 = Value.slice p1 na na ∧ s4 = Value.slice p2 nb nb ∧ At wx p1 na na xa ∧ At wx p2 nb nb xb ∧ At wx pa na ca xa ∧ At wx pb nb cb xb ∧ B5 wx g (.int .i64 2) (.slice pa na ca) (.slice pb nb cb) (.int .i64 nn) (.slice pl nl cl) ∧ Below w.heap.size w wx)
  case first =>
    (go_region_with (first
      | (go_at_call 29; (with_reducible refine (twin_at HA0.out hna).mono ?_); rintro e w1 ⟨p1, rfl, hA1, hb1⟩; obtain ⟨d0, d1, d2, d3, d4⟩ := XB.out.below hb1; have A1 : Hid (At w1 p1 na na xa) := hA1; have HA1 : Hid (At w1 pa na ca xa) := HA0.out.below hb1; have HB1 : Hid (At w1 pb nb cb xb) := HB0.out.below hb1; have XB1 : Hid (B5 w1 g (.int .i64 2) (.slice pa na ca) (.slice pb nb cb) (.int .i64 nn) (.slice pl nl cl)) := XB.out.below hb1; have HBW1 : Hid (Below w.heap.size w w1) := Below.on HBW.out hb1; clear hA1 hb1)
      | (go_at_call 29; (with_reducible refine (twin_at HB1.out hnb).mono ?_); rintro e w2 ⟨p2, rfl, hA2, hb2⟩; have RR : Hid (At w2 p1 na na xa ∧ At w2 p2 nb nb xb ∧ At w2 pa na ca xa ∧ At w2 pb nb cb xb ∧ B5 w2 g (.int .i64 2) (.slice pa na ca) (.slice pb nb cb) (.int .i64 nn) (.slice pl nl cl) ∧ Below w.heap.size w w2) := ⟨A1.out.below hb2, hA2, HA1.out.below hb2, HB1.out.below hb2, XB1.out.below hb2, Below.on HBW1.out hb2⟩; clear hA2 hb2)))
    all_goals
      (go_wp2_with fail
       go_meet
       exact ⟨p1, p2, rfl, rfl, RR.out⟩)
  case rest =>
    obtain ⟨p1, p2, rfl, rfl, a1, a2, ha, hb, X, hbw⟩ := hcut
    have A1 : Hid (At wc p1 na na xa) := a1
    have A2 : Hid (At wc p2 nb nb xb) := a2
    have HA : Hid (At wc pa na ca xa) := ha
    have HB : Hid (At wc pb nb cb xb) := hb
    have XC : Hid (B5 wc g (.int .i64 2) (.slice pa na ca) (.slice pb nb cb) (.int .i64 nn) (.slice pl nl cl)) := X
    clear XB HA0 HB0 HBW c0 c1 c2 c3 c4 a1 a2 ha hb
    obtain ⟨c0, c1, c2, c3, c4⟩ := X
    go_wp2_with fail
    refine (sqrP A1.out).mono ?_
    rintro e w3 ⟨p3, m3, z3, f3, rfl, hA3, hM3, hb3⟩
    clear c0 c1 c2 c3 c4
    have A3 : Hid (At w3 p3 m3 m3 z3) := hA3
    have M3 : Hid (MulIs xa xa z3 f3) := hM3
    have HA3 : Hid (At w3 pa na ca xa) := HA.out.below hb3
    have HB3 : Hid (At w3 pb nb cb xb) := HB.out.below hb3
    have hbw3 := Below.on hbw hb3
    obtain ⟨c0, c1, c2, c3, c4⟩ := XC.out.below hb3
    clear A1 A2 HA HB XC hbw hA3 hM3 hb3
    go_wp2_with fail
    refine (docsqrD HA3.out).mono ?_
    rintro e w4 ⟨p4, m4, N4, z4, f4, rfl, hA4, hM4, hb4⟩
    clear c0 c1 c2 c3 c4
    obtain ⟨ez, ef⟩ := M3.out.inj hM4
    subst ez ef
    have A4 : Hid (At w4 p4 m4 N4 z3) := hA4
    have A34 : Hid (At w4 p3 m3 m3 z3) := A3.out.below hb4
    have hbw4 := Below.on hbw3 hb4
    clear hA4 hM4 hb4 A3 HA3 HB3 hbw3
    go_wp2_with fail
    refine (told_e f3 (by rcases M3.out.er with e | e | e <;> simp [e]) A34.out A4.out).mono ?_
    rintro e w5 ⟨rfl, hb5⟩
    have hbw5 := Below.on hbw4 hb5
    go_wp2_with fail
    go_ret
    exact ⟨rfl, hbw5⟩
end Go.Proofs.Ytdkbfffpnpjpiaa
