import Derived.Test.YtefbfapnclphlaaDoorNf3
namespace Go.Proofs.YtefbfapnclphlaaDoor
open Go.RowKit Go.Shelf

set_option maxRecDepth 20000 in
set_option maxHeartbeats 4000000 in
theorem asks1 {pa pb : Option Addr} {na nb ca cb : Nat} {xa xb : List Nat} {w : World} (h : At w pa na ca xa) (k : At w pb nb cb xb) (hna : na ≤ 17592186044416) (_hnb : nb ≤ 17592186044416) (nn : Int) (x : Nat) (hx : x < B64) :
    Calls Tryd.prog 24 #[.agg #[.int .i64 1, .slice pa na ca, .slice pb nb cb, .int .i64 nn, U x]] w fun e w' => e = .returned (.bool true) ∧ Below w.heap.size w w' := by
  have HA : Hid (At w pa na ca xa) := h
  have HB : Hid (At w pb nb cb xb) := k
  have HX : Hid (x < B64) := hx
  clear h k hx
  go_enter Tryd.func24, Tryd.ntmps24
  go_wp2_with fail
  have X0 : B5 (w.alloc (.cells #[.int .i64 1, .slice pa na ca, .slice pb nb cb, .int .i64 nn, U x] 40)) w.heap.size (.int .i64 1) (.slice pa na ca) (.slice pb nb cb) (.int .i64 nn) (U x) := B5.new ..
  have hb0 : Below w.heap.size w (w.alloc (.cells #[.int .i64 1, .slice pa na ca, .slice pb nb cb, .int .i64 nn, U x] 40)) := below1 w _
  generalize w.alloc (.cells #[.int .i64 1, .slice pa na ca, .slice pb nb cb, .int .i64 nn, U x] 40) = W at *
  obtain ⟨g, hg⟩ : ∃ g, g = w.heap.size := ⟨_, rfl⟩
  rw [← hg] at X0 ⊢
  clear hg
  have XB : Hid (B5 W.drew g (.int .i64 1) (.slice pa na ca) (.slice pb nb cb) (.int .i64 nn) (U x)) := ⟨X0.c0, X0.c1, X0.c2, X0.c3, X0.c4, X0.f0, X0.f1, X0.f2, X0.f3, X0.f4⟩
  have HA0 : Hid (At W.drew pa na ca xa) := (HA.out.below hb0).drewN 1
  have HBW : Hid (Below w.heap.size w W.drew) := bDrew2 hb0
  obtain ⟨c0, c1, c2, c3, c4, c5, c6, c7, c8, c9⟩ := X0
  obtain ⟨fb, hfb⟩ : ∃ fb, fb = formB xa := ⟨_, rfl⟩
  have HF : Hid (fb = formB xa) := hfb
  have hff : (fb == fb) = true := by simp
  clear hb0 HA HB hfb
  (go_region_with (first
      | (go_at_call 31; (with_reducible refine (twin_at HA0.out hna).mono ?_); rintro e w1 ⟨p1, rfl, hA1, hb1⟩; obtain ⟨d0, d1, d2, d3, d4, d5, d6, d7, d8, d9⟩ := XB.out.below hb1; have A1 : Hid (At w1 p1 na na xa) := hA1; have HA1 : Hid (At w1 pa na ca xa) := HA0.out.below hb1; have HBW1 : Hid (Below w.heap.size w w1) := Below.on HBW.out hb1; clear hA1 hb1)
      | (go_at_call 18; (with_reducible refine (form_any A1.out).mono ?_); rintro e w' ⟨rfl, hw⟩; rw [← HF.out]; obtain rfl := hw.symm; clear hw)
      | (go_at_call 32; (with_reducible refine (docform_any HA1.out).mono ?_); rintro e w' ⟨rfl, hw⟩; rw [← HF.out]; obtain rfl := hw.symm; clear hw)))
  all_goals
    (go_wp2_with fail
     go_ret
     exact ⟨rfl, HBW1.out⟩)

set_option maxRecDepth 20000 in
set_option maxHeartbeats 4000000 in
theorem plays_1 {pa pb : Option Addr} {na nb ca cb : Nat} {xa xb : List Nat} {w : World} (h : At w pa na ca xa) (k : At w pb nb cb xb) (hna : na ≤ 17592186044416) (hnb : nb ≤ 17592186044416) (nn : Int) (x : Nat) (hx : x < B64) :
    Calls Tryd.prog 17 #[.agg #[.int .i64 1, .slice pa na ca, .slice pb nb cb, .int .i64 nn, U x]] w fun e w' => e = .returned (.bool true) ∧ Below w.heap.size w w' := by
  have HA : Hid (At w pa na ca xa) := h
  have HB : Hid (At w pb nb cb xb) := k
  have HX : Hid (x < B64) := hx
  clear h k hx
  go_enter Tryd.func17, Tryd.ntmps17
  go_wp2_with fail
  refine (asks1 (HA.out.alloc _) (HB.out.alloc _) hna hnb nn x HX.out).mono ?_
  rintro e w1 ⟨rfl, hb1⟩
  have hbw := Below.on (below1 w _) hb1
  clear hb1
  go_wp2_with fail
  go_ret
  exact ⟨rfl, hbw⟩

set_option maxRecDepth 20000 in
set_option maxHeartbeats 4000000 in
theorem plays_2 {pa pb : Option Addr} {na nb ca cb : Nat} {xa xb : List Nat} {w : World} (h : At w pa na ca xa) (k : At w pb nb cb xb) (hna : na ≤ 17592186044416) (hnb : nb ≤ 17592186044416) (nn : Int) (x : Nat) (hx : x < B64) :
    Calls Tryd.prog 17 #[.agg #[.int .i64 2, .slice pa na ca, .slice pb nb cb, .int .i64 nn, U x]] w fun e w' => e = .returned (.bool true) ∧ Below w.heap.size w w' := by
  have HA : Hid (At w pa na ca xa) := h
  have HB : Hid (At w pb nb cb xb) := k
  have HX : Hid (x < B64) := hx
  clear h k hx
  go_enter Tryd.func17, Tryd.ntmps17
  go_wp2_with fail
  have X0 : B5 (w.alloc (.cells #[.int .i64 2, .slice pa na ca, .slice pb nb cb, .int .i64 nn, U x] 40)) w.heap.size (.int .i64 2) (.slice pa na ca) (.slice pb nb cb) (.int .i64 nn) (U x) := B5.new ..
  have hb0 : Below w.heap.size w (w.alloc (.cells #[.int .i64 2, .slice pa na ca, .slice pb nb cb, .int .i64 nn, U x] 40)) := below1 w _
  generalize w.alloc (.cells #[.int .i64 2, .slice pa na ca, .slice pb nb cb, .int .i64 nn, U x] 40) = W at *
  obtain ⟨g, hg⟩ : ∃ g, g = w.heap.size := ⟨_, rfl⟩
  rw [← hg] at X0 ⊢
  clear hg
  refine (twin5 (HA.out.below hb0) (HB.out.below hb0) hna hnb 2 nn x).mono ?_
  rintro e w1 ⟨p1, p2, rfl, hA1, hA2, hb1⟩
  have X1 : Hid (B5 w1 g (.int .i64 2) (.slice pa na ca) (.slice pb nb cb) (.int .i64 nn) (U x)) := X0.below hb1
  have A1 : Hid (At w1 p1 na na xa) := hA1
  have HB1 : Hid (Below w.heap.size w w1) := Below.on hb0 hb1
  clear X0 hb0 hA1 hA2 hb1
  go_wp2_with fail
  refine (list2 A1.out hna nn x HX.out).mono ?_
  rintro e w2 ⟨p3, m3, N3, u3, f3, rfl, hA3, hD3, hb3⟩
  have A3 : Hid (At w2 p3 m3 N3 u3) := hA3
  have D3 : Hid (DocIs (valB B64 xa) u3 f3) := hD3
  have HB3 : Hid (Below w.heap.size w w2) := Below.on HB1.out hb3
  obtain ⟨c0, c1, c2, c3, c4, c5, c6, c7, c8, c9⟩ := X1.out.below hb3
  clear hA3 hD3 hb3 X1 A1 HB1
  go_wp2_with fail
  refine (doc2 (HA.out.below HB3.out) hna nn x HX.out).mono ?_
  rintro e w3 ⟨p4, m4, N4, u4, f4, rfl, hA4, hD4, hb4⟩
  obtain ⟨eu, ef⟩ := D3.out.inj hD4
  subst eu ef
  have A4 : Hid (At w3 p4 m4 N4 u3) := hA4
  have A34 : Hid (At w3 p3 m3 N3 u3) := A3.out.below hb4
  have hbw := Below.on HB3.out hb4
  clear c0 c1 c2 c3 c4 c5 c6 c7 c8 c9
  clear hA4 hD4 hb4 A3 HB3
  go_wp2_with fail
  refine (told1 f3 (by rcases D3.out.er with e | e <;> simp [e]) A34.out A4.out).mono ?_
  rintro e w4 ⟨rfl, hb5⟩
  have hbw5 := Below.on hbw hb5
  go_wp2_with fail
  go_ret
  exact ⟨rfl, hbw5⟩

set_option maxRecDepth 20000 in
set_option maxHeartbeats 4000000 in
theorem plays_3 {pa pb : Option Addr} {na nb ca cb : Nat} {xa xb : List Nat} {w : World} (h : At w pa na ca xa) (k : At w pb nb cb xb) (hna : na ≤ 17592186044416) (hnb : nb ≤ 17592186044416) (nn : Int) (x : Nat) (hx : x < B64) :
    Calls Tryd.prog 17 #[.agg #[.int .i64 3, .slice pa na ca, .slice pb nb cb, .int .i64 nn, U x]] w fun e w' => e = .returned (.bool true) ∧ Below w.heap.size w w' := by
  have HA : Hid (At w pa na ca xa) := h
  have HB : Hid (At w pb nb cb xb) := k
  have HX : Hid (x < B64) := hx
  clear h k hx
  go_enter Tryd.func17, Tryd.ntmps17
  go_wp2_with fail
  have X0 : B5 (w.alloc (.cells #[.int .i64 3, .slice pa na ca, .slice pb nb cb, .int .i64 nn, U x] 40)) w.heap.size (.int .i64 3) (.slice pa na ca) (.slice pb nb cb) (.int .i64 nn) (U x) := B5.new ..
  have hb0 : Below w.heap.size w (w.alloc (.cells #[.int .i64 3, .slice pa na ca, .slice pb nb cb, .int .i64 nn, U x] 40)) := below1 w _
  generalize w.alloc (.cells #[.int .i64 3, .slice pa na ca, .slice pb nb cb, .int .i64 nn, U x] 40) = W at *
  obtain ⟨g, hg⟩ : ∃ g, g = w.heap.size := ⟨_, rfl⟩
  rw [← hg] at X0 ⊢
  clear hg
  refine (twin5 (HA.out.below hb0) (HB.out.below hb0) hna hnb 3 nn x).mono ?_
  rintro e w1 ⟨p1, p2, rfl, hA1, hA2, hb1⟩
  have X1 : Hid (B5 w1 g (.int .i64 3) (.slice pa na ca) (.slice pb nb cb) (.int .i64 nn) (U x)) := X0.below hb1
  have A1 : Hid (At w1 p1 na na xa) := hA1
  have HB1 : Hid (Below w.heap.size w w1) := Below.on hb0 hb1
  clear X0 hb0 hA1 hA2 hb1
  go_wp2_with fail
  refine (list3 A1.out hna nn x HX.out).mono ?_
  rintro e w2 ⟨p3, m3, N3, u3, rfl, hA3, hD3, hb3⟩
  have A3 : Hid (At w2 p3 m3 N3 u3) := hA3
  have D3 : Hid (Nf B64 u3 x) := hD3
  have HB3 : Hid (Below w.heap.size w w2) := Below.on HB1.out hb3
  obtain ⟨c0, c1, c2, c3, c4, c5, c6, c7, c8, c9⟩ := X1.out.below hb3
  clear hA3 hD3 hb3 X1 A1 HB1
  go_wp2_with fail
  refine (doc3 (HA.out.below HB3.out) hna nn x HX.out).mono ?_
  rintro e w3 ⟨p4, m4, N4, u4, rfl, hA4, hD4, hb4⟩
  obtain rfl : u3 = u4 := D3.out.inj B64_one hD4
  have A4 : Hid (At w3 p4 m4 N4 u3) := hA4
  have A34 : Hid (At w3 p3 m3 N3 u3) := A3.out.below hb4
  have hbw := Below.on HB3.out hb4
  clear c0 c1 c2 c3 c4 c5 c6 c7 c8 c9
  clear hA4 hD4 hb4 A3 HB3
  go_wp2_with fail
  refine (told1 0 (.inl rfl) A34.out A4.out).mono ?_
  rintro e w4 ⟨rfl, hb5⟩
  have hbw5 := Below.on hbw hb5
  go_wp2_with fail
  go_ret
  exact ⟨rfl, hbw5⟩

end Go.Proofs.YtefbfapnclphlaaDoor
