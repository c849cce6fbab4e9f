import Derived.Laws.Bits64b
import Derived.Deep.RegionWith
import Derived.Test.YtmmgnkhfaiophaaDoorChecked
import Derived.Test.YtmmgnkhfaiophaaDoorMem
namespace Go.Proofs.YtmmgnkhfaiophaaDoor
open Go.RowKit

theorem bwAlloc (w : World) (o : Obj) : Below w.heap.size w (w.alloc o) := (Below.refl _ _).alloc (Nat.le_refl _) o
theorem bwOn {w w1 w2 : World} (h : Below w.heap.size w w1) (k : Below w1.heap.size w1 w2) : Below w.heap.size w w2 := h.trans (k.mono h.size)
theorem bwDrew {B : Nat} {a w : World} (h : Below B a w) : Below B a w.drew := ⟨h.os, h.tape, h.output, h.size, h.block⟩
theorem bwSet {B : Nat} {a w : World} (h : Below B a w) (g o : Nat) (v : Value) (hB : B ≤ g) : Below B a (w.setCell ⟨g, o, none⟩ v) :=
  h.trans ((Wr.refl g o 1 w).setCell o ⟨by omega, by omega⟩ v |>.below hB)
theorem results_c1 {fn : Func} {p : Tmp} {ty : TypeId} (h : fn.results = #[.cell p ty]) (tmps : Array Value) (P : Program) (w : World) :
    (results fn tmps).run P w = ((asAddr (tmps.getD p undef)).run P w).andThen fun a w₁ => (loadVar ty a).run P w₁ := by
  simp only [results, h]
  simp [Sem.run_bind, Result.andThen]
theorem results_ct {fn : Func} {p q : Tmp} {ty : TypeId} (h : fn.results = #[.cell p ty, .tmp q]) (tmps : Array Value) (P : Program) (w : World) :
    (results fn tmps).run P w = ((asAddr (tmps.getD p undef)).run P w).andThen fun a w₁ => ((loadVar ty a).run P w₁).andThen fun v w₂ => .ok (.tuple #[v, tmps.getD q undef]) w₂ := by
  simp only [results, h]
  simp [Sem.run_bind, Result.andThen]

/-- The widths of a format. -/
abbrev WV (p m l : Int) : Value := .agg #[.int .i64 p, .int .i64 m, .int .i64 l]
/-- A struct of three cells in memory. -/
structure B3 (W : World) (g : Nat) (v0 v1 v2 : Value) : Prop where
  c0 : W.cell? ⟨g, 0, none⟩ = some v0
  c1 : W.cell? ⟨g, 1, none⟩ = some v1
  c2 : W.cell? ⟨g, 2, none⟩ = some v2
  f0 : W.frozen? ⟨g, 0, none⟩ = false
  f1 : W.frozen? ⟨g, 1, none⟩ = false
  f2 : W.frozen? ⟨g, 2, none⟩ = false
theorem B3.below {W W' : World} {g : Nat} {v0 v1 v2 : Value} (h : B3 W g v0 v1 v2) (hb : Below W.heap.size W W') : B3 W' g v0 v1 v2 := by
  have hl : g < W.heap.size := World.block_lt_of_cell? W _ h.c0
  exact ⟨(hb.cell (p := ⟨g, 0, none⟩) hl).trans h.c0, (hb.cell (p := ⟨g, 1, none⟩) hl).trans h.c1, (hb.cell (p := ⟨g, 2, none⟩) hl).trans h.c2,
    (hb.frozen (p := ⟨g, 0, none⟩) hl).trans h.f0, (hb.frozen (p := ⟨g, 1, none⟩) hl).trans h.f1, (hb.frozen (p := ⟨g, 2, none⟩) hl).trans h.f2⟩
theorem B3.new (w : World) (ty : TypeId) (v0 v1 v2 : Value) : B3 (w.alloc (.cells #[v0, v1, v2] ty)) w.heap.size v0 v1 v2 :=
  ⟨by go_simp, by go_simp, by go_simp, by go_simp, by go_simp, by go_simp⟩
theorem B3.lt {W : World} {g : Nat} {v0 v1 v2 : Value} (h : B3 W g v0 v1 v2) : g < W.heap.size := World.block_lt_of_cell? W _ h.c0

theorem widths_32 (w : World) : Calls Tryd.prog 24 #[.int .i64 32] w fun e w' => e = .returned (WV 32 24 (-149)) ∧ Below w.heap.size w w' := by
  go_enter Tryd.func24, Tryd.ntmps24
  go_wp2_with fail
  exact bodyPost_ret (v := WV 32 24 (-149)) (by rw [results_c1 rfl]; go_simp) rfl ⟨rfl, bwAlloc w _⟩
theorem widths_64 (w : World) : Calls Tryd.prog 24 #[.int .i64 64] w fun e w' => e = .returned (WV 64 53 (-1074)) ∧ Below w.heap.size w w' := by
  go_enter Tryd.func24, Tryd.ntmps24
  go_wp2_with fail
  exact bodyPost_ret (v := WV 64 53 (-1074)) (by rw [results_c1 rfl]; go_simp) rfl ⟨rfl, bwAlloc w _⟩
theorem widths_x (f : Int) (h1 : f ≠ 32) (h2 : f ≠ 64) (w : World) : Calls Tryd.prog 24 #[.int .i64 f] w fun e w' => e = .returned (WV 0 0 0) ∧ Below w.heap.size w w' := by
  have h1' : (f == 32) = false := by simp [h1]
  have h2' : (f == 64) = false := by simp [h2]
  go_enter Tryd.func24, Tryd.ntmps24
  go_wp2_with fail
  exact bodyPost_ret (v := WV 0 0 0) (by rw [results_c1 rfl]; go_simp) rfl ⟨rfl, bwAlloc w _⟩
set_option maxRecDepth 20000 in
theorem of_32 (w : World) : Calls Tryd.prog 11 #[.int .i64 32] w fun e w' => e = .returned (.tuple #[WV 32 24 (-149), .int .i64 0]) ∧ Below w.heap.size w w' := by
  go_enter Tryd.func11, Tryd.ntmps11
  go_wp2_with fail
  have X0 : B3 (w.alloc (.cells #[.int .i64 0, .int .i64 0, .int .i64 0] 31)) w.heap.size (.int .i64 0) (.int .i64 0) (.int .i64 0) := B3.new ..
  have hb0 : Below w.heap.size w (w.alloc (.cells #[.int .i64 0, .int .i64 0, .int .i64 0] 31)) := bwAlloc w _
  generalize w.alloc (.cells #[.int .i64 0, .int .i64 0, .int .i64 0] 31) = W at *
  obtain ⟨g, hg⟩ : ∃ g, g = w.heap.size := ⟨_, rfl⟩
  have HG : Hid (w.heap.size ≤ g) := by show _ ≤ _; omega
  rw [← hg] at X0 ⊢
  clear hg
  refine (widths_32 _).mono ?_
  rintro e w1 ⟨rfl, hb1⟩
  obtain ⟨d0, d1, d2, d3, d4, d5⟩ := X0.below hb1
  have hgl : g < w1.heap.size := (X0.below hb1).lt
  have HB : Hid (Below w.heap.size w w1) := bwOn hb0 hb1
  clear hb0 hb1 X0
  go_wp2_with fail
  refine bodyPost_ret (v := .tuple #[WV 32 24 (-149), .int .i64 0]) (by rw [results_ct rfl]; go_simp) rfl ⟨rfl, ?_⟩
  exact Below.alloc (bwSet (bwSet (bwSet HB.out _ _ _ HG.out) _ _ _ HG.out) _ _ _ HG.out) (by simpa using HB.out.size) _
set_option maxRecDepth 20000 in
theorem of_64 (w : World) : Calls Tryd.prog 11 #[.int .i64 64] w fun e w' => e = .returned (.tuple #[WV 64 53 (-1074), .int .i64 0]) ∧ Below w.heap.size w w' := by
  go_enter Tryd.func11, Tryd.ntmps11
  go_wp2_with fail
  have X0 : B3 (w.alloc (.cells #[.int .i64 0, .int .i64 0, .int .i64 0] 31)) w.heap.size (.int .i64 0) (.int .i64 0) (.int .i64 0) := B3.new ..
  have hb0 : Below w.heap.size w (w.alloc (.cells #[.int .i64 0, .int .i64 0, .int .i64 0] 31)) := bwAlloc w _
  generalize w.alloc (.cells #[.int .i64 0, .int .i64 0, .int .i64 0] 31) = W at *
  obtain ⟨g, hg⟩ : ∃ g, g = w.heap.size := ⟨_, rfl⟩
  have HG : Hid (w.heap.size ≤ g) := by show _ ≤ _; omega
  rw [← hg] at X0 ⊢
  clear hg
  refine (widths_64 _).mono ?_
  rintro e w1 ⟨rfl, hb1⟩
  obtain ⟨d0, d1, d2, d3, d4, d5⟩ := X0.below hb1
  have hgl : g < w1.heap.size := (X0.below hb1).lt
  have HB : Hid (Below w.heap.size w w1) := bwOn hb0 hb1
  clear hb0 hb1 X0
  go_wp2_with fail
  refine bodyPost_ret (v := .tuple #[WV 64 53 (-1074), .int .i64 0]) (by rw [results_ct rfl]; go_simp) rfl ⟨rfl, ?_⟩
  exact Below.alloc (bwSet (bwSet (bwSet HB.out _ _ _ HG.out) _ _ _ HG.out) _ _ _ HG.out) (by simpa using HB.out.size) _
set_option maxRecDepth 20000 in
theorem of_x (f : Int) (h1 : f ≠ 32) (h2 : f ≠ 64) (w : World) : Calls Tryd.prog 11 #[.int .i64 f] w fun e w' => e = .returned (.tuple #[WV 0 0 0, .int .i64 1]) ∧ Below w.heap.size w w' := by
  go_enter Tryd.func11, Tryd.ntmps11
  go_wp2_with fail
  have X0 : B3 (w.alloc (.cells #[.int .i64 0, .int .i64 0, .int .i64 0] 31)) w.heap.size (.int .i64 0) (.int .i64 0) (.int .i64 0) := B3.new ..
  have hb0 : Below w.heap.size w (w.alloc (.cells #[.int .i64 0, .int .i64 0, .int .i64 0] 31)) := bwAlloc w _
  generalize w.alloc (.cells #[.int .i64 0, .int .i64 0, .int .i64 0] 31) = W at *
  obtain ⟨g, hg⟩ : ∃ g, g = w.heap.size := ⟨_, rfl⟩
  have HG : Hid (w.heap.size ≤ g) := by show _ ≤ _; omega
  rw [← hg] at X0 ⊢
  clear hg
  refine (widths_x f h1 h2 _).mono ?_
  rintro e w1 ⟨rfl, hb1⟩
  obtain ⟨d0, d1, d2, d3, d4, d5⟩ := X0.below hb1
  have hgl : g < w1.heap.size := (X0.below hb1).lt
  have HB : Hid (Below w.heap.size w w1) := bwOn hb0 hb1
  clear hb0 hb1 X0
  go_wp2_with fail
  refine bodyPost_ret (v := .tuple #[WV 0 0 0, .int .i64 1]) (by rw [results_ct rfl]; go_simp) rfl ⟨rfl, ?_⟩
  exact Below.alloc (bwSet (bwSet (bwSet HB.out _ _ _ HG.out) _ _ _ HG.out) _ _ _ HG.out) (by simpa using HB.out.size) _
theorem stored_32 (w : World) : Calls Tryd.prog 25 #[WV 32 24 (-149)] w fun e w' => e = .returned (.int .i64 23) ∧ Below w.heap.size w w' := by
  go_enter Tryd.func25, Tryd.ntmps25
  go_wp2_with fail
  go_ret
  exact ⟨rfl, bwAlloc w _⟩
theorem sign_32 (w : World) : Calls Tryd.prog 22 #[WV 32 24 (-149)] w fun e w' => e = .returned (.int .u64 2147483648) ∧ Below w.heap.size w w' := by
  go_enter Tryd.func22, Tryd.ntmps22
  go_wp2_with fail
  go_ret
  exact ⟨rfl, bwAlloc w _⟩
set_option maxRecDepth 20000 in
theorem infinity_32 (w : World) : Calls Tryd.prog 13 #[WV 32 24 (-149)] w fun e w' => e = .returned (.int .u64 2139095040) ∧ Below w.heap.size w w' := by
  go_enter Tryd.func13, Tryd.ntmps13
  go_wp2_with fail
  have X0 : B3 (w.alloc (.cells #[.int .i64 32, .int .i64 24, .int .i64 (-149)] 31)) w.heap.size (.int .i64 32) (.int .i64 24) (.int .i64 (-149)) := B3.new ..
  have hb0 : Below w.heap.size w (w.alloc (.cells #[.int .i64 32, .int .i64 24, .int .i64 (-149)] 31)) := bwAlloc w _
  generalize w.alloc (.cells #[.int .i64 32, .int .i64 24, .int .i64 (-149)] 31) = W at *
  obtain ⟨g, hg⟩ : ∃ g, g = w.heap.size := ⟨_, rfl⟩
  have HG : Hid (w.heap.size ≤ g) := by show _ ≤ _; omega
  rw [← hg] at X0 ⊢
  clear hg
  have XB : Hid (B3 W.drew g (.int .i64 32) (.int .i64 24) (.int .i64 (-149))) := ⟨X0.c0, X0.c1, X0.c2, X0.f0, X0.f1, X0.f2⟩
  have HBW : Hid (Below w.heap.size w W.drew) := bwDrew hb0
  obtain ⟨c0, c1, c2, c3, c4, c5⟩ := X0
  clear hb0
  go_region_with (first
      | (go_at_call 22; (with_reducible refine (sign_32 _).mono ?_); rintro e w1 ⟨rfl, hb1⟩; obtain ⟨d0, d1, d2, d3, d4, d5⟩ := XB.out.below hb1; have HBW1 : Hid (Below w.heap.size w w1) := bwOn HBW.out hb1; clear hb1)
      | (go_at_call 25; (with_reducible refine (stored_32 _).mono ?_); rintro e w2 ⟨rfl, hb2⟩; have HBW2 : Hid (Below w.heap.size w w2) := bwOn HBW1.out hb2; clear hb2))
  all_goals
    (go_wp2_with fail
     go_ret
     exact ⟨rfl, HBW2.out⟩)
theorem stored_64 (w : World) : Calls Tryd.prog 25 #[WV 64 53 (-1074)] w fun e w' => e = .returned (.int .i64 52) ∧ Below w.heap.size w w' := by
  go_enter Tryd.func25, Tryd.ntmps25
  go_wp2_with fail
  go_ret
  exact ⟨rfl, bwAlloc w _⟩
theorem sign_64 (w : World) : Calls Tryd.prog 22 #[WV 64 53 (-1074)] w fun e w' => e = .returned (.int .u64 9223372036854775808) ∧ Below w.heap.size w w' := by
  go_enter Tryd.func22, Tryd.ntmps22
  go_wp2_with fail
  go_ret
  exact ⟨rfl, bwAlloc w _⟩
set_option maxRecDepth 20000 in
theorem infinity_64 (w : World) : Calls Tryd.prog 13 #[WV 64 53 (-1074)] w fun e w' => e = .returned (.int .u64 9218868437227405312) ∧ Below w.heap.size w w' := by
  go_enter Tryd.func13, Tryd.ntmps13
  go_wp2_with fail
  have X0 : B3 (w.alloc (.cells #[.int .i64 64, .int .i64 53, .int .i64 (-1074)] 31)) w.heap.size (.int .i64 64) (.int .i64 53) (.int .i64 (-1074)) := B3.new ..
  have hb0 : Below w.heap.size w (w.alloc (.cells #[.int .i64 64, .int .i64 53, .int .i64 (-1074)] 31)) := bwAlloc w _
  generalize w.alloc (.cells #[.int .i64 64, .int .i64 53, .int .i64 (-1074)] 31) = W at *
  obtain ⟨g, hg⟩ : ∃ g, g = w.heap.size := ⟨_, rfl⟩
  have HG : Hid (w.heap.size ≤ g) := by show _ ≤ _; omega
  rw [← hg] at X0 ⊢
  clear hg
  have XB : Hid (B3 W.drew g (.int .i64 64) (.int .i64 53) (.int .i64 (-1074))) := ⟨X0.c0, X0.c1, X0.c2, X0.f0, X0.f1, X0.f2⟩
  have HBW : Hid (Below w.heap.size w W.drew) := bwDrew hb0
  obtain ⟨c0, c1, c2, c3, c4, c5⟩ := X0
  clear hb0
  go_region_with (first
      | (go_at_call 22; (with_reducible refine (sign_64 _).mono ?_); rintro e w1 ⟨rfl, hb1⟩; obtain ⟨d0, d1, d2, d3, d4, d5⟩ := XB.out.below hb1; have HBW1 : Hid (Below w.heap.size w w1) := bwOn HBW.out hb1; clear hb1)
      | (go_at_call 25; (with_reducible refine (stored_64 _).mono ?_); rintro e w2 ⟨rfl, hb2⟩; have HBW2 : Hid (Below w.heap.size w w2) := bwOn HBW1.out hb2; clear hb2))
  all_goals
    (go_wp2_with fail
     go_ret
     exact ⟨rfl, HBW2.out⟩)
end Go.Proofs.YtmmgnkhfaiophaaDoor
