import Derived.Test.YtmmgnkhfaiophaaDoorBt2
namespace Go.Proofs.YtmmgnkhfaiophaaDoor
open Go.RowKit Go.Shelf

/-- One call of a script of layer 7. -/
abbrev OV (k f : Int) (b : Nat) (neg : Bool) (n : Int) : Value := .agg #[.int .i64 k, .int .i64 f, U b, .bool neg, .int .i64 n]
set_option maxRecDepth 20000 in
set_option maxHeartbeats 2000000 in
theorem patt6 {f : Int} {b : Nat} {neg : Bool} {n v er : Int} (h : Says 17 (.int .i64 f) (U b) (.int .u64 v) (.int .i64 er)) (w : World) : Calls Tryd.prog 40 #[OV 6 f b neg n] w fun e w' => e = .returned (.tuple #[.int .u64 v, .int .i64 er]) ∧ Below w.heap.size w w' := by
  have H : Hid (Says 17 (.int .i64 f) (U b) (.int .u64 v) (.int .i64 er)) := h
  clear h
  go_enter Tryd.func40, Tryd.ntmps40
  go_wp2_with fail
  refine (H.out _).mono ?_
  rintro e w1 ⟨rfl, hb1⟩
  have hbw := bwOn (bwAlloc w _) hb1
  clear hb1
  go_wp2_with fail
  go_ret2
  exact ⟨rfl, hbw⟩
set_option maxRecDepth 20000 in
set_option maxHeartbeats 2000000 in
theorem docpatt6 {f : Int} {b : Nat} {neg : Bool} {n v er : Int} (h : Says 60 (.int .i64 f) (U b) (.int .u64 v) (.int .i64 er)) (w : World) : Calls Tryd.prog 41 #[OV 6 f b neg n] w fun e w' => e = .returned (.tuple #[.int .u64 v, .int .i64 er]) ∧ Below w.heap.size w w' := by
  have H : Hid (Says 60 (.int .i64 f) (U b) (.int .u64 v) (.int .i64 er)) := h
  clear h
  go_enter Tryd.func41, Tryd.ntmps41
  go_wp2_with fail
  refine (H.out _).mono ?_
  rintro e w1 ⟨rfl, hb1⟩
  have hbw := bwOn (bwAlloc w _) hb1
  clear hb1
  go_wp2_with fail
  go_ret2
  exact ⟨rfl, hbw⟩
set_option maxRecDepth 20000 in
set_option maxHeartbeats 2000000 in
theorem patt7 {f : Int} {b : Nat} {neg : Bool} {n v er : Int} (h : Says 18 (.int .i64 f) (U b) (.int .u64 v) (.int .i64 er)) (w : World) : Calls Tryd.prog 40 #[OV 7 f b neg n] w fun e w' => e = .returned (.tuple #[.int .u64 v, .int .i64 er]) ∧ Below w.heap.size w w' := by
  have H : Hid (Says 18 (.int .i64 f) (U b) (.int .u64 v) (.int .i64 er)) := h
  clear h
  go_enter Tryd.func40, Tryd.ntmps40
  go_wp2_with fail
  refine (H.out _).mono ?_
  rintro e w1 ⟨rfl, hb1⟩
  have hbw := bwOn (bwAlloc w _) hb1
  clear hb1
  go_wp2_with fail
  go_ret2
  exact ⟨rfl, hbw⟩
set_option maxRecDepth 20000 in
set_option maxHeartbeats 2000000 in
theorem docpatt7 {f : Int} {b : Nat} {neg : Bool} {n v er : Int} (h : Says 61 (.int .i64 f) (U b) (.int .u64 v) (.int .i64 er)) (w : World) : Calls Tryd.prog 41 #[OV 7 f b neg n] w fun e w' => e = .returned (.tuple #[.int .u64 v, .int .i64 er]) ∧ Below w.heap.size w w' := by
  have H : Hid (Says 61 (.int .i64 f) (U b) (.int .u64 v) (.int .i64 er)) := h
  clear h
  go_enter Tryd.func41, Tryd.ntmps41
  go_wp2_with fail
  refine (H.out _).mono ?_
  rintro e w1 ⟨rfl, hb1⟩
  have hbw := bwOn (bwAlloc w _) hb1
  clear hb1
  go_wp2_with fail
  go_ret2
  exact ⟨rfl, hbw⟩
set_option maxRecDepth 20000 in
set_option maxHeartbeats 2000000 in
theorem patt10 {f : Int} {b : Nat} {neg : Bool} {n v er : Int} (h : Says 20 (.int .i64 f) (.int .i64 n) (.int .u64 v) (.int .i64 er)) (w : World) : Calls Tryd.prog 40 #[OV 10 f b neg n] w fun e w' => e = .returned (.tuple #[.int .u64 v, .int .i64 er]) ∧ Below w.heap.size w w' := by
  have H : Hid (Says 20 (.int .i64 f) (.int .i64 n) (.int .u64 v) (.int .i64 er)) := h
  clear h
  go_enter Tryd.func40, Tryd.ntmps40
  go_wp2_with fail
  refine (H.out _).mono ?_
  rintro e w1 ⟨rfl, hb1⟩
  have hbw := bwOn (bwAlloc w _) hb1
  clear hb1
  go_wp2_with fail
  go_ret2
  exact ⟨rfl, hbw⟩
set_option maxRecDepth 20000 in
set_option maxHeartbeats 2000000 in
theorem docpatt10 {f : Int} {b : Nat} {neg : Bool} {n v er : Int} (h : Says 62 (.int .i64 f) (.int .i64 n) (.int .u64 v) (.int .i64 er)) (w : World) : Calls Tryd.prog 41 #[OV 10 f b neg n] w fun e w' => e = .returned (.tuple #[.int .u64 v, .int .i64 er]) ∧ Below w.heap.size w w' := by
  have H : Hid (Says 62 (.int .i64 f) (.int .i64 n) (.int .u64 v) (.int .i64 er)) := h
  clear h
  go_enter Tryd.func41, Tryd.ntmps41
  go_wp2_with fail
  refine (H.out _).mono ?_
  rintro e w1 ⟨rfl, hb1⟩
  have hbw := bwOn (bwAlloc w _) hb1
  clear hb1
  go_wp2_with fail
  go_ret2
  exact ⟨rfl, hbw⟩
set_option maxRecDepth 20000 in
set_option maxHeartbeats 4000000 in
theorem bplays_6 {f : Int} {b : Nat} {neg : Bool} {n : Int} (hb9 : b < B64) (w : World) : Calls Tryd.prog 16 #[OV 6 f b neg n] w fun e w' => e = .returned (.bool true) ∧ Below w.heap.size w w' := by
  obtain ⟨v, er, h1, h2⟩ := next_all f b hb9
  have H1 : Hid (Says 17 (.int .i64 f) (U b) (.int .u64 v) (.int .i64 er)) := h1
  have H2 : Hid (Says 60 (.int .i64 f) (U b) (.int .u64 v) (.int .i64 er)) := h2
  have hv : (v == v) = true := by simp
  have he : (er == er) = true := by simp
  clear h1 h2 hb9
  go_enter Tryd.func16, Tryd.ntmps16
  go_wp2_with fail
  have Y := B5q.new w 49 (.int .i64 6) (.int .i64 f) (U b) (.bool neg) (.int .i64 n)
  have hb0 := bwAlloc w (.cells #[.int .i64 6, .int .i64 f, U b, .bool neg, .int .i64 n] 49)
  generalize w.alloc (.cells #[.int .i64 6, .int .i64 f, U b, .bool neg, .int .i64 n] 49) = W at *
  obtain ⟨g, hg⟩ : ∃ g, g = w.heap.size := ⟨_, rfl⟩
  rw [← hg] at Y ⊢
  clear hg
  refine (patt6 H1.out _).mono ?_
  rintro e w1 ⟨rfl, hb1⟩
  have Y1 : Hid (B5q w1 g (.int .i64 6) (.int .i64 f) (U b) (.bool neg) (.int .i64 n)) := Y.below hb1
  have HB1 : Hid (Below w.heap.size w w1) := bwOn hb0 hb1
  clear Y hb0 hb1
  obtain ⟨y0, y1, y2, y3, y4, y5, y6, y7, y8, y9⟩ := Y1.out
  go_wp2_with fail
  refine (docpatt6 H2.out _).mono ?_
  rintro e w2 ⟨rfl, hb2⟩
  have HB2 : Hid (Below w.heap.size w w2) := bwOn HB1.out hb2
  clear hb2 y0 y1 y2 y3 y4 y5 y6 y7 y8 y9
  go_wp2_with fail
  go_ret
  exact ⟨rfl, HB2.out⟩
set_option maxRecDepth 20000 in
set_option maxHeartbeats 4000000 in
theorem bplays_7 {f : Int} {b : Nat} {neg : Bool} {n : Int} (hb9 : b < B64) (w : World) : Calls Tryd.prog 16 #[OV 7 f b neg n] w fun e w' => e = .returned (.bool true) ∧ Below w.heap.size w w' := by
  obtain ⟨v, er, h1, h2⟩ := prev_all f b hb9
  have H1 : Hid (Says 18 (.int .i64 f) (U b) (.int .u64 v) (.int .i64 er)) := h1
  have H2 : Hid (Says 61 (.int .i64 f) (U b) (.int .u64 v) (.int .i64 er)) := h2
  have hv : (v == v) = true := by simp
  have he : (er == er) = true := by simp
  clear h1 h2 hb9
  go_enter Tryd.func16, Tryd.ntmps16
  go_wp2_with fail
  have Y := B5q.new w 49 (.int .i64 7) (.int .i64 f) (U b) (.bool neg) (.int .i64 n)
  have hb0 := bwAlloc w (.cells #[.int .i64 7, .int .i64 f, U b, .bool neg, .int .i64 n] 49)
  generalize w.alloc (.cells #[.int .i64 7, .int .i64 f, U b, .bool neg, .int .i64 n] 49) = W at *
  obtain ⟨g, hg⟩ : ∃ g, g = w.heap.size := ⟨_, rfl⟩
  rw [← hg] at Y ⊢
  clear hg
  refine (patt7 H1.out _).mono ?_
  rintro e w1 ⟨rfl, hb1⟩
  have Y1 : Hid (B5q w1 g (.int .i64 7) (.int .i64 f) (U b) (.bool neg) (.int .i64 n)) := Y.below hb1
  have HB1 : Hid (Below w.heap.size w w1) := bwOn hb0 hb1
  clear Y hb0 hb1
  obtain ⟨y0, y1, y2, y3, y4, y5, y6, y7, y8, y9⟩ := Y1.out
  go_wp2_with fail
  refine (docpatt7 H2.out _).mono ?_
  rintro e w2 ⟨rfl, hb2⟩
  have HB2 : Hid (Below w.heap.size w w2) := bwOn HB1.out hb2
  clear hb2 y0 y1 y2 y3 y4 y5 y6 y7 y8 y9
  go_wp2_with fail
  go_ret
  exact ⟨rfl, HB2.out⟩
set_option maxRecDepth 20000 in
set_option maxHeartbeats 4000000 in
theorem bplays_10 {f : Int} {b : Nat} {neg : Bool} {n : Int} (hn1 : -9223372036854775808 ≤ n) (hn2 : n ≤ 9223372036854775807) (w : World) : Calls Tryd.prog 16 #[OV 10 f b neg n] w fun e w' => e = .returned (.bool true) ∧ Below w.heap.size w w' := by
  obtain ⟨v, er, h1, h2⟩ := ranked_all f n hn1 hn2
  have H1 : Hid (Says 20 (.int .i64 f) (.int .i64 n) (.int .u64 v) (.int .i64 er)) := h1
  have H2 : Hid (Says 62 (.int .i64 f) (.int .i64 n) (.int .u64 v) (.int .i64 er)) := h2
  have hv : (v == v) = true := by simp
  have he : (er == er) = true := by simp
  clear h1 h2 hn1 hn2
  go_enter Tryd.func16, Tryd.ntmps16
  go_wp2_with fail
  have Y := B5q.new w 49 (.int .i64 10) (.int .i64 f) (U b) (.bool neg) (.int .i64 n)
  have hb0 := bwAlloc w (.cells #[.int .i64 10, .int .i64 f, U b, .bool neg, .int .i64 n] 49)
  generalize w.alloc (.cells #[.int .i64 10, .int .i64 f, U b, .bool neg, .int .i64 n] 49) = W at *
  obtain ⟨g, hg⟩ : ∃ g, g = w.heap.size := ⟨_, rfl⟩
  rw [← hg] at Y ⊢
  clear hg
  refine (patt10 H1.out _).mono ?_
  rintro e w1 ⟨rfl, hb1⟩
  have Y1 : Hid (B5q w1 g (.int .i64 10) (.int .i64 f) (U b) (.bool neg) (.int .i64 n)) := Y.below hb1
  have HB1 : Hid (Below w.heap.size w w1) := bwOn hb0 hb1
  clear Y hb0 hb1
  obtain ⟨y0, y1, y2, y3, y4, y5, y6, y7, y8, y9⟩ := Y1.out
  go_wp2_with fail
  refine (docpatt10 H2.out _).mono ?_
  rintro e w2 ⟨rfl, hb2⟩
  have HB2 : Hid (Below w.heap.size w w2) := bwOn HB1.out hb2
  clear hb2 y0 y1 y2 y3 y4 y5 y6 y7 y8 y9
  go_wp2_with fail
  go_ret
  exact ⟨rfl, HB2.out⟩
set_option maxRecDepth 20000 in
set_option maxHeartbeats 4000000 in
theorem bplays_9 {f : Int} {b : Nat} {neg : Bool} {n : Int} (hb9 : b < B64) (w : World) : Calls Tryd.prog 16 #[OV 9 f b neg n] w fun e w' => e = .returned (.bool true) ∧ Below w.heap.size w w' := by
  obtain ⟨v, er, h1, h2⟩ := rank_all f b hb9
  have H1 : Hid (Says 19 (.int .i64 f) (U b) (.int .i64 v) (.int .i64 er)) := h1
  have H2 : Hid (Says 39 (.int .i64 f) (U b) (.int .i64 v) (.int .i64 er)) := h2
  have hv : (v == v) = true := by simp
  have he : (er == er) = true := by simp
  clear h1 h2 hb9
  go_enter Tryd.func16, Tryd.ntmps16
  go_wp2_with fail
  have Y := B5q.new w 49 (.int .i64 9) (.int .i64 f) (U b) (.bool neg) (.int .i64 n)
  have hb0 := bwAlloc w (.cells #[.int .i64 9, .int .i64 f, U b, .bool neg, .int .i64 n] 49)
  generalize w.alloc (.cells #[.int .i64 9, .int .i64 f, U b, .bool neg, .int .i64 n] 49) = W at *
  obtain ⟨g, hg⟩ : ∃ g, g = w.heap.size := ⟨_, rfl⟩
  rw [← hg] at Y ⊢
  clear hg
  refine (H1.out _).mono ?_
  rintro e w1 ⟨rfl, hb1⟩
  have Y1 : Hid (B5q w1 g (.int .i64 9) (.int .i64 f) (U b) (.bool neg) (.int .i64 n)) := Y.below hb1
  have HB1 : Hid (Below w.heap.size w w1) := bwOn hb0 hb1
  clear Y hb0 hb1
  obtain ⟨y0, y1, y2, y3, y4, y5, y6, y7, y8, y9⟩ := Y1.out
  go_wp2_with fail
  refine (H2.out _).mono ?_
  rintro e w2 ⟨rfl, hb2⟩
  have HB2 : Hid (Below w.heap.size w w2) := bwOn HB1.out hb2
  clear hb2 y0 y1 y2 y3 y4 y5 y6 y7 y8 y9
  go_wp2_with fail
  go_ret
  exact ⟨rfl, HB2.out⟩
end Go.Proofs.YtmmgnkhfaiophaaDoor
