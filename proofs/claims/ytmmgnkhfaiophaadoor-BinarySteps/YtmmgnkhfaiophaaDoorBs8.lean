import Derived.Test.YtmmgnkhfaiophaaDoorBs7
namespace Go.Proofs.YtmmgnkhfaiophaaDoor
open Go.RowKit Go.Shelf

set_option maxRecDepth 20000 in
set_option maxHeartbeats 4000000 in
theorem rkd_ok_pos {f p m l : Int} {S I : Nat} (F : Fm f p m l S I) (k : Nat) (hk9 : k ≤ 9223372036854775808) (hk : k ≤ I) (w : World) : Calls Tryd.prog 20 #[.int .i64 f, .int .i64 (k : Int)] w fun e w' => e = .returned (.tuple #[U k, .int .i64 0]) ∧ Below w.heap.size w w' := by
  have HF : Hid (Fm f p m l S I) := F
  have HKS : Hid (k < S) := Nat.lt_of_le_of_lt hk F.lt
  have hn0 : decide ((k : Int) < 0) = false := decide_eq_false (by omega)
  have hw1 : IntKind.u64.wrap (k : Int) = (k : Int) := by rw [IntKind.wrap_u64]; omega
  have hgi : decide ((I : Int) < (k : Int)) = false := decide_eq_false (by omega)
  have hgn : decide (I < k) = false := decide_eq_false (by omega)
  clear F hk hk9
  go_enter Tryd.func20, Tryd.ntmps20
  go_wp2_with fail
  refine (HF.out.of _).mono ?_
  rintro e w1 ⟨rfl, hb1⟩
  go_wp2_with fail
  have Y := B3.new (w1) 31 (.int .i64 p) (.int .i64 m) (.int .i64 l)
  have hb2 := bwAlloc (w1) (.cells #[.int .i64 p, .int .i64 m, .int .i64 l] 31)
  generalize (w1).alloc (.cells #[.int .i64 p, .int .i64 m, .int .i64 l] 31) = W2 at *
  obtain ⟨h, hh⟩ : ∃ h, h = (w1).heap.size := ⟨_, rfl⟩
  have HGh : Hid ((w1).heap.size ≤ h) := by show _ ≤ _; omega
  rw [← hh] at Y ⊢
  clear hh
  have HB2 : Hid (Below w.heap.size w W2) := bwOn hb1 hb2
  have HB3 : Hid (Below w.heap.size w W2.drew) := bwDrew (bwOn hb1 hb2)
  have Y3 : Hid (B3 W2.drew h (.int .i64 p) (.int .i64 m) (.int .i64 l)) := Y.drew
  have YH : Hid (B3 W2 h (.int .i64 p) (.int .i64 m) (.int .i64 l)) := Y
  clear hb1 hb2
  obtain ⟨y0, y1, y2, y3, y4, y5⟩ := Y
  refine (HF.out.inf _).mono ?_
  rintro e w4 ⟨rfl, hb4⟩
  have Y4 : Hid (B3 w4 h (.int .i64 p) (.int .i64 m) (.int .i64 l)) := YH.out.below hb4
  have HB4 : Hid (Below w.heap.size w w4) := bwOn HB2.out hb4
  clear hb4 y0 y1 y2 y3 y4 y5
  obtain ⟨y0, y1, y2, y3, y4, y5⟩ := Y4.out
  go_wp2_with fail
  refine (HF.out.sgn false k _ HKS.out).mono ?_
  rintro e w5 ⟨rfl, hb5⟩
  have HB5 : Hid (Below w.heap.size w w5) := bwOn HB4.out hb5
  clear hb5
  go_wp2_with fail
  go_ret2
  exact ⟨rfl, HB5.out⟩
set_option maxRecDepth 20000 in
set_option maxHeartbeats 4000000 in
theorem rkd_ok_neg {f p m l : Int} {S I : Nat} (F : Fm f p m l S I) (k : Nat) (h0 : 0 < k) (hk9 : k ≤ 9223372036854775808) (hk : k ≤ I) (w : World) : Calls Tryd.prog 20 #[.int .i64 f, .int .i64 (-(k : Int))] w fun e w' => e = .returned (.tuple #[U (S + k), .int .i64 0]) ∧ Below w.heap.size w w' := by
  have HF : Hid (Fm f p m l S I) := F
  have HKS : Hid (k < S) := Nat.lt_of_le_of_lt hk F.lt
  obtain ⟨n, hn⟩ : ∃ n : Int, n = -(k : Int) := ⟨_, rfl⟩
  obtain ⟨q, hq⟩ : ∃ q : Nat, q = 18446744073709551616 - k := ⟨_, rfl⟩
  rw [← hn]
  have hn0 : decide (n < 0) = true := decide_eq_true (by omega)
  have hw1 : IntKind.u64.wrap n = (q : Int) := by rw [IntKind.wrap_u64]; omega
  have hw2 : IntKind.u64.wrap (-(q : Int)) = (k : Int) := by rw [IntKind.wrap_u64]; omega
  clear hn hq h0
  have hgi : decide ((I : Int) < (k : Int)) = false := decide_eq_false (by omega)
  have hgn : decide (I < k) = false := decide_eq_false (by omega)
  clear F hk hk9
  go_enter Tryd.func20, Tryd.ntmps20
  go_wp2_with fail
  refine (HF.out.of _).mono ?_
  rintro e w1 ⟨rfl, hb1⟩
  go_wp2_with fail
  have Y := B3.new (w1) 31 (.int .i64 p) (.int .i64 m) (.int .i64 l)
  have hb2 := bwAlloc (w1) (.cells #[.int .i64 p, .int .i64 m, .int .i64 l] 31)
  generalize (w1).alloc (.cells #[.int .i64 p, .int .i64 m, .int .i64 l] 31) = W2 at *
  obtain ⟨h, hh⟩ : ∃ h, h = (w1).heap.size := ⟨_, rfl⟩
  have HGh : Hid ((w1).heap.size ≤ h) := by show _ ≤ _; omega
  rw [← hh] at Y ⊢
  clear hh
  have HB2 : Hid (Below w.heap.size w W2) := bwOn hb1 hb2
  have HB3 : Hid (Below w.heap.size w W2.drew) := bwDrew (bwOn hb1 hb2)
  have Y3 : Hid (B3 W2.drew h (.int .i64 p) (.int .i64 m) (.int .i64 l)) := Y.drew
  have YH : Hid (B3 W2 h (.int .i64 p) (.int .i64 m) (.int .i64 l)) := Y
  clear hb1 hb2
  obtain ⟨y0, y1, y2, y3, y4, y5⟩ := Y
  refine (HF.out.inf _).mono ?_
  rintro e w4 ⟨rfl, hb4⟩
  have Y4 : Hid (B3 w4 h (.int .i64 p) (.int .i64 m) (.int .i64 l)) := YH.out.below hb4
  have HB4 : Hid (Below w.heap.size w w4) := bwOn HB2.out hb4
  clear hb4 y0 y1 y2 y3 y4 y5
  obtain ⟨y0, y1, y2, y3, y4, y5⟩ := Y4.out
  go_wp2_with fail
  refine (HF.out.sgn true k _ HKS.out).mono ?_
  rintro e w5 ⟨rfl, hb5⟩
  have HB5 : Hid (Below w.heap.size w w5) := bwOn HB4.out hb5
  clear hb5
  go_wp2_with fail
  go_ret2
  exact ⟨rfl, HB5.out⟩
set_option maxRecDepth 20000 in
set_option maxHeartbeats 4000000 in
theorem rkd_far_pos {f p m l : Int} {S I : Nat} (F : Fm f p m l S I) (k : Nat) (hk9 : k ≤ 9223372036854775808) (hk : I < k) (w : World) : Calls Tryd.prog 20 #[.int .i64 f, .int .i64 (k : Int)] w fun e w' => e = .returned (.tuple #[.int .u64 0, .int .i64 1]) ∧ Below w.heap.size w w' := by
  have HF : Hid (Fm f p m l S I) := F
  have HKS : Hid (True) := trivial
  have hn0 : decide ((k : Int) < 0) = false := decide_eq_false (by omega)
  have hw1 : IntKind.u64.wrap (k : Int) = (k : Int) := by rw [IntKind.wrap_u64]; omega
  have hgi : decide ((I : Int) < (k : Int)) = true := decide_eq_true (by omega)
  have hgn : decide (I < k) = true := decide_eq_true (by omega)
  clear F hk hk9
  go_enter Tryd.func20, Tryd.ntmps20
  go_wp2_with fail
  refine (HF.out.of _).mono ?_
  rintro e w1 ⟨rfl, hb1⟩
  go_wp2_with fail
  have Y := B3.new (w1) 31 (.int .i64 p) (.int .i64 m) (.int .i64 l)
  have hb2 := bwAlloc (w1) (.cells #[.int .i64 p, .int .i64 m, .int .i64 l] 31)
  generalize (w1).alloc (.cells #[.int .i64 p, .int .i64 m, .int .i64 l] 31) = W2 at *
  obtain ⟨h, hh⟩ : ∃ h, h = (w1).heap.size := ⟨_, rfl⟩
  have HGh : Hid ((w1).heap.size ≤ h) := by show _ ≤ _; omega
  rw [← hh] at Y ⊢
  clear hh
  have HB2 : Hid (Below w.heap.size w W2) := bwOn hb1 hb2
  have HB3 : Hid (Below w.heap.size w W2.drew) := bwDrew (bwOn hb1 hb2)
  have Y3 : Hid (B3 W2.drew h (.int .i64 p) (.int .i64 m) (.int .i64 l)) := Y.drew
  have YH : Hid (B3 W2 h (.int .i64 p) (.int .i64 m) (.int .i64 l)) := Y
  clear hb1 hb2
  obtain ⟨y0, y1, y2, y3, y4, y5⟩ := Y
  refine (HF.out.inf _).mono ?_
  rintro e w4 ⟨rfl, hb4⟩
  have Y4 : Hid (B3 w4 h (.int .i64 p) (.int .i64 m) (.int .i64 l)) := YH.out.below hb4
  have HB4 : Hid (Below w.heap.size w w4) := bwOn HB2.out hb4
  clear hb4 y0 y1 y2 y3 y4 y5
  obtain ⟨y0, y1, y2, y3, y4, y5⟩ := Y4.out
  go_wp2_with fail
  go_ret2
  exact ⟨rfl, HB4.out⟩
set_option maxRecDepth 20000 in
set_option maxHeartbeats 4000000 in
theorem rkd_far_neg {f p m l : Int} {S I : Nat} (F : Fm f p m l S I) (k : Nat) (h0 : 0 < k) (hk9 : k ≤ 9223372036854775808) (hk : I < k) (w : World) : Calls Tryd.prog 20 #[.int .i64 f, .int .i64 (-(k : Int))] w fun e w' => e = .returned (.tuple #[.int .u64 0, .int .i64 1]) ∧ Below w.heap.size w w' := by
  have HF : Hid (Fm f p m l S I) := F
  have HKS : Hid (True) := trivial
  obtain ⟨n, hn⟩ : ∃ n : Int, n = -(k : Int) := ⟨_, rfl⟩
  obtain ⟨q, hq⟩ : ∃ q : Nat, q = 18446744073709551616 - k := ⟨_, rfl⟩
  rw [← hn]
  have hn0 : decide (n < 0) = true := decide_eq_true (by omega)
  have hw1 : IntKind.u64.wrap n = (q : Int) := by rw [IntKind.wrap_u64]; omega
  have hw2 : IntKind.u64.wrap (-(q : Int)) = (k : Int) := by rw [IntKind.wrap_u64]; omega
  clear hn hq h0
  have hgi : decide ((I : Int) < (k : Int)) = true := decide_eq_true (by omega)
  have hgn : decide (I < k) = true := decide_eq_true (by omega)
  clear F hk hk9
  go_enter Tryd.func20, Tryd.ntmps20
  go_wp2_with fail
  refine (HF.out.of _).mono ?_
  rintro e w1 ⟨rfl, hb1⟩
  go_wp2_with fail
  have Y := B3.new (w1) 31 (.int .i64 p) (.int .i64 m) (.int .i64 l)
  have hb2 := bwAlloc (w1) (.cells #[.int .i64 p, .int .i64 m, .int .i64 l] 31)
  generalize (w1).alloc (.cells #[.int .i64 p, .int .i64 m, .int .i64 l] 31) = W2 at *
  obtain ⟨h, hh⟩ : ∃ h, h = (w1).heap.size := ⟨_, rfl⟩
  have HGh : Hid ((w1).heap.size ≤ h) := by show _ ≤ _; omega
  rw [← hh] at Y ⊢
  clear hh
  have HB2 : Hid (Below w.heap.size w W2) := bwOn hb1 hb2
  have HB3 : Hid (Below w.heap.size w W2.drew) := bwDrew (bwOn hb1 hb2)
  have Y3 : Hid (B3 W2.drew h (.int .i64 p) (.int .i64 m) (.int .i64 l)) := Y.drew
  have YH : Hid (B3 W2 h (.int .i64 p) (.int .i64 m) (.int .i64 l)) := Y
  clear hb1 hb2
  obtain ⟨y0, y1, y2, y3, y4, y5⟩ := Y
  refine (HF.out.inf _).mono ?_
  rintro e w4 ⟨rfl, hb4⟩
  have Y4 : Hid (B3 w4 h (.int .i64 p) (.int .i64 m) (.int .i64 l)) := YH.out.below hb4
  have HB4 : Hid (Below w.heap.size w w4) := bwOn HB2.out hb4
  clear hb4 y0 y1 y2 y3 y4 y5
  obtain ⟨y0, y1, y2, y3, y4, y5⟩ := Y4.out
  go_wp2_with fail
  go_ret2
  exact ⟨rfl, HB4.out⟩
set_option maxRecDepth 20000 in
set_option maxHeartbeats 4000000 in
theorem rkd_x (f : Int) (h1 : f ≠ 32) (h2 : f ≠ 64) (n : Int) (w : World) : Calls Tryd.prog 20 #[.int .i64 f, .int .i64 n] w fun e w' => e = .returned (.tuple #[.int .u64 0, .int .i64 1]) ∧ Below w.heap.size w w' := by
  have H1 : Hid (f ≠ 32) := h1
  have H2 : Hid (f ≠ 64) := h2
  clear h1 h2
  go_enter Tryd.func20, Tryd.ntmps20
  go_wp2_with fail
  refine (of_x f H1.out H2.out _).mono ?_
  rintro e w1 ⟨rfl, hb1⟩
  have hbw := bwOn hb1 (bwAlloc w1 (.cells #[.int .i64 0, .int .i64 0, .int .i64 0] 31))
  clear hb1
  go_wp2_with fail
  go_ret2
  exact ⟨rfl, hbw⟩
end Go.Proofs.YtmmgnkhfaiophaaDoor
