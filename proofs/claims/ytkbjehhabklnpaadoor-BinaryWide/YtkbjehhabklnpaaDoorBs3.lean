import Derived.Deep.DeepCutAuto
import Derived.Test.YtkbjehhabklnpaaDoorJ13
namespace Go.Proofs.YtkbjehhabklnpaaDoor
open Go.RowKit Go.Shelf

set_option maxRecDepth 20000 in
set_option maxHeartbeats 4000000 in
theorem patternOf_32_big (b : Nat) (hb : b < B64) (hg : 4294967296 ≤ b) (w : World) : Calls Tryd.prog 27 #[.int .i64 32, U b] w fun e w' => e = .returned (.tuple #[PV 0 0 0 false 0, .int .i64 2]) ∧ Below w.heap.size w w' := by
  have hl := bl_gt32 hg
  have hlt : (32 : Int) < (bl_bitsN b : Int) := by omega
  have hbb : b < B64 := hb
  clear hl hb hg
  obtain ⟨l, hll⟩ : ∃ l, l = bl_bitsN b := ⟨_, rfl⟩
  rw [← hll] at hlt
  have hltb : decide ((32 : Int) < (l : Int)) = true := decide_eq_true hlt
  have HLL : Hid (l = bl_bitsN b) := hll
  have HBB : Hid (b < B64) := hbb
  clear hll hbb
  go_enter Tryd.func27, Tryd.ntmps27
  go_wp2_with fail
  have X := B5q.new (w) 58 (.int .i64 0) (.int .i64 0) (.int .i64 0) (.bool false) (.int .u64 0)
  have hb0 := bwAlloc (w) (.cells #[.int .i64 0, .int .i64 0, .int .i64 0, .bool false, .int .u64 0] 58)
  generalize (w).alloc (.cells #[.int .i64 0, .int .i64 0, .int .i64 0, .bool false, .int .u64 0] 58) = W at *
  obtain ⟨g, hg⟩ : ∃ g, g = (w).heap.size := ⟨_, rfl⟩
  have HGg : Hid ((w).heap.size ≤ g) := by show _ ≤ _; omega
  rw [← hg] at X ⊢
  clear hg
  refine (of_32 _).mono ?_
  rintro e w1 ⟨rfl, hb1⟩
  have X1 := X.below hb1
  have HB1 : Hid (Below w.heap.size w w1) := bwOn hb0 hb1
  clear X hb0 hb1
  go_wp2_with fail
  have Y := B3.new (w1) 56 (.int .i64 32) (.int .i64 24) (.int .i64 (-149))
  have hb2 := bwAlloc (w1) (.cells #[.int .i64 32, .int .i64 24, .int .i64 (-149)] 56)
  generalize (w1).alloc (.cells #[.int .i64 32, .int .i64 24, .int .i64 (-149)] 56) = W2 at *
  obtain ⟨h, hh⟩ : ∃ h, h = (w1).heap.size := ⟨_, rfl⟩
  have HGh : Hid ((w1).heap.size ≤ h) := by show _ ≤ _; omega
  rw [← hh] at Y ⊢
  clear hh
  have X2 := X1.below hb2
  have HB2 : Hid (Below w.heap.size w W2) := bwOn HB1.out hb2
  clear X1 hb2 HB1
  have X3 : Hid (B5q W2.drew g _ _ _ _ _) := X2.drew
  have Y3 : Hid (B3 W2.drew h _ _ _) := Y.drew
  have HB3 : Hid (Below w.heap.size w W2.drew) := bwDrew HB2.out
  obtain ⟨y0, y1, y2, y3, y4, y5⟩ := Y
  obtain ⟨x0, x1, x2, x3, x4, x5, x6, x7, x8, x9⟩ := X2
  go_region_with (first
    | (go_at_call 39; (with_reducible refine (bl_len_any _ _ HBB.out).mono ?_); rintro e w' ⟨rfl, hw⟩; rw [← HLL.out]; obtain rfl := hw.symm; clear hw))
  all_goals
    (go_wp2_with fail
     refine bodyPost_ret (v := .tuple #[PV 0 0 0 false 0, .int .i64 2]) (by rw [results_ct rfl]; go_simp) rfl ⟨rfl, ?_⟩
     exact bwDrew (bwSet (bwSet (bwSet (bwSet (bwSet HB2.out _ _ _ HGg.out) _ _ _ HGg.out) _ _ _ HGg.out) _ _ _ HGg.out) _ _ _ HGg.out))
end Go.Proofs.YtkbjehhabklnpaaDoor

