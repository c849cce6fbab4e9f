import Derived.Deep.DeepCutAuto
import Derived.Test.YtfkoilaobglddaaGreatDoorJ16
namespace Go.Proofs.YtfkoilaobglddaaGreatDoor
open Go.RowKit Go.Shelf

set_option maxRecDepth 20000 in
set_option maxHeartbeats 4000000 in
theorem patternOf_32 (b : Nat) (hb : b < 2 * 2147483648) (w : World) : Calls Tryz.prog 57 #[.int .i64 32, U b] w fun e w' => e = .returned (.tuple #[PV 32 24 (-149) (decide (2147483648 ≤ b)) (b % 2147483648), .int .i64 0]) ∧ Below w.heap.size w w' := by
  have hl : bl_bitsN b ≤ 32 := bl_le (by omega)
  have hlt : ¬ (32 : Int) < (bl_bitsN b : Int) := by omega
  have e1 : bits BinOp.and IntKind.u64 (b : Int) 2147483648 = _ := sign_and b 2147483648 31 (by decide) (by decide) hb
  have e2 : bits BinOp.andNot IntKind.u64 (b : Int) 2147483648 = _ := sign_andNot b 2147483648 31 (by decide) (by decide) hb
  obtain ⟨z, hz⟩ : ∃ z, z = b % 2147483648 := ⟨_, rfl⟩
  obtain ⟨s, hs⟩ : ∃ s, s = decide (2147483648 ≤ b) := ⟨_, rfl⟩
  obtain ⟨y, hy⟩ : ∃ y, y = (if 2147483648 ≤ b then 2147483648 else 0) := ⟨_, rfl⟩
  rw [← hz] at e2 ⊢
  rw [← hy] at e1
  rw [← hs]
  have hys : (!((y : Int) == 0)) = s := by
    rw [hy, hs]
    by_cases h : 2147483648 ≤ b <;> simp [h]
  have hys2 : ((y : Int) == 0) = !s := by rw [← hys]; simp
  have hbb : b < B64 := by rw [B64_eq]; omega
  clear hz hs hy hl hb
  obtain ⟨l, hll⟩ : ∃ l, l = bl_bitsN b := ⟨_, rfl⟩
  rw [← hll] at hlt
  have hltb : decide ((32 : Int) < (l : Int)) = false := decide_eq_false hlt
  have HLL : Hid (l = bl_bitsN b) := hll
  have HBB : Hid (b < B64) := hbb
  clear hll hbb
  go_enter Tryz.func57, Tryz.ntmps57
  go_wp2_with fail
  have X := B5q.new (w) 96 (.int .i64 0) (.int .i64 0) (.int .i64 0) (.bool false) (.int .u64 0)
  have hb0 := bwAlloc (w) (.cells #[.int .i64 0, .int .i64 0, .int .i64 0, .bool false, .int .u64 0] 96)
  generalize (w).alloc (.cells #[.int .i64 0, .int .i64 0, .int .i64 0, .bool false, .int .u64 0] 96) = W at *
  obtain ⟨g, hg⟩ : ∃ g, g = (w).heap.size := ⟨_, rfl⟩
  have HGg : Hid ((w).heap.size ≤ g) := by show _ ≤ _; omega
  rw [← hg] at X ⊢
  clear hg
  refine (of_32 _).mono ?_
  rintro e w1 ⟨rfl, hb1⟩
  have X1 := X.below hb1
  have HB1 : Hid (Below w.heap.size w w1) := bwOn hb0 hb1
  clear X hb0 hb1
  go_wp2_with fail
  have Y := B3.new (w1) 66 (.int .i64 32) (.int .i64 24) (.int .i64 (-149))
  have hb2 := bwAlloc (w1) (.cells #[.int .i64 32, .int .i64 24, .int .i64 (-149)] 66)
  generalize (w1).alloc (.cells #[.int .i64 32, .int .i64 24, .int .i64 (-149)] 66) = W2 at *
  obtain ⟨h, hh⟩ : ∃ h, h = (w1).heap.size := ⟨_, rfl⟩
  have HGh : Hid ((w1).heap.size ≤ h) := by show _ ≤ _; omega
  rw [← hh] at Y ⊢
  clear hh
  have X2 := X1.below hb2
  have HB2 : Hid (Below w.heap.size w W2) := bwOn HB1.out hb2
  clear X1 hb2 HB1
  have X3 : Hid (B5q W2.drew g _ _ _ _ _) := X2.drew
  have Y3 : Hid (B3 W2.drew h _ _ _) := Y.drew
  have HB3 : Hid (Below w.heap.size w W2.drew) := bwDrew HB2.out
  obtain ⟨y0, y1, y2, y3, y4, y5⟩ := Y
  obtain ⟨x0, x1, x2, x3, x4, x5, x6, x7, x8, x9⟩ := X2
  go_cut [21] (fun s21 wx => s21 = Value.bool false ∧ wx = W2.drew)
  case first =>
    go_region_with (first
      | (go_at_call 73; (with_reducible refine (bl_len_any _ _ HBB.out).mono ?_); rintro e w' ⟨rfl, hw⟩; rw [← HLL.out]; obtain rfl := hw.symm; clear hw))
    all_goals
      (go_wp2_with fail
       go_meet
       exact ⟨rfl, rfl⟩)
  case rest =>
    obtain ⟨rfl, rfl⟩ := hcut
    generalize W2.drew = W3 at *
    go_wp2_with fail
    have X4 : Hid (B5q W3.drew g _ _ _ _ _) := X3.out.drew
    have Y4 : Hid (B3 W3.drew h _ _ _) := Y3.out.drew
    have HB4 : Hid (Below w.heap.size w W3.drew) := bwDrew HB3.out
    obtain ⟨u0, u1, u2, u3, u4, u5⟩ := Y3.out
    obtain ⟨t0, t1, t2, t3, t4, t5, t6, t7, t8, t9⟩ := X3.out
    clear HB3 X3 Y3 x0 x1 x2 x3 x4 x5 x6 x7 x8 x9 y0 y1 y2 y3 y4 y5
    go_region_with (first
       | (go_at_call 110; (with_reducible refine (sign_32 W3.drew).mono ?_); rintro e w4 ⟨rfl, hb4⟩; have X5 : Hid (B5q w4 g (.int .i64 0) (.int .i64 0) (.int .i64 0) (.bool false) (.int .u64 0)) := X4.out.below hb4; have Y5 : Hid (B3 w4 h (.int .i64 32) (.int .i64 24) (.int .i64 (-149))) := Y4.out.below hb4; have HB5 : Hid (Below w.heap.size w w4) := bwOn HB4.out hb4; obtain ⟨q0, q1, q2, q3, q4, q5⟩ := Y5.out; clear hb4 X4 Y4 t0 t1 t2 t3 t4 t5 t6 t7 t8 t9)
       | (go_at_call 110; (with_reducible refine (sign_32 w4).mono ?_); rintro e w5 ⟨rfl, hb5⟩; have HB6 : Hid (Below w.heap.size w w5) := bwOn HB5.out hb5; obtain ⟨q0', q1', q2', q3', q4', q5'⟩ := Y5.out.below hb5; obtain ⟨p0', p1', p2', p3', p4', p5', p6', p7', p8', p9'⟩ := X5.out.below hb5; clear hb5 q0 q1 q2 q3 q4 q5))
    all_goals
       (go_wp2_with fail
        refine bodyPost_ret (v := .tuple #[PV 32 24 (-149) s z, .int .i64 0]) (by rw [results_ct rfl]; go_simp; exact hys) rfl ⟨rfl, ?_⟩
        exact bwSet (bwSet (bwSet (bwSet (bwSet HB6.out _ _ _ HGg.out) _ _ _ HGg.out) _ _ _ HGg.out) _ _ _ HGg.out) _ _ _ HGg.out)
end Go.Proofs.YtfkoilaobglddaaGreatDoor

