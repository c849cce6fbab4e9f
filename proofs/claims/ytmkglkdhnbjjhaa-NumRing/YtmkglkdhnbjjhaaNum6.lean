import Derived.Test.YtmkglkdhnbjjhaaNum3
import Derived.Deep.RegionWith
import Derived.Deep.DeepCutAuto
namespace Go.Proofs.Ytmkglkdhnbjjhaa
open Go.RowKit Go.Shelf

theorem small_lim {k : Nat} (h : k < B64) : k < LIM := by
  refine Nat.lt_of_lt_of_le h ?_
  obtain ⟨K, hK⟩ : ∃ K, K = 8192 := ⟨8192, rfl⟩
  rw [LIM_eq K hK]
  exact Nat.le_trans (Nat.le_of_eq (Nat.pow_one _).symm) (Nat.pow_le_pow_right B64_pos (by omega))
theorem Box.new (w : World) (ty : TypeId) (v0 v1 : Value) : Box (w.alloc (.cells #[v0, v1] ty)) w.heap.size v0 v1 := ⟨by go_simp, by go_simp, by go_simp, by go_simp⟩
theorem Box.newDrew (w : World) (ty : TypeId) (v0 v1 : Value) : Box (w.alloc (.cells #[v0, v1] ty)).drew w.heap.size v0 v1 := ⟨(Box.new w ty v0 v1).c0, (Box.new w ty v0 v1).c1, (Box.new w ty v0 v1).f0, (Box.new w ty v0 v1).f1⟩
theorem drewAlloc (W : World) (o : Obj) : Below W.drew.heap.size W.drew (W.alloc o).drew := below1 W.drew o
theorem bDrew1 {B : Nat} {a w : World} (h : Below B a w) : Below B a w.drew := ⟨h.os, h.tape, h.output, h.size, h.block⟩

set_option maxRecDepth 20000 in
set_option maxHeartbeats 2000000 in
theorem awake4_any (w : World) : Calls Try.prog 6 #[] w fun e w' => e = .returned (.bool true) ∧ Below w.heap.size w w' := by
  go_enter Try.func6, Try.ntmps6
  go_wp2_with fail
  rw [show Value.int IntKind.i64 (-5) = .int .i64 (iv true 5) from rfl]
  refine (of_any true 5 w (by omega) (by omega)).mono ?_
  rintro e w1 ⟨p1, m1, z1, rfl, o1, n1, l1, hb1⟩
  have N1 : Hid (Num w1 p1 m1 m1 z1 5) := Num.of o1 n1 (by omega)
  clear o1 n1
  go_wp2_with fail
  rw [show Value.int IntKind.i64 3 = .int .i64 (iv false 3) from rfl]
  refine (of_any false 3 w1 (by omega) (by omega)).mono ?_
  rintro e w2 ⟨p2, m2, z2, rfl, o2, n2, l2, hb2⟩
  have N2 : Hid (Num w2 p2 m2 m2 z2 3) := Num.of o2 n2 (by omega)
  have N1' : Hid (Num w2 p1 m1 m1 z1 5) := N1.out.below hb2
  have hw2 := Below.on hb1 hb2
  clear o2 n2 hb1 hb2 N1
  go_wp2_with fail
  refine (nadd_any true false N1'.out N2.out (fun _ => by omega) (fun h => by simp at h)).mono ?_
  rintro e w3 ⟨ha3, hb3⟩
  rw [show iv true 5 + iv false 3 = -2 from rfl] at ha3
  obtain ⟨p3, m3, z3, rfl, o3, n3, l3⟩ := ha3.ok (small_lim (by decide))
  rw [show decide ((-2 : Int) < 0) = true from rfl]
  have N3 : Hid (Num w3 p3 m3 m3 z3 2) := Num.of o3 n3 l3
  have hw3 := Below.on hw2 hb3
  clear ha3 o3 n3 hw2 hb3 N1' N2
  go_wp2_with fail
  have B0 : Box (w3.alloc (.cells #[.bool true, .slice p3 m3 m3] 24)) w3.heap.size (.bool true) (.slice p3 m3 m3) := ⟨by go_simp, by go_simp, by go_simp, by go_simp⟩
  have hbW : Below w3.heap.size w3 (w3.alloc (.cells #[.bool true, .slice p3 m3 m3] 24)) := below1 w3 _
  generalize w3.alloc (.cells #[.bool true, .slice p3 m3 m3] 24) = W at *
  have N3W : Hid (Num W.drew p3 m3 m3 z3 2) := by have h := N3.out.below hbW; exact ⟨h.at_.drewN 1, h.nf, h.le⟩
  have HBW : Hid (Below w.heap.size w W.drew) := bDrew1 (Below.on hw3 hbW)
  have X0 : Hid (Box W.drew w3.heap.size (.bool true) (.slice p3 m3 m3)) := ⟨B0.c0, B0.c1, B0.f0, B0.f1⟩
  have hszW : w3.heap.size + 1 ≤ W.heap.size := World.block_lt_of_cell? W _ B0.c0
  have hneW : ¬ w3.heap.size = W.heap.size := by omega
  have hltW : w3.heap.size < W.heap.size := by omega
  have hbeW : (w3.heap.size == W.heap.size) = false := by simp; omega
  obtain ⟨c00, c01, f00, f01⟩ := B0
  clear hbW hw3 N3
  generalize w3.heap.size = h3 at *
  go_cut [3, 4] (fun s3 s4 wx => ∃ g p5 m5 z5, s3 = Value.pointer (some ⟨g, 0, none⟩) ∧ s4 = Value.int .i64 0 ∧ Box wx g (.bool true) (.slice p5 m5 m5) ∧ Own 0 wx p5 m5 z5 ∧ Nf B64 z5 14 ∧ m5 ≤ 8192 ∧ Below w.heap.size w wx)
  case first =>
    (go_region_with (first
      | (go_at_call 22; rw [show Value.int IntKind.i64 7 = .int .i64 (iv false 7) from rfl]; (with_reducible refine (of_any false 7 W.drew (by omega) (by omega)).mono ?_); rintro e w4 ⟨p4, m4, z4, rfl, o4, n4, l4, hb4⟩; obtain ⟨d00, d01, e00, e01⟩ := X0.out.below hb4; have hsz4 : h3 + 1 ≤ w4.heap.size := World.block_lt_of_cell? w4 _ d00; have hne4 : ¬ h3 = w4.heap.size := (by omega); have hlt4 : h3 < w4.heap.size := (by omega); have N4 : Hid (Num w4 p4 m4 m4 z4 7) := Num.of o4 n4 (by omega); have N34 : Hid (Num w4 p3 m3 m3 z3 2) := N3W.out.below hb4; have HB4 : Hid (Below w.heap.size w w4) := Below.on HBW.out hb4; have YY : Hid True := trivial; clear o4 n4 hb4)
      | (go_at_call 22; rw [show Value.int IntKind.i64 7 = .int .i64 (iv false 7) from rfl]; (with_reducible refine (of_any false 7 (W.alloc (.cells #[.bool false, .slice none 0 0] 24)).drew (by omega) (by omega)).mono ?_); rintro e w4 ⟨p4, m4, z4, rfl, o4, n4, l4, hb4q⟩; have hb4 := Below.on (drewAlloc W _) hb4q; obtain ⟨d00, d01, e00, e01⟩ := X0.out.below hb4; have hsz4 : h3 + 1 ≤ w4.heap.size := World.block_lt_of_cell? w4 _ d00; have hne4 : ¬ h3 = w4.heap.size := (by omega); have hlt4 : h3 < w4.heap.size := (by omega); have N4 : Hid (Num w4 p4 m4 m4 z4 7) := Num.of o4 n4 (by omega); have N34 : Hid (Num w4 p3 m3 m3 z3 2) := N3W.out.below hb4; have HB4 : Hid (Below w.heap.size w w4) := Below.on HBW.out hb4; have YY : Hid (Box w4 W.heap.size (.bool false) (.slice none 0 0) ∧ w.heap.size ≤ W.heap.size) := ⟨(Box.newDrew W 24 _ _).below hb4q, HBW.out.size⟩; obtain ⟨y0, y1, x0, x1⟩ := YY.out.1; clear o4 n4 hb4 hb4q)
      | (go_at_call 8; (with_reducible refine (nmul_any true false N34.out N4.out (fun _ => by omega) (fun h => by simp at h)).mono ?_); rintro e w5 ⟨ha5, hb5⟩; rw [show iv true 2 * iv false 7 = -14 from rfl] at ha5; obtain ⟨p5, m5, z5, rfl, o5, n5, l5⟩ := ha5.ok (small_lim (by decide)); rw [show decide ((-14 : Int) < 0) = true from rfl]; have O5 : Hid (Own w4.heap.size w5 p5 m5 z5 ∧ Nf B64 z5 14 ∧ m5 ≤ 8192) := ⟨o5, n5, l5⟩; have HB5 : Hid (Below w.heap.size w w5) := Below.on HB4.out hb5; (first | (have Y5 := YY.out.1.below hb5; clear y0 y1 x0 x1; obtain ⟨y0, y1, x0, x1⟩ := Y5) | skip); have HL : Hid (W.heap.size < w4.heap.size ∨ True) := .inr trivial; clear ha5 o5 n5 l5 hb5)
      | (go_at_call 8; (with_reducible refine (nmul_any true false (N34.out.below (below1 w4 (.cells #[.bool false, .slice none 0 0] 24))) (N4.out.below (below1 w4 _)) (fun _ => by omega) (fun h => by simp at h)).mono ?_); rintro e w5 ⟨ha5, hb5q⟩; rw [show iv true 2 * iv false 7 = -14 from rfl] at ha5; obtain ⟨p5, m5, z5, rfl, o5, n5, l5⟩ := ha5.ok (small_lim (by decide)); rw [show decide ((-14 : Int) < 0) = true from rfl]; have O5 : Hid (Own (w4.heap.size + 1) w5 p5 m5 z5 ∧ Nf B64 z5 14 ∧ m5 ≤ 8192) := ⟨by simpa using o5, n5, l5⟩; have HB5 : Hid (Below w.heap.size w w5) := Below.on HB4.out (Below.on (below1 w4 _) hb5q); obtain ⟨y0, y1, x0, x1⟩ := (Box.new w4 24 _ _).below hb5q; clear ha5 o5 n5 l5 hb5q)))
    all_goals
      (go_wp2_with fail
       go_meet
       first
       | exact ⟨_, p5, m5, z5, rfl, rfl, Box.new w5 _ _ _, (O5.out.1.mono (Nat.zero_le _)).below (below1 w5 _), O5.out.2.1, O5.out.2.2, Below.on HB5.out (below1 w5 _)⟩
       | (have hg := World.block_lt_of_cell? w4 _ YY.out.1.c0; exact ⟨_, p5, m5, z5, rfl, rfl, ⟨by go_simp, by go_simp, by go_simp, by go_simp⟩, ((O5.out.1.setOld _ _ _ hg).setOld _ _ _ hg).mono (Nat.zero_le _), O5.out.2.1, O5.out.2.2, bSet (bSet HB5.out _ _ _ YY.out.2) _ _ _ YY.out.2⟩)
       | (have hg := Nat.lt_succ_self w4.heap.size; exact ⟨_, p5, m5, z5, rfl, rfl, ⟨by go_simp, by go_simp, by go_simp, by go_simp⟩, ((O5.out.1.setOld _ _ _ hg).setOld _ _ _ hg).mono (Nat.zero_le _), O5.out.2.1, O5.out.2.2, bSet (bSet HB5.out _ _ _ HB4.out.size) _ _ _ HB4.out.size⟩))
  case rest =>
    obtain ⟨g, p5, m5, z5, rfl, rfl, Y, o5, n5, l5, hbw⟩ := hcut
    have XY : Hid (Box wc g (.bool true) (.slice p5 m5 m5)) := Y
    have O5 : Hid (Own 0 wc p5 m5 z5) := o5
    have N5 : Hid (Nf B64 z5 14) := n5
    clear o5 n5 N3W HBW X0 hszW hneW hltW hbeW c00 c01 f00 f01
    obtain ⟨y0, y1, x0, x1⟩ := Y
    go_wp2_with fail
    refine (small14 O5.out N5.out l5).mono ?_
    rintro e w6 ⟨rfl, hb6⟩
    clear y0 y1 x0 x1
    have O6 : Hid (Own 0 w6 p5 m5 z5) := O5.out.below hb6
    have XY6 : Hid (Box w6 g (.bool true) (.slice p5 m5 m5)) := XY.out.below hb6
    have hbw6 := Below.on hbw hb6
    clear hbw hb6 O5 XY
    obtain ⟨y0, y1, x0, x1⟩ := XY6.out
    go_wp2_with fail
    refine (sign_neg (Num.of O6.out N5.out l5) (by omega)).mono ?_
    rintro e w7 ⟨rfl, hb7⟩
    clear y0 y1 x0 x1
    have O7 : Hid (Own 0 w7 p5 m5 z5) := O6.out.below hb7
    have XY7 : Hid (Box w7 g (.bool true) (.slice p5 m5 m5)) := XY6.out.below hb7
    have hbw7 := Below.on hbw6 hb7
    clear hbw6 hb7 O6 XY6
    obtain ⟨y0, y1, x0, x1⟩ := XY7.out
    go_wp2_with fail
    refine (numform_t true (Num.of O7.out N5.out l5) (fun _ => by omega)).mono ?_
    rintro e w8 ⟨rfl, hb8⟩
    have hbw8 := Below.on hbw7 hb8
    clear y0 y1 x0 x1
    go_wp2_with fail
    go_ret
    exact ⟨rfl, hbw8⟩
end Go.Proofs.Ytmkglkdhnbjjhaa
