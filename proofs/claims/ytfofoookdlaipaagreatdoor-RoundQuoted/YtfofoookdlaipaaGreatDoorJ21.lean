import Derived.Test.YtfofoookdlaipaaGreatDoorJ18
import Derived.Test.YtfofoookdlaipaaGreatDoorBs4
import Derived.Test.YtfofoookdlaipaaGreatDoorBs5
import Derived.Test.YtfofoookdlaipaaGreatDoorJ14
import Derived.Test.YtfofoookdlaipaaGreatDoorJ16
import Derived.Test.YtfofoookdlaipaaGreatDoorJ15
import Derived.Test.YtfofoookdlaipaaGreatDoorJ8
namespace Go.Proofs.YtfofoookdlaipaaGreatDoor
open Go.RowKit Go.Shelf

theorem cls_ne {H I s : Nat} (h : s ≤ I) : clsN H I s ≠ 4 := by
  unfold clsN
  by_cases h0 : s = 0
  · rw [if_pos h0]; decide
  · rw [if_neg h0]
    by_cases h1 : s < H
    · rw [if_pos h1]; decide
    · rw [if_neg h1]
      by_cases h2 : s < I
      · rw [if_pos h2]; decide
      · rw [if_neg h2, if_pos (by omega)]; decide
theorem cls_nan {H I s : Nat} (hH : H ≤ I) (h : I < s) : clsN H I s = 4 := by
  unfold clsN
  rw [if_neg (by omega), if_neg (by omega), if_neg (by omega), if_neg (by omega)]
theorem cls_inf {H I s : Nat} (hH : H ≤ I) (h0 : 0 < I) : (clsN H I s == 3) = decide (s = I) := by
  unfold clsN
  by_cases h3 : s = I
  · rw [if_neg (by omega), if_neg (by omega), if_neg (by omega), if_pos h3]; simp [h3]
  · rw [decide_eq_false h3]
    by_cases h0 : s = 0
    · rw [if_pos h0]; decide
    · rw [if_neg h0]
      by_cases h1 : s < H
      · rw [if_pos h1]; decide
      · rw [if_neg h1]
        by_cases h2 : s < I
        · rw [if_pos h2]; decide
        · rw [if_neg h2, if_neg h3]; decide

set_option maxRecDepth 20000 in
set_option maxHeartbeats 4000000 in
theorem signed_32 (neg : Bool) (s : Nat) (hs : s < 2147483648) (w : World) : Calls Tryz.prog 80 #[WV 32 24 (-149), .bool neg, U s] w fun e w' => e = .returned (U (if neg then 2147483648 + s else s)) ∧ Below w.heap.size w w' := by
  have e1 : bits BinOp.or IntKind.u64 2147483648 (s : Int) = _ := sign_or s 2147483648 31 (by decide) (by decide) hs
  obtain ⟨r, hr⟩ : ∃ r, r = 2147483648 + s := ⟨_, rfl⟩
  rw [← hr] at e1 ⊢
  clear hr hs
  cases neg
  · clear e1
    go_enter Tryz.func80, Tryz.ntmps80
    go_wp2_with fail
    go_ret
    exact ⟨rfl, bwAlloc w _⟩
  · go_enter Tryz.func80, Tryz.ntmps80
    go_wp2_with fail
    refine (sign_32 _).mono ?_
    rintro e w1 ⟨rfl, hb1⟩
    have HB1 : Hid (Below w.heap.size w w1) := bwOn (bwAlloc w _) hb1
    clear hb1
    go_wp2_with fail
    go_ret
    exact ⟨rfl, HB1.out⟩
set_option maxRecDepth 20000 in
set_option maxHeartbeats 4000000 in
theorem signed_64 (neg : Bool) (s : Nat) (hs : s < 9223372036854775808) (w : World) : Calls Tryz.prog 80 #[WV 64 53 (-1074), .bool neg, U s] w fun e w' => e = .returned (U (if neg then 9223372036854775808 + s else s)) ∧ Below w.heap.size w w' := by
  have e1 : bits BinOp.or IntKind.u64 9223372036854775808 (s : Int) = _ := sign_or s 9223372036854775808 63 (by decide) (by decide) hs
  obtain ⟨r, hr⟩ : ∃ r, r = 9223372036854775808 + s := ⟨_, rfl⟩
  rw [← hr] at e1 ⊢
  clear hr hs
  cases neg
  · clear e1
    go_enter Tryz.func80, Tryz.ntmps80
    go_wp2_with fail
    go_ret
    exact ⟨rfl, bwAlloc w _⟩
  · go_enter Tryz.func80, Tryz.ntmps80
    go_wp2_with fail
    refine (sign_64 _).mono ?_
    rintro e w1 ⟨rfl, hb1⟩
    have HB1 : Hid (Below w.heap.size w w1) := bwOn (bwAlloc w _) hb1
    clear hb1
    go_wp2_with fail
    go_ret
    exact ⟨rfl, HB1.out⟩
end Go.Proofs.YtfofoookdlaipaaGreatDoor

namespace Go.Proofs.YtfofoookdlaipaaGreatDoor
open Go.RowKit Go.Shelf

structure Fm (f p m l : Int) (S I : Nat) : Prop where
  of : ∀ w, Calls Tryz.prog 37 #[.int .i64 f] w fun e w' => e = .returned (.tuple #[WV p m l, .int .i64 0]) ∧ Below w.heap.size w w'
  inf : ∀ w, Calls Tryz.prog 81 #[WV p m l] w fun e w' => e = .returned (U I) ∧ Below w.heap.size w w'
  sgn : ∀ (neg : Bool) (s : Nat) w, s < S → Calls Tryz.prog 80 #[WV p m l, .bool neg, U s] w fun e w' => e = .returned (U (if neg then S + s else s)) ∧ Below w.heap.size w w'
  pat : ∀ (b : Nat) w, b < 2 * S → Calls Tryz.prog 49 #[.int .i64 f, U b] w fun e w' => e = .returned (.tuple #[PV p m l (decide (S ≤ b)) (b % S), .int .i64 0]) ∧ Below w.heap.size w w'
  big : ∀ (b : Nat) w, b < B64 → 2 * S ≤ b → Calls Tryz.prog 49 #[.int .i64 f, U b] w fun e w' => e = .returned (.tuple #[PV 0 0 0 false 0, .int .i64 2]) ∧ Below w.heap.size w w'
  cls : ∀ (neg : Bool) (s : Nat) w, Calls Tryz.prog 50 #[PV p m l neg s] w fun e w' => ∃ c : Int, e = .returned (.int .i64 c) ∧ (c == 4) = decide (I < s) ∧ (c == 3) = decide (s = I) ∧ Below w.heap.size w w'
  lt : I < S
  pos : 2 < I
  le : S ≤ 9223372036854775808
set_option maxRecDepth 20000 in
set_option maxHeartbeats 4000000 in
theorem ranked_ok {f p m l : Int} {S I : Nat} (F : Fm f p m l S I) (b : Nat) (hb : b < 2 * S) (hr : b % S ≤ I) (w : World) : Calls Tryz.prog 121 #[.int .i64 f, U b] w fun e w' => e = .returned (.tuple #[PV p m l (decide (S ≤ b)) (b % S), .int .i64 0]) ∧ Below w.heap.size w w' := by
  have HP := fun w => F.pat b w hb
  obtain ⟨z, hz⟩ : ∃ z, z = b % S := ⟨_, rfl⟩
  obtain ⟨s, hs⟩ : ∃ s, s = decide (S ≤ b) := ⟨_, rfl⟩
  simp only [← hz, ← hs] at HP hr ⊢
  have HPH : Hid (∀ w : World, Calls Tryz.prog 49 #[.int .i64 f, U b] w fun e w' => e = .returned (.tuple #[PV p m l s z, .int .i64 0]) ∧ Below w.heap.size w w') := HP
  have HF : Hid (Fm f p m l S I) := F
  have HR : Hid (decide (I < z) = false) := decide_eq_false (by omega)
  clear hz hs HP hr hb F
  go_enter Tryz.func121, Tryz.ntmps121
  go_wp2_with fail
  have X := B5q.new (w) 87 (.int .i64 0) (.int .i64 0) (.int .i64 0) (.bool false) (.int .u64 0)
  have hb0 := bwAlloc (w) (.cells #[.int .i64 0, .int .i64 0, .int .i64 0, .bool false, .int .u64 0] 87)
  generalize (w).alloc (.cells #[.int .i64 0, .int .i64 0, .int .i64 0, .bool false, .int .u64 0] 87) = W at *
  obtain ⟨g, hg⟩ : ∃ g, g = (w).heap.size := ⟨_, rfl⟩
  have HGg : Hid ((w).heap.size ≤ g) := by show _ ≤ _; omega
  rw [← hg] at X ⊢
  clear hg
  refine (HPH.out _).mono ?_
  rintro e w1 ⟨rfl, hb1⟩
  have X1 := X.below hb1
  have HB1 : Hid (Below w.heap.size w w1) := bwOn hb0 hb1
  have XX : Hid (B5q w1 g (.int .i64 0) (.int .i64 0) (.int .i64 0) (.bool false) (.int .u64 0)) := X1
  clear X hb0 hb1
  obtain ⟨x0, x1, x2, x3, x4, x5, x6, x7, x8, x9⟩ := X1
  go_wp2_with fail
  clear x0 x1 x2 x3 x4 x5 x6 x7 x8 x9
  have Y := B5q.new (w1) 87 (.int .i64 p) (.int .i64 m) (.int .i64 l) (.bool s) (U z)
  have hb2 := bwAlloc (w1) (.cells #[.int .i64 p, .int .i64 m, .int .i64 l, .bool s, U z] 87)
  generalize (w1).alloc (.cells #[.int .i64 p, .int .i64 m, .int .i64 l, .bool s, U z] 87) = W2 at *
  obtain ⟨h, hh⟩ : ∃ h, h = (w1).heap.size := ⟨_, rfl⟩
  have HGh : Hid ((w1).heap.size ≤ h) := by show _ ≤ _; omega
  rw [← hh] at Y ⊢
  clear hh
  refine (HF.out.cls s z _).mono ?_
  rintro e w3 ⟨c, rfl, hc4, hc3, hb3⟩
  rw [HR.out] at hc4
  have hbb := bwOn hb2 hb3
  have HB3 : Hid (Below w.heap.size w w3) := bwOn HB1.out hbb
  have hgl := (XX.out.below hbb).lt
  have hhl := (Y.below hb3).lt
  obtain ⟨x0, x1, x2, x3, x4, x5, x6, x7, x8, x9⟩ := XX.out.below hbb
  obtain ⟨y0, y1, y2, y3, y4, y5, y6, y7, y8, y9⟩ := Y.below hb3
  clear Y hb2 hb3 hbb hc3 XX
  go_wp2_with fail
  refine bodyPost_ret (v := .tuple #[PV p m l s z, .int .i64 0]) (by rw [results_ct rfl]; go_simp) rfl ⟨rfl, ?_⟩
  exact bwSet (bwSet (bwSet (bwSet (bwSet HB3.out _ _ _ HGg.out) _ _ _ HGg.out) _ _ _ HGg.out) _ _ _ HGg.out) _ _ _ HGg.out
set_option maxRecDepth 20000 in
set_option maxHeartbeats 4000000 in
theorem rank_ok {f p m l : Int} {S I : Nat} (F : Fm f p m l S I) (b : Nat) (hb : b < 2 * S) (hr : b % S ≤ I) (w : World) : Calls Tryz.prog 72 #[.int .i64 f, U b] w fun e w' => e = .returned (.tuple #[.int .i64 (if S ≤ b then -((b % S : Nat) : Int) else ((b % S : Nat) : Int)), .int .i64 0]) ∧ Below w.heap.size w w' := by
  have HP := fun w => ranked_ok F b hb hr w
  have hIS := F.lt
  have hS := F.le
  have hzl : b % S ≤ 9223372036854775807 := by omega
  obtain ⟨z, hz⟩ : ∃ z, z = b % S := ⟨_, rfl⟩
  simp only [← hz] at HP hr hzl ⊢
  have hwz : IntKind.i64.wrap (z : Int) = (z : Int) := by simp [IntKind.wrap, IntKind.signed, IntKind.bits]; omega
  have hwn : IntKind.i64.wrap (-(z : Int)) = -(z : Int) := by simp [IntKind.wrap, IntKind.signed, IntKind.bits]; omega
  have hw64 : wrap64 (z : Int) = (z : Int) := by simp [wrap64]; omega
  by_cases hs : S ≤ b
  · rw [if_pos hs]
    simp only [decide_eq_true hs] at HP
    have HPH : Hid (∀ w : World, Calls Tryz.prog 121 #[.int .i64 f, U b] w fun e w' => e = .returned (.tuple #[PV p m l true z, .int .i64 0]) ∧ Below w.heap.size w w') := HP
    clear hz hs HP hr hb F hIS hS
    go_enter Tryz.func72, Tryz.ntmps72
    go_wp2_with fail
    refine (HPH.out _).mono ?_
    rintro e w1 ⟨rfl, hb1⟩
    have hbw := bwOn hb1 (bwAlloc w1 (.cells #[.int .i64 p, .int .i64 m, .int .i64 l, .bool true, U z] 87))
    clear hb1
    go_wp2_with fail
    go_ret2
    exact ⟨rfl, hbw⟩
  · rw [if_neg hs]
    simp only [decide_eq_false hs] at HP
    have HPH : Hid (∀ w : World, Calls Tryz.prog 121 #[.int .i64 f, U b] w fun e w' => e = .returned (.tuple #[PV p m l false z, .int .i64 0]) ∧ Below w.heap.size w w') := HP
    clear hz hs HP hr hb F hIS hS
    go_enter Tryz.func72, Tryz.ntmps72
    go_wp2_with fail
    refine (HPH.out _).mono ?_
    rintro e w1 ⟨rfl, hb1⟩
    have hbw := bwOn hb1 (bwAlloc w1 (.cells #[.int .i64 p, .int .i64 m, .int .i64 l, .bool false, U z] 87))
    clear hb1
    go_wp2_with fail
    go_ret2
    exact ⟨rfl, hbw⟩
end Go.Proofs.YtfofoookdlaipaaGreatDoor

namespace Go.Proofs.YtfofoookdlaipaaGreatDoor
open Go.RowKit Go.Shelf

end Go.Proofs.YtfofoookdlaipaaGreatDoor

namespace Go.Proofs.YtfofoookdlaipaaGreatDoor
open Go.RowKit Go.Shelf

end Go.Proofs.YtfofoookdlaipaaGreatDoor

namespace Go.Proofs.YtfofoookdlaipaaGreatDoor
open Go.RowKit Go.Shelf

abbrev FV (S : Nat) (P E G : Int) (I Q : Nat) : Value := .agg #[U S, .int .i64 P, .int .i64 E, .int .i64 G, U I, U Q]
structure B6q (W : World) (g : Nat) (v0 v1 v2 v3 v4 v5 : Value) : Prop where
  c0 : W.cell? ⟨g, 0, none⟩ = some v0
  c1 : W.cell? ⟨g, 1, none⟩ = some v1
  c2 : W.cell? ⟨g, 2, none⟩ = some v2
  c3 : W.cell? ⟨g, 3, none⟩ = some v3
  c4 : W.cell? ⟨g, 4, none⟩ = some v4
  c5 : W.cell? ⟨g, 5, none⟩ = some v5
  f0 : W.frozen? ⟨g, 0, none⟩ = false
  f1 : W.frozen? ⟨g, 1, none⟩ = false
  f2 : W.frozen? ⟨g, 2, none⟩ = false
  f3 : W.frozen? ⟨g, 3, none⟩ = false
  f4 : W.frozen? ⟨g, 4, none⟩ = false
  f5 : W.frozen? ⟨g, 5, none⟩ = false
theorem B6q.below {W W' : World} {g : Nat} {v0 v1 v2 v3 v4 v5 : Value} (h : B6q W g v0 v1 v2 v3 v4 v5) (hb : Below W.heap.size W W') : B6q W' g v0 v1 v2 v3 v4 v5 := by
  have hl : g < W.heap.size := World.block_lt_of_cell? W _ h.c0
  exact ⟨(hb.cell (p := ⟨g, 0, none⟩) hl).trans h.c0, (hb.cell (p := ⟨g, 1, none⟩) hl).trans h.c1, (hb.cell (p := ⟨g, 2, none⟩) hl).trans h.c2, (hb.cell (p := ⟨g, 3, none⟩) hl).trans h.c3, (hb.cell (p := ⟨g, 4, none⟩) hl).trans h.c4, (hb.cell (p := ⟨g, 5, none⟩) hl).trans h.c5, (hb.frozen (p := ⟨g, 0, none⟩) hl).trans h.f0, (hb.frozen (p := ⟨g, 1, none⟩) hl).trans h.f1, (hb.frozen (p := ⟨g, 2, none⟩) hl).trans h.f2, (hb.frozen (p := ⟨g, 3, none⟩) hl).trans h.f3, (hb.frozen (p := ⟨g, 4, none⟩) hl).trans h.f4, (hb.frozen (p := ⟨g, 5, none⟩) hl).trans h.f5⟩
theorem B6q.new (w : World) (ty : TypeId) (v0 v1 v2 v3 v4 v5 : Value) : B6q (w.alloc (.cells #[v0, v1, v2, v3, v4, v5] ty)) w.heap.size v0 v1 v2 v3 v4 v5 :=
  ⟨by go_simp, by go_simp, by go_simp, by go_simp, by go_simp, by go_simp, by go_simp, by go_simp, by go_simp, by go_simp, by go_simp, by go_simp⟩
theorem B6q.lt {W : World} {g : Nat} {v0 v1 v2 v3 v4 v5 : Value} (h : B6q W g v0 v1 v2 v3 v4 v5) : g < W.heap.size := World.block_lt_of_cell? W _ h.c0
theorem B6q.drew {W : World} {g : Nat} {v0 v1 v2 v3 v4 v5 : Value} (h : B6q W g v0 v1 v2 v3 v4 v5) : B6q W.drew g v0 v1 v2 v3 v4 v5 := ⟨h.c0, h.c1, h.c2, h.c3, h.c4, h.c5, h.f0, h.f1, h.f2, h.f3, h.f4, h.f5⟩
structure Rf (f : Int) (S : Nat) (P E G : Int) (I Q : Nat) : Prop where
  of : ∀ w, Calls Tryz.prog 124 #[.int .i64 f] w fun e w' => e = .returned (.tuple #[FV S P E G I Q, .bool true]) ∧ Below w.heap.size w w'
  lt : I < S
  pos : 2 < I
  le : S ≤ 9223372036854775808
set_option maxRecDepth 20000 in
theorem rof_32 (w : World) : Calls Tryz.prog 124 #[.int .i64 32] w fun e w' => e = .returned (.tuple #[FV 2147483648 24 (-149) 104 2139095040 2143289345, .bool true]) ∧ Below w.heap.size w w' := by
  go_enter Tryz.func124, Tryz.ntmps124
  go_wp2_with fail
  refine bodyPost_ret (v := .tuple #[FV 2147483648 24 (-149) 104 2139095040 2143289345, .bool true]) (by rw [results_ct rfl]; go_simp) rfl ⟨rfl, ?_⟩
  exact bwAlloc w _
theorem rf_32 : Rf 32 2147483648 24 (-149) 104 2139095040 2143289345 := ⟨rof_32, by decide, by decide, by decide⟩
set_option maxRecDepth 20000 in
theorem rof_64 (w : World) : Calls Tryz.prog 124 #[.int .i64 64] w fun e w' => e = .returned (.tuple #[FV 9223372036854775808 53 (-1074) 971 9218868437227405312 9221120237041090561, .bool true]) ∧ Below w.heap.size w w' := by
  go_enter Tryz.func124, Tryz.ntmps124
  go_wp2_with fail
  refine bodyPost_ret (v := .tuple #[FV 9223372036854775808 53 (-1074) 971 9218868437227405312 9221120237041090561, .bool true]) (by rw [results_ct rfl]; go_simp) rfl ⟨rfl, ?_⟩
  exact bwAlloc w _
theorem rf_64 : Rf 64 9223372036854775808 53 (-1074) 971 9218868437227405312 9221120237041090561 := ⟨rof_64, by decide, by decide, by decide⟩
set_option maxRecDepth 20000 in
set_option maxHeartbeats 4000000 in
theorem check_ok {f P E G : Int} {S I Q : Nat} (R : Rf f S P E G I Q) (b : Nat) (hb : b < 2 * S) (w : World) : Calls Tryz.prog 123 #[.int .i64 f, U b] w fun e w' => e = .returned (.int .i64 0) ∧ Below w.heap.size w w' := by
  have HR : Hid (Rf f S P E G I Q) := R
  obtain ⟨hf, hhf⟩ : ∃ hf, hf = b / 2 := ⟨_, rfl⟩
  have hd : (b : Int).tdiv 2 = (hf : Int) := by rw [Int.tdiv_eq_ediv_of_nonneg (by omega)]; omega
  have hd2 : (b : Int) / 2 = (hf : Int) := by omega
  have hwf : IntKind.u64.wrap (hf : Int) = (hf : Int) := by rw [IntKind.wrap_u64]; have := R.le; omega
  have hc1 : decide ((S : Int) ≤ (hf : Int)) = false := decide_eq_false (by omega)
  have hc2 : decide (S ≤ hf) = false := decide_eq_false (by omega)
  clear R hhf hb
  go_enter Tryz.func123, Tryz.ntmps123
  go_wp2_with fail
  refine (HR.out.of _).mono ?_
  rintro e w1 ⟨rfl, hb1⟩
  go_wp2_with fail
  go_ret
  exact ⟨rfl, bwOn hb1 (bwAlloc w1 _)⟩
set_option maxRecDepth 20000 in
set_option maxHeartbeats 4000000 in
theorem cut_any {S I Q : Nat} {P E G : Int} (h0 : 0 < S) (hS : S ≤ 9223372036854775808) (b : Nat) (w : World) : Calls Tryz.prog 125 #[FV S P E G I Q, U b] w fun e w' => e = .returned (.tuple #[.bool (decide (S ≤ b)), U (b % S)]) ∧ Below w.heap.size w w' := by
  obtain ⟨z, hz⟩ : ∃ z, z = b % S := ⟨_, rfl⟩
  obtain ⟨s, hs⟩ : ∃ s, s = decide (S ≤ b) := ⟨_, rfl⟩
  have hzl : z < S := by rw [hz]; exact Nat.mod_lt _ h0
  have hd : (b : Int).tmod S = (z : Int) := by rw [Int.tmod_eq_emod_of_nonneg (by omega), hz]; rfl
  have hwz : IntKind.u64.wrap (z : Int) = (z : Int) := by rw [IntKind.wrap_u64]; omega
  have hs0 : ((S : Int) == 0) = false := by simp; omega
  have hs1 : ¬ S = 0 := by omega
  have hs2 : decide ((S : Int) ≤ (b : Int)) = s := by rw [hs]; by_cases h : S ≤ b <;> simp [h]
  have hs3 : decide (S ≤ b) = s := hs.symm
  rw [← hz, hs3]
  clear hz hs hzl h0 hS
  go_enter Tryz.func125, Tryz.ntmps125
  go_wp2_with fail
  go_quiet (fail)
  go_wp2_with fail
  go_ret2
  exact ⟨rfl, bwDrewN (bwAlloc w _) _⟩
end Go.Proofs.YtfofoookdlaipaaGreatDoor

namespace Go.Proofs.YtfofoookdlaipaaGreatDoor
open Go.RowKit Go.Shelf

end Go.Proofs.YtfofoookdlaipaaGreatDoor

namespace Go.Proofs.YtfofoookdlaipaaGreatDoor
open Go.RowKit Go.Shelf

theorem fm_32 : Fm 32 32 24 (-149) 2147483648 2139095040 :=
  { of := of_32, inf := infinity_32v rfl, sgn := fun neg s w hs => signed_32 neg s hs w, pat := fun b w hb => patternOf_32 b hb w, big := fun b w hb hg => patternOf_32_big b hb (by omega) w,
    cls := fun neg s w => (class_32 rfl neg s w).mono (fun e w' h => ⟨_, h.1, by
      by_cases hn : 2139095040 < s
      · rw [cls_nan (by decide) hn, decide_eq_true hn]; decide
      · rw [decide_eq_false hn]; simp [cls_ne (Nat.le_of_not_lt hn)], cls_inf (by decide) (by decide), h.2⟩),
    lt := by decide, pos := by decide, le := by decide }
theorem fm_64 : Fm 64 64 53 (-1074) 9223372036854775808 9218868437227405312 :=
  { of := of_64, inf := infinity_64v rfl, sgn := fun neg s w hs => signed_64 neg s hs w, pat := fun b w hb => patternOf_64 b hb w, big := fun b w hb hg => absurd hg (by rw [B64_eq] at hb; omega),
    cls := fun neg s w => (class_64 rfl neg s w).mono (fun e w' h => ⟨_, h.1, by
      by_cases hn : 9218868437227405312 < s
      · rw [cls_nan (by decide) hn, decide_eq_true hn]; decide
      · rw [decide_eq_false hn]; simp [cls_ne (Nat.le_of_not_lt hn)], cls_inf (by decide) (by decide), h.2⟩),
    lt := by decide, pos := by decide, le := by decide }
end Go.Proofs.YtfofoookdlaipaaGreatDoor

namespace Go.Proofs.YtfofoookdlaipaaGreatDoor
open Go.RowKit

variable {P : Program} {md : Region.Mode} {ops : Array Oper} {Q : Exit → Act → World → Prop} {J : World → Prop}

end Go.Proofs.YtfofoookdlaipaaGreatDoor

namespace Go.Proofs.YtfofoookdlaipaaGreatDoor
open Go.RowKit

variable {P : Program} {md : Region.Mode} {ops : Array Oper} {Q : Exit → Act → World → Prop} {J : World → Prop}

end Go.Proofs.YtfofoookdlaipaaGreatDoor

namespace Go.Proofs.YtfofoookdlaipaaGreatDoor
open Go.RowKit Go.Shelf

set_option maxRecDepth 20000 in
set_option maxHeartbeats 8000000 in
theorem dform_z {p : Option Addr} {m c : Nat} {w : World} {z e : Int} {s : Bool} (h : ZN w s p m c z) (hz : z = 0) (he : e = 0) :
    Calls Tryz.prog 38 #[DV s p m c e] w fun en w' => en = .returned (.bool true) ∧ Below w.heap.size w w' := by
  subst hz
  subst he
  have H : Hid (ZN w s p m c 0) := h
  clear h
  go_enter Tryz.func38, Tryz.ntmps38
  go_wp2_with fail
  obtain ⟨W0, hW0⟩ : ∃ W0, W0 = (w.alloc (.cells #[.bool s, .slice p m c, .int .i64 0] 34)) := ⟨_, rfl⟩
  have Xd : Hid (B3q W0 (w.heap.size) (.bool s) (.slice p m c) (.int .i64 0)) := by rw [hW0]; exact ⟨by go_simp, by go_simp, by go_simp, by go_simp, by go_simp, by go_simp⟩
  have hb0 : Below w.heap.size w W0 := by rw [hW0]; exact below1 w _
  rw [← hW0]
  clear hW0
  have hbw : Below w.heap.size w w := Below.refl _ _
  obtain ⟨gd, hgd⟩ : ∃ g, g = w.heap.size := ⟨_, rfl⟩
  have HGd : Hid (w.heap.size ≤ gd) := by rw [hgd]; show _ ≤ _; omega
  rw [← hgd] at Xd
  try rw [← hgd]
  clear hgd
  replace hbw := Below.on hbw hb0
  clear hb0
  refine (zform (H.out.below hbw)).mono ?_
  rintro e v1 ⟨rfl, hb1⟩
  replace Xd : Hid _ := Xd.out.below hb1
  replace hbw := Below.on hbw hb1
  clear hb1
  obtain ⟨cd0, cd1, cd2, fd0, fd1, fd2⟩ := Xd.out
  have hned : gd < v1.heap.size := World.block_lt_of_cell? v1 _ cd0
  go_wp2_with fail
  clear cd0 cd1 cd2 fd0 fd1 fd2 hned
  refine (zsign (H.out.below hbw)).mono ?_
  rintro e v2 ⟨rfl, hb2⟩
  rw [show sgnI 0 = 0 from rfl]
  replace Xd : Hid _ := Xd.out.below hb2
  replace hbw := Below.on hbw hb2
  clear hb2
  obtain ⟨cd0, cd1, cd2, fd0, fd1, fd2⟩ := Xd.out
  have hned : gd < v2.heap.size := World.block_lt_of_cell? v2 _ cd0
  go_wp2_with fail
  clear cd0 cd1 cd2 fd0 fd1 fd2 hned
  go_ret
  exact ⟨rfl, hbw⟩
set_option maxRecDepth 20000 in
set_option maxHeartbeats 8000000 in
theorem dform_o {p : Option Addr} {m c : Nat} {w : World} {z e : Int} {s : Bool} (h : ZN w s p m c z) (hz : z % 2 = 1) (he : -1048576 ≤ e ∧ e ≤ 1048576) :
    Calls Tryz.prog 38 #[DV s p m c e] w fun en w' => en = .returned (.bool true) ∧ Below w.heap.size w w' := by
  have H : Hid (ZN w s p m c z) := h
  have HZ : Hid (z % 2 = 1) := hz
  have h1 : (-1048576 : Int) ≤ e := he.1
  have h2 : e ≤ 1048576 := he.2
  have h3 : ¬ e < -1048576 := by omega
  have h4 : ¬ 1048576 < e := by omega
  clear hz he
  clear h
  go_enter Tryz.func38, Tryz.ntmps38
  go_wp2_with fail
  obtain ⟨W0, hW0⟩ : ∃ W0, W0 = (w.alloc (.cells #[.bool s, .slice p m c, .int .i64 e] 34)) := ⟨_, rfl⟩
  have Xd : Hid (B3q W0 (w.heap.size) (.bool s) (.slice p m c) (.int .i64 e)) := by rw [hW0]; exact ⟨by go_simp, by go_simp, by go_simp, by go_simp, by go_simp, by go_simp⟩
  have hb0 : Below w.heap.size w W0 := by rw [hW0]; exact below1 w _
  rw [← hW0]
  clear hW0
  have hbw : Below w.heap.size w w := Below.refl _ _
  obtain ⟨gd, hgd⟩ : ∃ g, g = w.heap.size := ⟨_, rfl⟩
  have HGd : Hid (w.heap.size ≤ gd) := by rw [hgd]; show _ ≤ _; omega
  rw [← hgd] at Xd
  try rw [← hgd]
  clear hgd
  replace hbw := Below.on hbw hb0
  clear hb0
  refine (zform (H.out.below hbw)).mono ?_
  rintro e v1 ⟨rfl, hb1⟩
  replace Xd : Hid _ := Xd.out.below hb1
  replace hbw := Below.on hbw hb1
  clear hb1
  obtain ⟨cd0, cd1, cd2, fd0, fd1, fd2⟩ := Xd.out
  have hned : gd < v1.heap.size := World.block_lt_of_cell? v1 _ cd0
  go_wp2_with fail
  clear cd0 cd1 cd2 fd0 fd1 fd2 hned
  refine (zsign (H.out.below hbw)).mono ?_
  rintro e v2 ⟨rfl, hb2⟩
  obtain ⟨sg, hsg⟩ : ∃ sg, sg = sgnI (z) := ⟨_, rfl⟩
  rw [← hsg]
  have hs0 : (sg == 0) = false := by rw [hsg]; have := HZ.out; unfold sgnI; split <;> (try split) <;> simp <;> omega
  clear hsg
  replace Xd : Hid _ := Xd.out.below hb2
  replace hbw := Below.on hbw hb2
  clear hb2
  obtain ⟨cd0, cd1, cd2, fd0, fd1, fd2⟩ := Xd.out
  have hned : gd < v2.heap.size := World.block_lt_of_cell? v2 _ cd0
  go_wp2_with fail
  clear cd0 cd1 cd2 fd0 fd1 fd2 hned
  obtain ⟨xs, hX⟩ := (H.out.below hbw).ex
  refine (bit_int hX.at_ (by have := hX.le; omega) 0 (by decide)).mono ?_
  rintro e2 v3 ⟨rfl, hw⟩
  obtain rfl := hw.symm
  clear hw
  rw [show bitO (valB B64 xs) 0 = true from by unfold bitO; rw [if_neg (by omega), hX.nf.val]; simp; have := HZ.out; omega]
  clear hX
  obtain ⟨cd0, cd1, cd2, fd0, fd1, fd2⟩ := Xd.out
  have hned : gd < v2.heap.size := World.block_lt_of_cell? v2 _ cd0
  go_wp2_with fail
  clear cd0 cd1 cd2 fd0 fd1 fd2 hned
  go_ret
  exact ⟨rfl, hbw⟩
theorem dform_t {p : Option Addr} {m c : Nat} {w : World} {z e : Int} {s : Bool} (h : DN w s p m c e z) :
    Calls Tryz.prog 38 #[DV s p m c e] w fun en w' => en = .returned (.bool true) ∧ Below w.heap.size w w' := by
  rcases h.fm with ⟨h1, h2⟩ | ⟨h1, h2⟩
  · exact dform_z h.zn h1 h2
  · exact dform_o h.zn h1 h2
set_option maxRecDepth 20000 in
set_option maxHeartbeats 8000000 in
theorem moved_ok (e n : Int) (w : World) (he : -1048576 ≤ e ∧ e ≤ 2097152) (hs : -1048576 ≤ e + n ∧ e + n ≤ 1048576) :
    Calls Tryz.prog 86 #[.int .i64 e, .int .i64 n] w fun en w' => en = .returned (.tuple #[.int .i64 (e + n), .int .i64 0]) ∧ w' = w := by
  have f1 : wrap64 (-1048576 - e) = -1048576 - e := by simp only [wrap64]; omega
  have f2 : wrap64 (1048576 - e) = 1048576 - e := by simp only [wrap64]; omega
  have f3 : wrap64 (e + n) = e + n := by simp only [wrap64]; omega
  have f4 : ¬ n < -1048576 - e := by omega
  have f5 : ¬ 1048576 - e < n := by omega
  clear he hs
  go_enter Tryz.func86, Tryz.ntmps86
  go_wp2_with fail
  go_ret2
  exact ⟨rfl, rfl⟩
set_option maxRecDepth 20000 in
set_option maxHeartbeats 8000000 in
theorem make_z {p : Option Addr} {m c : Nat} {w : World} {z e : Int} {s : Bool} (h : ZN w s p m c z) (he : -1048576 ≤ e ∧ e ≤ 524288) (hT : Tab w) (hz : z = 0) :
    Calls Tryz.prog 40 #[ZV s p m c, .int .i64 e] w fun en w' => ∃ v zo eo, en = .returned (.tuple #[v, .int .i64 0]) ∧ AnsD w.heap.size w' v zo eo ∧ DFm zo eo ∧ dv zo eo = dv z e ∧ zo.natAbs ≤ z.natAbs ∧ (zo = 0 ∨ (e ≤ eo ∧ eo ≤ e + 524288)) ∧ Below w.heap.size w w' := by
  have H : Hid (ZN w s p m c z) := h
  have HE : Hid (-1048576 ≤ e ∧ e ≤ 524288) := he
  have TB : Hid (Tab w) := hT
  subst hz
  clear h he hT
  go_enter Tryz.func40, Tryz.ntmps40
  go_wp2_with fail
  obtain ⟨W0, hW0⟩ : ∃ W0, W0 = ((w.alloc (.cells #[.bool s, .slice p m c] 32)).alloc (.cells #[.bool false, .slice none 0 0, .int .i64 0] 34)) := ⟨_, rfl⟩
  have Xm : Hid (Box W0 (w.heap.size) (.bool s) (.slice p m c)) := by rw [hW0]; exact ⟨by go_simp, by go_simp, by go_simp, by go_simp⟩
  have Xr : Hid (B3q W0 (w.heap.size + 1) (.bool false) (.slice none 0 0) (.int .i64 0)) := by rw [hW0]; exact ⟨by go_simp, by go_simp, by go_simp, by go_simp, by go_simp, by go_simp⟩
  have hb0 : Below w.heap.size w W0 := by rw [hW0]; exact below2 w _ _
  rw [← hW0]
  clear hW0
  have hbw : Below w.heap.size w w := Below.refl _ _
  obtain ⟨gr, hgr⟩ : ∃ g, g = w.heap.size + 1 := ⟨_, rfl⟩
  have HGr : Hid (w.heap.size ≤ gr) := by rw [hgr]; show _ ≤ _; omega
  rw [← hgr] at Xr
  try rw [← hgr]
  obtain ⟨gm, hgm⟩ : ∃ g, g = w.heap.size := ⟨_, rfl⟩
  have HGm : Hid (w.heap.size ≤ gm) := by rw [hgm]; show _ ≤ _; omega
  rw [← hgm] at Xm
  try rw [← hgm]
  have HGD : Hid (gm ≠ gr ∧ gr ≠ gm) := by rw [hgm, hgr]; exact ⟨by omega, by omega⟩
  clear hgm hgr
  replace hbw := Below.on hbw hb0
  clear hb0
  refine (zform (H.out.below hbw)).mono ?_
  rintro e v1 ⟨rfl, hb1⟩
  replace Xm : Hid _ := Xm.out.below hb1
  replace Xr : Hid _ := Xr.out.below hb1
  replace hbw := Below.on hbw hb1
  clear hb1
  obtain ⟨cm0, cm1, fm0, fm1⟩ := Xm.out
  have hnem := Xm.out.lt
  go_wp2_with fail
  clear cm0 cm1 fm0 fm1 hnem
  refine (zsign (H.out.below hbw)).mono ?_
  rintro e v2 ⟨rfl, hb2⟩
  rw [show sgnI 0 = 0 from rfl]
  replace Xm : Hid _ := Xm.out.below hb2
  replace Xr : Hid _ := Xr.out.below hb2
  replace hbw := Below.on hbw hb2
  clear hb2
  obtain ⟨cr0, cr1, cr2, fr0, fr1, fr2⟩ := Xr.out
  have hner : gr < v2.heap.size := World.block_lt_of_cell? v2 _ cr0
  go_wp2_with fail
  refine bodyPost_ret (v := .tuple #[DV false none 0 0 0, .int .i64 0]) (by rw [results_cell_tmp rfl]; go_simp) rfl ⟨_, 0, 0, rfl, ⟨none, 0, [], rfl, ⟨rfl, Dig.nil _, .inl rfl⟩, Nf.nil _, by omega⟩, .inl ⟨rfl, rfl⟩, by rw [dv_zero, dv_zero], by omega, .inl rfl, ?_⟩
  first | exact hbw | exact bSet (bSet (bSet hbw _ _ _ HGr.out) _ _ _ HGr.out) _ _ _ HGr.out
set_option maxRecDepth 20000 in
set_option maxHeartbeats 8000000 in
theorem make_n {p : Option Addr} {m c : Nat} {w : World} {z e : Int} {s : Bool} (h : ZN w s p m c z) (he : -1048576 ≤ e ∧ e ≤ 524288) (hT : Tab w) (hz : z ≠ 0) :
    Calls Tryz.prog 40 #[ZV s p m c, .int .i64 e] w fun en w' => ∃ v zo eo, en = .returned (.tuple #[v, .int .i64 0]) ∧ AnsD w.heap.size w' v zo eo ∧ DFm zo eo ∧ dv zo eo = dv z e ∧ zo.natAbs ≤ z.natAbs ∧ (zo = 0 ∨ (e ≤ eo ∧ eo ≤ e + 524288)) ∧ Below w.heap.size w w' := by
  have H : Hid (ZN w s p m c z) := h
  have HE : Hid (-1048576 ≤ e ∧ e ≤ 524288) := he
  have TB : Hid (Tab w) := hT
  have HZ : Hid (z ≠ 0) := hz
  clear hz
  clear h he hT
  go_enter Tryz.func40, Tryz.ntmps40
  go_wp2_with fail
  obtain ⟨W0, hW0⟩ : ∃ W0, W0 = ((w.alloc (.cells #[.bool s, .slice p m c] 32)).alloc (.cells #[.bool false, .slice none 0 0, .int .i64 0] 34)) := ⟨_, rfl⟩
  have Xm : Hid (Box W0 (w.heap.size) (.bool s) (.slice p m c)) := by rw [hW0]; exact ⟨by go_simp, by go_simp, by go_simp, by go_simp⟩
  have Xr : Hid (B3q W0 (w.heap.size + 1) (.bool false) (.slice none 0 0) (.int .i64 0)) := by rw [hW0]; exact ⟨by go_simp, by go_simp, by go_simp, by go_simp, by go_simp, by go_simp⟩
  have hb0 : Below w.heap.size w W0 := by rw [hW0]; exact below2 w _ _
  rw [← hW0]
  clear hW0
  have hbw : Below w.heap.size w w := Below.refl _ _
  obtain ⟨gr, hgr⟩ : ∃ g, g = w.heap.size + 1 := ⟨_, rfl⟩
  have HGr : Hid (w.heap.size ≤ gr) := by rw [hgr]; show _ ≤ _; omega
  rw [← hgr] at Xr
  try rw [← hgr]
  obtain ⟨gm, hgm⟩ : ∃ g, g = w.heap.size := ⟨_, rfl⟩
  have HGm : Hid (w.heap.size ≤ gm) := by rw [hgm]; show _ ≤ _; omega
  rw [← hgm] at Xm
  try rw [← hgm]
  have HGD : Hid (gm ≠ gr ∧ gr ≠ gm) := by rw [hgm, hgr]; exact ⟨by omega, by omega⟩
  clear hgm hgr
  replace hbw := Below.on hbw hb0
  clear hb0
  refine (zform (H.out.below hbw)).mono ?_
  rintro e v1 ⟨rfl, hb1⟩
  replace Xm : Hid _ := Xm.out.below hb1
  replace Xr : Hid _ := Xr.out.below hb1
  replace hbw := Below.on hbw hb1
  clear hb1
  obtain ⟨cm0, cm1, fm0, fm1⟩ := Xm.out
  have hnem := Xm.out.lt
  go_wp2_with fail
  clear cm0 cm1 fm0 fm1 hnem
  refine (zsign (H.out.below hbw)).mono ?_
  rintro e v2 ⟨rfl, hb2⟩
  obtain ⟨sg, hsg⟩ : ∃ sg, sg = sgnI (z) := ⟨_, rfl⟩
  rw [← hsg]
  have hs0 : (sg == 0) = false := by rw [hsg]; have := HZ.out; unfold sgnI; split <;> (try split) <;> simp <;> omega
  clear hsg
  replace Xm : Hid _ := Xm.out.below hb2
  replace Xr : Hid _ := Xr.out.below hb2
  replace hbw := Below.on hbw hb2
  clear hb2
  obtain ⟨cm0, cm1, fm0, fm1⟩ := Xm.out
  have hnem := Xm.out.lt
  go_wp2_with fail
  clear cm0 cm1 fm0 fm1 hnem
  obtain ⟨k, hk⟩ := TzO.ex z.natAbs
  have HK : Hid (TzO z.natAbs k) := hk
  have hkb : k ≤ 524288 := by
    have h1 := (lim_bits z.natAbs).1 H.out.lim
    rcases hk with ⟨h0, _⟩ | ⟨_, h2, h3⟩
    · exact absurd (Int.natAbs_eq_zero.1 h0) HZ.out
    · have h4 : 2 ^ k ≤ z.natAbs := by
        rcases Nat.lt_or_ge z.natAbs (2 ^ k) with h | h
        · rw [Nat.div_eq_of_lt h] at h3; omega
        · exact h
      have h5 := bitsN_lt z.natAbs
      have h6 := (Nat.pow_lt_pow_iff_right (by omega : 1 < 2)).1 (Nat.lt_of_le_of_lt h4 h5)
      omega
  have HKB : Hid (k ≤ 524288) := hkb
  clear hk hkb
  obtain ⟨xs, hX⟩ := (H.out.below hbw).ex
  refine (trail_any hX.at_ (by have := hX.le; omega) (k := k) (by rw [hX.nf.val]; exact HK.out) (TB.out.below hbw)).mono ?_
  rintro e2 v3 ⟨rfl, hw⟩
  obtain rfl := hw.symm
  clear hw hX
  go_wp2_with fail
  refine (moved_ok k e _ (by have := HKB.out; omega) (by have := HKB.out; have := HE.out; omega)).mono ?_
  rintro e2 v4 ⟨rfl, hw⟩
  obtain rfl := hw.symm
  clear hw
  obtain ⟨cm0, cm1, fm0, fm1⟩ := Xm.out
  have hnem := Xm.out.lt
  go_wp2_with fail
  clear cm0 cm1 fm0 fm1 hnem
  obtain ⟨o, ho9⟩ : ∃ o, o = fl (decide (z < 0)) z.natAbs (2 ^ k) := ⟨_, rfl⟩
  have HO9 : Hid (o % 2 = 1 ∧ o * ((2 ^ k : Nat) : Int) = z ∧ o.natAbs ≤ z.natAbs) := by rw [ho9]; exact tz_split HZ.out HK.out
  have HRL : Hid (gr < v2.heap.size ∧ w.heap.size ≤ v2.heap.size) := ⟨Xr.out.lt, hbw.size⟩
  obtain ⟨xs, hX⟩ := (H.out.below hbw).ex
  refine (fshr_any s hX H.out.pos k (by have := HKB.out; omega) (TB.out.below hbw)).mono ?_
  rintro e2 v5 ⟨v, rfl, hv, hb5⟩
  rw [H.out.sg, ← ho9] at hv
  obtain ⟨p5, m5, z5, rfl, ho5, hn5, hm5⟩ := hv
  clear hX ho9
  replace Xm : Hid _ := Xm.out.below hb5
  replace Xr : Hid _ := Xr.out.below hb5
  replace hbw := Below.on hbw hb5
  clear hb5
  have O5 : Hid (Own v2.heap.size v5 p5 m5 z5) := ho5
  have N5 : Hid (Nf B64 z5 o.natAbs ∧ m5 ≤ 8192) := ⟨hn5, hm5⟩
  clear ho5 hn5 hm5
  obtain ⟨so, hso⟩ : ∃ b, b = decide (o < 0) := ⟨_, rfl⟩
  rw [← hso]
  have HSO : Hid (so = decide (o < 0)) := hso
  clear hso
  obtain ⟨cr0, cr1, cr2, fr0, fr1, fr2⟩ := Xr.out
  have hner : gr < v5.heap.size := World.block_lt_of_cell? v5 _ cr0
  go_wp2_with fail
  refine bodyPost_ret (v := .tuple #[DV so p5 m5 m5 (k + e), .int .i64 0]) (by rw [results_cell_tmp rfl]; go_simp) rfl ⟨_, o, k + e, rfl, ⟨p5, m5, z5, by rw [HSO.out], ?_, N5.out.1, N5.out.2⟩, ?_, ?_, HO9.out.2.2, ?_, ?_⟩
  · exact (own_set3 O5.out HRL.out.1 HRL.out.2 _ _ _).below (below1 _ _)
  · have := HKB.out; have := HE.out
    exact .inr ⟨HO9.out.1, by omega, by omega⟩
  · rw [dv_shift (e := (k : Int) + e) (f := e) (by omega) (by have := HE.out; omega), show ((k : Int) + e - e).toNat = k from by omega, HO9.out.2.1]
  · have := HKB.out
    exact .inr ⟨by omega, by omega⟩
  · exact Below.on (bSet (bSet (bSet hbw _ _ _ HGr.out) _ _ _ HGr.out) _ _ _ HGr.out) (below1 _ _)
theorem make_any {p : Option Addr} {m c : Nat} {w : World} {z e : Int} {s : Bool} (h : ZN w s p m c z) (he : -1048576 ≤ e ∧ e ≤ 524288) (hT : Tab w) :
    Calls Tryz.prog 40 #[ZV s p m c, .int .i64 e] w fun en w' => ∃ v zo eo, en = .returned (.tuple #[v, .int .i64 0]) ∧ AnsD w.heap.size w' v zo eo ∧ DFm zo eo ∧ dv zo eo = dv z e ∧ zo.natAbs ≤ z.natAbs ∧ (zo = 0 ∨ (e ≤ eo ∧ eo ≤ e + 524288)) ∧ Below w.heap.size w w' := by
  by_cases hz : z = 0
  · exact make_z h he hT hz
  · exact make_n h he hT hz
end Go.Proofs.YtfofoookdlaipaaGreatDoor

namespace Go.Proofs.YtfofoookdlaipaaGreatDoor
open Go.RowKit Go.Shelf

set_option maxRecDepth 20000 in
set_option maxHeartbeats 8000000 in
theorem dneg {p : Option Addr} {m c : Nat} {w : World} {z e : Int} {s : Bool} (h : DN w s p m c e z) :
    Calls Tryz.prog 31 #[DV s p m c e] w fun en w' => ∃ v, en = .returned (.tuple #[v, .int .i64 0]) ∧ AnsD w.heap.size w' v (-z) e ∧ DFm (-z) e ∧ Below w.heap.size w w' := by
  have H : Hid (DN w s p m c e z) := h
  have HF : Hid (DFm (-z) e) := by rcases h.fm with ⟨h1, h2⟩ | ⟨h1, h2⟩; (exact .inl ⟨by omega, h2⟩); exact .inr ⟨by omega, h2⟩
  clear h
  go_enter Tryz.func31, Tryz.ntmps31
  go_wp2_with fail
  obtain ⟨W0, hW0⟩ : ∃ W0, W0 = ((w.alloc (.cells #[.bool s, .slice p m c, .int .i64 e] 34)).alloc (.cells #[.bool false, .slice none 0 0, .int .i64 0] 34)) := ⟨_, rfl⟩
  have Xd : Hid (B3q W0 (w.heap.size) (.bool s) (.slice p m c) (.int .i64 e)) := by rw [hW0]; exact ⟨by go_simp, by go_simp, by go_simp, by go_simp, by go_simp, by go_simp⟩
  have Xr : Hid (B3q W0 (w.heap.size + 1) (.bool false) (.slice none 0 0) (.int .i64 0)) := by rw [hW0]; exact ⟨by go_simp, by go_simp, by go_simp, by go_simp, by go_simp, by go_simp⟩
  have hb0 : Below w.heap.size w W0 := by rw [hW0]; exact below2 w _ _
  rw [← hW0]
  clear hW0
  have hbw : Below w.heap.size w w := Below.refl _ _
  obtain ⟨gr, hgr⟩ : ∃ g, g = w.heap.size + 1 := ⟨_, rfl⟩
  have HGr : Hid (w.heap.size ≤ gr) := by rw [hgr]; show _ ≤ _; omega
  rw [← hgr] at Xr
  try rw [← hgr]
  obtain ⟨gd, hgd⟩ : ∃ g, g = w.heap.size := ⟨_, rfl⟩
  have HGd : Hid (w.heap.size ≤ gd) := by rw [hgd]; show _ ≤ _; omega
  rw [← hgd] at Xd
  try rw [← hgd]
  have HGD : Hid (gd ≠ gr ∧ gr ≠ gd) := by rw [hgd, hgr]; exact ⟨by omega, by omega⟩
  clear hgd hgr
  replace hbw := Below.on hbw hb0
  clear hb0
  refine (dform_t (H.out.below hbw)).mono ?_
  rintro e v1 ⟨rfl, hb1⟩
  replace Xd : Hid _ := Xd.out.below hb1
  replace Xr : Hid _ := Xr.out.below hb1
  replace hbw := Below.on hbw hb1
  clear hb1
  obtain ⟨cd0, cd1, cd2, fd0, fd1, fd2⟩ := Xd.out
  have hned : gd < v1.heap.size := World.block_lt_of_cell? v1 _ cd0
  go_wp2_with fail
  clear cd0 cd1 cd2 fd0 fd1 fd2 hned
  have HRL : Hid (gr < v1.heap.size ∧ w.heap.size ≤ v1.heap.size) := ⟨Xr.out.lt, hbw.size⟩
  obtain ⟨xs, hX⟩ := (H.out.zn.below hbw).ex
  refine (neg_any s hX H.out.zn.pos).mono ?_
  rintro e2 v5 ⟨v, rfl, hv, hb5⟩
  rw [iv_not, H.out.zn.iv] at hv
  obtain ⟨p5, m5, z5, rfl, ho5, hn5, hm5⟩ := hv
  clear hX
  replace Xd : Hid _ := Xd.out.below hb5
  replace Xr : Hid _ := Xr.out.below hb5
  replace hbw := Below.on hbw hb5
  clear hb5
  have O5 : Hid (Own v1.heap.size v5 p5 m5 z5) := ho5
  have N5 : Hid (Nf B64 z5 (-z).natAbs ∧ m5 ≤ 8192) := ⟨hn5, hm5⟩
  clear ho5 hn5 hm5
  obtain ⟨so, hso⟩ : ∃ b, b = decide (-z < 0) := ⟨_, rfl⟩
  rw [← hso]
  have HSO : Hid (so = decide (-z < 0)) := hso
  clear hso
  obtain ⟨hgd0, hgd1⟩ := HGD.out
  obtain ⟨cd0, cd1, cd2, fd0, fd1, fd2⟩ := Xd.out
  have hned : gd < v5.heap.size := World.block_lt_of_cell? v5 _ cd0
  obtain ⟨cr0, cr1, cr2, fr0, fr1, fr2⟩ := Xr.out
  have hner : gr < v5.heap.size := World.block_lt_of_cell? v5 _ cr0
  go_wp2_with fail
  refine bodyPost_ret (v := .tuple #[DV so p5 m5 m5 e, .int .i64 0]) (by rw [results_cell_tmp rfl]; go_simp) rfl ⟨_, rfl, ⟨p5, m5, z5, by rw [HSO.out], ?_, N5.out.1, N5.out.2⟩, HF.out, ?_⟩
  · exact (own_set3 O5.out HRL.out.1 HRL.out.2 _ _ _).below (below1 _ _)
  · exact Below.on (bSet (bSet (bSet hbw _ _ _ HGr.out) _ _ _ HGr.out) _ _ _ HGr.out) (below1 _ _)
set_option maxRecDepth 20000 in
set_option maxHeartbeats 8000000 in
theorem dmul {p q : Option Addr} {m c n d : Nat} {w : World} {x y e f : Int} {s t : Bool} (h : DN w s p m c e x) (k : DN w t q n d f y) (hl : (x * y).natAbs < LIM) (he : -1048576 ≤ e + f ∧ e + f ≤ 524288) (hT : Tab w) :
    Calls Tryz.prog 27 #[DV s p m c e, DV t q n d f] w fun en w' => ∃ v zo eo, en = .returned (.tuple #[v, .int .i64 0]) ∧ AnsD w.heap.size w' v zo eo ∧ DFm zo eo ∧ dv zo eo = dv (x * y) (e + f) ∧ zo.natAbs ≤ (x * y).natAbs ∧ (zo = 0 ∨ (e + f ≤ eo ∧ eo ≤ e + f + 524288)) ∧ Below w.heap.size w w' := by
  have H : Hid (DN w s p m c e x) := h
  have K : Hid (DN w t q n d f y) := k
  have HL : Hid ((x * y).natAbs < LIM ∧ -1048576 ≤ e + f ∧ e + f ≤ 524288) := ⟨hl, he⟩
  have TB : Hid (Tab w) := hT
  have f1 : wrap64 (e + f) = e + f := by simp only [wrap64]; omega
  have f2 : IntKind.i64.wrap (e + f) = e + f := by simp [IntKind.wrap, IntKind.signed, IntKind.bits]; omega
  have F1 : Hid (wrap64 (e + f) = e + f ∧ IntKind.i64.wrap (e + f) = e + f) := ⟨f1, f2⟩
  clear h k hl he hT f1 f2
  go_enter Tryz.func27, Tryz.ntmps27
  go_wp2_with fail
  obtain ⟨W0, hW0⟩ : ∃ W0, W0 = (((w.alloc (.cells #[.bool s, .slice p m c, .int .i64 e] 34)).alloc (.cells #[.bool t, .slice q n d, .int .i64 f] 34)).alloc (.cells #[.bool false, .slice none 0 0, .int .i64 0] 34)) := ⟨_, rfl⟩
  have Xa : Hid (B3q W0 (w.heap.size) (.bool s) (.slice p m c) (.int .i64 e)) := by rw [hW0]; exact ⟨by go_simp, by go_simp, by go_simp, by go_simp, by go_simp, by go_simp⟩
  have Xb : Hid (B3q W0 (w.heap.size + 1) (.bool t) (.slice q n d) (.int .i64 f)) := by rw [hW0]; exact ⟨by go_simp, by go_simp, by go_simp, by go_simp, by go_simp, by go_simp⟩
  have Xr : Hid (B3q W0 (w.heap.size + 1 + 1) (.bool false) (.slice none 0 0) (.int .i64 0)) := by rw [hW0]; exact ⟨by go_simp, by go_simp, by go_simp, by go_simp, by go_simp, by go_simp⟩
  have hb0 : Below w.heap.size w W0 := by rw [hW0]; exact below3 w _ _ _
  rw [← hW0]
  clear hW0
  have hbw : Below w.heap.size w w := Below.refl _ _
  obtain ⟨gr, hgr⟩ : ∃ g, g = w.heap.size + 1 + 1 := ⟨_, rfl⟩
  have HGr : Hid (w.heap.size ≤ gr) := by rw [hgr]; show _ ≤ _; omega
  rw [← hgr] at Xr
  try rw [← hgr]
  obtain ⟨gb, hgb⟩ : ∃ g, g = w.heap.size + 1 := ⟨_, rfl⟩
  have HGb : Hid (w.heap.size ≤ gb) := by rw [hgb]; show _ ≤ _; omega
  rw [← hgb] at Xb
  try rw [← hgb]
  obtain ⟨ga, hga⟩ : ∃ g, g = w.heap.size := ⟨_, rfl⟩
  have HGa : Hid (w.heap.size ≤ ga) := by rw [hga]; show _ ≤ _; omega
  rw [← hga] at Xa
  try rw [← hga]
  have HGD : Hid (ga ≠ gb ∧ ga ≠ gr ∧ gb ≠ ga ∧ gb ≠ gr ∧ gr ≠ ga ∧ gr ≠ gb) := by rw [hga, hgb, hgr]; exact ⟨by omega, by omega, by omega, by omega, by omega, by omega⟩
  clear hga hgb hgr
  replace hbw := Below.on hbw hb0
  clear hb0
  refine (dform_t (H.out.below hbw)).mono ?_
  rintro e v1 ⟨rfl, hb1⟩
  replace Xa : Hid _ := Xa.out.below hb1
  replace Xb : Hid _ := Xb.out.below hb1
  replace Xr : Hid _ := Xr.out.below hb1
  replace hbw := Below.on hbw hb1
  clear hb1
  obtain ⟨cb0, cb1, cb2, fb0, fb1, fb2⟩ := Xb.out
  have hneb : gb < v1.heap.size := World.block_lt_of_cell? v1 _ cb0
  go_wp2_with fail
  clear cb0 cb1 cb2 fb0 fb1 fb2 hneb
  refine (dform_t (K.out.below hbw)).mono ?_
  rintro e v2 ⟨rfl, hb2⟩
  replace Xa : Hid _ := Xa.out.below hb2
  replace Xb : Hid _ := Xb.out.below hb2
  replace Xr : Hid _ := Xr.out.below hb2
  replace hbw := Below.on hbw hb2
  clear hb2
  obtain ⟨ca0, ca1, ca2, fa0, fa1, fa2⟩ := Xa.out
  have hnea : ga < v2.heap.size := World.block_lt_of_cell? v2 _ ca0
  obtain ⟨cb0, cb1, cb2, fb0, fb1, fb2⟩ := Xb.out
  have hneb : gb < v2.heap.size := World.block_lt_of_cell? v2 _ cb0
  go_wp2_with fail
  clear ca0 ca1 ca2 fa0 fa1 fa2 hnea
  clear cb0 cb1 cb2 fb0 fb1 fb2 hneb
  refine (zmul (H.out.zn.below hbw) (K.out.zn.below hbw)).mono ?_
  rintro e2 v5 ⟨ha, hb5⟩
  obtain ⟨s5, p5, m5, rfl, hz⟩ := ha.got HL.out.1
  clear ha
  replace Xa : Hid _ := Xa.out.below hb5
  replace Xb : Hid _ := Xb.out.below hb5
  replace Xr : Hid _ := Xr.out.below hb5
  replace hbw := Below.on hbw hb5
  clear hb5
  have Z5 : Hid (ZN v5 s5 p5 m5 m5 (x * y)) := hz
  clear hz
  have f1 := F1.out.1
  have f2 := F1.out.2
  obtain ⟨ca0, ca1, ca2, fa0, fa1, fa2⟩ := Xa.out
  have hnea : ga < v5.heap.size := World.block_lt_of_cell? v5 _ ca0
  obtain ⟨cb0, cb1, cb2, fb0, fb1, fb2⟩ := Xb.out
  have hneb : gb < v5.heap.size := World.block_lt_of_cell? v5 _ cb0
  go_wp2_with fail
  clear ca0 ca1 ca2 fa0 fa1 fa2 hnea
  clear cb0 cb1 cb2 fb0 fb1 fb2 hneb
  clear f1 f2
  have Xq0 : Hid (Box (v5.alloc (.cells #[.bool s5, .slice p5 m5 m5] 32)) v5.heap.size (.bool s5) (.slice p5 m5 m5)) := Box.new v5 _ _ _
  have hbn : Below v5.heap.size v5 (v5.alloc (.cells #[.bool s5, .slice p5 m5 m5] 32)) := below1 v5 _
  generalize v5.alloc (.cells #[.bool s5, .slice p5 m5 m5] 32) = Wq at *
  have HGq : Hid (w.heap.size ≤ v5.heap.size) := hbw.size
  replace Xa : Hid _ := Xa.out.below hbn
  replace Xb : Hid _ := Xb.out.below hbn
  replace Xr : Hid _ := Xr.out.below hbn
  replace Z5 : Hid _ := Z5.out.below hbn
  replace hbw := Below.on hbw hbn
  clear hbn
  generalize v5.heap.size = gq at *
  have Xq := Xq0
  clear Xq0
  have HRL : Hid (gr < Wq.heap.size ∧ w.heap.size ≤ Wq.heap.size) := ⟨Xr.out.lt, hbw.size⟩
  refine (make_any Z5.out HL.out.2 (TB.out.below hbw)).mono ?_
  rintro e2 v6 ⟨v, zo, eo, rfl, hv, hfm, hdv, hle, hor, hb6⟩
  obtain ⟨p6, m6, z6, rfl, ho6, hn6, hm6⟩ := hv
  replace Xa : Hid _ := Xa.out.below hb6
  replace Xb : Hid _ := Xb.out.below hb6
  replace Xr : Hid _ := Xr.out.below hb6
  replace Xq : Hid _ := Xq.out.below hb6
  replace Z5 : Hid _ := Z5.out.below hb6
  replace hbw := Below.on hbw hb6
  clear hb6
  have O6 : Hid (Own Wq.heap.size v6 p6 m6 z6) := ho6
  have N6 : Hid (Nf B64 z6 zo.natAbs ∧ m6 ≤ 8192 ∧ DFm zo eo ∧ dv zo eo = dv (x * y) (e + f) ∧ zo.natAbs ≤ (x * y).natAbs ∧ (zo = 0 ∨ (e + f ≤ eo ∧ eo ≤ e + f + 524288))) := ⟨hn6, hm6, hfm, hdv, hle, hor⟩
  clear ho6 hn6 hm6 hfm hdv hle hor
  obtain ⟨so, hso⟩ : ∃ b, b = decide (zo < 0) := ⟨_, rfl⟩
  rw [← hso]
  have HSO : Hid (so = decide (zo < 0)) := hso
  clear hso
  obtain ⟨cr0, cr1, cr2, fr0, fr1, fr2⟩ := Xr.out
  have hner : gr < v6.heap.size := World.block_lt_of_cell? v6 _ cr0
  go_wp2_with fail
  refine bodyPost_ret (v := .tuple #[DV so p6 m6 m6 eo, .int .i64 0]) (by rw [results_cell_tmp rfl]; go_simp) rfl ⟨_, zo, eo, rfl, ⟨p6, m6, z6, by rw [HSO.out], ?_, N6.out.1, N6.out.2.1⟩, N6.out.2.2.1, N6.out.2.2.2.1, N6.out.2.2.2.2.1, N6.out.2.2.2.2.2, ?_⟩
  · exact own_set3 O6.out HRL.out.1 HRL.out.2 _ _ _
  · exact bSet (bSet (bSet hbw _ _ _ HGr.out) _ _ _ HGr.out) _ _ _ HGr.out
end Go.Proofs.YtfofoookdlaipaaGreatDoor

namespace Go.Proofs.YtfofoookdlaipaaGreatDoor
open Go.RowKit Go.Shelf
theorem below4 (w : World) (a b c d : Obj) : Below w.heap.size w ((((w.alloc a).alloc b).alloc c).alloc d) := (below3 w a b c).alloc (by simp; omega) d
end Go.Proofs.YtfofoookdlaipaaGreatDoor

namespace Go.Proofs.YtfofoookdlaipaaGreatDoor
open Go.RowKit Go.Shelf

end Go.Proofs.YtfofoookdlaipaaGreatDoor

namespace Go.Proofs.YtfofoookdlaipaaGreatDoor
open Go.RowKit Go.Shelf

end Go.Proofs.YtfofoookdlaipaaGreatDoor

namespace Go.Proofs.YtfofoookdlaipaaGreatDoor
open Go.RowKit Go.Shelf

end Go.Proofs.YtfofoookdlaipaaGreatDoor

namespace Go.Proofs.YtfofoookdlaipaaGreatDoor
open Go.RowKit Go.Shelf

end Go.Proofs.YtfofoookdlaipaaGreatDoor

namespace Go.Proofs.YtfofoookdlaipaaGreatDoor
open Go.RowKit Go.Shelf

theorem exp_bound {zo eo z e : Int} {L : Nat} (h0 : zo ≠ 0) (hle : e ≤ eo) (he : -4194304 ≤ e) (hv : dv zo eo = dv z e) (hz : z.natAbs < 2 ^ L) : eo - e < L := by
  rw [dv_shift hle he] at hv
  unfold dv at hv
  have h1 := Int.eq_of_mul_eq_mul_right (pow_pos_int _) hv
  have h2 : z.natAbs = zo.natAbs * 2 ^ (eo - e).toNat := by rw [← h1, Int.natAbs_mul, Int.natAbs_natCast]
  have h3 : 2 ^ (eo - e).toNat ≤ z.natAbs := by rw [h2]; exact Nat.le_mul_of_pos_left _ (by omega)
  have h4 := (Nat.pow_lt_pow_iff_right (by omega : 1 < 2)).1 (Nat.lt_of_le_of_lt h3 hz)
  omega
theorem pow_cast (n : Nat) : (2 : Int) ^ n = ((2 ^ n : Nat) : Int) := by norm_cast
theorem lt_LIM {n L : Nat} (h : n < 2 ^ L) (hL : L ≤ 524288) : n < LIM := by
  refine (lim_bits n).2 ?_
  by_cases h0 : n = 0
  · rw [h0, bitsN_zero]; omega
  · have h1 := bitsN_le n h0
    have h2 := (Nat.pow_lt_pow_iff_right (by omega : 1 < 2)).1 (Nat.lt_of_le_of_lt h1 h)
    omega
structure DB (z e : Int) (K E : Nat) : Prop where
  fm : DFm z e
  sz : z.natAbs < 2 ^ K
  lo : -(E : Int) ≤ e
  hi : e ≤ E
theorem DB.mono {z e : Int} {K E K' E' : Nat} (h : DB z e K E) (hK : K ≤ K') (hE : E ≤ E') : DB z e K' E' :=
  ⟨h.fm, Nat.lt_of_lt_of_le h.sz (Nat.pow_le_pow_right (by omega) hK), by have := h.lo; omega, by have := h.hi; omega⟩
end Go.Proofs.YtfofoookdlaipaaGreatDoor

namespace Go.Proofs.YtfofoookdlaipaaGreatDoor
open Go.RowKit Go.Shelf

theorem DFm.neg {z e : Int} (h : DFm z e) : DFm (-z) e := by
  rcases h with ⟨h1, h2⟩ | ⟨h1, h2⟩
  · exact .inl ⟨by omega, h2⟩
  · exact .inr ⟨by omega, h2⟩
theorem DB.neg {z e : Int} {K E : Nat} (h : DB z e K E) : DB (-z) e K E := ⟨h.fm.neg, by rw [Int.natAbs_neg]; exact h.sz, h.lo, h.hi⟩
theorem dmul_b {p q : Option Addr} {m c n d : Nat} {w : World} {x y e f : Int} {s t : Bool} {K E K' E' : Nat} (h : DN w s p m c e x) (k : DN w t q n d f y) (bx : DB x e K E) (by_ : DB y f K' E') (hK : K + K' ≤ 524288) (hE : E + E' ≤ 524288) (hT : Tab w) :
    Calls Tryz.prog 27 #[DV s p m c e, DV t q n d f] w fun en w' => ∃ v zo eo, en = .returned (.tuple #[v, .int .i64 0]) ∧ AnsD w.heap.size w' v zo eo ∧ DB zo eo (K + K') (E + E' + K + K') ∧ dv zo eo = dv (x * y) (e + f) ∧ Below w.heap.size w w' := by
  have h1 := bx.lo; have h2 := bx.hi; have h3 := by_.lo; have h4 := by_.hi
  have hS : (x * y).natAbs < 2 ^ (K + K') := by
    rw [Int.natAbs_mul, Nat.pow_add]
    exact Nat.mul_lt_mul'' bx.sz by_.sz
  refine (dmul h k (lt_LIM hS hK) (by omega) hT).mono fun en w' ⟨v, zo, eo, he, ha, hfm, hdv, hle, hor, hb⟩ => ⟨v, zo, eo, he, ha, ⟨hfm, Nat.lt_of_le_of_lt hle hS, ?_, ?_⟩, hdv, hb⟩
  · rcases hor with h0 | ⟨h5, h6⟩
    · rcases hfm with ⟨_, h7⟩ | ⟨h7, _⟩ <;> omega
    · omega
  · by_cases hz0 : zo = 0
    · rcases hfm with ⟨_, h7⟩ | ⟨h7, _⟩ <;> omega
    · rcases hor with h0 | ⟨h5, h6⟩
      · exact absurd h0 hz0
      · have := exp_bound hz0 h5 (by omega) hdv hS
        omega
end Go.Proofs.YtfofoookdlaipaaGreatDoor

namespace Go.Proofs.YtfofoookdlaipaaGreatDoor
open Go.RowKit Go.Shelf

end Go.Proofs.YtfofoookdlaipaaGreatDoor

namespace Go.Proofs.YtfofoookdlaipaaGreatDoor
open Go.RowKit Go.Shelf

end Go.Proofs.YtfofoookdlaipaaGreatDoor

namespace Go.Proofs.YtfofoookdlaipaaGreatDoor
open Go.RowKit Go.Shelf

theorem fl_neg (x : Int) (d : Nat) : fl (decide (-x < 0)) (-x).natAbs d = - ce (decide (x < 0)) x.natAbs d := by
  rw [Int.natAbs_neg]
  by_cases hx : x = 0
  · subst hx
    simp [fl, ce, iv]
  · rw [show decide (-x < 0) = !decide (x < 0) from by rw [← decide_not]; exact decide_eq_decide.2 (by omega)]
    exact fl_not _ _ _
end Go.Proofs.YtfofoookdlaipaaGreatDoor

namespace Go.Proofs.YtfofoookdlaipaaGreatDoor
open Go.RowKit Go.Shelf

theorem fl_eq (z : Int) (d : Nat) (hd : 0 < d) : fl (decide (z < 0)) z.natAbs d = z / (d : Int) := by
  have h := fl_mo (decide (z < 0)) false z.natAbs d hd
  rw [iv_abs, iv_f, Bool.bne_false] at h
  have h1 : 0 ≤ mo (decide (z < 0)) false z.natAbs d ∧ mo (decide (z < 0)) false z.natAbs d < (d : Int) := by
    unfold mo
    rw [iv_f]
    have := Nat.mod_lt z.natAbs hd
    split
    · rename_i h2
      have h3 : z.natAbs % d ≠ 0 := by simp at h2; omega
      omega
    · omega
  generalize mo (decide (z < 0)) false z.natAbs d = r at *
  generalize fl (decide (z < 0)) z.natAbs d = q at *
  rw [← h, Int.add_comm, Int.add_mul_ediv_right _ _ (by omega), Int.ediv_eq_zero_of_lt h1.1 h1.2]
  omega
theorem ce_eq (z : Int) (d : Nat) (hd : 0 < d) : ce (decide (z < 0)) z.natAbs d = -((-z) / (d : Int)) := by
  have h := fl_neg z d
  rw [fl_eq _ _ hd] at h
  omega
def rd (up : Bool) (z : Int) (d : Nat) : Int := if up then -((-z) / (d : Int)) else z / (d : Int)
theorem rd_f (z : Int) (d : Nat) : rd false z d = z / (d : Int) := rfl
theorem rd_t (z : Int) (d : Nat) : rd true z d = -((-z) / (d : Int)) := rfl
theorem rd_zero (up : Bool) (d : Nat) : rd up 0 d = 0 := by
  cases up
  · rw [rd_f]; simp
  · rw [rd_t]; simp
theorem rd_down (z : Int) {d : Nat} (hd : 0 < d) : rd false z d * d ≤ z ∧ z < (rd false z d + 1) * d := by
  rw [rd_f]
  have h := Int.mul_ediv_add_emod z d
  have h1 := Int.emod_nonneg z (b := (d : Int)) (by omega)
  have h2 := Int.emod_lt_of_pos z (b := (d : Int)) (by omega)
  rw [Int.add_mul, Int.mul_comm (z / (d : Int))]
  omega
theorem rd_up (z : Int) {d : Nat} (hd : 0 < d) : z ≤ rd true z d * d ∧ (rd true z d - 1) * d < z := by
  rw [rd_t]
  have h := Int.mul_ediv_add_emod (-z) d
  have h1 := Int.emod_nonneg (-z) (b := (d : Int)) (by omega)
  have h2 := Int.emod_lt_of_pos (-z) (b := (d : Int)) (by omega)
  rw [Int.sub_mul, Int.neg_mul, Int.mul_comm (-z / (d : Int))]
  omega
theorem rd_neg (z : Int) (d : Nat) : rd false (-z) d = - rd true z d := by rw [rd_f, rd_t]; omega
theorem rd_step (z : Int) {d : Nat} (hd : 0 < d) : rd true z d = rd false z d ∧ rd false z d * d = z ∨ rd true z d = rd false z d + 1 := by
  have h1 := rd_down z hd
  have h2 := rd_up z hd
  generalize rd false z d = F at *
  generalize rd true z d = C at *
  have h3 : F * d < (C + 1) * d := by
    rw [Int.add_mul]
    omega
  have h4 : (C - 1) * d < (F + 1) * d := by omega
  have h5 := Int.lt_of_mul_lt_mul_right h3 (by omega)
  have h6 := Int.lt_of_mul_lt_mul_right h4 (by omega)
  have h7 : C = F ∨ C = F + 1 := by omega
  rcases h7 with h7 | h7
  · subst h7; exact .inl ⟨rfl, by omega⟩
  · exact .inr h7
theorem cut_size (up : Bool) {z : Int} {p k : Nat} (hz : z ≠ 0) (hp : 1 ≤ p) (hk : k = bitsN z.natAbs - p) : (rd up z (2 ^ k)).natAbs ≤ 2 ^ p ∧ rd up z (2 ^ k) ≠ 0 := by
  have hb1 := bitsN_lt z.natAbs
  have hb2 := bitsN_le z.natAbs (by omega)
  have hb0 := bitsN_pos (a := z.natAbs) (by omega)
  have h1 : z.natAbs < 2 ^ p * 2 ^ k := by
    rw [← Nat.pow_add]
    exact Nat.lt_of_lt_of_le hb1 (Nat.pow_le_pow_right (by omega) (by omega))
  have h2 : 2 ^ k ≤ z.natAbs := Nat.le_trans (Nat.pow_le_pow_right (by omega) (by omega)) hb2
  have hd : 0 < 2 ^ k := Nat.pow_pos (by omega)
  generalize hD : 2 ^ k = d at *
  generalize hP : 2 ^ p = P at *
  have h3 : z < (P : Int) * d ∧ -((P : Int) * d) < z := by
    have : ((P * d : Nat) : Int) = (P : Int) * d := Int.natCast_mul _ _
    omega
  cases up
  · have h4 := rd_down z hd
    generalize rd false z d = F at *
    have h5 : F * d < P * d := by omega
    have h6 := Int.lt_of_mul_lt_mul_right h5 (by omega)
    have h7 : (-(P : Int)) * d < (F + 1) * d := by rw [Int.neg_mul]; omega
    have h8 := Int.lt_of_mul_lt_mul_right h7 (by omega)
    refine ⟨by omega, ?_⟩
    intro h0
    subst h0
    omega
  · have h4 := rd_up z hd
    generalize rd true z d = F at *
    have h5 : (F - 1) * d < P * d := by omega
    have h6 := Int.lt_of_mul_lt_mul_right h5 (by omega)
    have h7 : (-(P : Int)) * d < F * d := by rw [Int.neg_mul]; omega
    have h8 := Int.lt_of_mul_lt_mul_right h7 (by omega)
    refine ⟨by omega, ?_⟩
    intro h0
    subst h0
    omega
theorem dv_le {x y : Int} (e : Int) (h : x ≤ y) : dv x e ≤ dv y e := by
  unfold dv
  exact Int.mul_le_mul_of_nonneg_right h (Int.natCast_nonneg _)
theorem dv_up {x e : Int} (k : Nat) (he : -4194304 ≤ e) : dv x (e + k) = dv (x * ((2 ^ k : Nat) : Int)) e := by
  rw [dv_shift (e := e + k) (f := e) (by omega) he, show (e + (k : Int) - e).toNat = k from by omega]
def MakeP (B : Nat) (w' : World) (en : Ending) (z e : Int) : Prop :=
  (∃ v zo eo, en = .returned (.tuple #[v, .int .i64 0]) ∧ AnsD B w' v zo eo ∧ DFm zo eo ∧ dv zo eo = dv z e) ∨
  (en = .returned (.tuple #[DV false none 0 0 0, .int .i64 5]) ∧ ∀ zo eo, DFm zo eo → dv zo eo ≠ dv z e)
theorem MakeP.form {B : Nat} {w' : World} {en : Ending} {z e zo eo : Int} (h : MakeP B w' en z e) (hf : DFm zo eo) (hv : dv zo eo = dv z e) : ∃ v, en = .returned (.tuple #[v, .int .i64 0]) ∧ AnsD B w' v zo eo := by
  rcases h with ⟨v, z1, e1, h1, h2, h3, h4⟩ | ⟨_, h2⟩
  · obtain ⟨rfl, rfl⟩ := dv_inj h3 hf (h4.trans hv.symm)
    exact ⟨v, h1, h2⟩
  · exact absurd hv (h2 _ _ hf)
theorem odd_exp {z z' e e' : Int} (hz : z % 2 = 1) (hz' : z' % 2 = 1) (he : -4194304 ≤ e) (he' : -4194304 ≤ e') (h : dv z e = dv z' e') : e = e' := by
  unfold dv at h
  have h1 := odd_ne hz h
  have h2 := odd_ne hz' h.symm
  omega
theorem make_no {z e : Int} {k : Nat} (hz : z ≠ 0) (hk : TzO z.natAbs k) (he : -4194304 ≤ e) (hn : ¬ (-1048576 ≤ k + e ∧ k + e ≤ 1048576)) : ∀ zo eo, DFm zo eo → dv zo eo ≠ dv z e := by
  intro zo eo hf hv
  obtain ⟨h1, h2, _⟩ := tz_split hz hk
  generalize fl (decide (z < 0)) z.natAbs (2 ^ k) = o at *
  rw [← h2, ← dv_up k he] at hv
  rcases hf with ⟨rfl, rfl⟩ | ⟨h3, h4, h5⟩
  · rw [dv_zero] at hv
    have := dv_eq_zero hv.symm
    omega
  · have := odd_exp h3 h1 (by omega) (by omega) hv
    omega
theorem form_ex {z e : Int} {L : Nat} (hz : z ≠ 0) (h1 : -1048576 ≤ e) (hL : z.natAbs ≤ 2 ^ L) (h2 : e + L ≤ 1048576) : ∃ zo eo, DFm zo eo ∧ dv zo eo = dv z e ∧ zo % 2 = 1 ∧ zo.natAbs ≤ z.natAbs ∧ e ≤ eo ∧ eo ≤ e + L := by
  obtain ⟨k, hk⟩ := TzO.ex z.natAbs
  obtain ⟨h3, h4, h5⟩ := tz_split hz hk
  have h6 : 2 ^ k ≤ 2 ^ L := by
    refine Nat.le_trans ?_ hL
    rcases hk with ⟨h0, _⟩ | ⟨_, h7, h8⟩
    · omega
    · rcases Nat.lt_or_ge z.natAbs (2 ^ k) with h | h
      · rw [Nat.div_eq_of_lt h] at h8; omega
      · exact h
  have h7 := (Nat.pow_le_pow_iff_right (by omega : 1 < 2)).1 h6
  generalize fl (decide (z < 0)) z.natAbs (2 ^ k) = o at *
  refine ⟨o, e + k, .inr ⟨h3, by omega, by omega⟩, ?_, h3, h5, by omega, by omega⟩
  rw [dv_up k (by omega), h4]
def MP (B : Nat) (w' : World) (s : Bool) (p : Option Addr) (m : Nat) (eo er : Int) (z e : Int) : Prop :=
  (er = 0 ∧ ∃ zo zs, s = decide (zo < 0) ∧ Own B w' p m zs ∧ Nf B64 zs zo.natAbs ∧ m ≤ 8192 ∧ DFm zo eo ∧ dv zo eo = dv z e) ∨
  (er = 5 ∧ s = false ∧ p = none ∧ m = 0 ∧ eo = 0 ∧ ∀ zo eo, DFm zo eo → dv zo eo ≠ dv z e)
theorem MakeP.open {B : Nat} {w' : World} {en : Ending} {z e : Int} (h : MakeP B w' en z e) : ∃ s p m eo er, en = .returned (.tuple #[DV s p m m eo, .int .i64 er]) ∧ MP B w' s p m eo er z e := by
  rcases h with ⟨v, z1, e1, h1, ⟨p, m, zs, rfl, h2, h3, h4⟩, h5, h6⟩ | ⟨h1, h2⟩
  · exact ⟨_, p, m, e1, 0, h1, .inl ⟨rfl, z1, zs, rfl, h2, h3, h4, h5, h6⟩⟩
  · exact ⟨_, _, _, _, 5, h1, .inr ⟨rfl, rfl, rfl, rfl, rfl, h2⟩⟩
theorem MP.close {B : Nat} {w' : World} {s : Bool} {p : Option Addr} {m : Nat} {eo er z e : Int} (h : MP B w' s p m eo er z e) : MakeP B w' (.returned (.tuple #[DV s p m m eo, .int .i64 er])) z e := by
  rcases h with ⟨rfl, zo, zs, rfl, h2, h3, h4, h5, h6⟩ | ⟨rfl, rfl, rfl, rfl, rfl, h2⟩
  · exact .inl ⟨_, zo, eo, rfl, ⟨p, m, zs, rfl, h2, h3, h4⟩, h5, h6⟩
  · exact .inr ⟨rfl, h2⟩
theorem MP.set {B b : Nat} {w' : World} {s : Bool} {p : Option Addr} {m : Nat} {eo er z e : Int} (h : MP B w' s p m eo er z e) {r : Nat} (hr : r < B) (hb : b ≤ B) (v0 v1 v2 : Value) : MP b (((w'.setCell ⟨r, 0, none⟩ v0).setCell ⟨r, 1, none⟩ v1).setCell ⟨r, 2, none⟩ v2) s p m eo er z e := by
  rcases h with ⟨h0, zo, zs, h1, h2, h3, h4, h5, h6⟩ | h
  · exact .inl ⟨h0, zo, zs, h1, own_set3 h2 hr hb v0 v1 v2, h3, h4, h5, h6⟩
  · exact .inr h
theorem MP.below {B : Nat} {w w' : World} {s : Bool} {p : Option Addr} {m : Nat} {eo er z e : Int} (h : MP B w s p m eo er z e) (hb : Below w.heap.size w w') : MP B w' s p m eo er z e := by
  rcases h with ⟨h0, zo, zs, h1, h2, h3, h4, h5, h6⟩ | h
  · exact .inl ⟨h0, zo, zs, h1, h2.below hb, h3, h4, h5, h6⟩
  · exact .inr h
theorem MakeP.mono {B b : Nat} {w' : World} {en : Ending} {z e : Int} (h : MakeP B w' en z e) (hb : b ≤ B) : MakeP b w' en z e := by
  rcases h with ⟨v, z1, e1, h1, ⟨p, m, zs, h8, h2, h3, h4⟩, h5, h6⟩ | h
  · exact .inl ⟨v, z1, e1, h1, ⟨p, m, zs, h8, h2.mono hb, h3, h4⟩, h5, h6⟩
  · exact .inr h
end Go.Proofs.YtfofoookdlaipaaGreatDoor

namespace Go.Proofs.YtfofoookdlaipaaGreatDoor
open Go.RowKit Go.Shelf

set_option maxRecDepth 20000 in
set_option maxHeartbeats 8000000 in
theorem moved_no (e n : Int) (w : World) (he : -1048576 ≤ e ∧ e ≤ 2097152) (hs : ¬ (-1048576 ≤ e + n ∧ e + n ≤ 1048576)) :
    Calls Tryz.prog 86 #[.int .i64 e, .int .i64 n] w fun en w' => en = .returned (.tuple #[.int .i64 0, .int .i64 5]) ∧ w' = w := by
  have f1 : wrap64 (-1048576 - e) = -1048576 - e := by simp only [wrap64]; omega
  have f2 : wrap64 (1048576 - e) = 1048576 - e := by simp only [wrap64]; omega
  by_cases f4 : n < -1048576 - e
  · clear he hs
    go_enter Tryz.func86, Tryz.ntmps86
    go_wp2_with fail
    go_ret2
    exact ⟨rfl, rfl⟩
  have f5 : 1048576 - e < n := by omega
  clear he hs
  go_enter Tryz.func86, Tryz.ntmps86
  go_wp2_with fail
  go_ret2
  exact ⟨rfl, rfl⟩
set_option maxRecDepth 20000 in
set_option maxHeartbeats 8000000 in
theorem makep_n {p : Option Addr} {m c : Nat} {w : World} {z e : Int} {s : Bool} (h : ZN w s p m c z) (he : -3145728 ≤ e ∧ e ≤ 3145728) (hT : Tab w) {k : Nat} (hz : z ≠ 0) (hk : TzO z.natAbs k) (hr : (-1048576 ≤ k + e ∧ k + e ≤ 1048576)) :
    Calls Tryz.prog 40 #[ZV s p m c, .int .i64 e] w fun en w' => MakeP w.heap.size w' en z e ∧ Below w.heap.size w w' := by
  have H : Hid (ZN w s p m c z) := h
  have HE : Hid (-3145728 ≤ e ∧ e ≤ 3145728) := he
  have TB : Hid (Tab w) := hT
  have HZ : Hid (z ≠ 0) := hz
  have HR : Hid ((-1048576 ≤ k + e ∧ k + e ≤ 1048576)) := hr
  have HK : Hid (TzO z.natAbs k) := hk
  clear h he hT hz hr
  go_enter Tryz.func40, Tryz.ntmps40
  go_wp2_with fail
  obtain ⟨W0, hW0⟩ : ∃ W0, W0 = ((w.alloc (.cells #[.bool s, .slice p m c] 32)).alloc (.cells #[.bool false, .slice none 0 0, .int .i64 0] 34)) := ⟨_, rfl⟩
  have Xm : Hid (Box W0 (w.heap.size) (.bool s) (.slice p m c)) := by rw [hW0]; exact ⟨by go_simp, by go_simp, by go_simp, by go_simp⟩
  have Xr : Hid (B3q W0 (w.heap.size + 1) (.bool false) (.slice none 0 0) (.int .i64 0)) := by rw [hW0]; exact ⟨by go_simp, by go_simp, by go_simp, by go_simp, by go_simp, by go_simp⟩
  have hb0 : Below w.heap.size w W0 := by rw [hW0]; exact below2 w _ _
  rw [← hW0]
  clear hW0
  have hbw : Below w.heap.size w w := Below.refl _ _
  obtain ⟨gr, hgr⟩ : ∃ g, g = w.heap.size + 1 := ⟨_, rfl⟩
  have HGr : Hid (w.heap.size ≤ gr) := by rw [hgr]; show _ ≤ _; omega
  rw [← hgr] at Xr
  try rw [← hgr]
  obtain ⟨gm, hgm⟩ : ∃ g, g = w.heap.size := ⟨_, rfl⟩
  have HGm : Hid (w.heap.size ≤ gm) := by rw [hgm]; show _ ≤ _; omega
  rw [← hgm] at Xm
  try rw [← hgm]
  have HGD : Hid (gm ≠ gr ∧ gr ≠ gm) := by rw [hgm, hgr]; exact ⟨by omega, by omega⟩
  clear hgm hgr
  replace hbw := Below.on hbw hb0
  clear hb0
  refine (zform (H.out.below hbw)).mono ?_
  rintro e v1 ⟨rfl, hb1⟩
  replace Xm : Hid _ := Xm.out.below hb1
  replace Xr : Hid _ := Xr.out.below hb1
  replace hbw := Below.on hbw hb1
  clear hb1
  obtain ⟨cm0, cm1, fm0, fm1⟩ := Xm.out
  have hnem := Xm.out.lt
  go_wp2_with fail
  clear cm0 cm1 fm0 fm1 hnem
  refine (zsign (H.out.below hbw)).mono ?_
  rintro e v2 ⟨rfl, hb2⟩
  obtain ⟨sg, hsg⟩ : ∃ sg, sg = sgnI (z) := ⟨_, rfl⟩
  rw [← hsg]
  have hs0 : (sg == 0) = false := by rw [hsg]; have := HZ.out; unfold sgnI; split <;> (try split) <;> simp <;> omega
  clear hsg
  replace Xm : Hid _ := Xm.out.below hb2
  replace Xr : Hid _ := Xr.out.below hb2
  replace hbw := Below.on hbw hb2
  clear hb2
  obtain ⟨cm0, cm1, fm0, fm1⟩ := Xm.out
  have hnem := Xm.out.lt
  go_wp2_with fail
  clear cm0 cm1 fm0 fm1 hnem
  have hkb : k ≤ 524288 := by
    have h1 := (lim_bits z.natAbs).1 H.out.lim
    rcases hk with ⟨h0, _⟩ | ⟨_, h2, h3⟩
    · exact absurd (Int.natAbs_eq_zero.1 h0) HZ.out
    · have h4 : 2 ^ k ≤ z.natAbs := by
        rcases Nat.lt_or_ge z.natAbs (2 ^ k) with h | h
        · rw [Nat.div_eq_of_lt h] at h3; omega
        · exact h
      have h5 := bitsN_lt z.natAbs
      have h6 := (Nat.pow_lt_pow_iff_right (by omega : 1 < 2)).1 (Nat.lt_of_le_of_lt h4 h5)
      omega
  have HKB : Hid (k ≤ 524288) := hkb
  clear hk hkb
  obtain ⟨xs, hX⟩ := (H.out.below hbw).ex
  refine (trail_any hX.at_ (by have := hX.le; omega) (k := k) (by rw [hX.nf.val]; exact HK.out) (TB.out.below hbw)).mono ?_
  rintro e2 v3 ⟨rfl, hw⟩
  obtain rfl := hw.symm
  clear hw hX
  go_wp2_with fail
  refine (moved_ok k e _ (by have := HKB.out; omega) HR.out).mono ?_
  rintro e2 v4 ⟨rfl, hw⟩
  obtain rfl := hw.symm
  clear hw
  obtain ⟨cm0, cm1, fm0, fm1⟩ := Xm.out
  have hnem := Xm.out.lt
  go_wp2_with fail
  clear cm0 cm1 fm0 fm1 hnem
  obtain ⟨o, ho9⟩ : ∃ o, o = fl (decide (z < 0)) z.natAbs (2 ^ k) := ⟨_, rfl⟩
  have HO9 : Hid (o % 2 = 1 ∧ o * ((2 ^ k : Nat) : Int) = z ∧ o.natAbs ≤ z.natAbs) := by rw [ho9]; exact tz_split HZ.out HK.out
  have HRL : Hid (gr < v2.heap.size ∧ w.heap.size ≤ v2.heap.size) := ⟨Xr.out.lt, hbw.size⟩
  obtain ⟨xs, hX⟩ := (H.out.below hbw).ex
  refine (fshr_any s hX H.out.pos k (by have := HKB.out; omega) (TB.out.below hbw)).mono ?_
  rintro e2 v5 ⟨v, rfl, hv, hb5⟩
  rw [H.out.sg, ← ho9] at hv
  obtain ⟨p5, m5, z5, rfl, ho5, hn5, hm5⟩ := hv
  clear hX ho9
  replace Xm : Hid _ := Xm.out.below hb5
  replace Xr : Hid _ := Xr.out.below hb5
  replace hbw := Below.on hbw hb5
  clear hb5
  have O5 : Hid (Own v2.heap.size v5 p5 m5 z5) := ho5
  have N5 : Hid (Nf B64 z5 o.natAbs ∧ m5 ≤ 8192) := ⟨hn5, hm5⟩
  clear ho5 hn5 hm5
  obtain ⟨so, hso⟩ : ∃ b, b = decide (o < 0) := ⟨_, rfl⟩
  rw [← hso]
  have HSO : Hid (so = decide (o < 0)) := hso
  clear hso
  obtain ⟨cr0, cr1, cr2, fr0, fr1, fr2⟩ := Xr.out
  have hner : gr < v5.heap.size := World.block_lt_of_cell? v5 _ cr0
  go_wp2_with fail
  refine bodyPost_ret (v := .tuple #[DV so p5 m5 m5 (k + e), .int .i64 0]) (by rw [results_cell_tmp rfl]; go_simp) rfl ⟨.inl ⟨_, o, k + e, rfl, ⟨p5, m5, z5, by rw [HSO.out], ?_, N5.out.1, N5.out.2⟩, .inr ⟨HO9.out.1, HR.out⟩, ?_⟩, ?_⟩
  · exact (own_set3 O5.out HRL.out.1 HRL.out.2 _ _ _).below (below1 _ _)
  · rw [dv_shift (e := (k : Int) + e) (f := e) (by omega) (by have := HE.out; omega), show ((k : Int) + e - e).toNat = k from by omega, HO9.out.2.1]
  · exact Below.on (bSet (bSet (bSet hbw _ _ _ HGr.out) _ _ _ HGr.out) _ _ _ HGr.out) (below1 _ _)
set_option maxRecDepth 20000 in
set_option maxHeartbeats 8000000 in
theorem makep_e {p : Option Addr} {m c : Nat} {w : World} {z e : Int} {s : Bool} (h : ZN w s p m c z) (he : -3145728 ≤ e ∧ e ≤ 3145728) (hT : Tab w) {k : Nat} (hz : z ≠ 0) (hk : TzO z.natAbs k) (hr : ¬ (-1048576 ≤ k + e ∧ k + e ≤ 1048576)) :
    Calls Tryz.prog 40 #[ZV s p m c, .int .i64 e] w fun en w' => MakeP w.heap.size w' en z e ∧ Below w.heap.size w w' := by
  have H : Hid (ZN w s p m c z) := h
  have HE : Hid (-3145728 ≤ e ∧ e ≤ 3145728) := he
  have TB : Hid (Tab w) := hT
  have HZ : Hid (z ≠ 0) := hz
  have HR : Hid (¬ (-1048576 ≤ k + e ∧ k + e ≤ 1048576)) := hr
  have HK : Hid (TzO z.natAbs k) := hk
  clear h he hT hz hr
  go_enter Tryz.func40, Tryz.ntmps40
  go_wp2_with fail
  obtain ⟨W0, hW0⟩ : ∃ W0, W0 = ((w.alloc (.cells #[.bool s, .slice p m c] 32)).alloc (.cells #[.bool false, .slice none 0 0, .int .i64 0] 34)) := ⟨_, rfl⟩
  have Xm : Hid (Box W0 (w.heap.size) (.bool s) (.slice p m c)) := by rw [hW0]; exact ⟨by go_simp, by go_simp, by go_simp, by go_simp⟩
  have Xr : Hid (B3q W0 (w.heap.size + 1) (.bool false) (.slice none 0 0) (.int .i64 0)) := by rw [hW0]; exact ⟨by go_simp, by go_simp, by go_simp, by go_simp, by go_simp, by go_simp⟩
  have hb0 : Below w.heap.size w W0 := by rw [hW0]; exact below2 w _ _
  rw [← hW0]
  clear hW0
  have hbw : Below w.heap.size w w := Below.refl _ _
  obtain ⟨gr, hgr⟩ : ∃ g, g = w.heap.size + 1 := ⟨_, rfl⟩
  have HGr : Hid (w.heap.size ≤ gr) := by rw [hgr]; show _ ≤ _; omega
  rw [← hgr] at Xr
  try rw [← hgr]
  obtain ⟨gm, hgm⟩ : ∃ g, g = w.heap.size := ⟨_, rfl⟩
  have HGm : Hid (w.heap.size ≤ gm) := by rw [hgm]; show _ ≤ _; omega
  rw [← hgm] at Xm
  try rw [← hgm]
  have HGD : Hid (gm ≠ gr ∧ gr ≠ gm) := by rw [hgm, hgr]; exact ⟨by omega, by omega⟩
  clear hgm hgr
  replace hbw := Below.on hbw hb0
  clear hb0
  refine (zform (H.out.below hbw)).mono ?_
  rintro e v1 ⟨rfl, hb1⟩
  replace Xm : Hid _ := Xm.out.below hb1
  replace Xr : Hid _ := Xr.out.below hb1
  replace hbw := Below.on hbw hb1
  clear hb1
  obtain ⟨cm0, cm1, fm0, fm1⟩ := Xm.out
  have hnem := Xm.out.lt
  go_wp2_with fail
  clear cm0 cm1 fm0 fm1 hnem
  refine (zsign (H.out.below hbw)).mono ?_
  rintro e v2 ⟨rfl, hb2⟩
  obtain ⟨sg, hsg⟩ : ∃ sg, sg = sgnI (z) := ⟨_, rfl⟩
  rw [← hsg]
  have hs0 : (sg == 0) = false := by rw [hsg]; have := HZ.out; unfold sgnI; split <;> (try split) <;> simp <;> omega
  clear hsg
  replace Xm : Hid _ := Xm.out.below hb2
  replace Xr : Hid _ := Xr.out.below hb2
  replace hbw := Below.on hbw hb2
  clear hb2
  obtain ⟨cm0, cm1, fm0, fm1⟩ := Xm.out
  have hnem := Xm.out.lt
  go_wp2_with fail
  clear cm0 cm1 fm0 fm1 hnem
  have hkb : k ≤ 524288 := by
    have h1 := (lim_bits z.natAbs).1 H.out.lim
    rcases hk with ⟨h0, _⟩ | ⟨_, h2, h3⟩
    · exact absurd (Int.natAbs_eq_zero.1 h0) HZ.out
    · have h4 : 2 ^ k ≤ z.natAbs := by
        rcases Nat.lt_or_ge z.natAbs (2 ^ k) with h | h
        · rw [Nat.div_eq_of_lt h] at h3; omega
        · exact h
      have h5 := bitsN_lt z.natAbs
      have h6 := (Nat.pow_lt_pow_iff_right (by omega : 1 < 2)).1 (Nat.lt_of_le_of_lt h4 h5)
      omega
  have HKB : Hid (k ≤ 524288) := hkb
  clear hk hkb
  obtain ⟨xs, hX⟩ := (H.out.below hbw).ex
  refine (trail_any hX.at_ (by have := hX.le; omega) (k := k) (by rw [hX.nf.val]; exact HK.out) (TB.out.below hbw)).mono ?_
  rintro e2 v3 ⟨rfl, hw⟩
  obtain rfl := hw.symm
  clear hw hX
  go_wp2_with fail
  refine (moved_no k e _ (by have := HKB.out; omega) HR.out).mono ?_
  rintro e2 v4 ⟨rfl, hw⟩
  obtain rfl := hw.symm
  clear hw
  obtain ⟨cr0, cr1, cr2, fr0, fr1, fr2⟩ := Xr.out
  have hner : gr < v2.heap.size := World.block_lt_of_cell? v2 _ cr0
  go_wp2_with fail
  refine bodyPost_ret (v := .tuple #[DV false none 0 0 0, .int .i64 5]) (by rw [results_cell_tmp rfl]; go_simp) rfl ⟨.inr ⟨rfl, make_no HZ.out HK.out (by have := HE.out; omega) HR.out⟩, ?_⟩
  first | exact hbw | exact bSet (bSet (bSet hbw _ _ _ HGr.out) _ _ _ HGr.out) _ _ _ HGr.out
set_option maxRecDepth 20000 in
set_option maxHeartbeats 8000000 in
theorem makep_z {p : Option Addr} {m c : Nat} {w : World} {z e : Int} {s : Bool} (h : ZN w s p m c z) (hz : z = 0) :
    Calls Tryz.prog 40 #[ZV s p m c, .int .i64 e] w fun en w' => MakeP w.heap.size w' en z e ∧ Below w.heap.size w w' := by
  have H : Hid (ZN w s p m c z) := h
  subst hz
  clear h
  go_enter Tryz.func40, Tryz.ntmps40
  go_wp2_with fail
  obtain ⟨W0, hW0⟩ : ∃ W0, W0 = ((w.alloc (.cells #[.bool s, .slice p m c] 32)).alloc (.cells #[.bool false, .slice none 0 0, .int .i64 0] 34)) := ⟨_, rfl⟩
  have Xm : Hid (Box W0 (w.heap.size) (.bool s) (.slice p m c)) := by rw [hW0]; exact ⟨by go_simp, by go_simp, by go_simp, by go_simp⟩
  have Xr : Hid (B3q W0 (w.heap.size + 1) (.bool false) (.slice none 0 0) (.int .i64 0)) := by rw [hW0]; exact ⟨by go_simp, by go_simp, by go_simp, by go_simp, by go_simp, by go_simp⟩
  have hb0 : Below w.heap.size w W0 := by rw [hW0]; exact below2 w _ _
  rw [← hW0]
  clear hW0
  have hbw : Below w.heap.size w w := Below.refl _ _
  obtain ⟨gr, hgr⟩ : ∃ g, g = w.heap.size + 1 := ⟨_, rfl⟩
  have HGr : Hid (w.heap.size ≤ gr) := by rw [hgr]; show _ ≤ _; omega
  rw [← hgr] at Xr
  try rw [← hgr]
  obtain ⟨gm, hgm⟩ : ∃ g, g = w.heap.size := ⟨_, rfl⟩
  have HGm : Hid (w.heap.size ≤ gm) := by rw [hgm]; show _ ≤ _; omega
  rw [← hgm] at Xm
  try rw [← hgm]
  have HGD : Hid (gm ≠ gr ∧ gr ≠ gm) := by rw [hgm, hgr]; exact ⟨by omega, by omega⟩
  clear hgm hgr
  replace hbw := Below.on hbw hb0
  clear hb0
  refine (zform (H.out.below hbw)).mono ?_
  rintro e v1 ⟨rfl, hb1⟩
  replace Xm : Hid _ := Xm.out.below hb1
  replace Xr : Hid _ := Xr.out.below hb1
  replace hbw := Below.on hbw hb1
  clear hb1
  obtain ⟨cm0, cm1, fm0, fm1⟩ := Xm.out
  have hnem := Xm.out.lt
  go_wp2_with fail
  clear cm0 cm1 fm0 fm1 hnem
  refine (zsign (H.out.below hbw)).mono ?_
  rintro e v2 ⟨rfl, hb2⟩
  rw [show sgnI 0 = 0 from rfl]
  replace Xm : Hid _ := Xm.out.below hb2
  replace Xr : Hid _ := Xr.out.below hb2
  replace hbw := Below.on hbw hb2
  clear hb2
  obtain ⟨cr0, cr1, cr2, fr0, fr1, fr2⟩ := Xr.out
  have hner : gr < v2.heap.size := World.block_lt_of_cell? v2 _ cr0
  go_wp2_with fail
  refine bodyPost_ret (v := .tuple #[DV false none 0 0 0, .int .i64 0]) (by rw [results_cell_tmp rfl]; go_simp) rfl ⟨.inl ⟨_, 0, 0, rfl, ⟨none, 0, [], rfl, ⟨rfl, Dig.nil _, .inl rfl⟩, Nf.nil _, by omega⟩, .inl ⟨rfl, rfl⟩, by rw [dv_zero, dv_zero]⟩, ?_⟩
  first | exact hbw | exact bSet (bSet (bSet hbw _ _ _ HGr.out) _ _ _ HGr.out) _ _ _ HGr.out
theorem makep {p : Option Addr} {m c : Nat} {w : World} {z e : Int} {s : Bool} (h : ZN w s p m c z) (he : -3145728 ≤ e ∧ e ≤ 3145728) (hT : Tab w) :
    Calls Tryz.prog 40 #[ZV s p m c, .int .i64 e] w fun en w' => MakeP w.heap.size w' en z e ∧ Below w.heap.size w w' := by
  by_cases hz : z = 0
  · exact makep_z h hz
  obtain ⟨k, hk⟩ := TzO.ex z.natAbs
  by_cases hr : -1048576 ≤ k + e ∧ k + e ≤ 1048576
  · exact makep_n h he hT hz hk hr
  · exact makep_e h he hT hz hk hr
end Go.Proofs.YtfofoookdlaipaaGreatDoor

namespace Go.Proofs.YtfofoookdlaipaaGreatDoor
open Go.RowKit Go.Shelf

def formD (s : Bool) (xs : List Nat) (e : Int) : Bool := formB xs && (decide (-1048576 ≤ e) && (decide (e ≤ 1048576) && (if xs.length = 0 then (!s && decide (e = 0)) else decide (xs.getD 0 0 % 2 = 1))))
set_option maxRecDepth 20000 in
set_option maxHeartbeats 8000000 in
theorem docformd_f {p : Option Addr} {m c : Nat} {xs : List Nat} {w : World} {e : Int} (s : Bool) (h : At w p m c xs) (hf : formB xs = false) :
    Calls Tryz.prog 67 #[DV s p m c e] w fun en w' => en = .returned (.bool false) ∧ Below w.heap.size w w' := by
  have H : Hid (At w p m c xs) := h
  have HF : Hid (formB xs = false) := hf
  clear h hf
  go_enter Tryz.func67, Tryz.ntmps67
  go_wp2_with fail
  obtain ⟨W0, hW0⟩ : ∃ W0, W0 = (w.alloc (.cells #[.bool s, .slice p m c, .int .i64 e] 34)) := ⟨_, rfl⟩
  have Xd : Hid (B3q W0 (w.heap.size) (.bool s) (.slice p m c) (.int .i64 e)) := by rw [hW0]; exact ⟨by go_simp, by go_simp, by go_simp, by go_simp, by go_simp, by go_simp⟩
  have hb0 : Below w.heap.size w W0 := by rw [hW0]; exact below1 w _
  rw [← hW0]
  clear hW0
  have hbw : Below w.heap.size w w := Below.refl _ _
  obtain ⟨gd, hgd⟩ : ∃ g, g = w.heap.size := ⟨_, rfl⟩
  have HGd : Hid (w.heap.size ≤ gd) := by rw [hgd]; show _ ≤ _; omega
  rw [← hgd] at Xd
  try rw [← hgd]
  clear hgd
  replace hbw := Below.on hbw hb0
  clear hb0
  refine (docform_any (H.out.below hbw)).mono ?_
  rintro e2 v1 ⟨rfl, hw⟩
  obtain rfl := hw.symm
  clear hw
  rw [HF.out]
  obtain ⟨cd0, cd1, cd2, fd0, fd1, fd2⟩ := Xd.out
  have hned : gd < W0.heap.size := World.block_lt_of_cell? W0 _ cd0
  go_wp2_with fail
  clear cd0 cd1 cd2 fd0 fd1 fd2 hned
  go_ret
  exact ⟨rfl, hbw⟩
set_option maxRecDepth 20000 in
set_option maxHeartbeats 8000000 in
theorem docformd_lo {p : Option Addr} {m c : Nat} {xs : List Nat} {w : World} {e : Int} (s : Bool) (h : At w p m c xs) (hf : formB xs = true) (h1 : e < -1048576) :
    Calls Tryz.prog 67 #[DV s p m c e] w fun en w' => en = .returned (.bool false) ∧ Below w.heap.size w w' := by
  have H : Hid (At w p m c xs) := h
  have HF : Hid (formB xs = true) := hf
  clear h hf
  go_enter Tryz.func67, Tryz.ntmps67
  go_wp2_with fail
  obtain ⟨W0, hW0⟩ : ∃ W0, W0 = (w.alloc (.cells #[.bool s, .slice p m c, .int .i64 e] 34)) := ⟨_, rfl⟩
  have Xd : Hid (B3q W0 (w.heap.size) (.bool s) (.slice p m c) (.int .i64 e)) := by rw [hW0]; exact ⟨by go_simp, by go_simp, by go_simp, by go_simp, by go_simp, by go_simp⟩
  have hb0 : Below w.heap.size w W0 := by rw [hW0]; exact below1 w _
  rw [← hW0]
  clear hW0
  have hbw : Below w.heap.size w w := Below.refl _ _
  obtain ⟨gd, hgd⟩ : ∃ g, g = w.heap.size := ⟨_, rfl⟩
  have HGd : Hid (w.heap.size ≤ gd) := by rw [hgd]; show _ ≤ _; omega
  rw [← hgd] at Xd
  try rw [← hgd]
  clear hgd
  replace hbw := Below.on hbw hb0
  clear hb0
  refine (docform_any (H.out.below hbw)).mono ?_
  rintro e2 v1 ⟨rfl, hw⟩
  obtain rfl := hw.symm
  clear hw
  rw [HF.out]
  obtain ⟨cd0, cd1, cd2, fd0, fd1, fd2⟩ := Xd.out
  have hned : gd < W0.heap.size := World.block_lt_of_cell? W0 _ cd0
  go_wp2_with fail
  clear cd0 cd1 cd2 fd0 fd1 fd2 hned
  go_ret
  exact ⟨rfl, hbw⟩
set_option maxRecDepth 20000 in
set_option maxHeartbeats 8000000 in
theorem docformd_hi {p : Option Addr} {m c : Nat} {xs : List Nat} {w : World} {e : Int} (s : Bool) (h : At w p m c xs) (hf : formB xs = true) (h0 : ¬ e < -1048576) (h1 : 1048576 < e) :
    Calls Tryz.prog 67 #[DV s p m c e] w fun en w' => en = .returned (.bool false) ∧ Below w.heap.size w w' := by
  have H : Hid (At w p m c xs) := h
  have HF : Hid (formB xs = true) := hf
  clear h hf
  go_enter Tryz.func67, Tryz.ntmps67
  go_wp2_with fail
  obtain ⟨W0, hW0⟩ : ∃ W0, W0 = (w.alloc (.cells #[.bool s, .slice p m c, .int .i64 e] 34)) := ⟨_, rfl⟩
  have Xd : Hid (B3q W0 (w.heap.size) (.bool s) (.slice p m c) (.int .i64 e)) := by rw [hW0]; exact ⟨by go_simp, by go_simp, by go_simp, by go_simp, by go_simp, by go_simp⟩
  have hb0 : Below w.heap.size w W0 := by rw [hW0]; exact below1 w _
  rw [← hW0]
  clear hW0
  have hbw : Below w.heap.size w w := Below.refl _ _
  obtain ⟨gd, hgd⟩ : ∃ g, g = w.heap.size := ⟨_, rfl⟩
  have HGd : Hid (w.heap.size ≤ gd) := by rw [hgd]; show _ ≤ _; omega
  rw [← hgd] at Xd
  try rw [← hgd]
  clear hgd
  replace hbw := Below.on hbw hb0
  clear hb0
  refine (docform_any (H.out.below hbw)).mono ?_
  rintro e2 v1 ⟨rfl, hw⟩
  obtain rfl := hw.symm
  clear hw
  rw [HF.out]
  obtain ⟨cd0, cd1, cd2, fd0, fd1, fd2⟩ := Xd.out
  have hned : gd < W0.heap.size := World.block_lt_of_cell? W0 _ cd0
  go_wp2_with fail
  clear cd0 cd1 cd2 fd0 fd1 fd2 hned
  go_ret
  exact ⟨rfl, hbw⟩
set_option maxRecDepth 20000 in
set_option maxHeartbeats 8000000 in
theorem docformd_z {p : Option Addr} {m c : Nat} {xs : List Nat} {w : World} {e : Int} (s : Bool) (h : At w p m c xs) (hf : formB xs = true) (h0 : ¬ e < -1048576) (h1 : ¬ 1048576 < e) (hm : m = 0) (bo : Bool) (hbo : bo = (!s && decide (e = 0))) :
    Calls Tryz.prog 67 #[DV s p m c e] w fun en w' => en = .returned (.bool bo) ∧ Below w.heap.size w w' := by
  have H : Hid (At w p m c xs) := h
  have HF : Hid (formB xs = true) := hf
  subst hm
  have HBO : Hid (bo = (!s && decide (e = 0))) := hbo
  clear hbo
  clear h hf
  go_enter Tryz.func67, Tryz.ntmps67
  go_wp2_with fail
  obtain ⟨W0, hW0⟩ : ∃ W0, W0 = (w.alloc (.cells #[.bool s, .slice p 0 c, .int .i64 e] 34)) := ⟨_, rfl⟩
  have Xd : Hid (B3q W0 (w.heap.size) (.bool s) (.slice p 0 c) (.int .i64 e)) := by rw [hW0]; exact ⟨by go_simp, by go_simp, by go_simp, by go_simp, by go_simp, by go_simp⟩
  have hb0 : Below w.heap.size w W0 := by rw [hW0]; exact below1 w _
  rw [← hW0]
  clear hW0
  have hbw : Below w.heap.size w w := Below.refl _ _
  obtain ⟨gd, hgd⟩ : ∃ g, g = w.heap.size := ⟨_, rfl⟩
  have HGd : Hid (w.heap.size ≤ gd) := by rw [hgd]; show _ ≤ _; omega
  rw [← hgd] at Xd
  try rw [← hgd]
  clear hgd
  replace hbw := Below.on hbw hb0
  clear hb0
  refine (docform_any (H.out.below hbw)).mono ?_
  rintro e2 v1 ⟨rfl, hw⟩
  obtain rfl := hw.symm
  clear hw
  rw [HF.out]
  cases s
  · by_cases he : e = 0
    · have h9 : (e == 0) = true := by simp [he]
      have hbo : bo = true := by rw [HBO.out, he]; rfl
      subst he
      subst hbo
      clear HBO
      obtain ⟨cd0, cd1, cd2, fd0, fd1, fd2⟩ := Xd.out
      have hned : gd < W0.heap.size := World.block_lt_of_cell? W0 _ cd0
      go_wp2_with fail
      clear cd0 cd1 cd2 fd0 fd1 fd2 hned
      go_ret
      exact ⟨rfl, hbw⟩
    · have h9 : (e == 0) = false := by simp [he]
      have hbo : bo = false := by rw [HBO.out, decide_eq_false he]; rfl
      subst hbo
      clear HBO
      obtain ⟨cd0, cd1, cd2, fd0, fd1, fd2⟩ := Xd.out
      have hned : gd < W0.heap.size := World.block_lt_of_cell? W0 _ cd0
      go_wp2_with fail
      clear cd0 cd1 cd2 fd0 fd1 fd2 hned
      go_ret
      exact ⟨rfl, hbw⟩
  · have hbo : bo = false := by rw [HBO.out]; rfl
    subst hbo
    clear HBO
    obtain ⟨cd0, cd1, cd2, fd0, fd1, fd2⟩ := Xd.out
    have hned : gd < W0.heap.size := World.block_lt_of_cell? W0 _ cd0
    go_wp2_with fail
    clear cd0 cd1 cd2 fd0 fd1 fd2 hned
    go_ret
    exact ⟨rfl, hbw⟩
set_option maxRecDepth 20000 in
set_option maxHeartbeats 8000000 in
theorem docformd_n {p : Option Addr} {m c : Nat} {xs : List Nat} {w : World} {e : Int} (s : Bool) (h : At w p m c xs) (hf : formB xs = true) (h0 : ¬ e < -1048576) (h1 : ¬ 1048576 < e) (hm : 0 < m) (bo : Bool) (hbo : bo = decide (xs.getD 0 0 % 2 = 1)) :
    Calls Tryz.prog 67 #[DV s p m c e] w fun en w' => en = .returned (.bool bo) ∧ Below w.heap.size w w' := by
  have H : Hid (At w p m c xs) := h
  have HF : Hid (formB xs = true) := hf
  have HMP : Hid (0 < m) := hm
  obtain ⟨g, off, rfl, hc⟩ := h.cells.resolve_left (by omega)
  have hc0 : w.cell? ⟨g, off, none⟩ = some (U (xs.getD 0 0)) := by have := hc 0 hm; rw [Nat.add_zero] at this; exact this
  have hx0 : xs.getD 0 0 < B64 := by
    have hl := h.len
    rw [List.getD_eq_getElem?_getD, List.getElem?_eq_getElem (by omega)]
    exact h.dig _ (List.getElem_mem _)
  obtain ⟨x0, hx⟩ : ∃ x0, x0 = xs.getD 0 0 := ⟨_, rfl⟩
  rw [← hx] at hc0 hx0 hbo
  have HC0 : Hid (w.cell? ⟨g, off, none⟩ = some (U x0)) := hc0
  have HLT : Hid (g < w.heap.size) := World.block_lt_of_cell? w _ hc0
  have f1 : bits BinOp.and IntKind.u64 (x0 : Int) 1 = ((x0 % 2 : Nat) : Int) := and_one_u64q x0 hx0
  have d3 : ((m : Int) == 0) = false := by simp; omega
  have d4 : ¬ m = 0 := by omega
  have HBO : Hid (bo = decide (x0 % 2 = 1)) := hbo
  clear hc hc0 hx0 hx hbo hm
  clear h hf
  go_enter Tryz.func67, Tryz.ntmps67
  go_wp2_with fail
  obtain ⟨W0, hW0⟩ : ∃ W0, W0 = (w.alloc (.cells #[.bool s, .slice (some ⟨g, off, none⟩) m c, .int .i64 e] 34)) := ⟨_, rfl⟩
  have Xd : Hid (B3q W0 (w.heap.size) (.bool s) (.slice (some ⟨g, off, none⟩) m c) (.int .i64 e)) := by rw [hW0]; exact ⟨by go_simp, by go_simp, by go_simp, by go_simp, by go_simp, by go_simp⟩
  have hb0 : Below w.heap.size w W0 := by rw [hW0]; exact below1 w _
  rw [← hW0]
  clear hW0
  have hbw : Below w.heap.size w w := Below.refl _ _
  obtain ⟨gd, hgd⟩ : ∃ g, g = w.heap.size := ⟨_, rfl⟩
  have HGd : Hid (w.heap.size ≤ gd) := by rw [hgd]; show _ ≤ _; omega
  rw [← hgd] at Xd
  try rw [← hgd]
  clear hgd
  replace hbw := Below.on hbw hb0
  clear hb0
  refine (docform_any (H.out.below hbw)).mono ?_
  rintro e2 v1 ⟨rfl, hw⟩
  obtain rfl := hw.symm
  clear hw
  rw [HF.out]
  have hc1 := (hbw.cell (p := ⟨g, off, none⟩) HLT.out).trans HC0.out
  have hl1 : g < W0.heap.size := Nat.lt_of_lt_of_le HLT.out hbw.size
  rcases Nat.mod_two_eq_zero_or_one x0 with h5 | h5
  · rw [h5] at f1
    have hbo : bo = false := by rw [HBO.out, h5]; rfl
    subst hbo
    clear HBO h5
    obtain ⟨cd0, cd1, cd2, fd0, fd1, fd2⟩ := Xd.out
    have hned : gd < W0.heap.size := World.block_lt_of_cell? W0 _ cd0
    go_wp2_with fail
    clear cd0 cd1 cd2 fd0 fd1 fd2 hned
    go_ret
    exact ⟨rfl, hbw⟩
  · rw [h5] at f1
    have hbo : bo = true := by rw [HBO.out, h5]; rfl
    subst hbo
    clear HBO h5
    obtain ⟨cd0, cd1, cd2, fd0, fd1, fd2⟩ := Xd.out
    have hned : gd < W0.heap.size := World.block_lt_of_cell? W0 _ cd0
    go_wp2_with fail
    clear cd0 cd1 cd2 fd0 fd1 fd2 hned
    go_ret
    exact ⟨rfl, hbw⟩
end Go.Proofs.YtfofoookdlaipaaGreatDoor

namespace Go.Proofs.YtfofoookdlaipaaGreatDoor
open Go.RowKit Go.Shelf

theorem docformd {p : Option Addr} {m c : Nat} {xs : List Nat} {w : World} {e : Int} (s : Bool) (h : At w p m c xs) :
    Calls Tryz.prog 67 #[DV s p m c e] w fun en w' => en = .returned (.bool (formD s xs e)) ∧ Below w.heap.size w w' := by
  have hl := h.len
  cases hf : formB xs
  · have h0 : formD s xs e = false := by unfold formD; rw [hf]; rfl
    rw [h0]
    exact docformd_f s h hf
  · by_cases h1 : e < -1048576
    · have h0 : formD s xs e = false := by unfold formD; rw [hf, decide_eq_false (p := -1048576 ≤ e) (by omega)]; rfl
      rw [h0]
      exact docformd_lo s h hf h1
    · by_cases h2 : 1048576 < e
      · have h0 : formD s xs e = false := by unfold formD; rw [hf, decide_eq_true (p := -1048576 ≤ e) (by omega), decide_eq_false (p := e ≤ 1048576) (by omega)]; rfl
        rw [h0]
        exact docformd_hi s h hf h1 h2
      · rcases Nat.eq_zero_or_pos m with hm | hm
        · exact docformd_z s h hf h1 h2 hm _ (by unfold formD; rw [hf, decide_eq_true (p := -1048576 ≤ e) (by omega), decide_eq_true (p := e ≤ 1048576) (by omega), if_pos (by omega)]; rfl)
        · exact docformd_n s h hf h1 h2 hm _ (by unfold formD; rw [hf, decide_eq_true (p := -1048576 ≤ e) (by omega), decide_eq_true (p := e ≤ 1048576) (by omega), if_neg (by omega)]; rfl)
theorem val_mod2 (xs : List Nat) : valB B64 xs % 2 = xs.getD 0 0 % 2 := by
  cases xs with
  | nil => rfl
  | cons a r =>
    show (a + B64 * valB B64 r) % 2 = a % 2
    rw [B64_eq]
    omega
theorem formD_dn {p : Option Addr} {m c : Nat} {xs : List Nat} {w : World} {e : Int} {s : Bool} (h : At w p m c xs) (hf : formD s xs e = true) : DN w s p m c e (iv s (valB B64 xs)) := by
  unfold formD at hf
  simp only [Bool.and_eq_true, decide_eq_true_eq] at hf
  obtain ⟨h1, h2, h3, h4⟩ := hf
  have hl := h.len
  have hN := (formB_nf h1 h.dig)
  have hv := val_mod2 xs
  by_cases h0 : xs.length = 0
  · rw [if_pos h0] at h4
    simp only [Bool.and_eq_true, Bool.not_eq_true', decide_eq_true_eq] at h4
    obtain ⟨rfl, rfl⟩ := h4
    have hx : xs = [] := List.eq_nil_of_length_eq_zero h0
    subst hx
    exact ⟨⟨⟨[], h, by exact hN.1, by have := hN.2; omega⟩, rfl⟩, .inl ⟨rfl, rfl⟩⟩
  · rw [if_neg h0] at h4
    have h5 := of_decide_eq_true h4
    refine ⟨⟨⟨xs, h, by rw [iv_natAbs]; exact hN.1, by have := hN.2; omega⟩, ?_⟩, .inr ⟨?_, h2, h3⟩⟩
    · rw [iv_lt, decide_eq_true (p := 0 < valB B64 xs) (by omega), Bool.and_true]
    · cases s
      · show ((valB B64 xs : Nat) : Int) % 2 = 1; omega
      · show (-((valB B64 xs : Nat) : Int)) % 2 = 1; omega
end Go.Proofs.YtfofoookdlaipaaGreatDoor

namespace Go.Proofs.YtfofoookdlaipaaGreatDoor
open Go.RowKit Go.Shelf

end Go.Proofs.YtfofoookdlaipaaGreatDoor

namespace Go.Proofs.YtfofoookdlaipaaGreatDoor
open Go.RowKit Go.Shelf

end Go.Proofs.YtfofoookdlaipaaGreatDoor

namespace Go.Proofs.YtfofoookdlaipaaGreatDoor
open Go.RowKit Go.Shelf

end Go.Proofs.YtfofoookdlaipaaGreatDoor

namespace Go.Proofs.YtfofoookdlaipaaGreatDoor
open Go.RowKit Go.Shelf

structure Pm (f p m l : Int) (S I H : Nat) : Prop where
  fm : Fm f p m l S I
  pt : ∀ (s : Nat) w, s < S → Calls Tryz.prog 89 #[WV p m l, U s] w fun e w' => e = .returned (.tuple #[U (s - (s / H - 1) * H), .int .i64 (l + ((s / H - 1 : Nat) : Int))]) ∧ Below w.heap.size w w'
  hp : 0 < H
  h2 : 2 * H ≤ I
  h9 : 2 * H ≤ 9007199254740992
  lo : -1074 ≤ l ∧ l ≤ -149
  st : ∀ s, s < I → s / H - 1 ≤ 2045
theorem pm_32 : Pm 32 32 24 (-149) 2147483648 2139095040 8388608 :=
  ⟨fm_32, fun s w hs => parts_32 s _ _ rfl rfl hs w, by decide, by decide, by decide, by decide, fun s hs => by omega⟩
theorem pm_64 : Pm 64 64 53 (-1074) 9223372036854775808 9218868437227405312 4503599627370496 :=
  ⟨fm_64, fun s w hs => parts_64 s _ _ rfl rfl hs w, by decide, by decide, by decide, by decide, fun s hs => by omega⟩
end Go.Proofs.YtfofoookdlaipaaGreatDoor

