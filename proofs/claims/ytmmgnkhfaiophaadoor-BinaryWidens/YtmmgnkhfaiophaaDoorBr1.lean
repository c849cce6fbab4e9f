import Derived.Test.YtmmgnkhfaiophaaDoorBs4
namespace Go.Proofs.YtmmgnkhfaiophaaDoor
open Go.RowKit Go.Shelf

/-- What depends on a format, in the reference. -/
abbrev FV (S : Nat) (P E G : Int) (I Q : Nat) : Value := .agg #[U S, .int .i64 P, .int .i64 E, .int .i64 G, U I, U Q]
structure B6q (W : World) (g : Nat) (v0 v1 v2 v3 v4 v5 : Value) : Prop where
  c0 : W.cell? ⟨g, 0, none⟩ = some v0
  c1 : W.cell? ⟨g, 1, none⟩ = some v1
  c2 : W.cell? ⟨g, 2, none⟩ = some v2
  c3 : W.cell? ⟨g, 3, none⟩ = some v3
  c4 : W.cell? ⟨g, 4, none⟩ = some v4
  c5 : W.cell? ⟨g, 5, none⟩ = some v5
  f0 : W.frozen? ⟨g, 0, none⟩ = false
  f1 : W.frozen? ⟨g, 1, none⟩ = false
  f2 : W.frozen? ⟨g, 2, none⟩ = false
  f3 : W.frozen? ⟨g, 3, none⟩ = false
  f4 : W.frozen? ⟨g, 4, none⟩ = false
  f5 : W.frozen? ⟨g, 5, none⟩ = false
theorem B6q.below {W W' : World} {g : Nat} {v0 v1 v2 v3 v4 v5 : Value} (h : B6q W g v0 v1 v2 v3 v4 v5) (hb : Below W.heap.size W W') : B6q W' g v0 v1 v2 v3 v4 v5 := by
  have hl : g < W.heap.size := World.block_lt_of_cell? W _ h.c0
  exact ⟨(hb.cell (p := ⟨g, 0, none⟩) hl).trans h.c0, (hb.cell (p := ⟨g, 1, none⟩) hl).trans h.c1, (hb.cell (p := ⟨g, 2, none⟩) hl).trans h.c2, (hb.cell (p := ⟨g, 3, none⟩) hl).trans h.c3, (hb.cell (p := ⟨g, 4, none⟩) hl).trans h.c4, (hb.cell (p := ⟨g, 5, none⟩) hl).trans h.c5, (hb.frozen (p := ⟨g, 0, none⟩) hl).trans h.f0, (hb.frozen (p := ⟨g, 1, none⟩) hl).trans h.f1, (hb.frozen (p := ⟨g, 2, none⟩) hl).trans h.f2, (hb.frozen (p := ⟨g, 3, none⟩) hl).trans h.f3, (hb.frozen (p := ⟨g, 4, none⟩) hl).trans h.f4, (hb.frozen (p := ⟨g, 5, none⟩) hl).trans h.f5⟩
theorem B6q.new (w : World) (ty : TypeId) (v0 v1 v2 v3 v4 v5 : Value) : B6q (w.alloc (.cells #[v0, v1, v2, v3, v4, v5] ty)) w.heap.size v0 v1 v2 v3 v4 v5 :=
  ⟨by go_simp, by go_simp, by go_simp, by go_simp, by go_simp, by go_simp, by go_simp, by go_simp, by go_simp, by go_simp, by go_simp, by go_simp⟩
theorem B6q.lt {W : World} {g : Nat} {v0 v1 v2 v3 v4 v5 : Value} (h : B6q W g v0 v1 v2 v3 v4 v5) : g < W.heap.size := World.block_lt_of_cell? W _ h.c0
theorem B6q.drew {W : World} {g : Nat} {v0 v1 v2 v3 v4 v5 : Value} (h : B6q W g v0 v1 v2 v3 v4 v5) : B6q W.drew g v0 v1 v2 v3 v4 v5 := ⟨h.c0, h.c1, h.c2, h.c3, h.c4, h.c5, h.f0, h.f1, h.f2, h.f3, h.f4, h.f5⟩
/-- The format's numbers as the reference answers them. -/
structure Rf (f : Int) (S : Nat) (P E G : Int) (I Q : Nat) : Prop where
  of : ∀ w, Calls Tryd.prog 45 #[.int .i64 f] w fun e w' => e = .returned (.tuple #[FV S P E G I Q, .bool true]) ∧ Below w.heap.size w w'
  lt : I < S
  pos : 2 < I
  le : S ≤ 9223372036854775808
set_option maxRecDepth 20000 in
theorem rof_32 (w : World) : Calls Tryd.prog 45 #[.int .i64 32] w fun e w' => e = .returned (.tuple #[FV 2147483648 24 (-149) 104 2139095040 2143289345, .bool true]) ∧ Below w.heap.size w w' := by
  go_enter Tryd.func45, Tryd.ntmps45
  go_wp2_with fail
  refine bodyPost_ret (v := .tuple #[FV 2147483648 24 (-149) 104 2139095040 2143289345, .bool true]) (by rw [results_ct rfl]; go_simp) rfl ⟨rfl, ?_⟩
  exact bwAlloc w _
theorem rf_32 : Rf 32 2147483648 24 (-149) 104 2139095040 2143289345 := ⟨rof_32, by decide, by decide, by decide⟩
set_option maxRecDepth 20000 in
theorem rof_64 (w : World) : Calls Tryd.prog 45 #[.int .i64 64] w fun e w' => e = .returned (.tuple #[FV 9223372036854775808 53 (-1074) 971 9218868437227405312 9221120237041090561, .bool true]) ∧ Below w.heap.size w w' := by
  go_enter Tryd.func45, Tryd.ntmps45
  go_wp2_with fail
  refine bodyPost_ret (v := .tuple #[FV 9223372036854775808 53 (-1074) 971 9218868437227405312 9221120237041090561, .bool true]) (by rw [results_ct rfl]; go_simp) rfl ⟨rfl, ?_⟩
  exact bwAlloc w _
theorem rf_64 : Rf 64 9223372036854775808 53 (-1074) 971 9218868437227405312 9221120237041090561 := ⟨rof_64, by decide, by decide, by decide⟩
set_option maxRecDepth 20000 in
theorem rof_x (f : Int) (h1 : f ≠ 32) (h2 : f ≠ 64) (w : World) : Calls Tryd.prog 45 #[.int .i64 f] w fun e w' => e = .returned (.tuple #[FV 0 0 0 0 0 0, .bool false]) ∧ Below w.heap.size w w' := by
  have h1' : (f == 32) = false := by simp [h1]
  have h2' : (f == 64) = false := by simp [h2]
  go_enter Tryd.func45, Tryd.ntmps45
  go_wp2_with fail
  refine bodyPost_ret (v := .tuple #[FV 0 0 0 0 0 0, .bool false]) (by rw [results_ct rfl]; go_simp) rfl ⟨rfl, ?_⟩
  exact bwAlloc w _
set_option maxRecDepth 20000 in
set_option maxHeartbeats 4000000 in
theorem check_ok {f P E G : Int} {S I Q : Nat} (R : Rf f S P E G I Q) (b : Nat) (hb : b < 2 * S) (w : World) : Calls Tryd.prog 44 #[.int .i64 f, U b] w fun e w' => e = .returned (.int .i64 0) ∧ Below w.heap.size w w' := by
  have HR : Hid (Rf f S P E G I Q) := R
  obtain ⟨hf, hhf⟩ : ∃ hf, hf = b / 2 := ⟨_, rfl⟩
  have hd : (b : Int).tdiv 2 = (hf : Int) := by rw [Int.tdiv_eq_ediv_of_nonneg (by omega)]; omega
  have hd2 : (b : Int) / 2 = (hf : Int) := by omega
  have hwf : IntKind.u64.wrap (hf : Int) = (hf : Int) := by rw [IntKind.wrap_u64]; have := R.le; omega
  have hc1 : decide ((S : Int) ≤ (hf : Int)) = false := decide_eq_false (by omega)
  have hc2 : decide (S ≤ hf) = false := decide_eq_false (by omega)
  clear R hhf hb
  go_enter Tryd.func44, Tryd.ntmps44
  go_wp2_with fail
  refine (HR.out.of _).mono ?_
  rintro e w1 ⟨rfl, hb1⟩
  go_wp2_with fail
  go_ret
  exact ⟨rfl, bwOn hb1 (bwAlloc w1 _)⟩
set_option maxRecDepth 20000 in
set_option maxHeartbeats 4000000 in
theorem check_big {f P E G : Int} {S I Q : Nat} (R : Rf f S P E G I Q) (b : Nat) (hb9 : b < B64) (hb : 2 * S ≤ b) (w : World) : Calls Tryd.prog 44 #[.int .i64 f, U b] w fun e w' => e = .returned (.int .i64 2) ∧ Below w.heap.size w w' := by
  have HR : Hid (Rf f S P E G I Q) := R
  obtain ⟨hf, hhf⟩ : ∃ hf, hf = b / 2 := ⟨_, rfl⟩
  have hd : (b : Int).tdiv 2 = (hf : Int) := by rw [Int.tdiv_eq_ediv_of_nonneg (by omega)]; omega
  have hd2 : (b : Int) / 2 = (hf : Int) := by omega
  have hwf : IntKind.u64.wrap (hf : Int) = (hf : Int) := by rw [IntKind.wrap_u64]; rw [B64_eq] at hb9; omega
  have hc1 : decide ((S : Int) ≤ (hf : Int)) = true := decide_eq_true (by omega)
  have hc2 : decide (S ≤ hf) = true := decide_eq_true (by omega)
  clear R hhf hb hb9
  go_enter Tryd.func44, Tryd.ntmps44
  go_wp2_with fail
  refine (HR.out.of _).mono ?_
  rintro e w1 ⟨rfl, hb1⟩
  go_wp2_with fail
  go_ret
  exact ⟨rfl, bwOn hb1 (bwAlloc w1 _)⟩
set_option maxRecDepth 20000 in
theorem check_x (f : Int) (h1 : f ≠ 32) (h2 : f ≠ 64) (b : Nat) (w : World) : Calls Tryd.prog 44 #[.int .i64 f, U b] w fun e w' => e = .returned (.int .i64 1) ∧ Below w.heap.size w w' := by
  have H1 : Hid (f ≠ 32) := h1
  have H2 : Hid (f ≠ 64) := h2
  clear h1 h2
  go_enter Tryd.func44, Tryd.ntmps44
  go_wp2_with fail
  refine (rof_x f H1.out H2.out _).mono ?_
  rintro e w1 ⟨rfl, hb1⟩
  go_wp2_with fail
  go_ret
  exact ⟨rfl, bwOn hb1 (bwAlloc w1 _)⟩
set_option maxRecDepth 20000 in
set_option maxHeartbeats 4000000 in
theorem cut_any {S I Q : Nat} {P E G : Int} (h0 : 0 < S) (hS : S ≤ 9223372036854775808) (b : Nat) (w : World) : Calls Tryd.prog 46 #[FV S P E G I Q, U b] w fun e w' => e = .returned (.tuple #[.bool (decide (S ≤ b)), U (b % S)]) ∧ Below w.heap.size w w' := by
  obtain ⟨z, hz⟩ : ∃ z, z = b % S := ⟨_, rfl⟩
  obtain ⟨s, hs⟩ : ∃ s, s = decide (S ≤ b) := ⟨_, rfl⟩
  have hzl : z < S := by rw [hz]; exact Nat.mod_lt _ h0
  have hd : (b : Int).tmod S = (z : Int) := by rw [Int.tmod_eq_emod_of_nonneg (by omega), hz]; rfl
  have hwz : IntKind.u64.wrap (z : Int) = (z : Int) := by rw [IntKind.wrap_u64]; omega
  have hs0 : ((S : Int) == 0) = false := by simp; omega
  have hs1 : ¬ S = 0 := by omega
  have hs2 : decide ((S : Int) ≤ (b : Int)) = s := by rw [hs]; by_cases h : S ≤ b <;> simp [h]
  have hs3 : decide (S ≤ b) = s := hs.symm
  rw [← hz, hs3]
  clear hz hs hzl h0 hS
  go_enter Tryd.func46, Tryd.ntmps46
  go_wp2_with fail
  go_quiet (fail)
  go_wp2_with fail
  go_ret2
  exact ⟨rfl, bwDrewN (bwAlloc w _) _⟩
end Go.Proofs.YtmmgnkhfaiophaaDoor
