import Derived.Test.YtmmgnkhfaiophaaDoorBr1
namespace Go.Proofs.YtmmgnkhfaiophaaDoor
open Go.RowKit Go.Shelf

/-- The check's error. -/
def Chk (f : Int) (b : Nat) (er : Int) : Prop := ∀ w, Calls Tryd.prog 44 #[.int .i64 f, U b] w fun e w' => e = .returned (.int .i64 er) ∧ Below w.heap.size w w'
set_option maxRecDepth 20000 in
set_option maxHeartbeats 4000000 in
theorem docrank_bad {f : Int} {b : Nat} {er : Int} (h : Chk f b er) (he : er ≠ 0) (w : World) : Calls Tryd.prog 39 #[.int .i64 f, U b] w fun e w' => e = .returned (.tuple #[.int .i64 0, .int .i64 er]) ∧ Below w.heap.size w w' := by
  have H : Hid (Chk f b er) := h
  have heb : (er == 0) = false := by simp [he]
  clear h he
  go_enter Tryd.func39, Tryd.ntmps39
  go_wp2_with fail
  refine (H.out _).mono ?_
  rintro e w1 ⟨rfl, hb1⟩
  go_wp2_with fail
  go_ret2
  exact ⟨rfl, hb1⟩
set_option maxRecDepth 20000 in
set_option maxHeartbeats 4000000 in
theorem docrank_nan {f P E G : Int} {S I Q : Nat} (R : Rf f S P E G I Q) (b : Nat) (hb : b < 2 * S) (hr : I < b % S) (w : World) : Calls Tryd.prog 39 #[.int .i64 f, U b] w fun e w' => e = .returned (.tuple #[.int .i64 0, .int .i64 6]) ∧ Below w.heap.size w w' := by
  have HR : Hid (Rf f S P E G I Q) := R
  have hSl := R.le
  have hIS := R.lt
  have hzl : b % S < S := Nat.mod_lt _ (by omega)
  have HC : Hid (Chk f b 0) := fun w => check_ok R b hb w
  have HK := fun w => cut_any (I := I) (Q := Q) (P := P) (E := E) (G := G) (show 0 < S by omega) hSl b w
  obtain ⟨z, hz⟩ : ∃ z, z = b % S := ⟨_, rfl⟩
  obtain ⟨s, hs⟩ : ∃ s, s = decide (S ≤ b) := ⟨_, rfl⟩
  simp only [← hs] at HK
  simp only [← hz] at HK hr hzl
  have HKH : Hid (∀ w : World, Calls Tryd.prog 46 #[FV S P E G I Q, U b] w fun e w' => e = .returned (.tuple #[.bool s, U z]) ∧ Below w.heap.size w w') := HK
  have hi1 : decide ((I : Int) < (z : Int)) = true := decide_eq_true (by omega)
  have hi2 : decide (I < z) = true := decide_eq_true (by omega)
  have hwz : IntKind.i64.wrap (z : Int) = (z : Int) := by simp [IntKind.wrap, IntKind.signed, IntKind.bits]; omega
  have hwn : IntKind.i64.wrap (-(z : Int)) = -(z : Int) := by simp [IntKind.wrap, IntKind.signed, IntKind.bits]; omega
  clear R hb hr hs hSl hIS hzl HK hz
  go_enter Tryd.func39, Tryd.ntmps39
  go_wp2_with fail
  refine (HC.out _).mono ?_
  rintro e w1 ⟨rfl, hb1⟩
  go_wp2_with fail
  refine (HR.out.of _).mono ?_
  rintro e w2 ⟨rfl, hb2⟩
  go_wp2_with fail
  have Y := B6q.new w2 85 (U S) (.int .i64 P) (.int .i64 E) (.int .i64 G) (U I) (U Q)
  have hb3 := bwAlloc w2 (.cells #[U S, .int .i64 P, .int .i64 E, .int .i64 G, U I, U Q] 85)
  generalize w2.alloc (.cells #[U S, .int .i64 P, .int .i64 E, .int .i64 G, U I, U Q] 85) = W at *
  obtain ⟨h, hh⟩ : ∃ h, h = w2.heap.size := ⟨_, rfl⟩
  rw [← hh] at Y ⊢
  clear hh
  have HB3 : Hid (Below w.heap.size w W) := bwOn (bwOn hb1 hb2) hb3
  clear hb1 hb2 hb3
  refine (HKH.out _).mono ?_
  rintro e w4 ⟨rfl, hb4⟩
  have HB4 : Hid (Below w.heap.size w w4) := bwOn HB3.out hb4
  obtain ⟨y0, y1, y2, y3, y4, y5, y6, y7, y8, y9, y10, y11⟩ := Y.below hb4
  clear hb4 Y
  go_wp2_with fail
  go_ret2
  exact ⟨rfl, HB4.out⟩
set_option maxRecDepth 20000 in
set_option maxHeartbeats 4000000 in
theorem docrank_neg {f P E G : Int} {S I Q : Nat} (R : Rf f S P E G I Q) (b : Nat) (hb : b < 2 * S) (hr : b % S ≤ I) (hs : S ≤ b) (w : World) : Calls Tryd.prog 39 #[.int .i64 f, U b] w fun e w' => e = .returned (.tuple #[.int .i64 (-((b % S : Nat) : Int)), .int .i64 0]) ∧ Below w.heap.size w w' := by
  have HR : Hid (Rf f S P E G I Q) := R
  have hSl := R.le
  have hIS := R.lt
  have hzl : b % S < S := Nat.mod_lt _ (by omega)
  have HC : Hid (Chk f b 0) := fun w => check_ok R b hb w
  have HK := fun w => cut_any (I := I) (Q := Q) (P := P) (E := E) (G := G) (show 0 < S by omega) hSl b w
  obtain ⟨z, hz⟩ : ∃ z, z = b % S := ⟨_, rfl⟩
  simp only [decide_eq_true hs] at HK
  simp only [← hz] at HK hr hzl ⊢
  have HKH : Hid (∀ w : World, Calls Tryd.prog 46 #[FV S P E G I Q, U b] w fun e w' => e = .returned (.tuple #[.bool true, U z]) ∧ Below w.heap.size w w') := HK
  have hi1 : decide ((I : Int) < (z : Int)) = false := decide_eq_false (by omega)
  have hi2 : decide (I < z) = false := decide_eq_false (by omega)
  have hwz : IntKind.i64.wrap (z : Int) = (z : Int) := by simp [IntKind.wrap, IntKind.signed, IntKind.bits]; omega
  have hwn : IntKind.i64.wrap (-(z : Int)) = -(z : Int) := by simp [IntKind.wrap, IntKind.signed, IntKind.bits]; omega
  clear R hb hr hs hSl hIS hzl HK hz
  go_enter Tryd.func39, Tryd.ntmps39
  go_wp2_with fail
  refine (HC.out _).mono ?_
  rintro e w1 ⟨rfl, hb1⟩
  go_wp2_with fail
  refine (HR.out.of _).mono ?_
  rintro e w2 ⟨rfl, hb2⟩
  go_wp2_with fail
  have Y := B6q.new w2 85 (U S) (.int .i64 P) (.int .i64 E) (.int .i64 G) (U I) (U Q)
  have hb3 := bwAlloc w2 (.cells #[U S, .int .i64 P, .int .i64 E, .int .i64 G, U I, U Q] 85)
  generalize w2.alloc (.cells #[U S, .int .i64 P, .int .i64 E, .int .i64 G, U I, U Q] 85) = W at *
  obtain ⟨h, hh⟩ : ∃ h, h = w2.heap.size := ⟨_, rfl⟩
  rw [← hh] at Y ⊢
  clear hh
  have HB3 : Hid (Below w.heap.size w W) := bwOn (bwOn hb1 hb2) hb3
  clear hb1 hb2 hb3
  refine (HKH.out _).mono ?_
  rintro e w4 ⟨rfl, hb4⟩
  have HB4 : Hid (Below w.heap.size w w4) := bwOn HB3.out hb4
  obtain ⟨y0, y1, y2, y3, y4, y5, y6, y7, y8, y9, y10, y11⟩ := Y.below hb4
  clear hb4 Y
  go_wp2_with fail
  go_ret2
  exact ⟨rfl, HB4.out⟩
set_option maxRecDepth 20000 in
set_option maxHeartbeats 4000000 in
theorem docrank_pos {f P E G : Int} {S I Q : Nat} (R : Rf f S P E G I Q) (b : Nat) (hb : b < 2 * S) (hr : b % S ≤ I) (hs : ¬ S ≤ b) (w : World) : Calls Tryd.prog 39 #[.int .i64 f, U b] w fun e w' => e = .returned (.tuple #[.int .i64 ((b % S : Nat) : Int), .int .i64 0]) ∧ Below w.heap.size w w' := by
  have HR : Hid (Rf f S P E G I Q) := R
  have hSl := R.le
  have hIS := R.lt
  have hzl : b % S < S := Nat.mod_lt _ (by omega)
  have HC : Hid (Chk f b 0) := fun w => check_ok R b hb w
  have HK := fun w => cut_any (I := I) (Q := Q) (P := P) (E := E) (G := G) (show 0 < S by omega) hSl b w
  obtain ⟨z, hz⟩ : ∃ z, z = b % S := ⟨_, rfl⟩
  simp only [decide_eq_false hs] at HK
  simp only [← hz] at HK hr hzl ⊢
  have HKH : Hid (∀ w : World, Calls Tryd.prog 46 #[FV S P E G I Q, U b] w fun e w' => e = .returned (.tuple #[.bool false, U z]) ∧ Below w.heap.size w w') := HK
  have hi1 : decide ((I : Int) < (z : Int)) = false := decide_eq_false (by omega)
  have hi2 : decide (I < z) = false := decide_eq_false (by omega)
  have hwz : IntKind.i64.wrap (z : Int) = (z : Int) := by simp [IntKind.wrap, IntKind.signed, IntKind.bits]; omega
  have hwn : IntKind.i64.wrap (-(z : Int)) = -(z : Int) := by simp [IntKind.wrap, IntKind.signed, IntKind.bits]; omega
  clear R hb hr hs hSl hIS hzl HK hz
  go_enter Tryd.func39, Tryd.ntmps39
  go_wp2_with fail
  refine (HC.out _).mono ?_
  rintro e w1 ⟨rfl, hb1⟩
  go_wp2_with fail
  refine (HR.out.of _).mono ?_
  rintro e w2 ⟨rfl, hb2⟩
  go_wp2_with fail
  have Y := B6q.new w2 85 (U S) (.int .i64 P) (.int .i64 E) (.int .i64 G) (U I) (U Q)
  have hb3 := bwAlloc w2 (.cells #[U S, .int .i64 P, .int .i64 E, .int .i64 G, U I, U Q] 85)
  generalize w2.alloc (.cells #[U S, .int .i64 P, .int .i64 E, .int .i64 G, U I, U Q] 85) = W at *
  obtain ⟨h, hh⟩ : ∃ h, h = w2.heap.size := ⟨_, rfl⟩
  rw [← hh] at Y ⊢
  clear hh
  have HB3 : Hid (Below w.heap.size w W) := bwOn (bwOn hb1 hb2) hb3
  clear hb1 hb2 hb3
  refine (HKH.out _).mono ?_
  rintro e w4 ⟨rfl, hb4⟩
  have HB4 : Hid (Below w.heap.size w w4) := bwOn HB3.out hb4
  obtain ⟨y0, y1, y2, y3, y4, y5, y6, y7, y8, y9, y10, y11⟩ := Y.below hb4
  clear hb4 Y
  go_wp2_with fail
  go_ret2
  exact ⟨rfl, HB4.out⟩
set_option maxRecDepth 20000 in
set_option maxHeartbeats 4000000 in
theorem docranked_okpos {f P E G : Int} {S I Q : Nat} (R : Rf f S P E G I Q) (k : Nat) (hk9 : k ≤ 9223372036854775808) (hk : k ≤ I) (w : World) : Calls Tryd.prog 62 #[.int .i64 f, .int .i64 (k : Int)] w fun e w' => e = .returned (.tuple #[U k, .int .i64 0]) ∧ Below w.heap.size w w' := by
  have HR : Hid (Rf f S P E G I Q) := R
  have hSl := R.le
  have hIS := R.lt
  have hwI : IntKind.i64.wrap (I : Int) = (I : Int) := by simp [IntKind.wrap, IntKind.signed, IntKind.bits]; omega
  have hwJ : IntKind.i64.wrap (-(I : Int)) = -(I : Int) := by simp [IntKind.wrap, IntKind.signed, IntKind.bits]; omega
  obtain ⟨n, hn⟩ : ∃ n : Int, n = (k : Int) := ⟨_, rfl⟩
  rw [← hn]
  have c1 : decide ((I : Int) < n) = false := decide_eq_false (by omega)
  have c2 : decide (n < -(I : Int)) = false := decide_eq_false (by omega)
  have c3 : decide (n < 0) = false := decide_eq_false (by omega)
  have e1 : IntKind.u64.wrap n = (k : Int) := by rw [IntKind.wrap_u64]; omega
  clear R hk hk9 hSl hIS hn
  go_enter Tryd.func62, Tryd.ntmps62
  go_wp2_with fail
  refine (HR.out.of _).mono ?_
  rintro e w2 ⟨rfl, hb2⟩
  have hbw := bwOn hb2 (bwAlloc w2 (.cells #[U S, .int .i64 P, .int .i64 E, .int .i64 G, U I, U Q] 85))
  clear hb2
  go_wp2_with fail
  go_ret2
  exact ⟨rfl, hbw⟩
set_option maxRecDepth 20000 in
set_option maxHeartbeats 4000000 in
theorem docranked_okneg {f P E G : Int} {S I Q : Nat} (R : Rf f S P E G I Q) (k : Nat) (h0 : 0 < k) (hk9 : k ≤ 9223372036854775808) (hk : k ≤ I) (w : World) : Calls Tryd.prog 62 #[.int .i64 f, .int .i64 (-(k : Int))] w fun e w' => e = .returned (.tuple #[U (S + k), .int .i64 0]) ∧ Below w.heap.size w w' := by
  have HR : Hid (Rf f S P E G I Q) := R
  have hSl := R.le
  have hIS := R.lt
  have hwI : IntKind.i64.wrap (I : Int) = (I : Int) := by simp [IntKind.wrap, IntKind.signed, IntKind.bits]; omega
  have hwJ : IntKind.i64.wrap (-(I : Int)) = -(I : Int) := by simp [IntKind.wrap, IntKind.signed, IntKind.bits]; omega
  obtain ⟨n, hn⟩ : ∃ n : Int, n = (-(k : Int)) := ⟨_, rfl⟩
  rw [← hn]
  have c1 : decide ((I : Int) < n) = false := decide_eq_false (by omega)
  have c2 : decide (n < -(I : Int)) = false := decide_eq_false (by omega)
  have c3 : decide (n < 0) = true := decide_eq_true (by omega)
  obtain ⟨q, hq⟩ : ∃ q, q = S + k := ⟨_, rfl⟩
  rw [← hq]
  have e1 : IntKind.i64.wrap (-n) = (k : Int) := by simp [IntKind.wrap, IntKind.signed, IntKind.bits]; omega
  have e2 : IntKind.u64.wrap (k : Int) = (k : Int) := by rw [IntKind.wrap_u64]; omega
  have e3 : IntKind.u64.wrap ((S : Int) + (k : Int)) = (q : Int) := by rw [IntKind.wrap_u64]; omega
  clear hq
  clear R hk hk9 hSl hIS hn h0
  go_enter Tryd.func62, Tryd.ntmps62
  go_wp2_with fail
  refine (HR.out.of _).mono ?_
  rintro e w2 ⟨rfl, hb2⟩
  have hbw := bwOn hb2 (bwAlloc w2 (.cells #[U S, .int .i64 P, .int .i64 E, .int .i64 G, U I, U Q] 85))
  clear hb2
  go_wp2_with fail
  go_ret2
  exact ⟨rfl, hbw⟩
set_option maxRecDepth 20000 in
set_option maxHeartbeats 4000000 in
theorem docranked_farpos {f P E G : Int} {S I Q : Nat} (R : Rf f S P E G I Q) (k : Nat) (hk9 : k ≤ 9223372036854775808) (hk : I < k) (w : World) : Calls Tryd.prog 62 #[.int .i64 f, .int .i64 (k : Int)] w fun e w' => e = .returned (.tuple #[.int .u64 0, .int .i64 1]) ∧ Below w.heap.size w w' := by
  have HR : Hid (Rf f S P E G I Q) := R
  have hSl := R.le
  have hIS := R.lt
  have hwI : IntKind.i64.wrap (I : Int) = (I : Int) := by simp [IntKind.wrap, IntKind.signed, IntKind.bits]; omega
  have hwJ : IntKind.i64.wrap (-(I : Int)) = -(I : Int) := by simp [IntKind.wrap, IntKind.signed, IntKind.bits]; omega
  obtain ⟨n, hn⟩ : ∃ n : Int, n = (k : Int) := ⟨_, rfl⟩
  rw [← hn]
  have c1 : decide ((I : Int) < n) = true := decide_eq_true (by omega)
  have c2 : decide (n < -(I : Int)) = false := decide_eq_false (by omega)
  have c3 : decide (n < 0) = false := decide_eq_false (by omega)
  clear R hk hk9 hSl hIS hn
  go_enter Tryd.func62, Tryd.ntmps62
  go_wp2_with fail
  refine (HR.out.of _).mono ?_
  rintro e w2 ⟨rfl, hb2⟩
  have hbw := bwOn hb2 (bwAlloc w2 (.cells #[U S, .int .i64 P, .int .i64 E, .int .i64 G, U I, U Q] 85))
  clear hb2
  go_wp2_with fail
  go_ret2
  exact ⟨rfl, hbw⟩
set_option maxRecDepth 20000 in
set_option maxHeartbeats 4000000 in
theorem docranked_farneg {f P E G : Int} {S I Q : Nat} (R : Rf f S P E G I Q) (k : Nat) (h0 : 0 < k) (hk9 : k ≤ 9223372036854775808) (hk : I < k) (w : World) : Calls Tryd.prog 62 #[.int .i64 f, .int .i64 (-(k : Int))] w fun e w' => e = .returned (.tuple #[.int .u64 0, .int .i64 1]) ∧ Below w.heap.size w w' := by
  have HR : Hid (Rf f S P E G I Q) := R
  have hSl := R.le
  have hIS := R.lt
  have hwI : IntKind.i64.wrap (I : Int) = (I : Int) := by simp [IntKind.wrap, IntKind.signed, IntKind.bits]; omega
  have hwJ : IntKind.i64.wrap (-(I : Int)) = -(I : Int) := by simp [IntKind.wrap, IntKind.signed, IntKind.bits]; omega
  obtain ⟨n, hn⟩ : ∃ n : Int, n = (-(k : Int)) := ⟨_, rfl⟩
  rw [← hn]
  have c1 : decide ((I : Int) < n) = false := decide_eq_false (by omega)
  have c2 : decide (n < -(I : Int)) = true := decide_eq_true (by omega)
  have c3 : decide (n < 0) = true := decide_eq_true (by omega)
  clear R hk hk9 hSl hIS hn h0
  go_enter Tryd.func62, Tryd.ntmps62
  go_wp2_with fail
  refine (HR.out.of _).mono ?_
  rintro e w2 ⟨rfl, hb2⟩
  have hbw := bwOn hb2 (bwAlloc w2 (.cells #[U S, .int .i64 P, .int .i64 E, .int .i64 G, U I, U Q] 85))
  clear hb2
  go_wp2_with fail
  go_ret2
  exact ⟨rfl, hbw⟩
set_option maxRecDepth 20000 in
theorem docranked_x (f : Int) (h1 : f ≠ 32) (h2 : f ≠ 64) (n : Int) (w : World) : Calls Tryd.prog 62 #[.int .i64 f, .int .i64 n] w fun e w' => e = .returned (.tuple #[.int .u64 0, .int .i64 1]) ∧ Below w.heap.size w w' := by
  have H1 : Hid (f ≠ 32) := h1
  have H2 : Hid (f ≠ 64) := h2
  clear h1 h2
  go_enter Tryd.func62, Tryd.ntmps62
  go_wp2_with fail
  refine (rof_x f H1.out H2.out _).mono ?_
  rintro e w2 ⟨rfl, hb2⟩
  have hbw := bwOn hb2 (bwAlloc w2 (.cells #[.int .u64 0, .int .i64 0, .int .i64 0, .int .i64 0, .int .u64 0, .int .u64 0] 85))
  clear hb2
  go_wp2_with fail
  go_ret2
  exact ⟨rfl, hbw⟩
end Go.Proofs.YtmmgnkhfaiophaaDoor
