import Derived.Test.YtmmgnkhfaiophaaDoorBr2
namespace Go.Proofs.YtmmgnkhfaiophaaDoor
open Go.RowKit Go.Shelf

/-- A function of two plain arguments answers this pair, whatever the world. -/
def Says (fn : FuncId) (x y : Value) (v u : Value) : Prop := ∀ w, Calls Tryd.prog fn #[x, y] w fun e w' => e = .returned (.tuple #[v, u]) ∧ Below w.heap.size w w'
set_option maxRecDepth 20000 in
theorem to_Next {f : Int} {b : Nat} {v u : Value} (h : ∀ w, Calls Tryd.prog 42 #[.int .i64 f, U b, .bool false] w fun e w' => e = .returned (.tuple #[v, u]) ∧ Below w.heap.size w w') : Says 17 (.int .i64 f) (U b) v u := by
  intro w
  have H : Hid (∀ w, Calls Tryd.prog 42 #[.int .i64 f, U b, .bool false] w fun e w' => e = .returned (.tuple #[v, u]) ∧ Below w.heap.size w w') := h
  clear h
  go_enter Tryd.func17, Tryd.ntmps17
  go_wp2_with fail
  refine (H.out _).mono ?_
  rintro e w1 ⟨rfl, hb1⟩
  go_wp2_with fail
  go_ret2
  exact ⟨rfl, hb1⟩
set_option maxRecDepth 20000 in
theorem to_Prev {f : Int} {b : Nat} {v u : Value} (h : ∀ w, Calls Tryd.prog 42 #[.int .i64 f, U b, .bool true] w fun e w' => e = .returned (.tuple #[v, u]) ∧ Below w.heap.size w w') : Says 18 (.int .i64 f) (U b) v u := by
  intro w
  have H : Hid (∀ w, Calls Tryd.prog 42 #[.int .i64 f, U b, .bool true] w fun e w' => e = .returned (.tuple #[v, u]) ∧ Below w.heap.size w w') := h
  clear h
  go_enter Tryd.func18, Tryd.ntmps18
  go_wp2_with fail
  refine (H.out _).mono ?_
  rintro e w1 ⟨rfl, hb1⟩
  go_wp2_with fail
  go_ret2
  exact ⟨rfl, hb1⟩
set_option maxRecDepth 20000 in
set_option maxHeartbeats 4000000 in
theorem docNext_err {f : Int} {b : Nat} {er : Int} (h : Says 39 (.int .i64 f) (U b) (.int .i64 0) (.int .i64 er)) (he : er ≠ 0) : Says 60 (.int .i64 f) (U b) (.int .u64 0) (.int .i64 er) := by
  intro w
  have H : Hid (Says 39 (.int .i64 f) (U b) (.int .i64 0) (.int .i64 er)) := h
  have heb : (er == 0) = false := by simp [he]
  clear h he
  go_enter Tryd.func60, Tryd.ntmps60
  go_wp2_with fail
  refine (H.out _).mono ?_
  rintro e w1 ⟨rfl, hb1⟩
  go_wp2_with fail
  go_ret2
  exact ⟨rfl, hb1⟩
set_option maxRecDepth 20000 in
set_option maxHeartbeats 4000000 in
theorem docNext_inf {f P E G : Int} {S I Q : Nat} (R : Rf f S P E G I Q) {b : Nat} {r : Int} (h : Says 39 (.int .i64 f) (U b) (.int .i64 r) (.int .i64 0)) (hr : r = I) : Says 60 (.int .i64 f) (U b) (.int .u64 0) (.int .i64 6) := by
  intro w
  have H : Hid (Says 39 (.int .i64 f) (U b) (.int .i64 r) (.int .i64 0)) := h
  have HR : Hid (Rf f S P E G I Q) := R
  have hSl := R.le
  have hIS := R.lt
  have hpos := R.pos
  have hwI : IntKind.i64.wrap (I : Int) = (I : Int) := by simp [IntKind.wrap, IntKind.signed, IntKind.bits]; omega
  have hwJ : IntKind.i64.wrap (-(I : Int)) = -(I : Int) := by simp [IntKind.wrap, IntKind.signed, IntKind.bits]; omega
  have c1 : (r == (I : Int)) = true := by simp; omega
  clear R h hSl hIS hpos hr
  go_enter Tryd.func60, Tryd.ntmps60
  go_wp2_with fail
  refine (H.out _).mono ?_
  rintro e w1 ⟨rfl, hb1⟩
  go_wp2_with fail
  refine (HR.out.of _).mono ?_
  rintro e w2 ⟨rfl, hb2⟩
  have hbw := bwOn (bwOn hb1 hb2) (bwAlloc w2 (.cells #[U S, .int .i64 P, .int .i64 E, .int .i64 G, U I, U Q] 85))
  clear hb1 hb2
  go_wp2_with fail
  go_ret2
  exact ⟨rfl, hbw⟩
set_option maxRecDepth 20000 in
set_option maxHeartbeats 4000000 in
theorem docNext_one {f P E G : Int} {S I Q : Nat} (R : Rf f S P E G I Q) {b : Nat} {r : Int} (h : Says 39 (.int .i64 f) (U b) (.int .i64 r) (.int .i64 0)) (hr : r = -1) : Says 60 (.int .i64 f) (U b) (U S) (.int .i64 0) := by
  intro w
  have H : Hid (Says 39 (.int .i64 f) (U b) (.int .i64 r) (.int .i64 0)) := h
  have HR : Hid (Rf f S P E G I Q) := R
  have hSl := R.le
  have hIS := R.lt
  have hpos := R.pos
  have hwI : IntKind.i64.wrap (I : Int) = (I : Int) := by simp [IntKind.wrap, IntKind.signed, IntKind.bits]; omega
  have hwJ : IntKind.i64.wrap (-(I : Int)) = -(I : Int) := by simp [IntKind.wrap, IntKind.signed, IntKind.bits]; omega
  have c1 : (r == (I : Int)) = false := by simp; omega
  have c2 : (r == -1) = true := by simp; omega
  clear R h hSl hIS hpos hr
  go_enter Tryd.func60, Tryd.ntmps60
  go_wp2_with fail
  refine (H.out _).mono ?_
  rintro e w1 ⟨rfl, hb1⟩
  go_wp2_with fail
  refine (HR.out.of _).mono ?_
  rintro e w2 ⟨rfl, hb2⟩
  have hbw := bwOn (bwOn hb1 hb2) (bwAlloc w2 (.cells #[U S, .int .i64 P, .int .i64 E, .int .i64 G, U I, U Q] 85))
  clear hb1 hb2
  go_wp2_with fail
  go_ret2
  exact ⟨rfl, hbw⟩
set_option maxRecDepth 20000 in
set_option maxHeartbeats 4000000 in
theorem docNext_go {f P E G : Int} {S I Q : Nat} (R : Rf f S P E G I Q) {b : Nat} {r : Int} (h : Says 39 (.int .i64 f) (U b) (.int .i64 r) (.int .i64 0)) (hr1 : r ≠ I) (hr2 : r ≠ -1) (hr3 : -(I : Int) ≤ r ∧ r ≤ I) {v u : Value} (hv : Says 62 (.int .i64 f) (.int .i64 (r + 1)) v u) : Says 60 (.int .i64 f) (U b) v u := by
  intro w
  have H : Hid (Says 39 (.int .i64 f) (U b) (.int .i64 r) (.int .i64 0)) := h
  have HR : Hid (Rf f S P E G I Q) := R
  have hSl := R.le
  have hIS := R.lt
  have hpos := R.pos
  have hwI : IntKind.i64.wrap (I : Int) = (I : Int) := by simp [IntKind.wrap, IntKind.signed, IntKind.bits]; omega
  have hwJ : IntKind.i64.wrap (-(I : Int)) = -(I : Int) := by simp [IntKind.wrap, IntKind.signed, IntKind.bits]; omega
  have c1 : (r == (I : Int)) = false := by simp; omega
  have c2 : (r == -1) = false := by simp; omega
  have HV : Hid (Says 62 (.int .i64 f) (.int .i64 (r + 1)) v u) := hv
  obtain ⟨r1, hr1e⟩ : ∃ r1, r1 = r + 1 := ⟨_, rfl⟩
  have hwr : IntKind.i64.wrap (r + 1) = r1 := by rw [hr1e]; simp [IntKind.wrap, IntKind.signed, IntKind.bits]; omega
  rw [← hr1e] at HV
  clear hr1e R h hSl hIS hpos hr1 hr2 hr3 hv
  go_enter Tryd.func60, Tryd.ntmps60
  go_wp2_with fail
  refine (H.out _).mono ?_
  rintro e w1 ⟨rfl, hb1⟩
  go_wp2_with fail
  refine (HR.out.of _).mono ?_
  rintro e w2 ⟨rfl, hb2⟩
  have hbw := bwOn (bwOn hb1 hb2) (bwAlloc w2 (.cells #[U S, .int .i64 P, .int .i64 E, .int .i64 G, U I, U Q] 85))
  clear hb1 hb2
  go_wp2_with fail
  refine (HV.out _).mono ?_
  rintro e w3 ⟨rfl, hb3⟩
  have hbx := bwOn hbw hb3
  clear hb3 hbw
  go_wp2_with fail
  go_ret2
  exact ⟨rfl, hbx⟩
set_option maxRecDepth 20000 in
set_option maxHeartbeats 4000000 in
theorem docPrev_err {f : Int} {b : Nat} {er : Int} (h : Says 39 (.int .i64 f) (U b) (.int .i64 0) (.int .i64 er)) (he : er ≠ 0) : Says 61 (.int .i64 f) (U b) (.int .u64 0) (.int .i64 er) := by
  intro w
  have H : Hid (Says 39 (.int .i64 f) (U b) (.int .i64 0) (.int .i64 er)) := h
  have heb : (er == 0) = false := by simp [he]
  clear h he
  go_enter Tryd.func61, Tryd.ntmps61
  go_wp2_with fail
  refine (H.out _).mono ?_
  rintro e w1 ⟨rfl, hb1⟩
  go_wp2_with fail
  go_ret2
  exact ⟨rfl, hb1⟩
set_option maxRecDepth 20000 in
set_option maxHeartbeats 4000000 in
theorem docPrev_inf {f P E G : Int} {S I Q : Nat} (R : Rf f S P E G I Q) {b : Nat} {r : Int} (h : Says 39 (.int .i64 f) (U b) (.int .i64 r) (.int .i64 0)) (hr : r = -(I : Int)) : Says 61 (.int .i64 f) (U b) (.int .u64 0) (.int .i64 6) := by
  intro w
  have H : Hid (Says 39 (.int .i64 f) (U b) (.int .i64 r) (.int .i64 0)) := h
  have HR : Hid (Rf f S P E G I Q) := R
  have hSl := R.le
  have hIS := R.lt
  have hpos := R.pos
  have hwI : IntKind.i64.wrap (I : Int) = (I : Int) := by simp [IntKind.wrap, IntKind.signed, IntKind.bits]; omega
  have hwJ : IntKind.i64.wrap (-(I : Int)) = -(I : Int) := by simp [IntKind.wrap, IntKind.signed, IntKind.bits]; omega
  have c1 : (r == -(I : Int)) = true := by simp; omega
  clear R h hSl hIS hpos hr
  go_enter Tryd.func61, Tryd.ntmps61
  go_wp2_with fail
  refine (H.out _).mono ?_
  rintro e w1 ⟨rfl, hb1⟩
  go_wp2_with fail
  refine (HR.out.of _).mono ?_
  rintro e w2 ⟨rfl, hb2⟩
  have hbw := bwOn (bwOn hb1 hb2) (bwAlloc w2 (.cells #[U S, .int .i64 P, .int .i64 E, .int .i64 G, U I, U Q] 85))
  clear hb1 hb2
  go_wp2_with fail
  go_ret2
  exact ⟨rfl, hbw⟩
set_option maxRecDepth 20000 in
set_option maxHeartbeats 4000000 in
theorem docPrev_one {f P E G : Int} {S I Q : Nat} (R : Rf f S P E G I Q) {b : Nat} {r : Int} (h : Says 39 (.int .i64 f) (U b) (.int .i64 r) (.int .i64 0)) (hr : r = 1) : Says 61 (.int .i64 f) (U b) (.int .u64 0) (.int .i64 0) := by
  intro w
  have H : Hid (Says 39 (.int .i64 f) (U b) (.int .i64 r) (.int .i64 0)) := h
  have HR : Hid (Rf f S P E G I Q) := R
  have hSl := R.le
  have hIS := R.lt
  have hpos := R.pos
  have hwI : IntKind.i64.wrap (I : Int) = (I : Int) := by simp [IntKind.wrap, IntKind.signed, IntKind.bits]; omega
  have hwJ : IntKind.i64.wrap (-(I : Int)) = -(I : Int) := by simp [IntKind.wrap, IntKind.signed, IntKind.bits]; omega
  have c1 : (r == -(I : Int)) = false := by simp; omega
  have c2 : (r == 1) = true := by simp; omega
  clear R h hSl hIS hpos hr
  go_enter Tryd.func61, Tryd.ntmps61
  go_wp2_with fail
  refine (H.out _).mono ?_
  rintro e w1 ⟨rfl, hb1⟩
  go_wp2_with fail
  refine (HR.out.of _).mono ?_
  rintro e w2 ⟨rfl, hb2⟩
  have hbw := bwOn (bwOn hb1 hb2) (bwAlloc w2 (.cells #[U S, .int .i64 P, .int .i64 E, .int .i64 G, U I, U Q] 85))
  clear hb1 hb2
  go_wp2_with fail
  go_ret2
  exact ⟨rfl, hbw⟩
set_option maxRecDepth 20000 in
set_option maxHeartbeats 4000000 in
theorem docPrev_go {f P E G : Int} {S I Q : Nat} (R : Rf f S P E G I Q) {b : Nat} {r : Int} (h : Says 39 (.int .i64 f) (U b) (.int .i64 r) (.int .i64 0)) (hr1 : r ≠ -(I : Int)) (hr2 : r ≠ 1) (hr3 : -(I : Int) ≤ r ∧ r ≤ I) {v u : Value} (hv : Says 62 (.int .i64 f) (.int .i64 (r - 1)) v u) : Says 61 (.int .i64 f) (U b) v u := by
  intro w
  have H : Hid (Says 39 (.int .i64 f) (U b) (.int .i64 r) (.int .i64 0)) := h
  have HR : Hid (Rf f S P E G I Q) := R
  have hSl := R.le
  have hIS := R.lt
  have hpos := R.pos
  have hwI : IntKind.i64.wrap (I : Int) = (I : Int) := by simp [IntKind.wrap, IntKind.signed, IntKind.bits]; omega
  have hwJ : IntKind.i64.wrap (-(I : Int)) = -(I : Int) := by simp [IntKind.wrap, IntKind.signed, IntKind.bits]; omega
  have c1 : (r == -(I : Int)) = false := by simp; omega
  have c2 : (r == 1) = false := by simp; omega
  have HV : Hid (Says 62 (.int .i64 f) (.int .i64 (r - 1)) v u) := hv
  obtain ⟨r1, hr1e⟩ : ∃ r1, r1 = r - 1 := ⟨_, rfl⟩
  have hwr : IntKind.i64.wrap (r - 1) = r1 := by rw [hr1e]; simp [IntKind.wrap, IntKind.signed, IntKind.bits]; omega
  rw [← hr1e] at HV
  clear hr1e R h hSl hIS hpos hr1 hr2 hr3 hv
  go_enter Tryd.func61, Tryd.ntmps61
  go_wp2_with fail
  refine (H.out _).mono ?_
  rintro e w1 ⟨rfl, hb1⟩
  go_wp2_with fail
  refine (HR.out.of _).mono ?_
  rintro e w2 ⟨rfl, hb2⟩
  have hbw := bwOn (bwOn hb1 hb2) (bwAlloc w2 (.cells #[U S, .int .i64 P, .int .i64 E, .int .i64 G, U I, U Q] 85))
  clear hb1 hb2
  go_wp2_with fail
  refine (HV.out _).mono ?_
  rintro e w3 ⟨rfl, hb3⟩
  have hbx := bwOn hbw hb3
  clear hb3 hbw
  go_wp2_with fail
  go_ret2
  exact ⟨rfl, hbx⟩
end Go.Proofs.YtmmgnkhfaiophaaDoor
