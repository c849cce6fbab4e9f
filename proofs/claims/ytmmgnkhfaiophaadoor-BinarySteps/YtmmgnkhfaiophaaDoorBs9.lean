import Derived.Test.YtmmgnkhfaiophaaDoorBs7
namespace Go.Proofs.YtmmgnkhfaiophaaDoor
open Go.RowKit Go.Shelf

set_option maxRecDepth 20000 in
set_option maxHeartbeats 4000000 in
theorem step_fail {f : Int} {b : Nat} {er : Int} (hB : ∀ w, Calls Tryd.prog 43 #[.int .i64 f, U b] w fun e w' => e = .returned (.tuple #[PV 0 0 0 false 0, .int .i64 er]) ∧ Below w.heap.size w w') (he : er ≠ 0) (down : Bool) (w : World) : Calls Tryd.prog 42 #[.int .i64 f, U b, .bool down] w fun e w' => e = .returned (.tuple #[.int .u64 0, .int .i64 er]) ∧ Below w.heap.size w w' := by
  have HB : Hid (∀ w, Calls Tryd.prog 43 #[.int .i64 f, U b] w fun e w' => e = .returned (.tuple #[PV 0 0 0 false 0, .int .i64 er]) ∧ Below w.heap.size w w') := hB
  have heb : (er == 0) = false := by simp [he]
  clear hB he
  go_enter Tryd.func42, Tryd.ntmps42
  go_wp2_with fail
  refine (HB.out _).mono ?_
  rintro e w1 ⟨rfl, hb1⟩
  have hbw := bwOn hb1 (bwAlloc w1 (.cells #[.int .i64 0, .int .i64 0, .int .i64 0, .bool false, .int .u64 0] 33))
  clear hb1
  go_wp2_with fail
  go_ret2
  exact ⟨rfl, hbw⟩
set_option maxRecDepth 20000 in
set_option maxHeartbeats 4000000 in
theorem step_A {f p m l : Int} {S I : Nat} (F : Fm f p m l S I) (b : Nat) (hb : b < 2 * S) (hr : b % S ≤ I) (down : Bool) (ho : (decide (S ≤ b) == down) = true) (hz : b % S = I) (w : World) : Calls Tryd.prog 42 #[.int .i64 f, U b, .bool down] w fun e w' => e = .returned (.tuple #[.int .u64 0, .int .i64 6]) ∧ Below w.heap.size w w' := by
  have HP := fun w => ranked_ok F b hb hr w
  have hIS := F.lt
  have hS := F.le
  have hpos := F.pos
  have HF : Hid (Fm f p m l S I) := F
  obtain ⟨s, hs⟩ : ∃ s, s = decide (S ≤ b) := ⟨_, rfl⟩
  obtain ⟨z, hzz⟩ : ∃ z, z = b % S := ⟨_, rfl⟩
  have hzb : ((z : Int) == 0) = false := by simp; omega
  have HI3 : Hid (decide (z = I) = true) := decide_eq_true (by omega)
  simp only [← hs, ← hzz] at HP hr
  rw [← hs] at ho
  have HPH : Hid (∀ w : World, Calls Tryd.prog 43 #[.int .i64 f, U b] w fun e w' => e = .returned (.tuple #[PV p m l s z, .int .i64 0]) ∧ Below w.heap.size w w') := HP
  clear HP hr hb F hIS hS hpos hs hzz hz
  go_enter Tryd.func42, Tryd.ntmps42
  go_wp2_with fail
  refine (HPH.out _).mono ?_
  rintro e w1 ⟨rfl, hb1⟩
  go_wp2_with fail
  have Y := B5q.new (w1) 33 (.int .i64 p) (.int .i64 m) (.int .i64 l) (.bool s) (U z)
  have hb2 := bwAlloc (w1) (.cells #[.int .i64 p, .int .i64 m, .int .i64 l, .bool s, U z] 33)
  generalize (w1).alloc (.cells #[.int .i64 p, .int .i64 m, .int .i64 l, .bool s, U z] 33) = W2 at *
  obtain ⟨h, hh⟩ : ∃ h, h = (w1).heap.size := ⟨_, rfl⟩
  have HGh : Hid ((w1).heap.size ≤ h) := by show _ ≤ _; omega
  rw [← hh] at Y ⊢
  clear hh
  have HB2 : Hid (Below w.heap.size w W2) := bwOn hb1 hb2
  have YH : Hid (B5q W2 h (.int .i64 p) (.int .i64 m) (.int .i64 l) (.bool s) (U z)) := Y
  clear hb1 hb2
  obtain ⟨y0, y1, y2, y3, y4, y5, y6, y7, y8, y9⟩ := Y
  refine (HF.out.cls s z _).mono ?_
  rintro e w3 ⟨c, rfl, hc4, hc3, hb3⟩
  rw [HI3.out] at hc3
  have HB3 : Hid (Below w.heap.size w w3) := bwOn HB2.out hb3
  have Y3 : Hid (B5q w3 h (.int .i64 p) (.int .i64 m) (.int .i64 l) (.bool s) (U z)) := YH.out.below hb3
  clear hb3 hc4 y0 y1 y2 y3 y4 y5 y6 y7 y8 y9
  obtain ⟨y0, y1, y2, y3, y4, y5, y6, y7, y8, y9⟩ := Y3.out
  go_wp2_with fail
  go_ret2
  exact ⟨rfl, HB3.out⟩
set_option maxRecDepth 20000 in
set_option maxHeartbeats 4000000 in
theorem step_B {f p m l : Int} {S I : Nat} (F : Fm f p m l S I) (b : Nat) (hb : b < 2 * S) (hr : b % S ≤ I) (down : Bool) (hz : b % S = 0) (w : World) : Calls Tryd.prog 42 #[.int .i64 f, U b, .bool down] w fun e w' => e = .returned (.tuple #[U (if down then S + 1 else 1), .int .i64 0]) ∧ Below w.heap.size w w' := by
  have HP := fun w => ranked_ok F b hb hr w
  have hIS := F.lt
  have hS := F.le
  have hpos := F.pos
  have HF : Hid (Fm f p m l S I) := F
  obtain ⟨s, hs⟩ : ∃ s, s = decide (S ≤ b) := ⟨_, rfl⟩
  obtain ⟨z, hzz⟩ : ∃ z, z = b % S := ⟨_, rfl⟩
  have hzb : ((z : Int) == 0) = true := by simp; omega
  have HI3 : Hid (decide (z = I) = false) := decide_eq_false (by omega)
  have HS1 : Hid (1 < S) := by show _ < _; omega
  simp only [← hs, ← hzz] at HP hr
  have HPH : Hid (∀ w : World, Calls Tryd.prog 43 #[.int .i64 f, U b] w fun e w' => e = .returned (.tuple #[PV p m l s z, .int .i64 0]) ∧ Below w.heap.size w w') := HP
  clear HP hr hb F hIS hS hpos hs hzz hz
  cases s <;> cases down
  · go_enter Tryd.func42, Tryd.ntmps42
    go_wp2_with fail
    refine (HPH.out _).mono ?_
    rintro e w1 ⟨rfl, hb1⟩
    go_wp2_with fail
    have Y := B5q.new (w1) 33 (.int .i64 p) (.int .i64 m) (.int .i64 l) (.bool false) (U z)
    have hb2 := bwAlloc (w1) (.cells #[.int .i64 p, .int .i64 m, .int .i64 l, .bool false, U z] 33)
    generalize (w1).alloc (.cells #[.int .i64 p, .int .i64 m, .int .i64 l, .bool false, U z] 33) = W2 at *
    obtain ⟨h, hh⟩ : ∃ h, h = (w1).heap.size := ⟨_, rfl⟩
    have HGh : Hid ((w1).heap.size ≤ h) := by show _ ≤ _; omega
    rw [← hh] at Y ⊢
    clear hh
    have HB2 : Hid (Below w.heap.size w W2) := bwOn hb1 hb2
    have YH : Hid (B5q W2 h (.int .i64 p) (.int .i64 m) (.int .i64 l) (.bool false) (U z)) := Y
    clear hb1 hb2
    obtain ⟨y0, y1, y2, y3, y4, y5, y6, y7, y8, y9⟩ := Y
    refine (HF.out.cls false z _).mono ?_
    rintro e w3 ⟨c, rfl, hc4, hc3, hb3⟩
    rw [HI3.out] at hc3
    have HB3 : Hid (Below w.heap.size w w3) := bwOn HB2.out hb3
    have Y3 : Hid (B5q w3 h (.int .i64 p) (.int .i64 m) (.int .i64 l) (.bool false) (U z)) := YH.out.below hb3
    clear hb3 hc4 y0 y1 y2 y3 y4 y5 y6 y7 y8 y9
    obtain ⟨y0, y1, y2, y3, y4, y5, y6, y7, y8, y9⟩ := Y3.out
    go_wp2_with fail
    refine (HF.out.sgn false 1 _ HS1.out).mono ?_
    rintro e w5 ⟨rfl, hb5⟩
    have HB5 : Hid (Below w.heap.size w w5) := bwOn HB3.out hb5
    clear hb5
    go_wp2_with fail
    go_ret2
    exact ⟨rfl, HB5.out⟩
  · go_enter Tryd.func42, Tryd.ntmps42
    go_wp2_with fail
    refine (HPH.out _).mono ?_
    rintro e w1 ⟨rfl, hb1⟩
    go_wp2_with fail
    have Y := B5q.new (w1) 33 (.int .i64 p) (.int .i64 m) (.int .i64 l) (.bool false) (U z)
    have hb2 := bwAlloc (w1) (.cells #[.int .i64 p, .int .i64 m, .int .i64 l, .bool false, U z] 33)
    generalize (w1).alloc (.cells #[.int .i64 p, .int .i64 m, .int .i64 l, .bool false, U z] 33) = W2 at *
    obtain ⟨h, hh⟩ : ∃ h, h = (w1).heap.size := ⟨_, rfl⟩
    have HGh : Hid ((w1).heap.size ≤ h) := by show _ ≤ _; omega
    rw [← hh] at Y ⊢
    clear hh
    have HB2 : Hid (Below w.heap.size w W2) := bwOn hb1 hb2
    have YH : Hid (B5q W2 h (.int .i64 p) (.int .i64 m) (.int .i64 l) (.bool false) (U z)) := Y
    clear hb1 hb2
    obtain ⟨y0, y1, y2, y3, y4, y5, y6, y7, y8, y9⟩ := Y
    refine (HF.out.sgn true 1 _ HS1.out).mono ?_
    rintro e w5 ⟨rfl, hb5⟩
    have HB5 : Hid (Below w.heap.size w w5) := bwOn HB2.out hb5
    clear hb5
    go_wp2_with fail
    go_ret2
    exact ⟨rfl, HB5.out⟩
  · go_enter Tryd.func42, Tryd.ntmps42
    go_wp2_with fail
    refine (HPH.out _).mono ?_
    rintro e w1 ⟨rfl, hb1⟩
    go_wp2_with fail
    have Y := B5q.new (w1) 33 (.int .i64 p) (.int .i64 m) (.int .i64 l) (.bool true) (U z)
    have hb2 := bwAlloc (w1) (.cells #[.int .i64 p, .int .i64 m, .int .i64 l, .bool true, U z] 33)
    generalize (w1).alloc (.cells #[.int .i64 p, .int .i64 m, .int .i64 l, .bool true, U z] 33) = W2 at *
    obtain ⟨h, hh⟩ : ∃ h, h = (w1).heap.size := ⟨_, rfl⟩
    have HGh : Hid ((w1).heap.size ≤ h) := by show _ ≤ _; omega
    rw [← hh] at Y ⊢
    clear hh
    have HB2 : Hid (Below w.heap.size w W2) := bwOn hb1 hb2
    have YH : Hid (B5q W2 h (.int .i64 p) (.int .i64 m) (.int .i64 l) (.bool true) (U z)) := Y
    clear hb1 hb2
    obtain ⟨y0, y1, y2, y3, y4, y5, y6, y7, y8, y9⟩ := Y
    refine (HF.out.sgn false 1 _ HS1.out).mono ?_
    rintro e w5 ⟨rfl, hb5⟩
    have HB5 : Hid (Below w.heap.size w w5) := bwOn HB2.out hb5
    clear hb5
    go_wp2_with fail
    go_ret2
    exact ⟨rfl, HB5.out⟩
  · go_enter Tryd.func42, Tryd.ntmps42
    go_wp2_with fail
    refine (HPH.out _).mono ?_
    rintro e w1 ⟨rfl, hb1⟩
    go_wp2_with fail
    have Y := B5q.new (w1) 33 (.int .i64 p) (.int .i64 m) (.int .i64 l) (.bool true) (U z)
    have hb2 := bwAlloc (w1) (.cells #[.int .i64 p, .int .i64 m, .int .i64 l, .bool true, U z] 33)
    generalize (w1).alloc (.cells #[.int .i64 p, .int .i64 m, .int .i64 l, .bool true, U z] 33) = W2 at *
    obtain ⟨h, hh⟩ : ∃ h, h = (w1).heap.size := ⟨_, rfl⟩
    have HGh : Hid ((w1).heap.size ≤ h) := by show _ ≤ _; omega
    rw [← hh] at Y ⊢
    clear hh
    have HB2 : Hid (Below w.heap.size w W2) := bwOn hb1 hb2
    have YH : Hid (B5q W2 h (.int .i64 p) (.int .i64 m) (.int .i64 l) (.bool true) (U z)) := Y
    clear hb1 hb2
    obtain ⟨y0, y1, y2, y3, y4, y5, y6, y7, y8, y9⟩ := Y
    refine (HF.out.cls true z _).mono ?_
    rintro e w3 ⟨c, rfl, hc4, hc3, hb3⟩
    rw [HI3.out] at hc3
    have HB3 : Hid (Below w.heap.size w w3) := bwOn HB2.out hb3
    have Y3 : Hid (B5q w3 h (.int .i64 p) (.int .i64 m) (.int .i64 l) (.bool true) (U z)) := YH.out.below hb3
    clear hb3 hc4 y0 y1 y2 y3 y4 y5 y6 y7 y8 y9
    obtain ⟨y0, y1, y2, y3, y4, y5, y6, y7, y8, y9⟩ := Y3.out
    go_wp2_with fail
    refine (HF.out.sgn true 1 _ HS1.out).mono ?_
    rintro e w5 ⟨rfl, hb5⟩
    have HB5 : Hid (Below w.heap.size w w5) := bwOn HB3.out hb5
    clear hb5
    go_wp2_with fail
    go_ret2
    exact ⟨rfl, HB5.out⟩
set_option maxRecDepth 20000 in
set_option maxHeartbeats 4000000 in
theorem step_C {f p m l : Int} {S I : Nat} (F : Fm f p m l S I) (b : Nat) (hb : b < 2 * S) (hr : b % S ≤ I) (down : Bool) (ho : (decide (S ≤ b) == down) = true) (hz0 : b % S ≠ 0) (hzI : b % S ≠ I) (w : World) : Calls Tryd.prog 42 #[.int .i64 f, U b, .bool down] w fun e w' => e = .returned (.tuple #[U (b + 1), .int .i64 0]) ∧ Below w.heap.size w w' := by
  have HP := fun w => ranked_ok F b hb hr w
  have hIS := F.lt
  have hS := F.le
  have hpos := F.pos
  have HF : Hid (Fm f p m l S I) := F
  obtain ⟨s, hs⟩ : ∃ s, s = decide (S ≤ b) := ⟨_, rfl⟩
  obtain ⟨z, hzz⟩ : ∃ z, z = b % S := ⟨_, rfl⟩
  have hzb : ((z : Int) == 0) = false := by simp; omega
  have HI3 : Hid (decide (z = I) = false) := decide_eq_false (by omega)
  have hwb : IntKind.u64.wrap ((b : Int) + 1) = ((b + 1 : Nat) : Int) := by
    have h1 : b + 1 < 2 * S := by
      have h2 := Nat.div_add_mod b S
      have h3 : b / S < 2 := Nat.div_lt_of_lt_mul (by omega)
      have h4 : S * (b / S) ≤ S * 1 := Nat.mul_le_mul_left _ (by omega)
      omega
    rw [IntKind.wrap_u64]; omega
  obtain ⟨r, hr1⟩ : ∃ r, r = b + 1 := ⟨_, rfl⟩
  rw [← hr1] at hwb ⊢
  clear hr1
  simp only [← hs, ← hzz] at HP hr
  rw [← hs] at ho
  have HPH : Hid (∀ w : World, Calls Tryd.prog 43 #[.int .i64 f, U b] w fun e w' => e = .returned (.tuple #[PV p m l s z, .int .i64 0]) ∧ Below w.heap.size w w') := HP
  clear HP hr hb F hIS hS hpos hs hzz hz0 hzI
  go_enter Tryd.func42, Tryd.ntmps42
  go_wp2_with fail
  refine (HPH.out _).mono ?_
  rintro e w1 ⟨rfl, hb1⟩
  go_wp2_with fail
  have Y := B5q.new (w1) 33 (.int .i64 p) (.int .i64 m) (.int .i64 l) (.bool s) (U z)
  have hb2 := bwAlloc (w1) (.cells #[.int .i64 p, .int .i64 m, .int .i64 l, .bool s, U z] 33)
  generalize (w1).alloc (.cells #[.int .i64 p, .int .i64 m, .int .i64 l, .bool s, U z] 33) = W2 at *
  obtain ⟨h, hh⟩ : ∃ h, h = (w1).heap.size := ⟨_, rfl⟩
  have HGh : Hid ((w1).heap.size ≤ h) := by show _ ≤ _; omega
  rw [← hh] at Y ⊢
  clear hh
  have HB2 : Hid (Below w.heap.size w W2) := bwOn hb1 hb2
  have YH : Hid (B5q W2 h (.int .i64 p) (.int .i64 m) (.int .i64 l) (.bool s) (U z)) := Y
  clear hb1 hb2
  obtain ⟨y0, y1, y2, y3, y4, y5, y6, y7, y8, y9⟩ := Y
  refine (HF.out.cls s z _).mono ?_
  rintro e w3 ⟨c, rfl, hc4, hc3, hb3⟩
  rw [HI3.out] at hc3
  have HB3 : Hid (Below w.heap.size w w3) := bwOn HB2.out hb3
  have Y3 : Hid (B5q w3 h (.int .i64 p) (.int .i64 m) (.int .i64 l) (.bool s) (U z)) := YH.out.below hb3
  clear hb3 hc4 y0 y1 y2 y3 y4 y5 y6 y7 y8 y9
  obtain ⟨y0, y1, y2, y3, y4, y5, y6, y7, y8, y9⟩ := Y3.out
  go_wp2_with fail
  go_ret2
  exact ⟨rfl, HB3.out⟩
set_option maxRecDepth 20000 in
set_option maxHeartbeats 4000000 in
theorem step_D {f p m l : Int} {S I : Nat} (F : Fm f p m l S I) (b : Nat) (hb : b < 2 * S) (hr : b % S ≤ I) (down : Bool) (ho : (decide (S ≤ b) == down) = false) (hz0 : b % S ≠ 0) (w : World) : Calls Tryd.prog 42 #[.int .i64 f, U b, .bool down] w fun e w' => e = .returned (.tuple #[U (b - 1), .int .i64 0]) ∧ Below w.heap.size w w' := by
  have HP := fun w => ranked_ok F b hb hr w
  have hIS := F.lt
  have hS := F.le
  have hpos := F.pos
  have HF : Hid (Fm f p m l S I) := F
  obtain ⟨s, hs⟩ : ∃ s, s = decide (S ≤ b) := ⟨_, rfl⟩
  obtain ⟨z, hzz⟩ : ∃ z, z = b % S := ⟨_, rfl⟩
  have hzb : ((z : Int) == 0) = false := by simp; omega
  have hwb : IntKind.u64.wrap ((b : Int) - 1) = ((b - 1 : Nat) : Int) := by
    have h1 : b ≠ 0 := by rintro rfl; simp at hz0
    rw [IntKind.wrap_u64]; omega
  obtain ⟨r, hr1⟩ : ∃ r, r = b - 1 := ⟨_, rfl⟩
  rw [← hr1] at hwb ⊢
  clear hr1
  simp only [← hs, ← hzz] at HP hr
  rw [← hs] at ho
  have HPH : Hid (∀ w : World, Calls Tryd.prog 43 #[.int .i64 f, U b] w fun e w' => e = .returned (.tuple #[PV p m l s z, .int .i64 0]) ∧ Below w.heap.size w w') := HP
  clear HP hr hb F hIS hS hpos hs hzz hz0
  go_enter Tryd.func42, Tryd.ntmps42
  go_wp2_with fail
  refine (HPH.out _).mono ?_
  rintro e w1 ⟨rfl, hb1⟩
  go_wp2_with fail
  have Y := B5q.new (w1) 33 (.int .i64 p) (.int .i64 m) (.int .i64 l) (.bool s) (U z)
  have hb2 := bwAlloc (w1) (.cells #[.int .i64 p, .int .i64 m, .int .i64 l, .bool s, U z] 33)
  generalize (w1).alloc (.cells #[.int .i64 p, .int .i64 m, .int .i64 l, .bool s, U z] 33) = W2 at *
  obtain ⟨h, hh⟩ : ∃ h, h = (w1).heap.size := ⟨_, rfl⟩
  have HGh : Hid ((w1).heap.size ≤ h) := by show _ ≤ _; omega
  rw [← hh] at Y ⊢
  clear hh
  have HB2 : Hid (Below w.heap.size w W2) := bwOn hb1 hb2
  have YH : Hid (B5q W2 h (.int .i64 p) (.int .i64 m) (.int .i64 l) (.bool s) (U z)) := Y
  clear hb1 hb2
  obtain ⟨y0, y1, y2, y3, y4, y5, y6, y7, y8, y9⟩ := Y
  go_ret2
  exact ⟨rfl, HB2.out⟩
end Go.Proofs.YtmmgnkhfaiophaaDoor
