import Derived.Test.YtoalblaklcekeaaGreatDoorTn9
namespace Go.Proofs.YtoalblaklcekeaaGreatDoor
open Go.RowKit Go.Shelf

theorem exW_sz {fn z e : Int} {S I O : Nat} {neg : Bool} (Q : Nat) (_hI : I < S) (_hO : O < S) (hok : exOk fn e = true) (h1 : I < Q) (h2 : Q < S) (h3 : O < I) : exW fn S I O neg z e ≠ Q := by
  unfold exW exP
  rw [if_pos hok]
  have h : (if exSz fn (exQ z e) (decide (-1 ≤ e)) = 0 then 0 else if exSz fn (exQ z e) (decide (-1 ≤ e)) = 1 then O else I) ≤ I := by split; omega; split <;> omega
  generalize (if exSz fn (exQ z e) (decide (-1 ≤ e)) = 0 then 0 else if exSz fn (exQ z e) (decide (-1 ≤ e)) = 1 then O else I) = A at *
  split <;> omega
set_option maxRecDepth 20000 in
set_option maxHeartbeats 8000000 in
theorem mir_xlo64 (fn : Int) (d1 : decide (fn < 4) = true) (h : fn < 4 ∨ 6 < fn) (b : Nat) (w : World) (hT : Tab w) :
    Calls Tryz.prog 5 #[.int .i64 fn, U b, .bool false] w fun en w' => en = .returned (.bool true) ∧ Below w.heap.size w w' := by
  have hbw : Below w.heap.size w w := Below.refl _ _
  have TB : Hid (Tab w) := hT
  clear hT
  have HF : Hid (fn < 4 ∨ 6 < fn) := h
  clear h
  go_enter Tryz.func5, Tryz.ntmps5
  go_wp2_with fail
  refine (awake17 _ (TB.out.below hbw)).mono ?_
  rintro e v1 ⟨rfl, hb1⟩
  replace hbw := Below.on hbw hb1
  clear hb1
  go_wp2_with fail
  refine (exact_x 64 fn HF.out b _).mono ?_
  rintro e v2 ⟨rfl, hb2⟩
  replace hbw := Below.on hbw hb2
  clear hb2
  go_wp2_with fail
  go_ret
  exact ⟨rfl, hbw⟩
set_option maxRecDepth 20000 in
set_option maxHeartbeats 8000000 in
theorem mir_xhi64 (fn : Int) (d1 : decide (fn < 4) = false) (d2 : decide (6 < fn) = true) (h : fn < 4 ∨ 6 < fn) (b : Nat) (w : World) (hT : Tab w) :
    Calls Tryz.prog 5 #[.int .i64 fn, U b, .bool false] w fun en w' => en = .returned (.bool true) ∧ Below w.heap.size w w' := by
  have hbw : Below w.heap.size w w := Below.refl _ _
  have TB : Hid (Tab w) := hT
  clear hT
  have HF : Hid (fn < 4 ∨ 6 < fn) := h
  clear h
  go_enter Tryz.func5, Tryz.ntmps5
  go_wp2_with fail
  refine (awake17 _ (TB.out.below hbw)).mono ?_
  rintro e v1 ⟨rfl, hb1⟩
  replace hbw := Below.on hbw hb1
  clear hb1
  go_wp2_with fail
  refine (exact_x 64 fn HF.out b _).mono ?_
  rintro e v2 ⟨rfl, hb2⟩
  replace hbw := Below.on hbw hb2
  clear hb2
  go_wp2_with fail
  go_ret
  exact ⟨rfl, hbw⟩
set_option maxRecDepth 20000 in
set_option maxHeartbeats 8000000 in
theorem mir_64_4c (b : Nat) (hb : b < 2 * 9223372036854775808) (hr : 9218868437227405312 ≤ b % 9223372036854775808) (w : World) (hT : Tab w) :
    Calls Tryz.prog 5 #[.int .i64 4, U b, .bool false] w fun en w' => en = .returned (.bool true) ∧ Below w.heap.size w w' := by
  have hbw : Below w.heap.size w w := Below.refl _ _
  have TB : Hid (Tab w) := hT
  clear hT
  obtain ⟨c, hc⟩ : ∃ c, c = xsS 9223372036854775808 b := ⟨_, rfl⟩
  have hx : bits BinOp.xor IntKind.u64 (b : Int) 9223372036854775808 = ((c : Nat) : Int) := by rw [hc]; exact sign_xor b 9223372036854775808 63 (by decide) (by decide) hb
  have hcb : c < 2 * 9223372036854775808 ∧ c % 9223372036854775808 = b % 9223372036854775808 := by rw [hc]; unfold xsS; split <;> omega
  have E1 : Hid (∀ w, Tab w → Calls Tryz.prog 23 #[.int .i64 64, .int .i64 4, U b] w fun en w' => en = .returned (.tuple #[U 9221120237041090561, .bool true, .int .i64 0]) ∧ Below w.heap.size w w') := fun w _ => exact_c4 jt_64 hb hr w
  have E2 : Hid (∀ w, Tab w → Calls Tryz.prog 23 #[.int .i64 64, .int .i64 4, U c] w fun en w' => en = .returned (.tuple #[U 9221120237041090561, .bool true, .int .i64 0]) ∧ Below w.heap.size w w') := fun w _ => exact_c4 jt_64 hcb.1 (by rw [hcb.2]; exact hr) w
  clear hc hcb hb hr
  go_enter Tryz.func5, Tryz.ntmps5
  go_wp2_with fail
  refine (awake17 _ (TB.out.below hbw)).mono ?_
  rintro e v1 ⟨rfl, hb1⟩
  replace hbw := Below.on hbw hb1
  clear hb1
  go_wp2_with fail
  refine (E1.out _ (TB.out.below hbw)).mono ?_
  rintro e v2 ⟨rfl, hb2⟩
  replace hbw := Below.on hbw hb2
  clear hb2
  go_wp2_with fail
  refine (E2.out _ (TB.out.below hbw)).mono ?_
  rintro e v3 ⟨rfl, hb3⟩
  replace hbw := Below.on hbw hb3
  clear hb3
  go_wp2_with fail
  refine (quiet_64 _).mono ?_
  rintro e v4 ⟨rfl, hb4⟩
  replace hbw := Below.on hbw hb4
  clear hb4
  go_wp2_with fail
  go_ret
  exact ⟨rfl, hbw⟩
set_option maxRecDepth 20000 in
set_option maxHeartbeats 8000000 in
theorem mir_64_4n (b : Nat) (hb : b < 2 * 9223372036854775808) (hr : b % 9223372036854775808 < 9218868437227405312) {z e : Int} (hv : VF 9223372036854775808 4503599627370496 (-1074) b z e) (hok : exOk 4 e = false) (w : World) (hT : Tab w) :
    Calls Tryz.prog 5 #[.int .i64 4, U b, .bool false] w fun en w' => en = .returned (.bool true) ∧ Below w.heap.size w w' := by
  have hbw : Below w.heap.size w w := Below.refl _ _
  have TB : Hid (Tab w) := hT
  clear hT
  obtain ⟨c, hc⟩ : ∃ c, c = xsS 9223372036854775808 b := ⟨_, rfl⟩
  have hx : bits BinOp.xor IntKind.u64 (b : Int) 9223372036854775808 = ((c : Nat) : Int) := by rw [hc]; exact sign_xor b 9223372036854775808 63 (by decide) (by decide) hb
  have hcb : c < 2 * 9223372036854775808 ∧ c % 9223372036854775808 = b % 9223372036854775808 := by rw [hc]; unfold xsS; split <;> omega
  have hv2 : VF 9223372036854775808 4503599627370496 (-1074) c (-z) e := by rw [hc]; exact (xs_neg hb hv).1
  have hn : decide (9223372036854775808 ≤ c) = !decide (9223372036854775808 ≤ b) := by rw [hc]; exact xs_dec hb
  have E1 : Hid (∀ w, Tab w → Calls Tryz.prog 23 #[.int .i64 64, .int .i64 4, U b] w fun en w' => en = .returned (.tuple #[U 0, .bool false, .int .i64 0]) ∧ Below w.heap.size w w') := by
    intro w hT
    have h := exact_f4 jt_64 hb hr hv w hT
    rw [hok, show exW 4 9223372036854775808 9218868437227405312 4607182418800017408 (decide (9223372036854775808 ≤ b)) z e = 0 from by unfold exW; rw [hok]; rfl] at h
    exact h
  have E2 : Hid (∀ w, Tab w → Calls Tryz.prog 23 #[.int .i64 64, .int .i64 4, U c] w fun en w' => en = .returned (.tuple #[U 0, .bool false, .int .i64 0]) ∧ Below w.heap.size w w') := by
    intro w hT
    have h := exact_f4 jt_64 hcb.1 (by rw [hcb.2]; exact hr) hv2 w hT
    rw [hok, show exW 4 9223372036854775808 9218868437227405312 4607182418800017408 (decide (9223372036854775808 ≤ c)) (-z) e = 0 from by unfold exW; rw [hok]; rfl] at h
    exact h
  clear hc hcb hb hr hv hv2 hn hok
  go_enter Tryz.func5, Tryz.ntmps5
  go_wp2_with fail
  refine (awake17 _ (TB.out.below hbw)).mono ?_
  rintro e v1 ⟨rfl, hb1⟩
  replace hbw := Below.on hbw hb1
  clear hb1
  go_wp2_with fail
  refine (E1.out _ (TB.out.below hbw)).mono ?_
  rintro e v2 ⟨rfl, hb2⟩
  replace hbw := Below.on hbw hb2
  clear hb2
  go_wp2_with fail
  refine (E2.out _ (TB.out.below hbw)).mono ?_
  rintro e v3 ⟨rfl, hb3⟩
  replace hbw := Below.on hbw hb3
  clear hb3
  go_wp2_with fail
  refine (quiet_64 _).mono ?_
  rintro e v4 ⟨rfl, hb4⟩
  replace hbw := Below.on hbw hb4
  clear hb4
  go_wp2_with fail
  go_ret
  exact ⟨rfl, hbw⟩
set_option maxRecDepth 20000 in
set_option maxHeartbeats 8000000 in
theorem mir_64_4y (b : Nat) (hb : b < 2 * 9223372036854775808) (hr : b % 9223372036854775808 < 9218868437227405312) {z e : Int} (hv : VF 9223372036854775808 4503599627370496 (-1074) b z e) (hok : exOk 4 e = true) (w : World) (hT : Tab w) :
    Calls Tryz.prog 5 #[.int .i64 4, U b, .bool false] w fun en w' => en = .returned (.bool true) ∧ Below w.heap.size w w' := by
  have hbw : Below w.heap.size w w := Below.refl _ _
  have TB : Hid (Tab w) := hT
  clear hT
  obtain ⟨c, hc⟩ : ∃ c, c = xsS 9223372036854775808 b := ⟨_, rfl⟩
  have hx : bits BinOp.xor IntKind.u64 (b : Int) 9223372036854775808 = ((c : Nat) : Int) := by rw [hc]; exact sign_xor b 9223372036854775808 63 (by decide) (by decide) hb
  have hcb : c < 2 * 9223372036854775808 ∧ c % 9223372036854775808 = b % 9223372036854775808 := by rw [hc]; unfold xsS; split <;> omega
  have hv2 : VF 9223372036854775808 4503599627370496 (-1074) c (-z) e := by rw [hc]; exact (xs_neg hb hv).1
  have hn : decide (9223372036854775808 ≤ c) = !decide (9223372036854775808 ≤ b) := by rw [hc]; exact xs_dec hb
  obtain ⟨R, hR⟩ : ∃ R, R = exW 4 9223372036854775808 9218868437227405312 4607182418800017408 (decide (9223372036854775808 ≤ b)) z e := ⟨_, rfl⟩
  obtain ⟨T9, hT9⟩ : ∃ T9, T9 = exW 4 9223372036854775808 9218868437227405312 4607182418800017408 (decide (9223372036854775808 ≤ c)) (-z) e := ⟨_, rfl⟩
  have E1 : Hid (∀ w, Tab w → Calls Tryz.prog 23 #[.int .i64 64, .int .i64 4, U b] w fun en w' => en = .returned (.tuple #[U R, .bool true, .int .i64 0]) ∧ Below w.heap.size w w') := by
    intro w hT
    have h := exact_f4 jt_64 hb hr hv w hT
    rw [hok, ← hR] at h
    exact h
  have E2 : Hid (∀ w, Tab w → Calls Tryz.prog 23 #[.int .i64 64, .int .i64 4, U c] w fun en w' => en = .returned (.tuple #[U T9, .bool true, .int .i64 0]) ∧ Below w.heap.size w w') := by
    intro w hT
    have h := exact_f4 jt_64 hcb.1 (by rw [hcb.2]; exact hr) hv2 w hT
    rw [hok, ← hT9] at h
    exact h
  have hRQ : ((R : Int) == 9221120237041090561) = false := by
    have := exW_sz (z := z) (neg := decide (9223372036854775808 ≤ b)) 9221120237041090561 (show 9218868437227405312 < 9223372036854775808 by decide) (show 4607182418800017408 < 9223372036854775808 by decide) hok (by decide) (by decide) (by decide)
    rw [← hR] at this
    simp; omega
  have hm9 := mirW (fn := 4) (neg := decide (9223372036854775808 ≤ b)) (S := 9223372036854775808) (I := 9218868437227405312) (O := 4607182418800017408) (by decide) hv.fm hok (by decide) (by decide)
  rw [← hn, ← hR, ← hT9] at hm9
  have hxr : bits BinOp.xor IntKind.u64 (T9 : Int) 9223372036854775808 = ((R : Nat) : Int) := by rw [hm9.1]; exact sign_xor T9 9223372036854775808 63 (by decide) (by decide) hm9.2
  have E3 : Hid (∀ w, Tab w → Calls Tryz.prog 25 #[.int .i64 64, .int .i64 4, U b, U R] w fun en w' => en = .returned (.bool true) ∧ Below w.heap.size w w') := by
    intro w hT
    exact widened_d 4 b R w
  clear hc hcb hb hr hv hv2 hn hok hR hT9 hm9
  go_enter Tryz.func5, Tryz.ntmps5
  go_wp2_with fail
  refine (awake17 _ (TB.out.below hbw)).mono ?_
  rintro e v1 ⟨rfl, hb1⟩
  replace hbw := Below.on hbw hb1
  clear hb1
  go_wp2_with fail
  refine (E1.out _ (TB.out.below hbw)).mono ?_
  rintro e v2 ⟨rfl, hb2⟩
  replace hbw := Below.on hbw hb2
  clear hb2
  go_wp2_with fail
  refine (E2.out _ (TB.out.below hbw)).mono ?_
  rintro e v3 ⟨rfl, hb3⟩
  replace hbw := Below.on hbw hb3
  clear hb3
  go_wp2_with fail
  refine (quiet_64 _).mono ?_
  rintro e v4 ⟨rfl, hb4⟩
  replace hbw := Below.on hbw hb4
  clear hb4
  go_wp2_with fail
  refine (E3.out _ (TB.out.below hbw)).mono ?_
  rintro e v5 ⟨rfl, hb5⟩
  replace hbw := Below.on hbw hb5
  clear hb5
  go_wp2_with fail
  go_ret
  exact ⟨rfl, hbw⟩
set_option maxRecDepth 20000 in
set_option maxHeartbeats 8000000 in
theorem mir_64_5c (b : Nat) (hb : b < 2 * 9223372036854775808) (hr : 9218868437227405312 ≤ b % 9223372036854775808) (w : World) (hT : Tab w) :
    Calls Tryz.prog 5 #[.int .i64 5, U b, .bool false] w fun en w' => en = .returned (.bool true) ∧ Below w.heap.size w w' := by
  have hbw : Below w.heap.size w w := Below.refl _ _
  have TB : Hid (Tab w) := hT
  clear hT
  obtain ⟨c, hc⟩ : ∃ c, c = xsS 9223372036854775808 b := ⟨_, rfl⟩
  have hx : bits BinOp.xor IntKind.u64 (b : Int) 9223372036854775808 = ((c : Nat) : Int) := by rw [hc]; exact sign_xor b 9223372036854775808 63 (by decide) (by decide) hb
  have hcb : c < 2 * 9223372036854775808 ∧ c % 9223372036854775808 = b % 9223372036854775808 := by rw [hc]; unfold xsS; split <;> omega
  have E1 : Hid (∀ w, Tab w → Calls Tryz.prog 23 #[.int .i64 64, .int .i64 5, U b] w fun en w' => en = .returned (.tuple #[U 9221120237041090561, .bool true, .int .i64 0]) ∧ Below w.heap.size w w') := fun w _ => exact_c5 jt_64 hb hr w
  have E2 : Hid (∀ w, Tab w → Calls Tryz.prog 23 #[.int .i64 64, .int .i64 5, U c] w fun en w' => en = .returned (.tuple #[U 9221120237041090561, .bool true, .int .i64 0]) ∧ Below w.heap.size w w') := fun w _ => exact_c5 jt_64 hcb.1 (by rw [hcb.2]; exact hr) w
  clear hc hcb hb hr
  go_enter Tryz.func5, Tryz.ntmps5
  go_wp2_with fail
  refine (awake17 _ (TB.out.below hbw)).mono ?_
  rintro e v1 ⟨rfl, hb1⟩
  replace hbw := Below.on hbw hb1
  clear hb1
  go_wp2_with fail
  refine (E1.out _ (TB.out.below hbw)).mono ?_
  rintro e v2 ⟨rfl, hb2⟩
  replace hbw := Below.on hbw hb2
  clear hb2
  go_wp2_with fail
  refine (E2.out _ (TB.out.below hbw)).mono ?_
  rintro e v3 ⟨rfl, hb3⟩
  replace hbw := Below.on hbw hb3
  clear hb3
  go_wp2_with fail
  refine (quiet_64 _).mono ?_
  rintro e v4 ⟨rfl, hb4⟩
  replace hbw := Below.on hbw hb4
  clear hb4
  go_wp2_with fail
  go_ret
  exact ⟨rfl, hbw⟩
set_option maxRecDepth 20000 in
set_option maxHeartbeats 8000000 in
theorem mir_64_5n (b : Nat) (hb : b < 2 * 9223372036854775808) (hr : b % 9223372036854775808 < 9218868437227405312) {z e : Int} (hv : VF 9223372036854775808 4503599627370496 (-1074) b z e) (hok : exOk 5 e = false) (w : World) (hT : Tab w) :
    Calls Tryz.prog 5 #[.int .i64 5, U b, .bool false] w fun en w' => en = .returned (.bool true) ∧ Below w.heap.size w w' := by
  have hbw : Below w.heap.size w w := Below.refl _ _
  have TB : Hid (Tab w) := hT
  clear hT
  obtain ⟨c, hc⟩ : ∃ c, c = xsS 9223372036854775808 b := ⟨_, rfl⟩
  have hx : bits BinOp.xor IntKind.u64 (b : Int) 9223372036854775808 = ((c : Nat) : Int) := by rw [hc]; exact sign_xor b 9223372036854775808 63 (by decide) (by decide) hb
  have hcb : c < 2 * 9223372036854775808 ∧ c % 9223372036854775808 = b % 9223372036854775808 := by rw [hc]; unfold xsS; split <;> omega
  have hv2 : VF 9223372036854775808 4503599627370496 (-1074) c (-z) e := by rw [hc]; exact (xs_neg hb hv).1
  have hn : decide (9223372036854775808 ≤ c) = !decide (9223372036854775808 ≤ b) := by rw [hc]; exact xs_dec hb
  have E1 : Hid (∀ w, Tab w → Calls Tryz.prog 23 #[.int .i64 64, .int .i64 5, U b] w fun en w' => en = .returned (.tuple #[U 0, .bool false, .int .i64 0]) ∧ Below w.heap.size w w') := by
    intro w hT
    have h := exact_f5 jt_64 hb hr hv w hT
    rw [hok, show exW 5 9223372036854775808 9218868437227405312 4607182418800017408 (decide (9223372036854775808 ≤ b)) z e = 0 from by unfold exW; rw [hok]; rfl] at h
    exact h
  have E2 : Hid (∀ w, Tab w → Calls Tryz.prog 23 #[.int .i64 64, .int .i64 5, U c] w fun en w' => en = .returned (.tuple #[U 0, .bool false, .int .i64 0]) ∧ Below w.heap.size w w') := by
    intro w hT
    have h := exact_f5 jt_64 hcb.1 (by rw [hcb.2]; exact hr) hv2 w hT
    rw [hok, show exW 5 9223372036854775808 9218868437227405312 4607182418800017408 (decide (9223372036854775808 ≤ c)) (-z) e = 0 from by unfold exW; rw [hok]; rfl] at h
    exact h
  clear hc hcb hb hr hv hv2 hn hok
  go_enter Tryz.func5, Tryz.ntmps5
  go_wp2_with fail
  refine (awake17 _ (TB.out.below hbw)).mono ?_
  rintro e v1 ⟨rfl, hb1⟩
  replace hbw := Below.on hbw hb1
  clear hb1
  go_wp2_with fail
  refine (E1.out _ (TB.out.below hbw)).mono ?_
  rintro e v2 ⟨rfl, hb2⟩
  replace hbw := Below.on hbw hb2
  clear hb2
  go_wp2_with fail
  refine (E2.out _ (TB.out.below hbw)).mono ?_
  rintro e v3 ⟨rfl, hb3⟩
  replace hbw := Below.on hbw hb3
  clear hb3
  go_wp2_with fail
  refine (quiet_64 _).mono ?_
  rintro e v4 ⟨rfl, hb4⟩
  replace hbw := Below.on hbw hb4
  clear hb4
  go_wp2_with fail
  go_ret
  exact ⟨rfl, hbw⟩
set_option maxRecDepth 20000 in
set_option maxHeartbeats 8000000 in
theorem mir_64_5y (b : Nat) (hb : b < 2 * 9223372036854775808) (hr : b % 9223372036854775808 < 9218868437227405312) {z e : Int} (hv : VF 9223372036854775808 4503599627370496 (-1074) b z e) (hok : exOk 5 e = true) (w : World) (hT : Tab w) :
    Calls Tryz.prog 5 #[.int .i64 5, U b, .bool false] w fun en w' => en = .returned (.bool true) ∧ Below w.heap.size w w' := by
  have hbw : Below w.heap.size w w := Below.refl _ _
  have TB : Hid (Tab w) := hT
  clear hT
  obtain ⟨c, hc⟩ : ∃ c, c = xsS 9223372036854775808 b := ⟨_, rfl⟩
  have hx : bits BinOp.xor IntKind.u64 (b : Int) 9223372036854775808 = ((c : Nat) : Int) := by rw [hc]; exact sign_xor b 9223372036854775808 63 (by decide) (by decide) hb
  have hcb : c < 2 * 9223372036854775808 ∧ c % 9223372036854775808 = b % 9223372036854775808 := by rw [hc]; unfold xsS; split <;> omega
  have hv2 : VF 9223372036854775808 4503599627370496 (-1074) c (-z) e := by rw [hc]; exact (xs_neg hb hv).1
  have hn : decide (9223372036854775808 ≤ c) = !decide (9223372036854775808 ≤ b) := by rw [hc]; exact xs_dec hb
  obtain ⟨R, hR⟩ : ∃ R, R = exW 5 9223372036854775808 9218868437227405312 4607182418800017408 (decide (9223372036854775808 ≤ b)) z e := ⟨_, rfl⟩
  obtain ⟨T9, hT9⟩ : ∃ T9, T9 = exW 5 9223372036854775808 9218868437227405312 4607182418800017408 (decide (9223372036854775808 ≤ c)) (-z) e := ⟨_, rfl⟩
  have E1 : Hid (∀ w, Tab w → Calls Tryz.prog 23 #[.int .i64 64, .int .i64 5, U b] w fun en w' => en = .returned (.tuple #[U R, .bool true, .int .i64 0]) ∧ Below w.heap.size w w') := by
    intro w hT
    have h := exact_f5 jt_64 hb hr hv w hT
    rw [hok, ← hR] at h
    exact h
  have E2 : Hid (∀ w, Tab w → Calls Tryz.prog 23 #[.int .i64 64, .int .i64 5, U c] w fun en w' => en = .returned (.tuple #[U T9, .bool true, .int .i64 0]) ∧ Below w.heap.size w w') := by
    intro w hT
    have h := exact_f5 jt_64 hcb.1 (by rw [hcb.2]; exact hr) hv2 w hT
    rw [hok, ← hT9] at h
    exact h
  have hRQ : ((R : Int) == 9221120237041090561) = false := by
    have := exW_sz (z := z) (neg := decide (9223372036854775808 ≤ b)) 9221120237041090561 (show 9218868437227405312 < 9223372036854775808 by decide) (show 4607182418800017408 < 9223372036854775808 by decide) hok (by decide) (by decide) (by decide)
    rw [← hR] at this
    simp; omega
  have hRT : T9 = R := by rw [hT9, hR]; exact mir5 hv.fm hok
  subst hRT
  clear hc hcb hb hr hv hv2 hn hok hR hT9
  go_enter Tryz.func5, Tryz.ntmps5
  go_wp2_with fail
  refine (awake17 _ (TB.out.below hbw)).mono ?_
  rintro e v1 ⟨rfl, hb1⟩
  replace hbw := Below.on hbw hb1
  clear hb1
  go_wp2_with fail
  refine (E1.out _ (TB.out.below hbw)).mono ?_
  rintro e v2 ⟨rfl, hb2⟩
  replace hbw := Below.on hbw hb2
  clear hb2
  go_wp2_with fail
  refine (E2.out _ (TB.out.below hbw)).mono ?_
  rintro e v3 ⟨rfl, hb3⟩
  replace hbw := Below.on hbw hb3
  clear hb3
  go_wp2_with fail
  refine (quiet_64 _).mono ?_
  rintro e v4 ⟨rfl, hb4⟩
  replace hbw := Below.on hbw hb4
  clear hb4
  go_wp2_with fail
  go_ret
  exact ⟨rfl, hbw⟩
set_option maxRecDepth 20000 in
set_option maxHeartbeats 8000000 in
theorem mir_64_6c (b : Nat) (hb : b < 2 * 9223372036854775808) (hr : 9218868437227405312 ≤ b % 9223372036854775808) (w : World) (hT : Tab w) :
    Calls Tryz.prog 5 #[.int .i64 6, U b, .bool false] w fun en w' => en = .returned (.bool true) ∧ Below w.heap.size w w' := by
  have hbw : Below w.heap.size w w := Below.refl _ _
  have TB : Hid (Tab w) := hT
  clear hT
  obtain ⟨c, hc⟩ : ∃ c, c = xsS 9223372036854775808 b := ⟨_, rfl⟩
  have hx : bits BinOp.xor IntKind.u64 (b : Int) 9223372036854775808 = ((c : Nat) : Int) := by rw [hc]; exact sign_xor b 9223372036854775808 63 (by decide) (by decide) hb
  have hcb : c < 2 * 9223372036854775808 ∧ c % 9223372036854775808 = b % 9223372036854775808 := by rw [hc]; unfold xsS; split <;> omega
  have E1 : Hid (∀ w, Tab w → Calls Tryz.prog 23 #[.int .i64 64, .int .i64 6, U b] w fun en w' => en = .returned (.tuple #[U 9221120237041090561, .bool true, .int .i64 0]) ∧ Below w.heap.size w w') := fun w _ => exact_c6 jt_64 hb hr w
  have E2 : Hid (∀ w, Tab w → Calls Tryz.prog 23 #[.int .i64 64, .int .i64 6, U c] w fun en w' => en = .returned (.tuple #[U 9221120237041090561, .bool true, .int .i64 0]) ∧ Below w.heap.size w w') := fun w _ => exact_c6 jt_64 hcb.1 (by rw [hcb.2]; exact hr) w
  clear hc hcb hb hr
  go_enter Tryz.func5, Tryz.ntmps5
  go_wp2_with fail
  refine (awake17 _ (TB.out.below hbw)).mono ?_
  rintro e v1 ⟨rfl, hb1⟩
  replace hbw := Below.on hbw hb1
  clear hb1
  go_wp2_with fail
  refine (E1.out _ (TB.out.below hbw)).mono ?_
  rintro e v2 ⟨rfl, hb2⟩
  replace hbw := Below.on hbw hb2
  clear hb2
  go_wp2_with fail
  refine (E2.out _ (TB.out.below hbw)).mono ?_
  rintro e v3 ⟨rfl, hb3⟩
  replace hbw := Below.on hbw hb3
  clear hb3
  go_wp2_with fail
  refine (quiet_64 _).mono ?_
  rintro e v4 ⟨rfl, hb4⟩
  replace hbw := Below.on hbw hb4
  clear hb4
  go_wp2_with fail
  go_ret
  exact ⟨rfl, hbw⟩
set_option maxRecDepth 20000 in
set_option maxHeartbeats 8000000 in
theorem mir_64_6n (b : Nat) (hb : b < 2 * 9223372036854775808) (hr : b % 9223372036854775808 < 9218868437227405312) {z e : Int} (hv : VF 9223372036854775808 4503599627370496 (-1074) b z e) (hok : exOk 6 e = false) (w : World) (hT : Tab w) :
    Calls Tryz.prog 5 #[.int .i64 6, U b, .bool false] w fun en w' => en = .returned (.bool true) ∧ Below w.heap.size w w' := by
  have hbw : Below w.heap.size w w := Below.refl _ _
  have TB : Hid (Tab w) := hT
  clear hT
  obtain ⟨c, hc⟩ : ∃ c, c = xsS 9223372036854775808 b := ⟨_, rfl⟩
  have hx : bits BinOp.xor IntKind.u64 (b : Int) 9223372036854775808 = ((c : Nat) : Int) := by rw [hc]; exact sign_xor b 9223372036854775808 63 (by decide) (by decide) hb
  have hcb : c < 2 * 9223372036854775808 ∧ c % 9223372036854775808 = b % 9223372036854775808 := by rw [hc]; unfold xsS; split <;> omega
  have hv2 : VF 9223372036854775808 4503599627370496 (-1074) c (-z) e := by rw [hc]; exact (xs_neg hb hv).1
  have hn : decide (9223372036854775808 ≤ c) = !decide (9223372036854775808 ≤ b) := by rw [hc]; exact xs_dec hb
  have E1 : Hid (∀ w, Tab w → Calls Tryz.prog 23 #[.int .i64 64, .int .i64 6, U b] w fun en w' => en = .returned (.tuple #[U 0, .bool false, .int .i64 0]) ∧ Below w.heap.size w w') := by
    intro w hT
    have h := exact_f6 jt_64 hb hr hv w hT
    rw [hok, show exW 6 9223372036854775808 9218868437227405312 4607182418800017408 (decide (9223372036854775808 ≤ b)) z e = 0 from by unfold exW; rw [hok]; rfl] at h
    exact h
  have E2 : Hid (∀ w, Tab w → Calls Tryz.prog 23 #[.int .i64 64, .int .i64 6, U c] w fun en w' => en = .returned (.tuple #[U 0, .bool false, .int .i64 0]) ∧ Below w.heap.size w w') := by
    intro w hT
    have h := exact_f6 jt_64 hcb.1 (by rw [hcb.2]; exact hr) hv2 w hT
    rw [hok, show exW 6 9223372036854775808 9218868437227405312 4607182418800017408 (decide (9223372036854775808 ≤ c)) (-z) e = 0 from by unfold exW; rw [hok]; rfl] at h
    exact h
  clear hc hcb hb hr hv hv2 hn hok
  go_enter Tryz.func5, Tryz.ntmps5
  go_wp2_with fail
  refine (awake17 _ (TB.out.below hbw)).mono ?_
  rintro e v1 ⟨rfl, hb1⟩
  replace hbw := Below.on hbw hb1
  clear hb1
  go_wp2_with fail
  refine (E1.out _ (TB.out.below hbw)).mono ?_
  rintro e v2 ⟨rfl, hb2⟩
  replace hbw := Below.on hbw hb2
  clear hb2
  go_wp2_with fail
  refine (E2.out _ (TB.out.below hbw)).mono ?_
  rintro e v3 ⟨rfl, hb3⟩
  replace hbw := Below.on hbw hb3
  clear hb3
  go_wp2_with fail
  refine (quiet_64 _).mono ?_
  rintro e v4 ⟨rfl, hb4⟩
  replace hbw := Below.on hbw hb4
  clear hb4
  go_wp2_with fail
  go_ret
  exact ⟨rfl, hbw⟩
set_option maxRecDepth 20000 in
set_option maxHeartbeats 8000000 in
theorem mir_64_6y (b : Nat) (hb : b < 2 * 9223372036854775808) (hr : b % 9223372036854775808 < 9218868437227405312) {z e : Int} (hv : VF 9223372036854775808 4503599627370496 (-1074) b z e) (hok : exOk 6 e = true) (w : World) (hT : Tab w) :
    Calls Tryz.prog 5 #[.int .i64 6, U b, .bool false] w fun en w' => en = .returned (.bool true) ∧ Below w.heap.size w w' := by
  have hbw : Below w.heap.size w w := Below.refl _ _
  have TB : Hid (Tab w) := hT
  clear hT
  obtain ⟨c, hc⟩ : ∃ c, c = xsS 9223372036854775808 b := ⟨_, rfl⟩
  have hx : bits BinOp.xor IntKind.u64 (b : Int) 9223372036854775808 = ((c : Nat) : Int) := by rw [hc]; exact sign_xor b 9223372036854775808 63 (by decide) (by decide) hb
  have hcb : c < 2 * 9223372036854775808 ∧ c % 9223372036854775808 = b % 9223372036854775808 := by rw [hc]; unfold xsS; split <;> omega
  have hv2 : VF 9223372036854775808 4503599627370496 (-1074) c (-z) e := by rw [hc]; exact (xs_neg hb hv).1
  have hn : decide (9223372036854775808 ≤ c) = !decide (9223372036854775808 ≤ b) := by rw [hc]; exact xs_dec hb
  obtain ⟨R, hR⟩ : ∃ R, R = exW 6 9223372036854775808 9218868437227405312 4607182418800017408 (decide (9223372036854775808 ≤ b)) z e := ⟨_, rfl⟩
  obtain ⟨T9, hT9⟩ : ∃ T9, T9 = exW 6 9223372036854775808 9218868437227405312 4607182418800017408 (decide (9223372036854775808 ≤ c)) (-z) e := ⟨_, rfl⟩
  have E1 : Hid (∀ w, Tab w → Calls Tryz.prog 23 #[.int .i64 64, .int .i64 6, U b] w fun en w' => en = .returned (.tuple #[U R, .bool true, .int .i64 0]) ∧ Below w.heap.size w w') := by
    intro w hT
    have h := exact_f6 jt_64 hb hr hv w hT
    rw [hok, ← hR] at h
    exact h
  have E2 : Hid (∀ w, Tab w → Calls Tryz.prog 23 #[.int .i64 64, .int .i64 6, U c] w fun en w' => en = .returned (.tuple #[U T9, .bool true, .int .i64 0]) ∧ Below w.heap.size w w') := by
    intro w hT
    have h := exact_f6 jt_64 hcb.1 (by rw [hcb.2]; exact hr) hv2 w hT
    rw [hok, ← hT9] at h
    exact h
  have hRQ : ((R : Int) == 9221120237041090561) = false := by
    have := exW_sz (z := z) (neg := decide (9223372036854775808 ≤ b)) 9221120237041090561 (show 9218868437227405312 < 9223372036854775808 by decide) (show 4607182418800017408 < 9223372036854775808 by decide) hok (by decide) (by decide) (by decide)
    rw [← hR] at this
    simp; omega
  have hm9 := mirW (fn := 6) (neg := decide (9223372036854775808 ≤ b)) (S := 9223372036854775808) (I := 9218868437227405312) (O := 4607182418800017408) (by decide) hv.fm hok (by decide) (by decide)
  rw [← hn, ← hR, ← hT9] at hm9
  have hxr : bits BinOp.xor IntKind.u64 (T9 : Int) 9223372036854775808 = ((R : Nat) : Int) := by rw [hm9.1]; exact sign_xor T9 9223372036854775808 63 (by decide) (by decide) hm9.2
  have E3 : Hid (∀ w, Tab w → Calls Tryz.prog 25 #[.int .i64 64, .int .i64 6, U b, U R] w fun en w' => en = .returned (.bool true) ∧ Below w.heap.size w w') := by
    intro w hT
    exact widened_d 6 b R w
  clear hc hcb hb hr hv hv2 hn hok hR hT9 hm9
  go_enter Tryz.func5, Tryz.ntmps5
  go_wp2_with fail
  refine (awake17 _ (TB.out.below hbw)).mono ?_
  rintro e v1 ⟨rfl, hb1⟩
  replace hbw := Below.on hbw hb1
  clear hb1
  go_wp2_with fail
  refine (E1.out _ (TB.out.below hbw)).mono ?_
  rintro e v2 ⟨rfl, hb2⟩
  replace hbw := Below.on hbw hb2
  clear hb2
  go_wp2_with fail
  refine (E2.out _ (TB.out.below hbw)).mono ?_
  rintro e v3 ⟨rfl, hb3⟩
  replace hbw := Below.on hbw hb3
  clear hb3
  go_wp2_with fail
  refine (quiet_64 _).mono ?_
  rintro e v4 ⟨rfl, hb4⟩
  replace hbw := Below.on hbw hb4
  clear hb4
  go_wp2_with fail
  refine (E3.out _ (TB.out.below hbw)).mono ?_
  rintro e v5 ⟨rfl, hb5⟩
  replace hbw := Below.on hbw hb5
  clear hb5
  go_wp2_with fail
  go_ret
  exact ⟨rfl, hbw⟩
theorem mir_64 (fn : Int) (b : Nat) (hb : b < 2 * 9223372036854775808) (w : World) (hT : Tab w) : Calls Tryz.prog 5 #[.int .i64 fn, U b, .bool false] w fun en w' => en = .returned (.bool true) ∧ Below w.heap.size w w' := by
  by_cases h : fn < 4 ∨ 6 < fn
  · by_cases h4 : fn < 4
    · exact mir_xlo64 fn (decide_eq_true h4) h b w hT
    · exact mir_xhi64 fn (decide_eq_false h4) (decide_eq_true (by omega)) h b w hT
  · by_cases hr : b % 9223372036854775808 < 9218868437227405312
    · obtain ⟨z, e, hv, _⟩ := vf_ex pm_64 hr
      obtain rfl | rfl | rfl : fn = 4 ∨ fn = 5 ∨ fn = 6 := by omega
      · cases hok : exOk 4 e
        · exact mir_64_4n b hb hr hv hok w hT
        · exact mir_64_4y b hb hr hv hok w hT
      · cases hok : exOk 5 e
        · exact mir_64_5n b hb hr hv hok w hT
        · exact mir_64_5y b hb hr hv hok w hT
      · cases hok : exOk 6 e
        · exact mir_64_6n b hb hr hv hok w hT
        · exact mir_64_6y b hb hr hv hok w hT
    · obtain rfl | rfl | rfl : fn = 4 ∨ fn = 5 ∨ fn = 6 := by omega
      · exact mir_64_4c b hb (by omega) w hT
      · exact mir_64_5c b hb (by omega) w hT
      · exact mir_64_6c b hb (by omega) w hT
set_option maxRecDepth 20000 in
set_option maxHeartbeats 8000000 in
theorem mir_xlo32 (fn : Int) (d1 : decide (fn < 4) = true) (h : fn < 4 ∨ 6 < fn) (b0 b : Nat) (hm : b = b0 % 4294967296) (w : World) (hT : Tab w) :
    Calls Tryz.prog 5 #[.int .i64 fn, U b0, .bool true] w fun en w' => en = .returned (.bool true) ∧ Below w.heap.size w w' := by
  have hbw : Below w.heap.size w w := Below.refl _ _
  have TB : Hid (Tab w) := hT
  clear hT
  have HF : Hid (fn < 4 ∨ 6 < fn) := h
  clear h
  have m1 : (b0 : Int) % 4294967296 = (b : Int) := by omega
  have m2 : (b0 : Int).tmod 4294967296 = (b : Int) := by rw [Int.tmod_eq_emod_of_nonneg (by omega)]; omega
  clear hm
  go_enter Tryz.func5, Tryz.ntmps5
  go_wp2_with fail
  refine (awake17 _ (TB.out.below hbw)).mono ?_
  rintro e v1 ⟨rfl, hb1⟩
  replace hbw := Below.on hbw hb1
  clear hb1
  go_wp2_with fail
  refine (exact_x 32 fn HF.out b _).mono ?_
  rintro e v2 ⟨rfl, hb2⟩
  replace hbw := Below.on hbw hb2
  clear hb2
  go_wp2_with fail
  go_ret
  exact ⟨rfl, hbw⟩
set_option maxRecDepth 20000 in
set_option maxHeartbeats 8000000 in
theorem mir_xhi32 (fn : Int) (d1 : decide (fn < 4) = false) (d2 : decide (6 < fn) = true) (h : fn < 4 ∨ 6 < fn) (b0 b : Nat) (hm : b = b0 % 4294967296) (w : World) (hT : Tab w) :
    Calls Tryz.prog 5 #[.int .i64 fn, U b0, .bool true] w fun en w' => en = .returned (.bool true) ∧ Below w.heap.size w w' := by
  have hbw : Below w.heap.size w w := Below.refl _ _
  have TB : Hid (Tab w) := hT
  clear hT
  have HF : Hid (fn < 4 ∨ 6 < fn) := h
  clear h
  have m1 : (b0 : Int) % 4294967296 = (b : Int) := by omega
  have m2 : (b0 : Int).tmod 4294967296 = (b : Int) := by rw [Int.tmod_eq_emod_of_nonneg (by omega)]; omega
  clear hm
  go_enter Tryz.func5, Tryz.ntmps5
  go_wp2_with fail
  refine (awake17 _ (TB.out.below hbw)).mono ?_
  rintro e v1 ⟨rfl, hb1⟩
  replace hbw := Below.on hbw hb1
  clear hb1
  go_wp2_with fail
  refine (exact_x 32 fn HF.out b _).mono ?_
  rintro e v2 ⟨rfl, hb2⟩
  replace hbw := Below.on hbw hb2
  clear hb2
  go_wp2_with fail
  go_ret
  exact ⟨rfl, hbw⟩
set_option maxRecDepth 20000 in
set_option maxHeartbeats 8000000 in
theorem mir_32_4c (b0 b : Nat) (hm : b = b0 % 4294967296) (hb : b < 2 * 2147483648) (hr : 2139095040 ≤ b % 2147483648) (w : World) (hT : Tab w) :
    Calls Tryz.prog 5 #[.int .i64 4, U b0, .bool true] w fun en w' => en = .returned (.bool true) ∧ Below w.heap.size w w' := by
  have hbw : Below w.heap.size w w := Below.refl _ _
  have TB : Hid (Tab w) := hT
  clear hT
  have m1 : (b0 : Int) % 4294967296 = (b : Int) := by omega
  have m2 : (b0 : Int).tmod 4294967296 = (b : Int) := by rw [Int.tmod_eq_emod_of_nonneg (by omega)]; omega
  clear hm
  obtain ⟨c, hc⟩ : ∃ c, c = xsS 2147483648 b := ⟨_, rfl⟩
  have hx : bits BinOp.xor IntKind.u64 (b : Int) 2147483648 = ((c : Nat) : Int) := by rw [hc]; exact sign_xor b 2147483648 31 (by decide) (by decide) hb
  have hcb : c < 2 * 2147483648 ∧ c % 2147483648 = b % 2147483648 := by rw [hc]; unfold xsS; split <;> omega
  have E1 : Hid (∀ w, Tab w → Calls Tryz.prog 23 #[.int .i64 32, .int .i64 4, U b] w fun en w' => en = .returned (.tuple #[U 2143289345, .bool true, .int .i64 0]) ∧ Below w.heap.size w w') := fun w _ => exact_c4 jt_32 hb hr w
  have E2 : Hid (∀ w, Tab w → Calls Tryz.prog 23 #[.int .i64 32, .int .i64 4, U c] w fun en w' => en = .returned (.tuple #[U 2143289345, .bool true, .int .i64 0]) ∧ Below w.heap.size w w') := fun w _ => exact_c4 jt_32 hcb.1 (by rw [hcb.2]; exact hr) w
  clear hc hcb hb hr
  go_enter Tryz.func5, Tryz.ntmps5
  go_wp2_with fail
  refine (awake17 _ (TB.out.below hbw)).mono ?_
  rintro e v1 ⟨rfl, hb1⟩
  replace hbw := Below.on hbw hb1
  clear hb1
  go_wp2_with fail
  refine (E1.out _ (TB.out.below hbw)).mono ?_
  rintro e v2 ⟨rfl, hb2⟩
  replace hbw := Below.on hbw hb2
  clear hb2
  go_wp2_with fail
  refine (E2.out _ (TB.out.below hbw)).mono ?_
  rintro e v3 ⟨rfl, hb3⟩
  replace hbw := Below.on hbw hb3
  clear hb3
  go_wp2_with fail
  refine (quiet_32 _).mono ?_
  rintro e v4 ⟨rfl, hb4⟩
  replace hbw := Below.on hbw hb4
  clear hb4
  go_wp2_with fail
  go_ret
  exact ⟨rfl, hbw⟩
set_option maxRecDepth 20000 in
set_option maxHeartbeats 8000000 in
theorem mir_32_4n (b0 b : Nat) (hm : b = b0 % 4294967296) (hb : b < 2 * 2147483648) (hr : b % 2147483648 < 2139095040) {z e : Int} (hv : VF 2147483648 8388608 (-149) b z e) (hok : exOk 4 e = false) (w : World) (hT : Tab w) :
    Calls Tryz.prog 5 #[.int .i64 4, U b0, .bool true] w fun en w' => en = .returned (.bool true) ∧ Below w.heap.size w w' := by
  have hbw : Below w.heap.size w w := Below.refl _ _
  have TB : Hid (Tab w) := hT
  clear hT
  have m1 : (b0 : Int) % 4294967296 = (b : Int) := by omega
  have m2 : (b0 : Int).tmod 4294967296 = (b : Int) := by rw [Int.tmod_eq_emod_of_nonneg (by omega)]; omega
  clear hm
  obtain ⟨c, hc⟩ : ∃ c, c = xsS 2147483648 b := ⟨_, rfl⟩
  have hx : bits BinOp.xor IntKind.u64 (b : Int) 2147483648 = ((c : Nat) : Int) := by rw [hc]; exact sign_xor b 2147483648 31 (by decide) (by decide) hb
  have hcb : c < 2 * 2147483648 ∧ c % 2147483648 = b % 2147483648 := by rw [hc]; unfold xsS; split <;> omega
  have hv2 : VF 2147483648 8388608 (-149) c (-z) e := by rw [hc]; exact (xs_neg hb hv).1
  have hn : decide (2147483648 ≤ c) = !decide (2147483648 ≤ b) := by rw [hc]; exact xs_dec hb
  have E1 : Hid (∀ w, Tab w → Calls Tryz.prog 23 #[.int .i64 32, .int .i64 4, U b] w fun en w' => en = .returned (.tuple #[U 0, .bool false, .int .i64 0]) ∧ Below w.heap.size w w') := by
    intro w hT
    have h := exact_f4 jt_32 hb hr hv w hT
    rw [hok, show exW 4 2147483648 2139095040 1065353216 (decide (2147483648 ≤ b)) z e = 0 from by unfold exW; rw [hok]; rfl] at h
    exact h
  have E2 : Hid (∀ w, Tab w → Calls Tryz.prog 23 #[.int .i64 32, .int .i64 4, U c] w fun en w' => en = .returned (.tuple #[U 0, .bool false, .int .i64 0]) ∧ Below w.heap.size w w') := by
    intro w hT
    have h := exact_f4 jt_32 hcb.1 (by rw [hcb.2]; exact hr) hv2 w hT
    rw [hok, show exW 4 2147483648 2139095040 1065353216 (decide (2147483648 ≤ c)) (-z) e = 0 from by unfold exW; rw [hok]; rfl] at h
    exact h
  clear hc hcb hb hr hv hv2 hn hok
  go_enter Tryz.func5, Tryz.ntmps5
  go_wp2_with fail
  refine (awake17 _ (TB.out.below hbw)).mono ?_
  rintro e v1 ⟨rfl, hb1⟩
  replace hbw := Below.on hbw hb1
  clear hb1
  go_wp2_with fail
  refine (E1.out _ (TB.out.below hbw)).mono ?_
  rintro e v2 ⟨rfl, hb2⟩
  replace hbw := Below.on hbw hb2
  clear hb2
  go_wp2_with fail
  refine (E2.out _ (TB.out.below hbw)).mono ?_
  rintro e v3 ⟨rfl, hb3⟩
  replace hbw := Below.on hbw hb3
  clear hb3
  go_wp2_with fail
  refine (quiet_32 _).mono ?_
  rintro e v4 ⟨rfl, hb4⟩
  replace hbw := Below.on hbw hb4
  clear hb4
  go_wp2_with fail
  go_ret
  exact ⟨rfl, hbw⟩
set_option maxRecDepth 20000 in
set_option maxHeartbeats 8000000 in
theorem mir_32_4y (b0 b : Nat) (hm : b = b0 % 4294967296) (hb : b < 2 * 2147483648) (hr : b % 2147483648 < 2139095040) {z e : Int} (hv : VF 2147483648 8388608 (-149) b z e) (hok : exOk 4 e = true) (w : World) (hT : Tab w) :
    Calls Tryz.prog 5 #[.int .i64 4, U b0, .bool true] w fun en w' => en = .returned (.bool true) ∧ Below w.heap.size w w' := by
  have hbw : Below w.heap.size w w := Below.refl _ _
  have TB : Hid (Tab w) := hT
  clear hT
  have m1 : (b0 : Int) % 4294967296 = (b : Int) := by omega
  have m2 : (b0 : Int).tmod 4294967296 = (b : Int) := by rw [Int.tmod_eq_emod_of_nonneg (by omega)]; omega
  clear hm
  obtain ⟨c, hc⟩ : ∃ c, c = xsS 2147483648 b := ⟨_, rfl⟩
  have hx : bits BinOp.xor IntKind.u64 (b : Int) 2147483648 = ((c : Nat) : Int) := by rw [hc]; exact sign_xor b 2147483648 31 (by decide) (by decide) hb
  have hcb : c < 2 * 2147483648 ∧ c % 2147483648 = b % 2147483648 := by rw [hc]; unfold xsS; split <;> omega
  have hv2 : VF 2147483648 8388608 (-149) c (-z) e := by rw [hc]; exact (xs_neg hb hv).1
  have hn : decide (2147483648 ≤ c) = !decide (2147483648 ≤ b) := by rw [hc]; exact xs_dec hb
  obtain ⟨R, hR⟩ : ∃ R, R = exW 4 2147483648 2139095040 1065353216 (decide (2147483648 ≤ b)) z e := ⟨_, rfl⟩
  obtain ⟨T9, hT9⟩ : ∃ T9, T9 = exW 4 2147483648 2139095040 1065353216 (decide (2147483648 ≤ c)) (-z) e := ⟨_, rfl⟩
  have E1 : Hid (∀ w, Tab w → Calls Tryz.prog 23 #[.int .i64 32, .int .i64 4, U b] w fun en w' => en = .returned (.tuple #[U R, .bool true, .int .i64 0]) ∧ Below w.heap.size w w') := by
    intro w hT
    have h := exact_f4 jt_32 hb hr hv w hT
    rw [hok, ← hR] at h
    exact h
  have E2 : Hid (∀ w, Tab w → Calls Tryz.prog 23 #[.int .i64 32, .int .i64 4, U c] w fun en w' => en = .returned (.tuple #[U T9, .bool true, .int .i64 0]) ∧ Below w.heap.size w w') := by
    intro w hT
    have h := exact_f4 jt_32 hcb.1 (by rw [hcb.2]; exact hr) hv2 w hT
    rw [hok, ← hT9] at h
    exact h
  have hRQ : ((R : Int) == 2143289345) = false := by
    have := exW_sz (z := z) (neg := decide (2147483648 ≤ b)) 2143289345 (show 2139095040 < 2147483648 by decide) (show 1065353216 < 2147483648 by decide) hok (by decide) (by decide) (by decide)
    rw [← hR] at this
    simp; omega
  have hm9 := mirW (fn := 4) (neg := decide (2147483648 ≤ b)) (S := 2147483648) (I := 2139095040) (O := 1065353216) (by decide) hv.fm hok (by decide) (by decide)
  rw [← hn, ← hR, ← hT9] at hm9
  have hxr : bits BinOp.xor IntKind.u64 (T9 : Int) 2147483648 = ((R : Nat) : Int) := by rw [hm9.1]; exact sign_xor T9 2147483648 31 (by decide) (by decide) hm9.2
  have E3 : Hid (∀ w, Tab w → Calls Tryz.prog 25 #[.int .i64 32, .int .i64 4, U b, U R] w fun en w' => en = .returned (.bool true) ∧ Below w.heap.size w w') := by
    intro w hT
    rw [hR]; exact widened_4 b hb hr hv hok w hT
  clear hc hcb hb hr hv hv2 hn hok hR hT9 hm9
  go_enter Tryz.func5, Tryz.ntmps5
  go_wp2_with fail
  refine (awake17 _ (TB.out.below hbw)).mono ?_
  rintro e v1 ⟨rfl, hb1⟩
  replace hbw := Below.on hbw hb1
  clear hb1
  go_wp2_with fail
  refine (E1.out _ (TB.out.below hbw)).mono ?_
  rintro e v2 ⟨rfl, hb2⟩
  replace hbw := Below.on hbw hb2
  clear hb2
  go_wp2_with fail
  refine (E2.out _ (TB.out.below hbw)).mono ?_
  rintro e v3 ⟨rfl, hb3⟩
  replace hbw := Below.on hbw hb3
  clear hb3
  go_wp2_with fail
  refine (quiet_32 _).mono ?_
  rintro e v4 ⟨rfl, hb4⟩
  replace hbw := Below.on hbw hb4
  clear hb4
  go_wp2_with fail
  refine (E3.out _ (TB.out.below hbw)).mono ?_
  rintro e v5 ⟨rfl, hb5⟩
  replace hbw := Below.on hbw hb5
  clear hb5
  go_wp2_with fail
  go_ret
  exact ⟨rfl, hbw⟩
set_option maxRecDepth 20000 in
set_option maxHeartbeats 8000000 in
theorem mir_32_5c (b0 b : Nat) (hm : b = b0 % 4294967296) (hb : b < 2 * 2147483648) (hr : 2139095040 ≤ b % 2147483648) (w : World) (hT : Tab w) :
    Calls Tryz.prog 5 #[.int .i64 5, U b0, .bool true] w fun en w' => en = .returned (.bool true) ∧ Below w.heap.size w w' := by
  have hbw : Below w.heap.size w w := Below.refl _ _
  have TB : Hid (Tab w) := hT
  clear hT
  have m1 : (b0 : Int) % 4294967296 = (b : Int) := by omega
  have m2 : (b0 : Int).tmod 4294967296 = (b : Int) := by rw [Int.tmod_eq_emod_of_nonneg (by omega)]; omega
  clear hm
  obtain ⟨c, hc⟩ : ∃ c, c = xsS 2147483648 b := ⟨_, rfl⟩
  have hx : bits BinOp.xor IntKind.u64 (b : Int) 2147483648 = ((c : Nat) : Int) := by rw [hc]; exact sign_xor b 2147483648 31 (by decide) (by decide) hb
  have hcb : c < 2 * 2147483648 ∧ c % 2147483648 = b % 2147483648 := by rw [hc]; unfold xsS; split <;> omega
  have E1 : Hid (∀ w, Tab w → Calls Tryz.prog 23 #[.int .i64 32, .int .i64 5, U b] w fun en w' => en = .returned (.tuple #[U 2143289345, .bool true, .int .i64 0]) ∧ Below w.heap.size w w') := fun w _ => exact_c5 jt_32 hb hr w
  have E2 : Hid (∀ w, Tab w → Calls Tryz.prog 23 #[.int .i64 32, .int .i64 5, U c] w fun en w' => en = .returned (.tuple #[U 2143289345, .bool true, .int .i64 0]) ∧ Below w.heap.size w w') := fun w _ => exact_c5 jt_32 hcb.1 (by rw [hcb.2]; exact hr) w
  clear hc hcb hb hr
  go_enter Tryz.func5, Tryz.ntmps5
  go_wp2_with fail
  refine (awake17 _ (TB.out.below hbw)).mono ?_
  rintro e v1 ⟨rfl, hb1⟩
  replace hbw := Below.on hbw hb1
  clear hb1
  go_wp2_with fail
  refine (E1.out _ (TB.out.below hbw)).mono ?_
  rintro e v2 ⟨rfl, hb2⟩
  replace hbw := Below.on hbw hb2
  clear hb2
  go_wp2_with fail
  refine (E2.out _ (TB.out.below hbw)).mono ?_
  rintro e v3 ⟨rfl, hb3⟩
  replace hbw := Below.on hbw hb3
  clear hb3
  go_wp2_with fail
  refine (quiet_32 _).mono ?_
  rintro e v4 ⟨rfl, hb4⟩
  replace hbw := Below.on hbw hb4
  clear hb4
  go_wp2_with fail
  go_ret
  exact ⟨rfl, hbw⟩
set_option maxRecDepth 20000 in
set_option maxHeartbeats 8000000 in
theorem mir_32_5n (b0 b : Nat) (hm : b = b0 % 4294967296) (hb : b < 2 * 2147483648) (hr : b % 2147483648 < 2139095040) {z e : Int} (hv : VF 2147483648 8388608 (-149) b z e) (hok : exOk 5 e = false) (w : World) (hT : Tab w) :
    Calls Tryz.prog 5 #[.int .i64 5, U b0, .bool true] w fun en w' => en = .returned (.bool true) ∧ Below w.heap.size w w' := by
  have hbw : Below w.heap.size w w := Below.refl _ _
  have TB : Hid (Tab w) := hT
  clear hT
  have m1 : (b0 : Int) % 4294967296 = (b : Int) := by omega
  have m2 : (b0 : Int).tmod 4294967296 = (b : Int) := by rw [Int.tmod_eq_emod_of_nonneg (by omega)]; omega
  clear hm
  obtain ⟨c, hc⟩ : ∃ c, c = xsS 2147483648 b := ⟨_, rfl⟩
  have hx : bits BinOp.xor IntKind.u64 (b : Int) 2147483648 = ((c : Nat) : Int) := by rw [hc]; exact sign_xor b 2147483648 31 (by decide) (by decide) hb
  have hcb : c < 2 * 2147483648 ∧ c % 2147483648 = b % 2147483648 := by rw [hc]; unfold xsS; split <;> omega
  have hv2 : VF 2147483648 8388608 (-149) c (-z) e := by rw [hc]; exact (xs_neg hb hv).1
  have hn : decide (2147483648 ≤ c) = !decide (2147483648 ≤ b) := by rw [hc]; exact xs_dec hb
  have E1 : Hid (∀ w, Tab w → Calls Tryz.prog 23 #[.int .i64 32, .int .i64 5, U b] w fun en w' => en = .returned (.tuple #[U 0, .bool false, .int .i64 0]) ∧ Below w.heap.size w w') := by
    intro w hT
    have h := exact_f5 jt_32 hb hr hv w hT
    rw [hok, show exW 5 2147483648 2139095040 1065353216 (decide (2147483648 ≤ b)) z e = 0 from by unfold exW; rw [hok]; rfl] at h
    exact h
  have E2 : Hid (∀ w, Tab w → Calls Tryz.prog 23 #[.int .i64 32, .int .i64 5, U c] w fun en w' => en = .returned (.tuple #[U 0, .bool false, .int .i64 0]) ∧ Below w.heap.size w w') := by
    intro w hT
    have h := exact_f5 jt_32 hcb.1 (by rw [hcb.2]; exact hr) hv2 w hT
    rw [hok, show exW 5 2147483648 2139095040 1065353216 (decide (2147483648 ≤ c)) (-z) e = 0 from by unfold exW; rw [hok]; rfl] at h
    exact h
  clear hc hcb hb hr hv hv2 hn hok
  go_enter Tryz.func5, Tryz.ntmps5
  go_wp2_with fail
  refine (awake17 _ (TB.out.below hbw)).mono ?_
  rintro e v1 ⟨rfl, hb1⟩
  replace hbw := Below.on hbw hb1
  clear hb1
  go_wp2_with fail
  refine (E1.out _ (TB.out.below hbw)).mono ?_
  rintro e v2 ⟨rfl, hb2⟩
  replace hbw := Below.on hbw hb2
  clear hb2
  go_wp2_with fail
  refine (E2.out _ (TB.out.below hbw)).mono ?_
  rintro e v3 ⟨rfl, hb3⟩
  replace hbw := Below.on hbw hb3
  clear hb3
  go_wp2_with fail
  refine (quiet_32 _).mono ?_
  rintro e v4 ⟨rfl, hb4⟩
  replace hbw := Below.on hbw hb4
  clear hb4
  go_wp2_with fail
  go_ret
  exact ⟨rfl, hbw⟩
set_option maxRecDepth 20000 in
set_option maxHeartbeats 8000000 in
theorem mir_32_5y (b0 b : Nat) (hm : b = b0 % 4294967296) (hb : b < 2 * 2147483648) (hr : b % 2147483648 < 2139095040) {z e : Int} (hv : VF 2147483648 8388608 (-149) b z e) (hok : exOk 5 e = true) (w : World) (hT : Tab w) :
    Calls Tryz.prog 5 #[.int .i64 5, U b0, .bool true] w fun en w' => en = .returned (.bool true) ∧ Below w.heap.size w w' := by
  have hbw : Below w.heap.size w w := Below.refl _ _
  have TB : Hid (Tab w) := hT
  clear hT
  have m1 : (b0 : Int) % 4294967296 = (b : Int) := by omega
  have m2 : (b0 : Int).tmod 4294967296 = (b : Int) := by rw [Int.tmod_eq_emod_of_nonneg (by omega)]; omega
  clear hm
  obtain ⟨c, hc⟩ : ∃ c, c = xsS 2147483648 b := ⟨_, rfl⟩
  have hx : bits BinOp.xor IntKind.u64 (b : Int) 2147483648 = ((c : Nat) : Int) := by rw [hc]; exact sign_xor b 2147483648 31 (by decide) (by decide) hb
  have hcb : c < 2 * 2147483648 ∧ c % 2147483648 = b % 2147483648 := by rw [hc]; unfold xsS; split <;> omega
  have hv2 : VF 2147483648 8388608 (-149) c (-z) e := by rw [hc]; exact (xs_neg hb hv).1
  have hn : decide (2147483648 ≤ c) = !decide (2147483648 ≤ b) := by rw [hc]; exact xs_dec hb
  obtain ⟨R, hR⟩ : ∃ R, R = exW 5 2147483648 2139095040 1065353216 (decide (2147483648 ≤ b)) z e := ⟨_, rfl⟩
  obtain ⟨T9, hT9⟩ : ∃ T9, T9 = exW 5 2147483648 2139095040 1065353216 (decide (2147483648 ≤ c)) (-z) e := ⟨_, rfl⟩
  have E1 : Hid (∀ w, Tab w → Calls Tryz.prog 23 #[.int .i64 32, .int .i64 5, U b] w fun en w' => en = .returned (.tuple #[U R, .bool true, .int .i64 0]) ∧ Below w.heap.size w w') := by
    intro w hT
    have h := exact_f5 jt_32 hb hr hv w hT
    rw [hok, ← hR] at h
    exact h
  have E2 : Hid (∀ w, Tab w → Calls Tryz.prog 23 #[.int .i64 32, .int .i64 5, U c] w fun en w' => en = .returned (.tuple #[U T9, .bool true, .int .i64 0]) ∧ Below w.heap.size w w') := by
    intro w hT
    have h := exact_f5 jt_32 hcb.1 (by rw [hcb.2]; exact hr) hv2 w hT
    rw [hok, ← hT9] at h
    exact h
  have hRQ : ((R : Int) == 2143289345) = false := by
    have := exW_sz (z := z) (neg := decide (2147483648 ≤ b)) 2143289345 (show 2139095040 < 2147483648 by decide) (show 1065353216 < 2147483648 by decide) hok (by decide) (by decide) (by decide)
    rw [← hR] at this
    simp; omega
  have hRT : T9 = R := by rw [hT9, hR]; exact mir5 hv.fm hok
  subst hRT
  clear hc hcb hb hr hv hv2 hn hok hR hT9
  go_enter Tryz.func5, Tryz.ntmps5
  go_wp2_with fail
  refine (awake17 _ (TB.out.below hbw)).mono ?_
  rintro e v1 ⟨rfl, hb1⟩
  replace hbw := Below.on hbw hb1
  clear hb1
  go_wp2_with fail
  refine (E1.out _ (TB.out.below hbw)).mono ?_
  rintro e v2 ⟨rfl, hb2⟩
  replace hbw := Below.on hbw hb2
  clear hb2
  go_wp2_with fail
  refine (E2.out _ (TB.out.below hbw)).mono ?_
  rintro e v3 ⟨rfl, hb3⟩
  replace hbw := Below.on hbw hb3
  clear hb3
  go_wp2_with fail
  refine (quiet_32 _).mono ?_
  rintro e v4 ⟨rfl, hb4⟩
  replace hbw := Below.on hbw hb4
  clear hb4
  go_wp2_with fail
  go_ret
  exact ⟨rfl, hbw⟩
set_option maxRecDepth 20000 in
set_option maxHeartbeats 8000000 in
theorem mir_32_6c (b0 b : Nat) (hm : b = b0 % 4294967296) (hb : b < 2 * 2147483648) (hr : 2139095040 ≤ b % 2147483648) (w : World) (hT : Tab w) :
    Calls Tryz.prog 5 #[.int .i64 6, U b0, .bool true] w fun en w' => en = .returned (.bool true) ∧ Below w.heap.size w w' := by
  have hbw : Below w.heap.size w w := Below.refl _ _
  have TB : Hid (Tab w) := hT
  clear hT
  have m1 : (b0 : Int) % 4294967296 = (b : Int) := by omega
  have m2 : (b0 : Int).tmod 4294967296 = (b : Int) := by rw [Int.tmod_eq_emod_of_nonneg (by omega)]; omega
  clear hm
  obtain ⟨c, hc⟩ : ∃ c, c = xsS 2147483648 b := ⟨_, rfl⟩
  have hx : bits BinOp.xor IntKind.u64 (b : Int) 2147483648 = ((c : Nat) : Int) := by rw [hc]; exact sign_xor b 2147483648 31 (by decide) (by decide) hb
  have hcb : c < 2 * 2147483648 ∧ c % 2147483648 = b % 2147483648 := by rw [hc]; unfold xsS; split <;> omega
  have E1 : Hid (∀ w, Tab w → Calls Tryz.prog 23 #[.int .i64 32, .int .i64 6, U b] w fun en w' => en = .returned (.tuple #[U 2143289345, .bool true, .int .i64 0]) ∧ Below w.heap.size w w') := fun w _ => exact_c6 jt_32 hb hr w
  have E2 : Hid (∀ w, Tab w → Calls Tryz.prog 23 #[.int .i64 32, .int .i64 6, U c] w fun en w' => en = .returned (.tuple #[U 2143289345, .bool true, .int .i64 0]) ∧ Below w.heap.size w w') := fun w _ => exact_c6 jt_32 hcb.1 (by rw [hcb.2]; exact hr) w
  clear hc hcb hb hr
  go_enter Tryz.func5, Tryz.ntmps5
  go_wp2_with fail
  refine (awake17 _ (TB.out.below hbw)).mono ?_
  rintro e v1 ⟨rfl, hb1⟩
  replace hbw := Below.on hbw hb1
  clear hb1
  go_wp2_with fail
  refine (E1.out _ (TB.out.below hbw)).mono ?_
  rintro e v2 ⟨rfl, hb2⟩
  replace hbw := Below.on hbw hb2
  clear hb2
  go_wp2_with fail
  refine (E2.out _ (TB.out.below hbw)).mono ?_
  rintro e v3 ⟨rfl, hb3⟩
  replace hbw := Below.on hbw hb3
  clear hb3
  go_wp2_with fail
  refine (quiet_32 _).mono ?_
  rintro e v4 ⟨rfl, hb4⟩
  replace hbw := Below.on hbw hb4
  clear hb4
  go_wp2_with fail
  go_ret
  exact ⟨rfl, hbw⟩
set_option maxRecDepth 20000 in
set_option maxHeartbeats 8000000 in
theorem mir_32_6n (b0 b : Nat) (hm : b = b0 % 4294967296) (hb : b < 2 * 2147483648) (hr : b % 2147483648 < 2139095040) {z e : Int} (hv : VF 2147483648 8388608 (-149) b z e) (hok : exOk 6 e = false) (w : World) (hT : Tab w) :
    Calls Tryz.prog 5 #[.int .i64 6, U b0, .bool true] w fun en w' => en = .returned (.bool true) ∧ Below w.heap.size w w' := by
  have hbw : Below w.heap.size w w := Below.refl _ _
  have TB : Hid (Tab w) := hT
  clear hT
  have m1 : (b0 : Int) % 4294967296 = (b : Int) := by omega
  have m2 : (b0 : Int).tmod 4294967296 = (b : Int) := by rw [Int.tmod_eq_emod_of_nonneg (by omega)]; omega
  clear hm
  obtain ⟨c, hc⟩ : ∃ c, c = xsS 2147483648 b := ⟨_, rfl⟩
  have hx : bits BinOp.xor IntKind.u64 (b : Int) 2147483648 = ((c : Nat) : Int) := by rw [hc]; exact sign_xor b 2147483648 31 (by decide) (by decide) hb
  have hcb : c < 2 * 2147483648 ∧ c % 2147483648 = b % 2147483648 := by rw [hc]; unfold xsS; split <;> omega
  have hv2 : VF 2147483648 8388608 (-149) c (-z) e := by rw [hc]; exact (xs_neg hb hv).1
  have hn : decide (2147483648 ≤ c) = !decide (2147483648 ≤ b) := by rw [hc]; exact xs_dec hb
  have E1 : Hid (∀ w, Tab w → Calls Tryz.prog 23 #[.int .i64 32, .int .i64 6, U b] w fun en w' => en = .returned (.tuple #[U 0, .bool false, .int .i64 0]) ∧ Below w.heap.size w w') := by
    intro w hT
    have h := exact_f6 jt_32 hb hr hv w hT
    rw [hok, show exW 6 2147483648 2139095040 1065353216 (decide (2147483648 ≤ b)) z e = 0 from by unfold exW; rw [hok]; rfl] at h
    exact h
  have E2 : Hid (∀ w, Tab w → Calls Tryz.prog 23 #[.int .i64 32, .int .i64 6, U c] w fun en w' => en = .returned (.tuple #[U 0, .bool false, .int .i64 0]) ∧ Below w.heap.size w w') := by
    intro w hT
    have h := exact_f6 jt_32 hcb.1 (by rw [hcb.2]; exact hr) hv2 w hT
    rw [hok, show exW 6 2147483648 2139095040 1065353216 (decide (2147483648 ≤ c)) (-z) e = 0 from by unfold exW; rw [hok]; rfl] at h
    exact h
  clear hc hcb hb hr hv hv2 hn hok
  go_enter Tryz.func5, Tryz.ntmps5
  go_wp2_with fail
  refine (awake17 _ (TB.out.below hbw)).mono ?_
  rintro e v1 ⟨rfl, hb1⟩
  replace hbw := Below.on hbw hb1
  clear hb1
  go_wp2_with fail
  refine (E1.out _ (TB.out.below hbw)).mono ?_
  rintro e v2 ⟨rfl, hb2⟩
  replace hbw := Below.on hbw hb2
  clear hb2
  go_wp2_with fail
  refine (E2.out _ (TB.out.below hbw)).mono ?_
  rintro e v3 ⟨rfl, hb3⟩
  replace hbw := Below.on hbw hb3
  clear hb3
  go_wp2_with fail
  refine (quiet_32 _).mono ?_
  rintro e v4 ⟨rfl, hb4⟩
  replace hbw := Below.on hbw hb4
  clear hb4
  go_wp2_with fail
  go_ret
  exact ⟨rfl, hbw⟩
set_option maxRecDepth 20000 in
set_option maxHeartbeats 8000000 in
theorem mir_32_6y (b0 b : Nat) (hm : b = b0 % 4294967296) (hb : b < 2 * 2147483648) (hr : b % 2147483648 < 2139095040) {z e : Int} (hv : VF 2147483648 8388608 (-149) b z e) (hok : exOk 6 e = true) (w : World) (hT : Tab w) :
    Calls Tryz.prog 5 #[.int .i64 6, U b0, .bool true] w fun en w' => en = .returned (.bool true) ∧ Below w.heap.size w w' := by
  have hbw : Below w.heap.size w w := Below.refl _ _
  have TB : Hid (Tab w) := hT
  clear hT
  have m1 : (b0 : Int) % 4294967296 = (b : Int) := by omega
  have m2 : (b0 : Int).tmod 4294967296 = (b : Int) := by rw [Int.tmod_eq_emod_of_nonneg (by omega)]; omega
  clear hm
  obtain ⟨c, hc⟩ : ∃ c, c = xsS 2147483648 b := ⟨_, rfl⟩
  have hx : bits BinOp.xor IntKind.u64 (b : Int) 2147483648 = ((c : Nat) : Int) := by rw [hc]; exact sign_xor b 2147483648 31 (by decide) (by decide) hb
  have hcb : c < 2 * 2147483648 ∧ c % 2147483648 = b % 2147483648 := by rw [hc]; unfold xsS; split <;> omega
  have hv2 : VF 2147483648 8388608 (-149) c (-z) e := by rw [hc]; exact (xs_neg hb hv).1
  have hn : decide (2147483648 ≤ c) = !decide (2147483648 ≤ b) := by rw [hc]; exact xs_dec hb
  obtain ⟨R, hR⟩ : ∃ R, R = exW 6 2147483648 2139095040 1065353216 (decide (2147483648 ≤ b)) z e := ⟨_, rfl⟩
  obtain ⟨T9, hT9⟩ : ∃ T9, T9 = exW 6 2147483648 2139095040 1065353216 (decide (2147483648 ≤ c)) (-z) e := ⟨_, rfl⟩
  have E1 : Hid (∀ w, Tab w → Calls Tryz.prog 23 #[.int .i64 32, .int .i64 6, U b] w fun en w' => en = .returned (.tuple #[U R, .bool true, .int .i64 0]) ∧ Below w.heap.size w w') := by
    intro w hT
    have h := exact_f6 jt_32 hb hr hv w hT
    rw [hok, ← hR] at h
    exact h
  have E2 : Hid (∀ w, Tab w → Calls Tryz.prog 23 #[.int .i64 32, .int .i64 6, U c] w fun en w' => en = .returned (.tuple #[U T9, .bool true, .int .i64 0]) ∧ Below w.heap.size w w') := by
    intro w hT
    have h := exact_f6 jt_32 hcb.1 (by rw [hcb.2]; exact hr) hv2 w hT
    rw [hok, ← hT9] at h
    exact h
  have hRQ : ((R : Int) == 2143289345) = false := by
    have := exW_sz (z := z) (neg := decide (2147483648 ≤ b)) 2143289345 (show 2139095040 < 2147483648 by decide) (show 1065353216 < 2147483648 by decide) hok (by decide) (by decide) (by decide)
    rw [← hR] at this
    simp; omega
  have hm9 := mirW (fn := 6) (neg := decide (2147483648 ≤ b)) (S := 2147483648) (I := 2139095040) (O := 1065353216) (by decide) hv.fm hok (by decide) (by decide)
  rw [← hn, ← hR, ← hT9] at hm9
  have hxr : bits BinOp.xor IntKind.u64 (T9 : Int) 2147483648 = ((R : Nat) : Int) := by rw [hm9.1]; exact sign_xor T9 2147483648 31 (by decide) (by decide) hm9.2
  have E3 : Hid (∀ w, Tab w → Calls Tryz.prog 25 #[.int .i64 32, .int .i64 6, U b, U R] w fun en w' => en = .returned (.bool true) ∧ Below w.heap.size w w') := by
    intro w hT
    rw [hR]; exact widened_6 b hb hr hv hok w hT
  clear hc hcb hb hr hv hv2 hn hok hR hT9 hm9
  go_enter Tryz.func5, Tryz.ntmps5
  go_wp2_with fail
  refine (awake17 _ (TB.out.below hbw)).mono ?_
  rintro e v1 ⟨rfl, hb1⟩
  replace hbw := Below.on hbw hb1
  clear hb1
  go_wp2_with fail
  refine (E1.out _ (TB.out.below hbw)).mono ?_
  rintro e v2 ⟨rfl, hb2⟩
  replace hbw := Below.on hbw hb2
  clear hb2
  go_wp2_with fail
  refine (E2.out _ (TB.out.below hbw)).mono ?_
  rintro e v3 ⟨rfl, hb3⟩
  replace hbw := Below.on hbw hb3
  clear hb3
  go_wp2_with fail
  refine (quiet_32 _).mono ?_
  rintro e v4 ⟨rfl, hb4⟩
  replace hbw := Below.on hbw hb4
  clear hb4
  go_wp2_with fail
  refine (E3.out _ (TB.out.below hbw)).mono ?_
  rintro e v5 ⟨rfl, hb5⟩
  replace hbw := Below.on hbw hb5
  clear hb5
  go_wp2_with fail
  go_ret
  exact ⟨rfl, hbw⟩
theorem mir_32 (fn : Int) (b0 b : Nat) (hm : b = b0 % 4294967296) (hb : b < 2 * 2147483648) (w : World) (hT : Tab w) : Calls Tryz.prog 5 #[.int .i64 fn, U b0, .bool true] w fun en w' => en = .returned (.bool true) ∧ Below w.heap.size w w' := by
  by_cases h : fn < 4 ∨ 6 < fn
  · by_cases h4 : fn < 4
    · exact mir_xlo32 fn (decide_eq_true h4) h b0 b hm w hT
    · exact mir_xhi32 fn (decide_eq_false h4) (decide_eq_true (by omega)) h b0 b hm w hT
  · by_cases hr : b % 2147483648 < 2139095040
    · obtain ⟨z, e, hv, _⟩ := vf_ex pm_32 hr
      obtain rfl | rfl | rfl : fn = 4 ∨ fn = 5 ∨ fn = 6 := by omega
      · cases hok : exOk 4 e
        · exact mir_32_4n b0 b hm hb hr hv hok w hT
        · exact mir_32_4y b0 b hm hb hr hv hok w hT
      · cases hok : exOk 5 e
        · exact mir_32_5n b0 b hm hb hr hv hok w hT
        · exact mir_32_5y b0 b hm hb hr hv hok w hT
      · cases hok : exOk 6 e
        · exact mir_32_6n b0 b hm hb hr hv hok w hT
        · exact mir_32_6y b0 b hm hb hr hv hok w hT
    · obtain rfl | rfl | rfl : fn = 4 ∨ fn = 5 ∨ fn = 6 := by omega
      · exact mir_32_4c b0 b hm hb (by omega) w hT
      · exact mir_32_5c b0 b hm hb (by omega) w hT
      · exact mir_32_6c b0 b hm hb (by omega) w hT
theorem turnMirrors_w (fn : Int) (b : Nat) (single : Bool) (hb : b < B64) (w : World) (hT : Tab w) : Calls Tryz.prog 5 #[.int .i64 fn, U b, .bool single] w fun en w' => en = .returned (.bool true) ∧ Below w.heap.size w w' := by
  rw [B64_eq] at hb
  cases single
  · exact mir_64 fn b (by omega) w hT
  · exact mir_32 fn b (b % 4294967296) rfl (by omega) w hT
end Go.Proofs.YtoalblaklcekeaaGreatDoor

