import Derived.Test.YtoalblaklcekeaaGreatDoorJ22
namespace Go.Proofs.YtoalblaklcekeaaGreatDoor
open Go.RowKit Go.Shelf

theorem nv {fn z e : Int} {neg : Bool} (sz : Int) (v : Nat) (he : exOk fn e = true) (hs : exSz fn (exQ z e) (decide (-1 ≤ e)) = sz) (hv : (if sz = 0 then 0 else if sz = 1 then 4607182418800017408 else 9218868437227405312) = v) : exW fn 9223372036854775808 9218868437227405312 4607182418800017408 neg z e % 9223372036854775808 = v ∧ exW fn 9223372036854775808 9218868437227405312 4607182418800017408 neg z e < 2 * 9223372036854775808 := by
  unfold exW exP
  rw [if_pos he, hs, hv]
  have h1 : v < 9223372036854775808 := by rw [← hv]; split; (exact by decide); split <;> decide
  cases exNg fn (exQ z e) (decide (-1 ≤ e)) neg
  · simp; omega
  · simp; omega
theorem exQ_e {z e : Int} (he : 0 ≤ e) : exQ z e % 2 = 0 := by
  unfold exQ
  rw [if_pos he]
  generalize z * ((2 ^ e.toNat : Nat) : Int) = N
  omega
theorem exQ_o {z e : Int} (hf : DFm z e) (he : e = -1) : exQ z e % 2 = 1 := by
  have := (hf.odd (by omega)).1
  unfold exQ
  rw [if_neg (by omega), if_pos he]
  omega
theorem tm_u {R v : Nat} (h : R % 9223372036854775808 = v) : (R : Int).tmod ((9223372036854775808 : Nat) : Int) = (v : Int) ∧ (R : Int) % ((9223372036854775808 : Nat) : Int) = (v : Int) := by
  have h2 : (R : Int) % ((9223372036854775808 : Nat) : Int) = (v : Int) := by omega
  exact ⟨by rw [Int.tmod_eq_emod_of_nonneg (by omega)]; exact h2, h2⟩
set_option maxRecDepth 20000 in
set_option maxHeartbeats 8000000 in
theorem fin17_t (b : Nat) (h : b % 9223372036854775808 < 9218868437227405312) (w : World) :
    Calls Tryz.prog 10 #[U b] w fun en w' => en = .returned (.bool true) ∧ Below w.heap.size w w' := by
  have hbw : Below w.heap.size w w := Below.refl _ _
  obtain ⟨v, hv⟩ : ∃ v, v = b % 9223372036854775808 := ⟨_, rfl⟩
  obtain ⟨h1, h2⟩ := tm_u hv.symm
  rw [show ((9223372036854775808 : Nat) : Int) = 9223372036854775808 from rfl] at h1 h2
  rw [← hv] at h
  have h3 : decide (v < 9218868437227405312) = true := decide_eq_true h
  have h4 : decide ((v : Int) < 9218868437227405312) = true := decide_eq_true (by omega)
  clear hv h
  go_enter Tryz.func10, Tryz.ntmps10
  go_wp2_with fail
  go_ret
  exact ⟨rfl, hbw⟩
set_option maxRecDepth 20000 in
set_option maxHeartbeats 8000000 in
theorem fin17_f (b : Nat) (h : ¬ b % 9223372036854775808 < 9218868437227405312) (w : World) :
    Calls Tryz.prog 10 #[U b] w fun en w' => en = .returned (.bool false) ∧ Below w.heap.size w w' := by
  have hbw : Below w.heap.size w w := Below.refl _ _
  obtain ⟨v, hv⟩ : ∃ v, v = b % 9223372036854775808 := ⟨_, rfl⟩
  obtain ⟨h1, h2⟩ := tm_u hv.symm
  rw [show ((9223372036854775808 : Nat) : Int) = 9223372036854775808 from rfl] at h1 h2
  rw [← hv] at h
  have h3 : decide (v < 9218868437227405312) = false := decide_eq_false h
  have h4 : decide ((v : Int) < 9218868437227405312) = false := decide_eq_false (by omega)
  clear hv h
  go_enter Tryz.func10, Tryz.ntmps10
  go_wp2_with fail
  go_ret
  exact ⟨rfl, hbw⟩
set_option maxRecDepth 20000 in
set_option maxHeartbeats 8000000 in
theorem niven_x (fn : Int) (h : fn < 4 ∨ 6 < fn) (b : Nat) (w : World) (hT : Tab w) :
    Calls Tryz.prog 4 #[.int .i64 fn, U b] w fun en w' => en = .returned (.bool true) ∧ Below w.heap.size w w' := by
  have hbw : Below w.heap.size w w := Below.refl _ _
  have TB : Hid (Tab w) := hT
  have h1 : decide (fn < 4) = true ∨ decide (fn < 4) = false ∧ decide (6 < fn) = true := by
    by_cases h4 : fn < 4
    · left; exact decide_eq_true h4
    · right; exact ⟨decide_eq_false h4, decide_eq_true (by omega)⟩
  have H1 : Hid (decide (fn < 4) = true ∨ decide (fn < 4) = false ∧ decide (6 < fn) = true) := h1
  clear hT h h1
  go_enter Tryz.func4, Tryz.ntmps4
  go_wp2_with fail
  refine (awake17 _ (TB.out.below hbw)).mono ?_
  rintro e v1 ⟨rfl, hb1⟩
  replace hbw := Below.on hbw hb1
  clear hb1
  rcases H1.out with h1 | ⟨h1, h2⟩
  · go_wp2_with fail
    go_ret
    exact ⟨rfl, hbw⟩
  · go_wp2_with fail
    go_ret
    exact ⟨rfl, hbw⟩
set_option maxRecDepth 20000 in
set_option maxHeartbeats 8000000 in
theorem niven_c4 (b : Nat) (h : ¬ b % 9223372036854775808 < 9218868437227405312) (w : World) (hT : Tab w) :
    Calls Tryz.prog 4 #[.int .i64 4, U b] w fun en w' => en = .returned (.bool true) ∧ Below w.heap.size w w' := by
  have hbw : Below w.heap.size w w := Below.refl _ _
  have TB : Hid (Tab w) := hT
  have HF : Hid (¬ b % 9223372036854775808 < 9218868437227405312) := h
  clear hT h
  go_enter Tryz.func4, Tryz.ntmps4
  go_wp2_with fail
  refine (awake17 _ (TB.out.below hbw)).mono ?_
  rintro e v1 ⟨rfl, hb1⟩
  replace hbw := Below.on hbw hb1
  clear hb1
  go_wp2_with fail
  refine (fin17_f b HF.out _).mono ?_
  rintro e v2 ⟨rfl, hb2⟩
  replace hbw := Below.on hbw hb2
  clear hb2
  go_wp2_with fail
  go_ret
  exact ⟨rfl, hbw⟩
set_option maxRecDepth 20000 in
set_option maxHeartbeats 8000000 in
theorem niven_f4 (b : Nat) (hb : b < 2 * 9223372036854775808) (h : b % 9223372036854775808 < 9218868437227405312) (w : World) (hT : Tab w) :
    Calls Tryz.prog 4 #[.int .i64 4, U b] w fun en w' => en = .returned (.bool true) ∧ Below w.heap.size w w' := by
  have hbw : Below w.heap.size w w := Below.refl _ _
  have TB : Hid (Tab w) := hT
  have HF : Hid (b < 2 * 9223372036854775808 ∧ b % 9223372036854775808 < 9218868437227405312) := ⟨hb, h⟩
  obtain ⟨z, e, hv, _⟩ := vf_ex pm_64 h
  have HV : Hid (VF 9223372036854775808 4503599627370496 (-1074) b z e) := hv
  clear hT h hb hv
  go_enter Tryz.func4, Tryz.ntmps4
  go_wp2_with fail
  refine (awake17 _ (TB.out.below hbw)).mono ?_
  rintro e v1 ⟨rfl, hb1⟩
  replace hbw := Below.on hbw hb1
  clear hb1
  go_wp2_with fail
  refine (fin17_t b HF.out.2 _).mono ?_
  rintro e v2 ⟨rfl, hb2⟩
  replace hbw := Below.on hbw hb2
  clear hb2
  go_wp2_with fail
  obtain ⟨R, hR⟩ : ∃ R, R = exW 4 9223372036854775808 9218868437227405312 4607182418800017408 (decide (9223372036854775808 ≤ b)) z e := ⟨_, rfl⟩
  obtain ⟨ok, hok⟩ : ∃ ok, ok = exOk 4 e := ⟨_, rfl⟩
  have HX := exact_f4 jt_64 HF.out.1 HF.out.2 HV.out v2 (TB.out.below hbw)
  rw [← hR, ← hok] at HX
  have HR : Hid (R = exW 4 9223372036854775808 9218868437227405312 4607182418800017408 (decide (9223372036854775808 ≤ b)) z e ∧ ok = exOk 4 e) := ⟨hR, hok⟩
  clear hR hok
  refine HX.mono ?_
  clear HX
  rintro e9 v3 ⟨rfl, hb3⟩
  replace hbw := Below.on hbw hb3
  clear hb3
  go_wp2_with fail
  refine (value_v pm_64 HF.out.1 HF.out.2 HV.out _ (TB.out.below hbw)).mono ?_
  rintro e9 v4 ⟨v, rfl, hv, hb4⟩
  obtain ⟨s4, p4, m4, rfl, hd4⟩ := hv.dn HV.out.fm
  clear hv hd4
  replace hbw := Below.on hbw hb4
  clear hb4
  obtain he | he | he : 0 ≤ e ∨ e = -1 ∨ e < -1 := by omega
  · have hok : ok = true := by rw [HR.out.2]; exact decide_eq_true (by omega)
    have hok2 := HR.out.2
    rw [hok] at hok2
    have hsz : exSz 4 (exQ z e) (decide (-1 ≤ e)) = 0 := by rw [show decide (-1 ≤ e) = true from decide_eq_true (by omega)]; have hp := exQ_e (z := z) he; unfold exSz; simp [hp]
    have hR := nv (neg := decide (9223372036854775808 ≤ b)) 0 0 hok2.symm hsz rfl
    rw [← HR.out.1] at hR
    obtain ⟨t1, t2⟩ := tm_u hR.1
    rw [show ((9223372036854775808 : Nat) : Int) = 9223372036854775808 from rfl, show ((0 : Nat) : Int) = 0 from rfl] at t1 t2
    clear hsz hok2 hR
    subst hok
    have d1 : decide (-1 ≤ e) = true := decide_eq_true (by omega)
    have d2 : (e == -1) = false := by simp; omega
    have d3 : decide (0 ≤ e) = true := decide_eq_true he
    clear he HR HV HF
    go_wp2_with fail
    go_ret
    exact ⟨rfl, Below.on hbw (below1 _ _)⟩
  · have hok : ok = true := by rw [HR.out.2]; exact decide_eq_true (by omega)
    have hok2 := HR.out.2
    rw [hok] at hok2
    have hsz : exSz 4 (exQ z e) (decide (-1 ≤ e)) = 1 := by rw [show decide (-1 ≤ e) = true from decide_eq_true (by omega)]; have hp := exQ_o HV.out.fm he; unfold exSz; simp [hp]
    have hR := nv (neg := decide (9223372036854775808 ≤ b)) 1 4607182418800017408 hok2.symm hsz rfl
    rw [← HR.out.1] at hR
    obtain ⟨t1, t2⟩ := tm_u hR.1
    rw [show ((9223372036854775808 : Nat) : Int) = 9223372036854775808 from rfl, show ((4607182418800017408 : Nat) : Int) = 4607182418800017408 from rfl] at t1 t2
    clear hsz hok2 hR
    subst hok
    have d1 : decide (-1 ≤ e) = true := decide_eq_true (by omega)
    have d2 : (e == -1) = true := by simp; omega
    have d3 : decide (0 ≤ e) = false := decide_eq_false (by omega)
    clear he HR HV HF
    go_wp2_with fail
    go_ret
    exact ⟨rfl, Below.on hbw (below1 _ _)⟩
  · have hok : ok = false := by rw [HR.out.2]; exact decide_eq_false (by omega)
    subst hok
    have hR0 : R = 0 := by rw [HR.out.1]; unfold exW; rw [← HR.out.2]; rfl
    subst hR0
    have d1 : decide (-1 ≤ e) = false := decide_eq_false (by omega)
    have d2 : (e == -1) = false := by simp; omega
    have d3 : decide (0 ≤ e) = false := decide_eq_false (by omega)
    clear he HR HV HF
    go_wp2_with fail
    go_ret
    exact ⟨rfl, Below.on hbw (below1 _ _)⟩
set_option maxRecDepth 20000 in
set_option maxHeartbeats 8000000 in
theorem niven_c5 (b : Nat) (h : ¬ b % 9223372036854775808 < 9218868437227405312) (w : World) (hT : Tab w) :
    Calls Tryz.prog 4 #[.int .i64 5, U b] w fun en w' => en = .returned (.bool true) ∧ Below w.heap.size w w' := by
  have hbw : Below w.heap.size w w := Below.refl _ _
  have TB : Hid (Tab w) := hT
  have HF : Hid (¬ b % 9223372036854775808 < 9218868437227405312) := h
  clear hT h
  go_enter Tryz.func4, Tryz.ntmps4
  go_wp2_with fail
  refine (awake17 _ (TB.out.below hbw)).mono ?_
  rintro e v1 ⟨rfl, hb1⟩
  replace hbw := Below.on hbw hb1
  clear hb1
  go_wp2_with fail
  refine (fin17_f b HF.out _).mono ?_
  rintro e v2 ⟨rfl, hb2⟩
  replace hbw := Below.on hbw hb2
  clear hb2
  go_wp2_with fail
  go_ret
  exact ⟨rfl, hbw⟩
set_option maxRecDepth 20000 in
set_option maxHeartbeats 8000000 in
theorem niven_f5 (b : Nat) (hb : b < 2 * 9223372036854775808) (h : b % 9223372036854775808 < 9218868437227405312) (w : World) (hT : Tab w) :
    Calls Tryz.prog 4 #[.int .i64 5, U b] w fun en w' => en = .returned (.bool true) ∧ Below w.heap.size w w' := by
  have hbw : Below w.heap.size w w := Below.refl _ _
  have TB : Hid (Tab w) := hT
  have HF : Hid (b < 2 * 9223372036854775808 ∧ b % 9223372036854775808 < 9218868437227405312) := ⟨hb, h⟩
  obtain ⟨z, e, hv, _⟩ := vf_ex pm_64 h
  have HV : Hid (VF 9223372036854775808 4503599627370496 (-1074) b z e) := hv
  clear hT h hb hv
  go_enter Tryz.func4, Tryz.ntmps4
  go_wp2_with fail
  refine (awake17 _ (TB.out.below hbw)).mono ?_
  rintro e v1 ⟨rfl, hb1⟩
  replace hbw := Below.on hbw hb1
  clear hb1
  go_wp2_with fail
  refine (fin17_t b HF.out.2 _).mono ?_
  rintro e v2 ⟨rfl, hb2⟩
  replace hbw := Below.on hbw hb2
  clear hb2
  go_wp2_with fail
  obtain ⟨R, hR⟩ : ∃ R, R = exW 5 9223372036854775808 9218868437227405312 4607182418800017408 (decide (9223372036854775808 ≤ b)) z e := ⟨_, rfl⟩
  obtain ⟨ok, hok⟩ : ∃ ok, ok = exOk 5 e := ⟨_, rfl⟩
  have HX := exact_f5 jt_64 HF.out.1 HF.out.2 HV.out v2 (TB.out.below hbw)
  rw [← hR, ← hok] at HX
  have HR : Hid (R = exW 5 9223372036854775808 9218868437227405312 4607182418800017408 (decide (9223372036854775808 ≤ b)) z e ∧ ok = exOk 5 e) := ⟨hR, hok⟩
  clear hR hok
  refine HX.mono ?_
  clear HX
  rintro e9 v3 ⟨rfl, hb3⟩
  replace hbw := Below.on hbw hb3
  clear hb3
  go_wp2_with fail
  refine (value_v pm_64 HF.out.1 HF.out.2 HV.out _ (TB.out.below hbw)).mono ?_
  rintro e9 v4 ⟨v, rfl, hv, hb4⟩
  obtain ⟨s4, p4, m4, rfl, hd4⟩ := hv.dn HV.out.fm
  clear hv hd4
  replace hbw := Below.on hbw hb4
  clear hb4
  obtain he | he | he : 0 ≤ e ∨ e = -1 ∨ e < -1 := by omega
  · have hok : ok = true := by rw [HR.out.2]; exact decide_eq_true (by omega)
    have hok2 := HR.out.2
    rw [hok] at hok2
    have hsz : exSz 5 (exQ z e) (decide (-1 ≤ e)) = 1 := by rw [show decide (-1 ≤ e) = true from decide_eq_true (by omega)]; have hp := exQ_e (z := z) he; unfold exSz; simp [hp]
    have hR := nv (neg := decide (9223372036854775808 ≤ b)) 1 4607182418800017408 hok2.symm hsz rfl
    rw [← HR.out.1] at hR
    obtain ⟨t1, t2⟩ := tm_u hR.1
    rw [show ((9223372036854775808 : Nat) : Int) = 9223372036854775808 from rfl, show ((4607182418800017408 : Nat) : Int) = 4607182418800017408 from rfl] at t1 t2
    clear hsz hok2 hR
    subst hok
    have d1 : decide (-1 ≤ e) = true := decide_eq_true (by omega)
    have d2 : (e == -1) = false := by simp; omega
    have d3 : decide (0 ≤ e) = true := decide_eq_true he
    clear he HR HV HF
    go_wp2_with fail
    go_ret
    exact ⟨rfl, Below.on hbw (below1 _ _)⟩
  · have hok : ok = true := by rw [HR.out.2]; exact decide_eq_true (by omega)
    have hok2 := HR.out.2
    rw [hok] at hok2
    have hsz : exSz 5 (exQ z e) (decide (-1 ≤ e)) = 0 := by rw [show decide (-1 ≤ e) = true from decide_eq_true (by omega)]; have hp := exQ_o HV.out.fm he; unfold exSz; simp [hp]
    have hR := nv (neg := decide (9223372036854775808 ≤ b)) 0 0 hok2.symm hsz rfl
    rw [← HR.out.1] at hR
    obtain ⟨t1, t2⟩ := tm_u hR.1
    rw [show ((9223372036854775808 : Nat) : Int) = 9223372036854775808 from rfl, show ((0 : Nat) : Int) = 0 from rfl] at t1 t2
    clear hsz hok2 hR
    subst hok
    have hR0 : R = 0 := by
      have hp := exQ_o HV.out.fm he
      rw [HR.out.1]
      unfold exW exP exSz exNg exOk
      simp [he]
      rw [he] at hp
      simp [hp]
    have t3 : ((R : Int) == 0) = true := by rw [hR0]; rfl
    subst hR0
    have d1 : decide (-1 ≤ e) = true := decide_eq_true (by omega)
    have d2 : (e == -1) = true := by simp; omega
    have d3 : decide (0 ≤ e) = false := decide_eq_false (by omega)
    clear he HR HV HF
    go_wp2_with fail
    go_ret
    exact ⟨rfl, Below.on hbw (below1 _ _)⟩
  · have hok : ok = false := by rw [HR.out.2]; exact decide_eq_false (by omega)
    subst hok
    have hR0 : R = 0 := by rw [HR.out.1]; unfold exW; rw [← HR.out.2]; rfl
    subst hR0
    have d1 : decide (-1 ≤ e) = false := decide_eq_false (by omega)
    have d2 : (e == -1) = false := by simp; omega
    have d3 : decide (0 ≤ e) = false := decide_eq_false (by omega)
    clear he HR HV HF
    go_wp2_with fail
    go_ret
    exact ⟨rfl, Below.on hbw (below1 _ _)⟩
set_option maxRecDepth 20000 in
set_option maxHeartbeats 8000000 in
theorem niven_c6 (b : Nat) (h : ¬ b % 9223372036854775808 < 9218868437227405312) (w : World) (hT : Tab w) :
    Calls Tryz.prog 4 #[.int .i64 6, U b] w fun en w' => en = .returned (.bool true) ∧ Below w.heap.size w w' := by
  have hbw : Below w.heap.size w w := Below.refl _ _
  have TB : Hid (Tab w) := hT
  have HF : Hid (¬ b % 9223372036854775808 < 9218868437227405312) := h
  clear hT h
  go_enter Tryz.func4, Tryz.ntmps4
  go_wp2_with fail
  refine (awake17 _ (TB.out.below hbw)).mono ?_
  rintro e v1 ⟨rfl, hb1⟩
  replace hbw := Below.on hbw hb1
  clear hb1
  go_wp2_with fail
  refine (fin17_f b HF.out _).mono ?_
  rintro e v2 ⟨rfl, hb2⟩
  replace hbw := Below.on hbw hb2
  clear hb2
  go_wp2_with fail
  go_ret
  exact ⟨rfl, hbw⟩
set_option maxRecDepth 20000 in
set_option maxHeartbeats 8000000 in
theorem niven_f6 (b : Nat) (hb : b < 2 * 9223372036854775808) (h : b % 9223372036854775808 < 9218868437227405312) (w : World) (hT : Tab w) :
    Calls Tryz.prog 4 #[.int .i64 6, U b] w fun en w' => en = .returned (.bool true) ∧ Below w.heap.size w w' := by
  have hbw : Below w.heap.size w w := Below.refl _ _
  have TB : Hid (Tab w) := hT
  have HF : Hid (b < 2 * 9223372036854775808 ∧ b % 9223372036854775808 < 9218868437227405312) := ⟨hb, h⟩
  obtain ⟨z, e, hv, _⟩ := vf_ex pm_64 h
  have HV : Hid (VF 9223372036854775808 4503599627370496 (-1074) b z e) := hv
  clear hT h hb hv
  go_enter Tryz.func4, Tryz.ntmps4
  go_wp2_with fail
  refine (awake17 _ (TB.out.below hbw)).mono ?_
  rintro e v1 ⟨rfl, hb1⟩
  replace hbw := Below.on hbw hb1
  clear hb1
  go_wp2_with fail
  refine (fin17_t b HF.out.2 _).mono ?_
  rintro e v2 ⟨rfl, hb2⟩
  replace hbw := Below.on hbw hb2
  clear hb2
  go_wp2_with fail
  obtain ⟨R, hR⟩ : ∃ R, R = exW 6 9223372036854775808 9218868437227405312 4607182418800017408 (decide (9223372036854775808 ≤ b)) z e := ⟨_, rfl⟩
  obtain ⟨ok, hok⟩ : ∃ ok, ok = exOk 6 e := ⟨_, rfl⟩
  have HX := exact_f6 jt_64 HF.out.1 HF.out.2 HV.out v2 (TB.out.below hbw)
  rw [← hR, ← hok] at HX
  have HR : Hid (R = exW 6 9223372036854775808 9218868437227405312 4607182418800017408 (decide (9223372036854775808 ≤ b)) z e ∧ ok = exOk 6 e) := ⟨hR, hok⟩
  clear hR hok
  refine HX.mono ?_
  clear HX
  rintro e9 v3 ⟨rfl, hb3⟩
  replace hbw := Below.on hbw hb3
  clear hb3
  go_wp2_with fail
  refine (value_v pm_64 HF.out.1 HF.out.2 HV.out _ (TB.out.below hbw)).mono ?_
  rintro e9 v4 ⟨v, rfl, hv, hb4⟩
  obtain ⟨s4, p4, m4, rfl, hd4⟩ := hv.dn HV.out.fm
  clear hv hd4
  replace hbw := Below.on hbw hb4
  clear hb4
  obtain he | he | he | he : 0 ≤ e ∨ e = -1 ∨ e = -2 ∨ e < -2 := by omega
  · have hok : ok = true := by rw [HR.out.2]; exact decide_eq_true (by omega)
    have hok2 := HR.out.2
    rw [hok] at hok2
    have hsz : exSz 6 (exQ z e) (decide (-1 ≤ e)) = 0 := by rw [show decide (-1 ≤ e) = true from decide_eq_true (by omega)]; have hp := exQ_e (z := z) he; unfold exSz; simp [hp]
    have hR := nv (neg := decide (9223372036854775808 ≤ b)) 0 0 hok2.symm hsz rfl
    rw [← HR.out.1] at hR
    obtain ⟨t1, t2⟩ := tm_u hR.1
    rw [show ((9223372036854775808 : Nat) : Int) = 9223372036854775808 from rfl, show ((0 : Nat) : Int) = 0 from rfl] at t1 t2
    clear hsz hok2 hR
    subst hok
    have d1 : decide (-2 ≤ e) = true := decide_eq_true (by omega)
    have d2 : (e == -1) = false := by simp; omega
    have d3 : decide (0 ≤ e) = true := decide_eq_true he
    clear he HR HV HF
    go_wp2_with fail
    go_ret
    exact ⟨rfl, Below.on hbw (below1 _ _)⟩
  · have hok : ok = true := by rw [HR.out.2]; exact decide_eq_true (by omega)
    have hok2 := HR.out.2
    rw [hok] at hok2
    have hsz : exSz 6 (exQ z e) (decide (-1 ≤ e)) = 2 := by rw [show decide (-1 ≤ e) = true from decide_eq_true (by omega)]; have hp := exQ_o HV.out.fm he; unfold exSz; simp [hp]
    have hR := nv (neg := decide (9223372036854775808 ≤ b)) 2 9218868437227405312 hok2.symm hsz rfl
    rw [← HR.out.1] at hR
    obtain ⟨t1, t2⟩ := tm_u hR.1
    rw [show ((9223372036854775808 : Nat) : Int) = 9223372036854775808 from rfl, show ((9218868437227405312 : Nat) : Int) = 9218868437227405312 from rfl] at t1 t2
    clear hsz hok2 hR
    subst hok
    have d1 : decide (-2 ≤ e) = true := decide_eq_true (by omega)
    have d2 : (e == -1) = true := by simp; omega
    have d3 : decide (0 ≤ e) = false := decide_eq_false (by omega)
    clear he HR HV HF
    go_wp2_with fail
    go_ret
    exact ⟨rfl, Below.on hbw (below1 _ _)⟩
  · have hok : ok = true := by rw [HR.out.2]; exact decide_eq_true (by omega)
    have hok2 := HR.out.2
    rw [hok] at hok2
    have hsz : exSz 6 (exQ z e) (decide (-1 ≤ e)) = 1 := by rw [show decide (-1 ≤ e) = false from decide_eq_false (by omega)]; rfl
    have hR := nv (neg := decide (9223372036854775808 ≤ b)) 1 4607182418800017408 hok2.symm hsz rfl
    rw [← HR.out.1] at hR
    obtain ⟨t1, t2⟩ := tm_u hR.1
    rw [show ((9223372036854775808 : Nat) : Int) = 9223372036854775808 from rfl, show ((4607182418800017408 : Nat) : Int) = 4607182418800017408 from rfl] at t1 t2
    clear hsz hok2 hR
    subst hok
    have d1 : decide (-2 ≤ e) = true := decide_eq_true (by omega)
    have d2 : (e == -1) = false := by simp; omega
    have d3 : decide (0 ≤ e) = false := decide_eq_false (by omega)
    clear he HR HV HF
    go_wp2_with fail
    go_ret
    exact ⟨rfl, Below.on hbw (below1 _ _)⟩
  · have hok : ok = false := by rw [HR.out.2]; exact decide_eq_false (by omega)
    subst hok
    have hR0 : R = 0 := by rw [HR.out.1]; unfold exW; rw [← HR.out.2]; rfl
    subst hR0
    have d1 : decide (-2 ≤ e) = false := decide_eq_false (by omega)
    have d2 : (e == -1) = false := by simp; omega
    have d3 : decide (0 ≤ e) = false := decide_eq_false (by omega)
    clear he HR HV HF
    go_wp2_with fail
    go_ret
    exact ⟨rfl, Below.on hbw (below1 _ _)⟩
theorem turnNiven_w (fn : Int) (b : Nat) (hb : b < B64) (w : World) (hT : Tab w) : Calls Tryz.prog 4 #[.int .i64 fn, U b] w fun en w' => en = .returned (.bool true) ∧ Below w.heap.size w w' := by
  rw [B64_eq] at hb
  by_cases h : fn < 4 ∨ 6 < fn
  · exact niven_x fn h b w hT
  · obtain rfl | rfl | rfl : fn = 4 ∨ fn = 5 ∨ fn = 6 := by omega
    · by_cases hf : b % 9223372036854775808 < 9218868437227405312
      · exact niven_f4 b (by omega) hf w hT
      · exact niven_c4 b hf w hT
    · by_cases hf : b % 9223372036854775808 < 9218868437227405312
      · exact niven_f5 b (by omega) hf w hT
      · exact niven_c5 b hf w hT
    · by_cases hf : b % 9223372036854775808 < 9218868437227405312
      · exact niven_f6 b (by omega) hf w hT
      · exact niven_c6 b hf w hT
end Go.Proofs.YtoalblaklcekeaaGreatDoor

