import Derived.Test.YtmkglkdhnbjjhaaNum1
import Derived.Test.YtmkglkdhnbjjhaaMul
namespace Go.Proofs.Ytmkglkdhnbjjhaa
open Go.RowKit Go.Shelf

/-- A struct of two cells that lies in memory of one's own. -/
structure Box (W : World) (g : Nat) (v0 v1 : Value) : Prop where
  c0 : W.cell? ⟨g, 0, none⟩ = some v0
  c1 : W.cell? ⟨g, 1, none⟩ = some v1
  f0 : W.frozen? ⟨g, 0, none⟩ = false
  f1 : W.frozen? ⟨g, 1, none⟩ = false
theorem Box.below {W W' : World} {g : Nat} {v0 v1 : Value} (h : Box W g v0 v1) (hb : Below W.heap.size W W') : Box W' g v0 v1 := by
  have hl : g < W.heap.size := World.block_lt_of_cell? W _ h.c0
  exact ⟨(hb.cell (p := ⟨g, 0, none⟩) hl).trans h.c0, (hb.cell (p := ⟨g, 1, none⟩) hl).trans h.c1, (hb.frozen (p := ⟨g, 0, none⟩) hl).trans h.f0, (hb.frozen (p := ⟨g, 1, none⟩) hl).trans h.f1⟩

theorem numform_t {p : Option Addr} {n c : Nat} {xs : List Nat} {a : Nat} {w : World} (s : Bool) (h : Num w p n c xs a) (hs : s = true → 0 < a) :
    Calls Try.prog 25 #[ZV s p n c] w fun e w' => e = .returned (.bool true) ∧ Below w.heap.size w w' := by
  have fx := h.nf.form (by rw [h.at_.len]; exact h.le)
  have hz := h.zero
  have H : Hid (Num w p n c xs a) := h
  clear h
  cases s
  · clear hs hz
    go_enter Try.func25, Try.ntmps25
    go_wp2_with fail
    refine (form_true (H.out.at_.alloc _) fx).mono ?_
    rintro e w' ⟨rfl, hw⟩
    obtain rfl := hw.symm
    clear hw fx
    go_wp2_with fail
    go_ret
    exact ⟨rfl, below1 w _⟩
  · have hn0 : n ≠ 0 := by have := hs rfl; intro e; have := hz.1 e; omega
    have hn0' : ((n : Int) == 0) = false := by simp; omega
    clear hs hz
    go_enter Try.func25, Try.ntmps25
    go_wp2_with fail
    refine (form_true (H.out.at_.alloc _) fx).mono ?_
    rintro e w' ⟨rfl, hw⟩
    obtain rfl := hw.symm
    clear hw fx
    go_wp2_with fail
    go_ret
    exact ⟨rfl, below1 w _⟩

-- the calls
set_option maxRecDepth 20000 in
set_option maxHeartbeats 2000000 in
theorem nadd_any {p q : Option Addr} {n m c d : Nat} {xs ys : List Nat} {a b : Nat} {w : World} (s t : Bool) (h : Num w p n c xs a) (k : Num w q m d ys b) (hs : s = true → 0 < a) (ht : t = true → 0 < b) :
    Calls Try.prog 7 #[ZV s p n c, ZV t q m d] w fun e w' => AnsI w.heap.size w' e (iv s a + iv t b) ∧ Below w.heap.size w w' := by
  obtain ⟨z, hz⟩ : ∃ z, z = iv s a + iv t b := ⟨_, rfl⟩
  rw [← hz]
  have HZ : Hid (z = iv s a + iv t b) := hz
  have H : Hid (Num w p n c xs a) := h
  have K : Hid (Num w q m d ys b) := k
  have HS : Hid (s = true → 0 < a) := hs
  have HT : Hid (t = true → 0 < b) := ht
  clear h k hs ht hz
  go_enter Try.func7, Try.ntmps7
  go_wp2_with fail
  have B0 : Box (((w.alloc (.cells #[.bool s, .slice p n c] 24)).alloc (.cells #[.bool t, .slice q m d] 24)).alloc (.cells #[.bool false, .slice none 0 0] 24)) (w.heap.size) (.bool s) (.slice p n c) := ⟨by go_simp, by go_simp, by go_simp, by go_simp⟩
  have B1 : Box (((w.alloc (.cells #[.bool s, .slice p n c] 24)).alloc (.cells #[.bool t, .slice q m d] 24)).alloc (.cells #[.bool false, .slice none 0 0] 24)) (w.heap.size + 1) (.bool t) (.slice q m d) := ⟨by go_simp, by go_simp, by go_simp, by go_simp⟩
  have B2 : Box (((w.alloc (.cells #[.bool s, .slice p n c] 24)).alloc (.cells #[.bool t, .slice q m d] 24)).alloc (.cells #[.bool false, .slice none 0 0] 24)) (w.heap.size + 1 + 1) (.bool false) (.slice none 0 0) := ⟨by go_simp, by go_simp, by go_simp, by go_simp⟩
  have hbw : Below w.heap.size w (((w.alloc (.cells #[.bool s, .slice p n c] 24)).alloc (.cells #[.bool t, .slice q m d] 24)).alloc (.cells #[.bool false, .slice none 0 0] 24)) := below3 w _ _ _
  have hsW : (((w.alloc (.cells #[.bool s, .slice p n c] 24)).alloc (.cells #[.bool t, .slice q m d] 24)).alloc (.cells #[.bool false, .slice none 0 0] 24)).heap.size = w.heap.size + 1 + 1 + 1 := by simp
  generalize (((w.alloc (.cells #[.bool s, .slice p n c] 24)).alloc (.cells #[.bool t, .slice q m d] 24)).alloc (.cells #[.bool false, .slice none 0 0] 24)) = W0 at *
  obtain ⟨hs, ehs⟩ : ∃ hs, hs = w.heap.size := ⟨_, rfl⟩
  have HHS : Hid (hs = w.heap.size) := ehs
  rw [← ehs] at B0 B1 B2 hsW ⊢
  have H' : Hid (Num W0 p n c xs a) := H.out.below hbw
  clear H
  have H := H'
  clear H'
  have K' : Hid (Num W0 q m d ys b) := K.out.below hbw
  clear K
  have K := K'
  clear K'
  have hszW : hs + 1 + 1 + 1 ≤ W0.heap.size := by omega
  clear ehs hsW
  refine (numform_t s H.out HS.out).mono ?_
  rintro e w1 ⟨rfl, hb1⟩
  have B0' : Box w1 (hs) (.bool s) (.slice p n c) := B0.below hb1
  clear B0
  have B0 := B0'
  clear B0'
  have B1' : Box w1 (hs + 1) (.bool t) (.slice q m d) := B1.below hb1
  clear B1
  have B1 := B1'
  clear B1'
  have B2' : Box w1 (hs + 1 + 1) (.bool false) (.slice none 0 0) := B2.below hb1
  clear B2
  have B2 := B2'
  clear B2'
  have H' : Hid (Num w1 p n c xs a) := H.out.below hb1
  clear H
  have H := H'
  clear H'
  have K' : Hid (Num w1 q m d ys b) := K.out.below hb1
  clear K
  have K := K'
  clear K'
  have hbw' := Below.on hbw hb1
  clear hbw
  have hbw := hbw'
  clear hbw'
  have hszW' : hs + 1 + 1 + 1 ≤ w1.heap.size := Nat.le_trans hszW hb1.size
  clear hszW
  have hszW := hszW'
  clear hszW'
  clear hb1
  obtain ⟨c00, c01, f00, f01⟩ := B0
  obtain ⟨c10, c11, f10, f11⟩ := B1
  obtain ⟨c20, c21, f20, f21⟩ := B2
  go_wp2_with fail
  have B0 : Box w1 (hs) (.bool s) (.slice p n c) := ⟨c00, c01, f00, f01⟩
  clear c00 c01 f00 f01
  have B1 : Box w1 (hs + 1) (.bool t) (.slice q m d) := ⟨c10, c11, f10, f11⟩
  clear c10 c11 f10 f11
  have B2 : Box w1 (hs + 1 + 1) (.bool false) (.slice none 0 0) := ⟨c20, c21, f20, f21⟩
  clear c20 c21 f20 f21
  refine (numform_t t K.out HT.out).mono ?_
  rintro e w2 ⟨rfl, hb2⟩
  have B0' : Box w2 (hs) (.bool s) (.slice p n c) := B0.below hb2
  clear B0
  have B0 := B0'
  clear B0'
  have B1' : Box w2 (hs + 1) (.bool t) (.slice q m d) := B1.below hb2
  clear B1
  have B1 := B1'
  clear B1'
  have B2' : Box w2 (hs + 1 + 1) (.bool false) (.slice none 0 0) := B2.below hb2
  clear B2
  have B2 := B2'
  clear B2'
  have H' : Hid (Num w2 p n c xs a) := H.out.below hb2
  clear H
  have H := H'
  clear H'
  have K' : Hid (Num w2 q m d ys b) := K.out.below hb2
  clear K
  have K := K'
  clear K'
  have hbw' := Below.on hbw hb2
  clear hbw
  have hbw := hbw'
  clear hbw'
  have hszW' : hs + 1 + 1 + 1 ≤ w2.heap.size := Nat.le_trans hszW hb2.size
  clear hszW
  have hszW := hszW'
  clear hszW'
  clear hb2
  obtain ⟨c00, c01, f00, f01⟩ := B0
  obtain ⟨c10, c11, f10, f11⟩ := B1
  obtain ⟨c20, c21, f20, f21⟩ := B2
  go_wp2_with fail
  have B0 : Box w2 (hs) (.bool s) (.slice p n c) := ⟨c00, c01, f00, f01⟩
  clear c00 c01 f00 f01
  have B1 : Box w2 (hs + 1) (.bool t) (.slice q m d) := ⟨c10, c11, f10, f11⟩
  clear c10 c11 f10 f11
  have B2 : Box w2 (hs + 1 + 1) (.bool false) (.slice none 0 0) := ⟨c20, c21, f20, f21⟩
  clear c20 c21 f20 f21
  have hsz0 := hszW
  refine (sum_any s t H.out K.out).mono ?_
  rintro e w3 ⟨ha, hb3⟩
  rw [← HZ.out] at ha
  have B0' : Box w3 (hs) (.bool s) (.slice p n c) := B0.below hb3
  clear B0
  have B0 := B0'
  clear B0'
  have B1' : Box w3 (hs + 1) (.bool t) (.slice q m d) := B1.below hb3
  clear B1
  have B1 := B1'
  clear B1'
  have B2' : Box w3 (hs + 1 + 1) (.bool false) (.slice none 0 0) := B2.below hb3
  clear B2
  have B2 := B2'
  clear B2'
  have H' : Hid (Num w3 p n c xs a) := H.out.below hb3
  clear H
  have H := H'
  clear H'
  have K' : Hid (Num w3 q m d ys b) := K.out.below hb3
  clear K
  have K := K'
  clear K'
  have hbw' := Below.on hbw hb3
  clear hbw
  have hbw := hbw'
  clear hbw'
  have hszW' : hs + 1 + 1 + 1 ≤ w3.heap.size := Nat.le_trans hszW hb3.size
  clear hszW
  have hszW := hszW'
  clear hszW'
  clear hb3
  rcases ha with ⟨hl, p1, m1, z1, rfl, ho, hn, hm⟩ | ⟨hl, rfl⟩
  · have HL : Hid (z.natAbs < LIM) := hl
    have HN : Hid (Nf B64 z1 z.natAbs) := hn
    have HM : Hid (m1 ≤ 8192) := hm
    have HOW : Hid (Own (hs + 1 + 1 + 1) w3 p1 m1 z1) := ho.mono hsz0
    obtain ⟨sz, hss⟩ : ∃ sz, sz = decide (z < 0) := ⟨_, rfl⟩
    rw [← hss]
    have HSZ : Hid (sz = decide (z < 0)) := hss
    clear hl hn ho hm hss hsz0
    obtain ⟨c00, c01, f00, f01⟩ := B0
    obtain ⟨c10, c11, f10, f11⟩ := B1
    obtain ⟨c20, c21, f20, f21⟩ := B2
    go_wp2_with fail
    refine bodyPost_ret (v := .tuple #[ZV sz p1 m1 m1, .int .i64 0]) (by rw [results_cell_tmp rfl]; go_simp) rfl ⟨.inl ⟨HL.out, p1, m1, z1, by rw [HSZ.out], ?_, HN.out, HM.out⟩, ?_⟩
    · exact ((HOW.out.setOld _ _ _ (by omega)).setOld _ _ _ (by omega)).mono (by have := HHS.out; omega)
    · exact bSet (bSet hbw _ _ _ (by have := HHS.out; omega)) _ _ _ (by have := HHS.out; omega)
  · have HL : Hid (LIM ≤ z.natAbs) := hl
    clear hl hsz0
    obtain ⟨c00, c01, f00, f01⟩ := B0
    obtain ⟨c10, c11, f10, f11⟩ := B1
    obtain ⟨c20, c21, f20, f21⟩ := B2
    go_wp2_with fail
    refine bodyPost_ret (v := .tuple #[ZV false none 0 0, .int .i64 5]) (by rw [results_cell_tmp rfl]; go_simp) rfl ⟨.inr ⟨HL.out, rfl⟩, ?_⟩
    exact bSet (bSet hbw _ _ _ (by have := HHS.out; omega)) _ _ _ (by have := HHS.out; omega)
theorem iv_not (t : Bool) (b : Nat) : iv (!t) b = - iv t b := by cases t <;> simp [iv]
theorem iv_mul (s t : Bool) (a b : Nat) : (iv s a * iv t b).natAbs = a * b ∧ (decide (iv s a * iv t b < 0) = ((s != t) && decide (0 < a * b))) := by
  have h0 : ((a : Int) * (b : Int)) = ((a * b : Nat) : Int) := by simp
  cases s <;> cases t <;> simp only [iv, if_true, Int.neg_mul, Int.mul_neg, Int.neg_neg, Bool.false_eq_true, if_false, h0]
  · refine ⟨by omega, ?_⟩
    simp only [bne_self_eq_false, Bool.false_and, decide_eq_false_iff_not]; omega
  · refine ⟨by omega, ?_⟩
    simp only [Bool.bne_true, Bool.not_false, Bool.true_and]; exact decide_eq_decide.2 (by omega)
  · refine ⟨by omega, ?_⟩
    simp only [Bool.bne_false, Bool.true_and]; exact decide_eq_decide.2 (by omega)
  · refine ⟨by omega, ?_⟩
    simp only [bne_self_eq_false, Bool.false_and, decide_eq_false_iff_not]; omega
set_option maxRecDepth 20000 in
set_option maxHeartbeats 2000000 in
theorem nsub_any {p q : Option Addr} {n m c d : Nat} {xs ys : List Nat} {a b : Nat} {w : World} (s t : Bool) (h : Num w p n c xs a) (k : Num w q m d ys b) (hs : s = true → 0 < a) (ht : t = true → 0 < b) :
    Calls Try.prog 10 #[ZV s p n c, ZV t q m d] w fun e w' => AnsI w.heap.size w' e (iv s a - iv t b) ∧ Below w.heap.size w w' := by
  obtain ⟨z, hz⟩ : ∃ z, z = iv s a - iv t b := ⟨_, rfl⟩
  rw [← hz]
  have HZ : Hid (z = iv s a - iv t b) := hz
  have H : Hid (Num w p n c xs a) := h
  have K : Hid (Num w q m d ys b) := k
  have HS : Hid (s = true → 0 < a) := hs
  have HT : Hid (t = true → 0 < b) := ht
  clear h k hs ht hz
  go_enter Try.func10, Try.ntmps10
  go_wp2_with fail
  have B0 : Box (((w.alloc (.cells #[.bool s, .slice p n c] 24)).alloc (.cells #[.bool t, .slice q m d] 24)).alloc (.cells #[.bool false, .slice none 0 0] 24)) (w.heap.size) (.bool s) (.slice p n c) := ⟨by go_simp, by go_simp, by go_simp, by go_simp⟩
  have B1 : Box (((w.alloc (.cells #[.bool s, .slice p n c] 24)).alloc (.cells #[.bool t, .slice q m d] 24)).alloc (.cells #[.bool false, .slice none 0 0] 24)) (w.heap.size + 1) (.bool t) (.slice q m d) := ⟨by go_simp, by go_simp, by go_simp, by go_simp⟩
  have B2 : Box (((w.alloc (.cells #[.bool s, .slice p n c] 24)).alloc (.cells #[.bool t, .slice q m d] 24)).alloc (.cells #[.bool false, .slice none 0 0] 24)) (w.heap.size + 1 + 1) (.bool false) (.slice none 0 0) := ⟨by go_simp, by go_simp, by go_simp, by go_simp⟩
  have hbw : Below w.heap.size w (((w.alloc (.cells #[.bool s, .slice p n c] 24)).alloc (.cells #[.bool t, .slice q m d] 24)).alloc (.cells #[.bool false, .slice none 0 0] 24)) := below3 w _ _ _
  have hsW : (((w.alloc (.cells #[.bool s, .slice p n c] 24)).alloc (.cells #[.bool t, .slice q m d] 24)).alloc (.cells #[.bool false, .slice none 0 0] 24)).heap.size = w.heap.size + 1 + 1 + 1 := by simp
  generalize (((w.alloc (.cells #[.bool s, .slice p n c] 24)).alloc (.cells #[.bool t, .slice q m d] 24)).alloc (.cells #[.bool false, .slice none 0 0] 24)) = W0 at *
  obtain ⟨hs, ehs⟩ : ∃ hs, hs = w.heap.size := ⟨_, rfl⟩
  have HHS : Hid (hs = w.heap.size) := ehs
  rw [← ehs] at B0 B1 B2 hsW ⊢
  have H' : Hid (Num W0 p n c xs a) := H.out.below hbw
  clear H
  have H := H'
  clear H'
  have K' : Hid (Num W0 q m d ys b) := K.out.below hbw
  clear K
  have K := K'
  clear K'
  have hszW : hs + 1 + 1 + 1 ≤ W0.heap.size := by omega
  clear ehs hsW
  refine (numform_t s H.out HS.out).mono ?_
  rintro e w1 ⟨rfl, hb1⟩
  have B0' : Box w1 (hs) (.bool s) (.slice p n c) := B0.below hb1
  clear B0
  have B0 := B0'
  clear B0'
  have B1' : Box w1 (hs + 1) (.bool t) (.slice q m d) := B1.below hb1
  clear B1
  have B1 := B1'
  clear B1'
  have B2' : Box w1 (hs + 1 + 1) (.bool false) (.slice none 0 0) := B2.below hb1
  clear B2
  have B2 := B2'
  clear B2'
  have H' : Hid (Num w1 p n c xs a) := H.out.below hb1
  clear H
  have H := H'
  clear H'
  have K' : Hid (Num w1 q m d ys b) := K.out.below hb1
  clear K
  have K := K'
  clear K'
  have hbw' := Below.on hbw hb1
  clear hbw
  have hbw := hbw'
  clear hbw'
  have hszW' : hs + 1 + 1 + 1 ≤ w1.heap.size := Nat.le_trans hszW hb1.size
  clear hszW
  have hszW := hszW'
  clear hszW'
  clear hb1
  obtain ⟨c00, c01, f00, f01⟩ := B0
  obtain ⟨c10, c11, f10, f11⟩ := B1
  obtain ⟨c20, c21, f20, f21⟩ := B2
  go_wp2_with fail
  have B0 : Box w1 (hs) (.bool s) (.slice p n c) := ⟨c00, c01, f00, f01⟩
  clear c00 c01 f00 f01
  have B1 : Box w1 (hs + 1) (.bool t) (.slice q m d) := ⟨c10, c11, f10, f11⟩
  clear c10 c11 f10 f11
  have B2 : Box w1 (hs + 1 + 1) (.bool false) (.slice none 0 0) := ⟨c20, c21, f20, f21⟩
  clear c20 c21 f20 f21
  refine (numform_t t K.out HT.out).mono ?_
  rintro e w2 ⟨rfl, hb2⟩
  have B0' : Box w2 (hs) (.bool s) (.slice p n c) := B0.below hb2
  clear B0
  have B0 := B0'
  clear B0'
  have B1' : Box w2 (hs + 1) (.bool t) (.slice q m d) := B1.below hb2
  clear B1
  have B1 := B1'
  clear B1'
  have B2' : Box w2 (hs + 1 + 1) (.bool false) (.slice none 0 0) := B2.below hb2
  clear B2
  have B2 := B2'
  clear B2'
  have H' : Hid (Num w2 p n c xs a) := H.out.below hb2
  clear H
  have H := H'
  clear H'
  have K' : Hid (Num w2 q m d ys b) := K.out.below hb2
  clear K
  have K := K'
  clear K'
  have hbw' := Below.on hbw hb2
  clear hbw
  have hbw := hbw'
  clear hbw'
  have hszW' : hs + 1 + 1 + 1 ≤ w2.heap.size := Nat.le_trans hszW hb2.size
  clear hszW
  have hszW := hszW'
  clear hszW'
  clear hb2
  obtain ⟨c00, c01, f00, f01⟩ := B0
  obtain ⟨c10, c11, f10, f11⟩ := B1
  obtain ⟨c20, c21, f20, f21⟩ := B2
  go_wp2_with fail
  have B0 : Box w2 (hs) (.bool s) (.slice p n c) := ⟨c00, c01, f00, f01⟩
  clear c00 c01 f00 f01
  have B1 : Box w2 (hs + 1) (.bool t) (.slice q m d) := ⟨c10, c11, f10, f11⟩
  clear c10 c11 f10 f11
  have B2 : Box w2 (hs + 1 + 1) (.bool false) (.slice none 0 0) := ⟨c20, c21, f20, f21⟩
  clear c20 c21 f20 f21
  have hsz0 := hszW
  refine (sum_any s (!t) H.out K.out).mono ?_
  rintro e w3 ⟨ha, hb3⟩
  rw [iv_not, ← Int.sub_eq_add_neg, ← HZ.out] at ha
  have B0' : Box w3 (hs) (.bool s) (.slice p n c) := B0.below hb3
  clear B0
  have B0 := B0'
  clear B0'
  have B1' : Box w3 (hs + 1) (.bool t) (.slice q m d) := B1.below hb3
  clear B1
  have B1 := B1'
  clear B1'
  have B2' : Box w3 (hs + 1 + 1) (.bool false) (.slice none 0 0) := B2.below hb3
  clear B2
  have B2 := B2'
  clear B2'
  have H' : Hid (Num w3 p n c xs a) := H.out.below hb3
  clear H
  have H := H'
  clear H'
  have K' : Hid (Num w3 q m d ys b) := K.out.below hb3
  clear K
  have K := K'
  clear K'
  have hbw' := Below.on hbw hb3
  clear hbw
  have hbw := hbw'
  clear hbw'
  have hszW' : hs + 1 + 1 + 1 ≤ w3.heap.size := Nat.le_trans hszW hb3.size
  clear hszW
  have hszW := hszW'
  clear hszW'
  clear hb3
  rcases ha with ⟨hl, p1, m1, z1, rfl, ho, hn, hm⟩ | ⟨hl, rfl⟩
  · have HL : Hid (z.natAbs < LIM) := hl
    have HN : Hid (Nf B64 z1 z.natAbs) := hn
    have HM : Hid (m1 ≤ 8192) := hm
    have HOW : Hid (Own (hs + 1 + 1 + 1) w3 p1 m1 z1) := ho.mono hsz0
    obtain ⟨sz, hss⟩ : ∃ sz, sz = decide (z < 0) := ⟨_, rfl⟩
    rw [← hss]
    have HSZ : Hid (sz = decide (z < 0)) := hss
    clear hl hn ho hm hss hsz0
    obtain ⟨c00, c01, f00, f01⟩ := B0
    obtain ⟨c10, c11, f10, f11⟩ := B1
    obtain ⟨c20, c21, f20, f21⟩ := B2
    go_wp2_with fail
    refine bodyPost_ret (v := .tuple #[ZV sz p1 m1 m1, .int .i64 0]) (by rw [results_cell_tmp rfl]; go_simp) rfl ⟨.inl ⟨HL.out, p1, m1, z1, by rw [HSZ.out], ?_, HN.out, HM.out⟩, ?_⟩
    · exact ((HOW.out.setOld _ _ _ (by omega)).setOld _ _ _ (by omega)).mono (by have := HHS.out; omega)
    · exact bSet (bSet hbw _ _ _ (by have := HHS.out; omega)) _ _ _ (by have := HHS.out; omega)
  · have HL : Hid (LIM ≤ z.natAbs) := hl
    clear hl hsz0
    obtain ⟨c00, c01, f00, f01⟩ := B0
    obtain ⟨c10, c11, f10, f11⟩ := B1
    obtain ⟨c20, c21, f20, f21⟩ := B2
    go_wp2_with fail
    refine bodyPost_ret (v := .tuple #[ZV false none 0 0, .int .i64 5]) (by rw [results_cell_tmp rfl]; go_simp) rfl ⟨.inr ⟨HL.out, rfl⟩, ?_⟩
    exact bSet (bSet hbw _ _ _ (by have := HHS.out; omega)) _ _ _ (by have := HHS.out; omega)
set_option maxRecDepth 20000 in
set_option maxHeartbeats 2000000 in
theorem nmul_any {p q : Option Addr} {n m c d : Nat} {xs ys : List Nat} {a b : Nat} {w : World} (s t : Bool) (h : Num w p n c xs a) (k : Num w q m d ys b) (hs : s = true → 0 < a) (ht : t = true → 0 < b) :
    Calls Try.prog 8 #[ZV s p n c, ZV t q m d] w fun e w' => AnsI w.heap.size w' e (iv s a * iv t b) ∧ Below w.heap.size w w' := by
  obtain ⟨z, hz⟩ : ∃ z, z = iv s a * iv t b := ⟨_, rfl⟩
  rw [← hz]
  have HZ : Hid (z = iv s a * iv t b) := hz
  have H : Hid (Num w p n c xs a) := h
  have K : Hid (Num w q m d ys b) := k
  have HS : Hid (s = true → 0 < a) := hs
  have HT : Hid (t = true → 0 < b) := ht
  have HAB : Hid (z.natAbs = a * b ∧ decide (z < 0) = ((s != t) && decide (0 < a * b))) := by rw [hz]; exact iv_mul s t a b
  clear h k hs ht hz
  go_enter Try.func8, Try.ntmps8
  go_wp2_with fail
  have B0 : Box (((w.alloc (.cells #[.bool s, .slice p n c] 24)).alloc (.cells #[.bool t, .slice q m d] 24)).alloc (.cells #[.bool false, .slice none 0 0] 24)) (w.heap.size) (.bool s) (.slice p n c) := ⟨by go_simp, by go_simp, by go_simp, by go_simp⟩
  have B1 : Box (((w.alloc (.cells #[.bool s, .slice p n c] 24)).alloc (.cells #[.bool t, .slice q m d] 24)).alloc (.cells #[.bool false, .slice none 0 0] 24)) (w.heap.size + 1) (.bool t) (.slice q m d) := ⟨by go_simp, by go_simp, by go_simp, by go_simp⟩
  have B2 : Box (((w.alloc (.cells #[.bool s, .slice p n c] 24)).alloc (.cells #[.bool t, .slice q m d] 24)).alloc (.cells #[.bool false, .slice none 0 0] 24)) (w.heap.size + 1 + 1) (.bool false) (.slice none 0 0) := ⟨by go_simp, by go_simp, by go_simp, by go_simp⟩
  have hbw : Below w.heap.size w (((w.alloc (.cells #[.bool s, .slice p n c] 24)).alloc (.cells #[.bool t, .slice q m d] 24)).alloc (.cells #[.bool false, .slice none 0 0] 24)) := below3 w _ _ _
  have hsW : (((w.alloc (.cells #[.bool s, .slice p n c] 24)).alloc (.cells #[.bool t, .slice q m d] 24)).alloc (.cells #[.bool false, .slice none 0 0] 24)).heap.size = w.heap.size + 1 + 1 + 1 := by simp
  generalize (((w.alloc (.cells #[.bool s, .slice p n c] 24)).alloc (.cells #[.bool t, .slice q m d] 24)).alloc (.cells #[.bool false, .slice none 0 0] 24)) = W0 at *
  obtain ⟨hs, ehs⟩ : ∃ hs, hs = w.heap.size := ⟨_, rfl⟩
  have HHS : Hid (hs = w.heap.size) := ehs
  rw [← ehs] at B0 B1 B2 hsW ⊢
  have H' : Hid (Num W0 p n c xs a) := H.out.below hbw
  clear H
  have H := H'
  clear H'
  have K' : Hid (Num W0 q m d ys b) := K.out.below hbw
  clear K
  have K := K'
  clear K'
  have hszW : hs + 1 + 1 + 1 ≤ W0.heap.size := by omega
  clear ehs hsW
  refine (numform_t s H.out HS.out).mono ?_
  rintro e w1 ⟨rfl, hb1⟩
  have B0' : Box w1 (hs) (.bool s) (.slice p n c) := B0.below hb1
  clear B0
  have B0 := B0'
  clear B0'
  have B1' : Box w1 (hs + 1) (.bool t) (.slice q m d) := B1.below hb1
  clear B1
  have B1 := B1'
  clear B1'
  have B2' : Box w1 (hs + 1 + 1) (.bool false) (.slice none 0 0) := B2.below hb1
  clear B2
  have B2 := B2'
  clear B2'
  have H' : Hid (Num w1 p n c xs a) := H.out.below hb1
  clear H
  have H := H'
  clear H'
  have K' : Hid (Num w1 q m d ys b) := K.out.below hb1
  clear K
  have K := K'
  clear K'
  have hbw' := Below.on hbw hb1
  clear hbw
  have hbw := hbw'
  clear hbw'
  have hszW' : hs + 1 + 1 + 1 ≤ w1.heap.size := Nat.le_trans hszW hb1.size
  clear hszW
  have hszW := hszW'
  clear hszW'
  clear hb1
  obtain ⟨c00, c01, f00, f01⟩ := B0
  obtain ⟨c10, c11, f10, f11⟩ := B1
  obtain ⟨c20, c21, f20, f21⟩ := B2
  go_wp2_with fail
  have B0 : Box w1 (hs) (.bool s) (.slice p n c) := ⟨c00, c01, f00, f01⟩
  clear c00 c01 f00 f01
  have B1 : Box w1 (hs + 1) (.bool t) (.slice q m d) := ⟨c10, c11, f10, f11⟩
  clear c10 c11 f10 f11
  have B2 : Box w1 (hs + 1 + 1) (.bool false) (.slice none 0 0) := ⟨c20, c21, f20, f21⟩
  clear c20 c21 f20 f21
  refine (numform_t t K.out HT.out).mono ?_
  rintro e w2 ⟨rfl, hb2⟩
  have B0' : Box w2 (hs) (.bool s) (.slice p n c) := B0.below hb2
  clear B0
  have B0 := B0'
  clear B0'
  have B1' : Box w2 (hs + 1) (.bool t) (.slice q m d) := B1.below hb2
  clear B1
  have B1 := B1'
  clear B1'
  have B2' : Box w2 (hs + 1 + 1) (.bool false) (.slice none 0 0) := B2.below hb2
  clear B2
  have B2 := B2'
  clear B2'
  have H' : Hid (Num w2 p n c xs a) := H.out.below hb2
  clear H
  have H := H'
  clear H'
  have K' : Hid (Num w2 q m d ys b) := K.out.below hb2
  clear K
  have K := K'
  clear K'
  have hbw' := Below.on hbw hb2
  clear hbw
  have hbw := hbw'
  clear hbw'
  have hszW' : hs + 1 + 1 + 1 ≤ w2.heap.size := Nat.le_trans hszW hb2.size
  clear hszW
  have hszW := hszW'
  clear hszW'
  clear hb2
  obtain ⟨c00, c01, f00, f01⟩ := B0
  obtain ⟨c10, c11, f10, f11⟩ := B1
  obtain ⟨c20, c21, f20, f21⟩ := B2
  go_wp2_with fail
  have B0 : Box w2 (hs) (.bool s) (.slice p n c) := ⟨c00, c01, f00, f01⟩
  clear c00 c01 f00 f01
  have B1 : Box w2 (hs + 1) (.bool t) (.slice q m d) := ⟨c10, c11, f10, f11⟩
  clear c10 c11 f10 f11
  have B2 : Box w2 (hs + 1 + 1) (.bool false) (.slice none 0 0) := ⟨c20, c21, f20, f21⟩
  clear c20 c21 f20 f21
  have hsz0 := hszW
  refine (mul_any H.out.at_ K.out.at_ H.out.nf K.out.nf H.out.le K.out.le).mono ?_
  rintro e w3 ⟨ha, hb3⟩
  have B0' : Box w3 (hs) (.bool s) (.slice p n c) := B0.below hb3
  clear B0
  have B0 := B0'
  clear B0'
  have B1' : Box w3 (hs + 1) (.bool t) (.slice q m d) := B1.below hb3
  clear B1
  have B1 := B1'
  clear B1'
  have B2' : Box w3 (hs + 1 + 1) (.bool false) (.slice none 0 0) := B2.below hb3
  clear B2
  have B2 := B2'
  clear B2'
  have H' : Hid (Num w3 p n c xs a) := H.out.below hb3
  clear H
  have H := H'
  clear H'
  have K' : Hid (Num w3 q m d ys b) := K.out.below hb3
  clear K
  have K := K'
  clear K'
  have hbw' := Below.on hbw hb3
  clear hbw
  have hbw := hbw'
  clear hbw'
  have hszW' : hs + 1 + 1 + 1 ≤ w3.heap.size := Nat.le_trans hszW hb3.size
  clear hszW
  have hszW := hszW'
  clear hszW'
  clear hb3
  rcases ha with ⟨hl, p1, m1, z1, rfl, ho, hn, hm⟩ | ⟨hl, rfl⟩
  · have HL : Hid (a * b < LIM) := hl
    have HN : Hid (Nf B64 z1 (a * b)) := hn
    have HM : Hid (m1 ≤ 8192) := hm
    have HOW : Hid (Own (hs + 1 + 1 + 1) w3 p1 m1 z1) := ho.mono hsz0
    have hv : ((!(s == t)) && decide (0 < m1)) = decide (z < 0) := by rw [HAB.out.2, hn.lenpos ho.len]; rfl
    have HV : Hid (((!(s == t)) && decide (0 < m1)) = decide (z < 0)) := hv
    clear hl hn ho hm hsz0 hv
    obtain ⟨c00, c01, f00, f01⟩ := B0
    obtain ⟨c10, c11, f10, f11⟩ := B1
    obtain ⟨c20, c21, f20, f21⟩ := B2
    go_wp2_with fail
    have B0 : Box w3 (hs) (.bool s) (.slice p n c) := ⟨c00, c01, f00, f01⟩
    clear c00 c01 f00 f01
    have B1 : Box w3 (hs + 1) (.bool t) (.slice q m d) := ⟨c10, c11, f10, f11⟩
    clear c10 c11 f10 f11
    have B2 : Box w3 (hs + 1 + 1) (.bool false) (.slice none 0 0) := ⟨c20, c21, f20, f21⟩
    clear c20 c21 f20 f21
    refine (signed_any _ p1 m1 m1 w3).mono ?_
    rintro e w4 ⟨rfl, hb4⟩
    have B0' : Box w4 (hs) (.bool s) (.slice p n c) := B0.below hb4
    clear B0
    have B0 := B0'
    clear B0'
    have B1' : Box w4 (hs + 1) (.bool t) (.slice q m d) := B1.below hb4
    clear B1
    have B1 := B1'
    clear B1'
    have B2' : Box w4 (hs + 1 + 1) (.bool false) (.slice none 0 0) := B2.below hb4
    clear B2
    have B2 := B2'
    clear B2'
    have H' : Hid (Num w4 p n c xs a) := H.out.below hb4
    clear H
    have H := H'
    clear H'
    have K' : Hid (Num w4 q m d ys b) := K.out.below hb4
    clear K
    have K := K'
    clear K'
    have HOW' : Hid (Own (hs + 1 + 1 + 1) w4 p1 m1 z1) := HOW.out.below hb4
    clear HOW
    have HOW := HOW'
    clear HOW'
    have hbw' := Below.on hbw hb4
    clear hbw
    have hbw := hbw'
    clear hbw'
    have hszW' : hs + 1 + 1 + 1 ≤ w4.heap.size := Nat.le_trans hszW hb4.size
    clear hszW
    have hszW := hszW'
    clear hszW'
    clear hb4
    rw [HV.out]
    obtain ⟨sz, hss⟩ : ∃ sz, sz = decide (z < 0) := ⟨_, rfl⟩
    rw [← hss]
    have HSZ : Hid (sz = decide (z < 0)) := hss
    clear hss
    obtain ⟨c00, c01, f00, f01⟩ := B0
    obtain ⟨c10, c11, f10, f11⟩ := B1
    obtain ⟨c20, c21, f20, f21⟩ := B2
    go_wp2_with fail
    refine bodyPost_ret (v := .tuple #[ZV sz p1 m1 m1, .int .i64 0]) (by rw [results_cell_tmp rfl]; go_simp) rfl ⟨.inl ⟨by rw [HAB.out.1]; exact HL.out, p1, m1, z1, by rw [HSZ.out], ?_, by rw [HAB.out.1]; exact HN.out, HM.out⟩, ?_⟩
    · exact ((HOW.out.setOld _ _ _ (by omega)).setOld _ _ _ (by omega)).mono (by have := HHS.out; omega)
    · exact bSet (bSet hbw _ _ _ (by have := HHS.out; omega)) _ _ _ (by have := HHS.out; omega)
  · have HL : Hid (LIM ≤ a * b) := hl
    clear hl hsz0
    obtain ⟨c00, c01, f00, f01⟩ := B0
    obtain ⟨c10, c11, f10, f11⟩ := B1
    obtain ⟨c20, c21, f20, f21⟩ := B2
    go_wp2_with fail
    have B0 : Box w3 (hs) (.bool s) (.slice p n c) := ⟨c00, c01, f00, f01⟩
    clear c00 c01 f00 f01
    have B1 : Box w3 (hs + 1) (.bool t) (.slice q m d) := ⟨c10, c11, f10, f11⟩
    clear c10 c11 f10 f11
    have B2 : Box w3 (hs + 1 + 1) (.bool false) (.slice none 0 0) := ⟨c20, c21, f20, f21⟩
    clear c20 c21 f20 f21
    refine (signed_any _ none 0 0 w3).mono ?_
    rintro e w4 ⟨rfl, hb4⟩
    have B0' : Box w4 (hs) (.bool s) (.slice p n c) := B0.below hb4
    clear B0
    have B0 := B0'
    clear B0'
    have B1' : Box w4 (hs + 1) (.bool t) (.slice q m d) := B1.below hb4
    clear B1
    have B1 := B1'
    clear B1'
    have B2' : Box w4 (hs + 1 + 1) (.bool false) (.slice none 0 0) := B2.below hb4
    clear B2
    have B2 := B2'
    clear B2'
    have H' : Hid (Num w4 p n c xs a) := H.out.below hb4
    clear H
    have H := H'
    clear H'
    have K' : Hid (Num w4 q m d ys b) := K.out.below hb4
    clear K
    have K := K'
    clear K'
    have hbw' := Below.on hbw hb4
    clear hbw
    have hbw := hbw'
    clear hbw'
    have hszW' : hs + 1 + 1 + 1 ≤ w4.heap.size := Nat.le_trans hszW hb4.size
    clear hszW
    have hszW := hszW'
    clear hszW'
    clear hb4
    rw [show ∀ x : Bool, (x && decide (0 < 0)) = false from fun x => by simp]
    obtain ⟨c00, c01, f00, f01⟩ := B0
    obtain ⟨c10, c11, f10, f11⟩ := B1
    obtain ⟨c20, c21, f20, f21⟩ := B2
    go_wp2_with fail
    refine bodyPost_ret (v := .tuple #[ZV false none 0 0, .int .i64 5]) (by rw [results_cell_tmp rfl]; go_simp) rfl ⟨.inr ⟨by rw [HAB.out.1]; exact HL.out, rfl⟩, ?_⟩
    exact bSet (bSet hbw _ _ _ (by have := HHS.out; omega)) _ _ _ (by have := HHS.out; omega)
end Go.Proofs.Ytmkglkdhnbjjhaa
