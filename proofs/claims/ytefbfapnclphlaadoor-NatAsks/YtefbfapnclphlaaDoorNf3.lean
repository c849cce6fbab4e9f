import Derived.Test.YtefbfapnclphlaaDoorNf2
namespace Go.Proofs.YtefbfapnclphlaaDoor
open Go.RowKit Go.Shelf

theorem At.setOther5 {w : World} {p : Option Addr} {n c : Nat} {xs : List Nat} (h : At w p n c xs) (g2 o2 : Nat) (v : Value) (hne : ∀ a, p = some a → a.block ≠ g2) : At (w.setCell ⟨g2, o2, none⟩ v) p n c xs := by
  refine ⟨h.len, h.cap, h.big, h.dig, ?_⟩
  rcases h.cells with h0 | ⟨g, off, rfl, hc⟩
  · exact .inl h0
  · refine .inr ⟨g, off, rfl, fun j hj => ?_⟩
    have hn : g ≠ g2 := hne ⟨g, off, none⟩ rfl
    rw [World.cell?_setCell_other _ _ _ _ (by intro e; apply hn; have := congrArg Addr.block e; simp at this; omega)]
    exact hc j hj
theorem bSetQ {B : Nat} {a w : World} (h : Below B a w) (g o : Nat) (v : Value) (hB : B ≤ g) : Below B a (w.setCell ⟨g, o, none⟩ v) :=
  h.trans ((Wr.refl g o 1 w).setCell o ⟨by omega, by omega⟩ v |>.below hB)
theorem results_cell1' {fn : Func} {p : Tmp} {ty : TypeId} (h : fn.results = #[.cell p ty]) (tmps : Array Value) (P : Program) (w : World) :
    (results fn tmps).run P w = ((asAddr (tmps.getD p undef)).run P w).andThen fun a w₁ => (loadVar ty a).run P w₁ := by
  simp only [results, h]
  simp [Sem.run_bind, Result.andThen]

set_option maxRecDepth 20000 in
set_option maxHeartbeats 4000000 in
theorem twin5 {pa pb : Option Addr} {na nb ca cb : Nat} {xa xb : List Nat} {w : World} (h : At w pa na ca xa) (k : At w pb nb cb xb) (hna : na ≤ 17592186044416) (hnb : nb ≤ 17592186044416) (kd nn : Int) (x : Nat) :
    Calls Tryd.prog 26 #[.agg #[.int .i64 kd, .slice pa na ca, .slice pb nb cb, .int .i64 nn, U x]] w fun e w' => ∃ p1 p2, e = .returned (.agg #[.int .i64 kd, .slice p1 na na, .slice p2 nb nb, .int .i64 nn, U x]) ∧ At w' p1 na na xa ∧ At w' p2 nb nb xb ∧ Below w.heap.size w w' := by
  have HA : Hid (At w pa na ca xa) := h
  have HB : Hid (At w pb nb cb xb) := k
  clear h k
  go_enter Tryd.func26, Tryd.ntmps26
  go_wp2_with fail
  have X0 : B5 ((w.alloc (.cells #[.int .i64 kd, .slice pa na ca, .slice pb nb cb, .int .i64 nn, U x] 40)).alloc (.cells #[.int .i64 0, .slice none 0 0, .slice none 0 0, .int .i64 0, .int .u64 0] 40)) w.heap.size (.int .i64 kd) (.slice pa na ca) (.slice pb nb cb) (.int .i64 nn) (U x) := ⟨by go_simp, by go_simp, by go_simp, by go_simp, by go_simp, by go_simp, by go_simp, by go_simp, by go_simp, by go_simp⟩
  have R0 : B5 ((w.alloc (.cells #[.int .i64 kd, .slice pa na ca, .slice pb nb cb, .int .i64 nn, U x] 40)).alloc (.cells #[.int .i64 0, .slice none 0 0, .slice none 0 0, .int .i64 0, .int .u64 0] 40)) (w.heap.size + 1) (.int .i64 0) (.slice none 0 0) (.slice none 0 0) (.int .i64 0) (.int .u64 0) := ⟨by go_simp, by go_simp, by go_simp, by go_simp, by go_simp, by go_simp, by go_simp, by go_simp, by go_simp, by go_simp⟩
  have hb0 : Below w.heap.size w ((w.alloc (.cells #[.int .i64 kd, .slice pa na ca, .slice pb nb cb, .int .i64 nn, U x] 40)).alloc (.cells #[.int .i64 0, .slice none 0 0, .slice none 0 0, .int .i64 0, .int .u64 0] 40)) := below2 w _ _
  have hsW : ((w.alloc (.cells #[.int .i64 kd, .slice pa na ca, .slice pb nb cb, .int .i64 nn, U x] 40)).alloc (.cells #[.int .i64 0, .slice none 0 0, .slice none 0 0, .int .i64 0, .int .u64 0] 40)).heap.size = w.heap.size + 1 + 1 := by simp
  generalize ((w.alloc (.cells #[.int .i64 kd, .slice pa na ca, .slice pb nb cb, .int .i64 nn, U x] 40)).alloc (.cells #[.int .i64 0, .slice none 0 0, .slice none 0 0, .int .i64 0, .int .u64 0] 40)) = W0 at *
  obtain ⟨hs, ehs⟩ : ∃ hs, hs = w.heap.size := ⟨_, rfl⟩
  have HHS : Hid (hs = w.heap.size) := ehs
  rw [← ehs] at X0 R0 hsW ⊢
  refine (twin_any (HA.out.below hb0) (by omega)).mono ?_
  rintro e w1 ⟨g1, rfl, hg1, hk1, hb1⟩
  have X1 : B5 w1 hs (.int .i64 kd) (.slice pa na ca) (.slice pb nb cb) (.int .i64 nn) (U x) := X0.below hb1
  have R1 : Hid (B5 w1 (hs + 1) (.int .i64 0) (.slice none 0 0) (.slice none 0 0) (.int .i64 0) (.int .u64 0)) := R0.below hb1
  have K1 : Hid (At w1 (some ⟨g1, 0, none⟩) na na xa) := hk1.at_ HA.out.dig HA.out.len (by unfold maxLen; omega)
  have HG1 : Hid (hs + 1 + 1 ≤ g1) := Nat.le_trans (Nat.le_of_eq hsW.symm) hg1
  have HB1 : Hid (Below w.heap.size w w1) := Below.on hb0 hb1
  have HS1 : Hid (hs + 1 + 1 ≤ w1.heap.size) := Nat.le_trans (Nat.le_of_eq hsW.symm) hb1.size
  obtain ⟨c0, c1, c2, c3, c4, c5, c6, c7, c8, c9⟩ := X1
  clear X0 R0 hb0 hsW ehs hg1 hk1 hb1
  go_wp2_with fail
  have X2 : Hid (B5 (w1.setCell ⟨hs, 1, none⟩ (.slice (some ⟨g1, 0, none⟩) na na)) hs (.int .i64 kd) (.slice (some ⟨g1, 0, none⟩) na na) (.slice pb nb cb) (.int .i64 nn) (U x)) := ⟨by go_simp, by go_simp, by go_simp, by go_simp, by go_simp, by go_simp, by go_simp, by go_simp, by go_simp, by go_simp⟩
  have R2 : Hid (B5 (w1.setCell ⟨hs, 1, none⟩ (.slice (some ⟨g1, 0, none⟩) na na)) (hs + 1) (.int .i64 0) (.slice none 0 0) (.slice none 0 0) (.int .i64 0) (.int .u64 0)) := by
    obtain ⟨r0, r1, r2, r3, r4, r5, r6, r7, r8, r9⟩ := R1.out
    exact ⟨by go_simp, by go_simp, by go_simp, by go_simp, by go_simp, by go_simp, by go_simp, by go_simp, by go_simp, by go_simp⟩
  have K2 : Hid (At (w1.setCell ⟨hs, 1, none⟩ (.slice (some ⟨g1, 0, none⟩) na na)) (some ⟨g1, 0, none⟩) na na xa) := K1.out.setOther5 _ _ _ (by intro a ha; cases ha; have := HG1.out; simp; omega)
  have HB2 : Hid (Below w.heap.size w (w1.setCell ⟨hs, 1, none⟩ (.slice (some ⟨g1, 0, none⟩) na na))) := HB1.out.trans ((Wr.refl hs 1 1 w1).setCell 1 ⟨by omega, by omega⟩ _ |>.below (by have := HHS.out; omega))
  have HS2 : Hid (hs + 1 + 1 ≤ (w1.setCell ⟨hs, 1, none⟩ (.slice (some ⟨g1, 0, none⟩) na na)).heap.size) := by have := HS1.out; show _ ≤ _; simp; exact this
  clear c0 c1 c2 c3 c4 c5 c6 c7 c8 c9
  clear R1 K1 HB1 HS1
  generalize w1.setCell ⟨hs, 1, none⟩ (.slice (some ⟨g1, 0, none⟩) na na) = w2 at *
  refine (twin_any (HB.out.below HB2.out) (by omega)).mono ?_
  rintro e w3 ⟨g2, rfl, hg2, hk2, hb2⟩
  have X3 : B5 w3 hs (.int .i64 kd) (.slice (some ⟨g1, 0, none⟩) na na) (.slice pb nb cb) (.int .i64 nn) (U x) := X2.out.below hb2
  have R3 : Hid (B5 w3 (hs + 1) (.int .i64 0) (.slice none 0 0) (.slice none 0 0) (.int .i64 0) (.int .u64 0)) := R2.out.below hb2
  have K3 : Hid (At w3 (some ⟨g1, 0, none⟩) na na xa) := K2.out.below hb2
  have L3 : Hid (At w3 (some ⟨g2, 0, none⟩) nb nb xb) := hk2.at_ HB.out.dig HB.out.len (by unfold maxLen; omega)
  have HG2 : Hid (hs + 1 + 1 ≤ g2) := Nat.le_trans HS2.out hg2
  have HB3 : Hid (Below w.heap.size w w3) := Below.on HB2.out hb2
  obtain ⟨c0, c1, c2, c3, c4, c5, c6, c7, c8, c9⟩ := X3
  obtain ⟨r0, r1, r2, r3, r4, r5, r6, r7, r8, r9⟩ := R3.out
  clear X2 R2 K2 HB2 HS2 hg2 hk2 hb2
  go_wp2_with fail
  refine bodyPost_ret (v := .agg #[.int .i64 kd, .slice (some ⟨g1, 0, none⟩) na na, .slice (some ⟨g2, 0, none⟩) nb nb, .int .i64 nn, U x]) (by rw [results_cell1' rfl]; go_simp) rfl ⟨_, _, rfl, ?_, ?_, ?_⟩
  · have hg1 := HG1.out
    have ne : ∀ a, some (⟨g1, 0, none⟩ : Addr) = some a → a.block ≠ hs := by intro a ha; cases ha; simp; omega
    have ne1 : ∀ a, some (⟨g1, 0, none⟩ : Addr) = some a → a.block ≠ hs + 1 := by intro a ha; cases ha; simp; omega
    exact (((((K3.out.setOther5 _ _ _ ne).setOther5 _ _ _ ne1).setOther5 _ _ _ ne1).setOther5 _ _ _ ne1).setOther5 _ _ _ ne1).setOther5 _ _ _ ne1
  · have hg2 := HG2.out
    have ne : ∀ a, some (⟨g2, 0, none⟩ : Addr) = some a → a.block ≠ hs := by intro a ha; cases ha; simp; omega
    have ne1 : ∀ a, some (⟨g2, 0, none⟩ : Addr) = some a → a.block ≠ hs + 1 := by intro a ha; cases ha; simp; omega
    exact (((((L3.out.setOther5 _ _ _ ne).setOther5 _ _ _ ne1).setOther5 _ _ _ ne1).setOther5 _ _ _ ne1).setOther5 _ _ _ ne1).setOther5 _ _ _ ne1
  · have h0 : w.heap.size ≤ hs := by have := HHS.out; omega
    have h1 : w.heap.size ≤ hs + 1 := by omega
    exact bSetQ (bSetQ (bSetQ (bSetQ (bSetQ (bSetQ HB3.out _ _ _ h0) _ _ _ h1) _ _ _ h1) _ _ _ h1) _ _ _ h1) _ _ _ h1

set_option maxRecDepth 20000 in
set_option maxHeartbeats 2000000 in
theorem list2 {pa pb : Option Addr} {na nb ca cb : Nat} {xa : List Nat} {w : World} (h : At w pa na ca xa) (_hna : na ≤ 17592186044416) (nn : Int) (x : Nat) (hx : x < B64) :
    Calls Tryd.prog 25 #[.agg #[.int .i64 2, .slice pa na ca, .slice pb nb cb, .int .i64 nn, U x]] w fun e w' => ∃ p' m' N' us f, e = .returned (.tuple #[.slice p' m' N', .int .u64 0, .int .i64 f]) ∧ At w' p' m' N' us ∧ DocIs (valB B64 xa) us f ∧ Below w.heap.size w w' := by
  have HA : Hid (At (w.alloc (.cells #[.int .i64 2, .slice pa na ca, .slice pb nb cb, .int .i64 nn, U x] 40)) pa na ca xa) := h.alloc _
  have HX : Hid (x < B64) := hx
  have hb0 : Below w.heap.size w (w.alloc (.cells #[.int .i64 2, .slice pa na ca, .slice pb nb cb, .int .i64 nn, U x] 40)) := below1 w _
  clear h hx
  go_enter Tryd.func25, Tryd.ntmps25
  go_wp2_with fail
  refine (normP HA.out).mono ?_
  rintro e w1 ⟨p1, m1, us, f1, rfl, hA1, hD1, hb1⟩
  have A1 : Hid (At w1 p1 m1 m1 us) := hA1
  have D1 : Hid (DocIs (valB B64 xa) us f1) := hD1
  have hbw := Below.on hb0 hb1
  clear hA1 hD1 hb1 hb0 HA
  go_wp2_with fail
  go_ret3
  exact ⟨p1, m1, m1, us, f1, rfl, A1.out, D1.out, hbw⟩

set_option maxRecDepth 20000 in
set_option maxHeartbeats 2000000 in
theorem list3 {pa pb : Option Addr} {na nb ca cb : Nat} {xa : List Nat} {w : World} (h : At w pa na ca xa) (_hna : na ≤ 17592186044416) (nn : Int) (x : Nat) (hx : x < B64) :
    Calls Tryd.prog 25 #[.agg #[.int .i64 3, .slice pa na ca, .slice pb nb cb, .int .i64 nn, U x]] w fun e w' => ∃ p' m' N' us, e = .returned (.tuple #[.slice p' m' N', .int .u64 0, .int .i64 0]) ∧ At w' p' m' N' us ∧ Nf B64 us x ∧ Below w.heap.size w w' := by
  have HA : Hid (At (w.alloc (.cells #[.int .i64 3, .slice pa na ca, .slice pb nb cb, .int .i64 nn, U x] 40)) pa na ca xa) := h.alloc _
  have HX : Hid (x < B64) := hx
  have hb0 : Below w.heap.size w (w.alloc (.cells #[.int .i64 3, .slice pa na ca, .slice pb nb cb, .int .i64 nn, U x] 40)) := below1 w _
  clear h hx
  go_enter Tryd.func25, Tryd.ntmps25
  go_wp2_with fail
  refine (word_any x _ HX.out).mono ?_
  rintro e w1 ⟨p1, m1, us, rfl, ho1, hn1, hm1, hb1⟩
  have A1 : Hid (At w1 p1 m1 m1 us) := ho1.at_ (by omega)
  have D1 : Hid (Nf B64 us x) := hn1
  have hbw := Below.on hb0 hb1
  clear ho1 hn1 hb1 hb0 HA
  go_wp2_with fail
  go_ret3
  exact ⟨p1, m1, m1, us, rfl, A1.out, D1.out, hbw⟩

set_option maxRecDepth 20000 in
set_option maxHeartbeats 2000000 in
theorem doc2 {pa pb : Option Addr} {na nb ca cb : Nat} {xa : List Nat} {w : World} (h : At w pa na ca xa) (hna : na ≤ 17592186044416) (nn : Int) (x : Nat) (hx : x < B64) :
    Calls Tryd.prog 27 #[.agg #[.int .i64 2, .slice pa na ca, .slice pb nb cb, .int .i64 nn, U x]] w fun e w' => ∃ p' m' N' us f, e = .returned (.tuple #[.slice p' m' N', .int .u64 0, .int .i64 f]) ∧ At w' p' m' N' us ∧ DocIs (valB B64 xa) us f ∧ Below w.heap.size w w' := by
  have HA : Hid (At (w.alloc (.cells #[.int .i64 2, .slice pa na ca, .slice pb nb cb, .int .i64 nn, U x] 40)) pa na ca xa) := h.alloc _
  have HX : Hid (x < B64) := hx
  have hb0 : Below w.heap.size w (w.alloc (.cells #[.int .i64 2, .slice pa na ca, .slice pb nb cb, .int .i64 nn, U x] 40)) := below1 w _
  clear h hx
  go_enter Tryd.func27, Tryd.ntmps27
  go_wp2_with fail
  refine (docnormD HA.out hna).mono ?_
  rintro e w1 ⟨p1, m1, N1, us, f1, rfl, hA1, hD1, hb1⟩
  have A1 : Hid (At w1 p1 m1 N1 us) := hA1
  have D1 : Hid (DocIs (valB B64 xa) us f1) := hD1
  have hbw := Below.on hb0 hb1
  clear hA1 hD1 hb1 hb0 HA
  go_wp2_with fail
  go_ret3
  exact ⟨p1, m1, N1, us, f1, rfl, A1.out, D1.out, hbw⟩

set_option maxRecDepth 20000 in
set_option maxHeartbeats 2000000 in
theorem doc3 {pa pb : Option Addr} {na nb ca cb : Nat} {xa : List Nat} {w : World} (h : At w pa na ca xa) (_hna : na ≤ 17592186044416) (nn : Int) (x : Nat) (hx : x < B64) :
    Calls Tryd.prog 27 #[.agg #[.int .i64 3, .slice pa na ca, .slice pb nb cb, .int .i64 nn, U x]] w fun e w' => ∃ p' m' N' us, e = .returned (.tuple #[.slice p' m' N', .int .u64 0, .int .i64 0]) ∧ At w' p' m' N' us ∧ Nf B64 us x ∧ Below w.heap.size w w' := by
  have HA : Hid (At (w.alloc (.cells #[.int .i64 3, .slice pa na ca, .slice pb nb cb, .int .i64 nn, U x] 40)) pa na ca xa) := h.alloc _
  have HX : Hid (x < B64) := hx
  have hb0 : Below w.heap.size w (w.alloc (.cells #[.int .i64 3, .slice pa na ca, .slice pb nb cb, .int .i64 nn, U x] 40)) := below1 w _
  clear h hx
  go_enter Tryd.func27, Tryd.ntmps27
  go_wp2_with fail
  refine (docwordD x HX.out _).mono ?_
  rintro e w1 ⟨p1, m1, N1, us, rfl, hA1, hn1, hb1⟩
  have A1 : Hid (At w1 p1 m1 N1 us) := hA1
  have D1 : Hid (Nf B64 us x) := hn1
  have hbw := Below.on hb0 hb1
  clear hA1 hn1 hb1 hb0 HA
  go_wp2_with fail
  go_ret3
  exact ⟨p1, m1, N1, us, rfl, A1.out, D1.out, hbw⟩
end Go.Proofs.YtefbfapnclphlaaDoor
