import Derived.Test.YtoajipejnmjdoaaGreatDoorEa7c
import Derived.Test.YtoajipejnmjdoaaGreatDoorJ14
import Derived.Test.YtoajipejnmjdoaaGreatDoorJ13
import Derived.Test.YtoajipejnmjdoaaGreatDoorJ12
namespace Go.Proofs.YtoajipejnmjdoaaGreatDoor
open Go.RowKit Go.Shelf
set_option maxRecDepth 20000
set_option maxHeartbeats 0
theorem top_lim {x e f : Int} (hx : x ≠ 0) : 524288 ≤ topI x e - min e f ↔ LIM ≤ (shX x e f).natAbs := by
  obtain ⟨k, hk⟩ : ∃ k, k = (e - min e f).toNat := ⟨_, rfl⟩
  have h1 : (shX x e f).natAbs = 2 ^ k * x.natAbs := by
    unfold shX
    rw [← hk, Int.natAbs_mul, Int.natAbs_pow, Nat.mul_comm]
    rfl
  have h2 := bitsN_shl x.natAbs k (by omega)
  obtain ⟨E, hE⟩ : ∃ E, E = 524288 := ⟨_, rfl⟩
  have h3 : LIM ≤ (shX x e f).natAbs ↔ E < bitsN (2 ^ k * x.natAbs) := by
    rw [h1, LIM_twoq hE]
    constructor
    · intro h
      exact (Nat.pow_lt_pow_iff_right (by decide : 1 < 2)).1 (Nat.lt_of_le_of_lt h (bitsN_lt _))
    · intro h
      have h5 : 2 ^ k * x.natAbs ≠ 0 := Nat.mul_ne_zero (by have := Nat.two_pow_pos k; omega) (by omega)
      exact Nat.le_trans (Nat.pow_le_pow_right (by decide) (by omega)) (bitsN_le _ h5)
  rw [h3, h2]
  unfold topI
  omega
theorem DQ.ofAt {B : Nat} {w : World} {s : Bool} {g m : Nat} {xs : List Nat} {e : Int} (h : At w (some ⟨g, 0, none⟩) m m xs) (hf : formD s xs e = true) (hg : B ≤ g) : DQ B w s (some ⟨g, 0, none⟩) m m e (iv s (valB B64 xs)) := ⟨formD_dn h hf, .inr ⟨g, rfl, hg⟩⟩
theorem docaddA {p q : Option Addr} {m c n d : Nat} {xs ys : List Nat} {w : World} {e f : Int} (s t : Bool) (h : At w p m c xs) (k : At w q n d ys) :
    Calls Tryz.prog 80 #[DV s p m c e, DV t q n d f] w fun en w' => ∃ zo eo er, SaidD w.heap.size w' en zo eo er ∧ TwoD AddR s xs e t ys f zo eo er ∧ Below w.heap.size w w' := by
  cases hf : formD s xs e
  · exact (docadd_w1 h k hf).mono fun en w' ⟨he, hb⟩ => ⟨0, 0, 2, he ▸ SaidD.err _ _ _, .inl ⟨.inl hf, rfl, rfl, rfl⟩, hb⟩
  cases kf : formD t ys f
  · exact (docadd_w2 h k hf kf).mono fun en w' ⟨he, hb⟩ => ⟨0, 0, 2, he ▸ SaidD.err _ _ _, .inl ⟨.inr kf, rfl, rfl, rfl⟩, hb⟩
  have hx := formD_dn h hf
  have hy := formD_dn k kf
  have lm := formD_le h hf
  have ln := formD_le k kf
  rcases Nat.eq_zero_or_pos m with h0 | h0
  · exact (docadd_x h k hf kf h0 ln).mono fun en w' ⟨g, he, hg, hA, hb⟩ => ⟨_, _, 0, ⟨_, _, _, _, he, DQ.ofAt hA kf hg⟩, .inr ⟨hf, kf, .inl ⟨zero_of hx h0, rfl, rfl, rfl⟩⟩, hb⟩
  have ox := odd_of hx h0
  rcases Nat.eq_zero_or_pos n with k0 | k0
  · exact (docadd_y h k hf kf h0 k0 lm).mono fun en w' ⟨g, he, hg, hA, hb⟩ => ⟨_, _, 0, ⟨_, _, _, _, he, DQ.ofAt hA hf hg⟩, .inr ⟨hf, kf, .inr (.inl ⟨by omega, zero_of hy k0, rfl, rfl, rfl⟩)⟩, hb⟩
  have oy := odd_of hy k0
  have nx : iv s (valB B64 xs) ≠ 0 := by omega
  have ny : iv t (valB B64 ys) ≠ 0 := by omega
  have tx := top_lim (e := e) (f := f) nx
  have ty := top_lim (e := f) (f := e) ny
  rw [Int.min_comm] at ty
  by_cases c1 : 524288 ≤ topI (iv s (valB B64 xs)) e - min e f
  · exact (docadd_ta h k hf kf h0 k0 c1).mono fun en w' ⟨he, hb⟩ => ⟨0, 0, 5, he ▸ SaidD.err _ _ _, .inr ⟨hf, kf, .inr (.inr ⟨nx, ny, .inr ⟨fun hh => by have := tx.1 c1; omega, rfl, rfl, rfl⟩⟩)⟩, hb⟩
  by_cases c2 : 524288 ≤ topI (iv t (valB B64 ys)) f - min e f
  · exact (docadd_tb h k hf kf h0 k0 ⟨c1, c2⟩).mono fun en w' ⟨he, hb⟩ => ⟨0, 0, 5, he ▸ SaidD.err _ _ _, .inr ⟨hf, kf, .inr (.inr ⟨nx, ny, .inr ⟨fun hh => by have := ty.1 c2; omega, rfl, rfl, rfl⟩⟩)⟩, hb⟩
  have lx : (shX (iv s (valB B64 xs)) e f).natAbs < LIM := Nat.lt_of_not_le fun hh => c1 (tx.2 hh)
  have ly : (shX (iv t (valB B64 ys)) f e).natAbs < LIM := Nat.lt_of_not_le fun hh => c2 (ty.2 hh)
  by_cases c3 : (shX (iv s (valB B64 xs)) e f + shX (iv t (valB B64 ys)) f e).natAbs < LIM
  · exact (docadd_n h k hf kf h0 k0 lm ln c1 c2 c3).mono fun en w' ⟨zo, eo, er, h1, h2, hb⟩ => ⟨zo, eo, er, h1, .inr ⟨hf, kf, .inr (.inr ⟨nx, ny, .inl ⟨lx, ly, c3, h2⟩⟩)⟩, hb⟩
  · exact (docadd_s h k hf kf h0 k0 lm ln c1 c2 (by omega)).mono fun en w' ⟨he, hb⟩ => ⟨0, 0, 5, he ▸ SaidD.err _ _ _, .inr ⟨hf, kf, .inr (.inr ⟨nx, ny, .inr ⟨fun hh => c3 hh.2.2, rfl, rfl, rfl⟩⟩)⟩, hb⟩
theorem docsub_w1 {p q : Option Addr} {m c n d : Nat} {xs ys : List Nat} {w : World} {e f : Int} {s t : Bool} (h : At w p m c xs) (k : At w q n d ys) (h1 : formD s xs e = false) :
    Calls Tryz.prog 81 #[DV s p m c e, DV t q n d f] w fun en w' => en = .returned (.tuple #[DV false none 0 0 0, .int .i64 2]) ∧ Below w.heap.size w w' := by
  have H : Hid (At w p m c xs) := h
  have K : Hid (At w q n d ys) := k
  have HC : Hid (formD s xs e = false) := h1
  clear h k h1
  go_enter Tryz.func81, Tryz.ntmps81
  go_wp2_with fail
  obtain ⟨W0, hW0⟩ : ∃ W0, W0 = (((w.alloc (.cells #[.bool s, .slice p m c, .int .i64 e] 30)).alloc (.cells #[.bool t, .slice q n d, .int .i64 f] 30)).alloc (.cells #[.bool false, .slice none 0 0, .int .i64 0] 30)) := ⟨_, rfl⟩
  have Xa : Hid (B3q W0 (w.heap.size) (.bool s) (.slice p m c) (.int .i64 e)) := by rw [hW0]; exact ⟨by go_simp, by go_simp, by go_simp, by go_simp, by go_simp, by go_simp⟩
  have Xb : Hid (B3q W0 (w.heap.size + 1) (.bool t) (.slice q n d) (.int .i64 f)) := by rw [hW0]; exact ⟨by go_simp, by go_simp, by go_simp, by go_simp, by go_simp, by go_simp⟩
  have Xr : Hid (B3q W0 (w.heap.size + 1 + 1) (.bool false) (.slice none 0 0) (.int .i64 0)) := by rw [hW0]; exact ⟨by go_simp, by go_simp, by go_simp, by go_simp, by go_simp, by go_simp⟩
  have hb0 : Below w.heap.size w W0 := by rw [hW0]; exact below3 w _ _ _
  rw [← hW0]
  clear hW0
  have hbw : Below w.heap.size w w := Below.refl _ _
  obtain ⟨gr, hgr⟩ : ∃ g, g = w.heap.size + 1 + 1 := ⟨_, rfl⟩
  have HGr : Hid (w.heap.size ≤ gr) := by rw [hgr]; show _ ≤ _; omega
  rw [← hgr] at Xr
  try rw [← hgr]
  obtain ⟨gb, hgb⟩ : ∃ g, g = w.heap.size + 1 := ⟨_, rfl⟩
  have HGb : Hid (w.heap.size ≤ gb) := by rw [hgb]; show _ ≤ _; omega
  rw [← hgb] at Xb
  try rw [← hgb]
  obtain ⟨ga, hga⟩ : ∃ g, g = w.heap.size := ⟨_, rfl⟩
  have HGa : Hid (w.heap.size ≤ ga) := by rw [hga]; show _ ≤ _; omega
  rw [← hga] at Xa
  try rw [← hga]
  have HGD : Hid (ga ≠ gb ∧ ga ≠ gr ∧ gb ≠ ga ∧ gb ≠ gr ∧ gr ≠ ga ∧ gr ≠ gb) := by rw [hga, hgb, hgr]; exact ⟨by omega, by omega, by omega, by omega, by omega, by omega⟩
  clear hga hgb hgr
  replace H : Hid _ := H.out.below hb0
  replace K : Hid _ := K.out.below hb0
  replace hbw := Below.on hbw hb0
  clear hb0
  refine (docformd s H.out).mono ?_
  rintro e v1 ⟨rfl, hb1⟩
  rw [HC.out]
  replace Xa : Hid _ := Xa.out.below hb1
  replace Xb : Hid _ := Xb.out.below hb1
  replace Xr : Hid _ := Xr.out.below hb1
  replace H : Hid _ := H.out.below hb1
  replace K : Hid _ := K.out.below hb1
  replace hbw := Below.on hbw hb1
  clear hb1
  obtain ⟨cb0, cb1, cb2, fb0, fb1, fb2⟩ := Xb.out
  have hneb : gb < v1.heap.size := World.block_lt_of_cell? v1 _ cb0
  obtain ⟨cr0, cr1, cr2, fr0, fr1, fr2⟩ := Xr.out
  have hner : gr < v1.heap.size := World.block_lt_of_cell? v1 _ cr0
  go_wp2_with fail
  refine bodyPost_ret (v := .tuple #[DV false none 0 0 0, .int .i64 2]) (by rw [results_cell_tmp rfl]; go_simp) rfl ⟨rfl, ?_⟩
  first | exact hbw | exact bSet (bSet (bSet hbw _ _ _ HGr.out) _ _ _ HGr.out) _ _ _ HGr.out | exact Below.on (bSet (bSet (bSet hbw _ _ _ HGr.out) _ _ _ HGr.out) _ _ _ HGr.out) (below1 _ _) | exact Below.on (Below.on (bSet (bSet (bSet hbw _ _ _ HGr.out) _ _ _ HGr.out) _ _ _ HGr.out) (below1 _ _)) (below1 _ _)
theorem docsub_w2 {p q : Option Addr} {m c n d : Nat} {xs ys : List Nat} {w : World} {e f : Int} {s t : Bool} (h : At w p m c xs) (k : At w q n d ys) (h1 : formD s xs e = true) (h2 : formD t ys f = false) :
    Calls Tryz.prog 81 #[DV s p m c e, DV t q n d f] w fun en w' => en = .returned (.tuple #[DV false none 0 0 0, .int .i64 2]) ∧ Below w.heap.size w w' := by
  have H : Hid (At w p m c xs) := h
  have K : Hid (At w q n d ys) := k
  have HC : Hid (formD s xs e = true ∧ formD t ys f = false) := ⟨h1, h2⟩
  clear h k h1 h2
  go_enter Tryz.func81, Tryz.ntmps81
  go_wp2_with fail
  obtain ⟨W0, hW0⟩ : ∃ W0, W0 = (((w.alloc (.cells #[.bool s, .slice p m c, .int .i64 e] 30)).alloc (.cells #[.bool t, .slice q n d, .int .i64 f] 30)).alloc (.cells #[.bool false, .slice none 0 0, .int .i64 0] 30)) := ⟨_, rfl⟩
  have Xa : Hid (B3q W0 (w.heap.size) (.bool s) (.slice p m c) (.int .i64 e)) := by rw [hW0]; exact ⟨by go_simp, by go_simp, by go_simp, by go_simp, by go_simp, by go_simp⟩
  have Xb : Hid (B3q W0 (w.heap.size + 1) (.bool t) (.slice q n d) (.int .i64 f)) := by rw [hW0]; exact ⟨by go_simp, by go_simp, by go_simp, by go_simp, by go_simp, by go_simp⟩
  have Xr : Hid (B3q W0 (w.heap.size + 1 + 1) (.bool false) (.slice none 0 0) (.int .i64 0)) := by rw [hW0]; exact ⟨by go_simp, by go_simp, by go_simp, by go_simp, by go_simp, by go_simp⟩
  have hb0 : Below w.heap.size w W0 := by rw [hW0]; exact below3 w _ _ _
  rw [← hW0]
  clear hW0
  have hbw : Below w.heap.size w w := Below.refl _ _
  obtain ⟨gr, hgr⟩ : ∃ g, g = w.heap.size + 1 + 1 := ⟨_, rfl⟩
  have HGr : Hid (w.heap.size ≤ gr) := by rw [hgr]; show _ ≤ _; omega
  rw [← hgr] at Xr
  try rw [← hgr]
  obtain ⟨gb, hgb⟩ : ∃ g, g = w.heap.size + 1 := ⟨_, rfl⟩
  have HGb : Hid (w.heap.size ≤ gb) := by rw [hgb]; show _ ≤ _; omega
  rw [← hgb] at Xb
  try rw [← hgb]
  obtain ⟨ga, hga⟩ : ∃ g, g = w.heap.size := ⟨_, rfl⟩
  have HGa : Hid (w.heap.size ≤ ga) := by rw [hga]; show _ ≤ _; omega
  rw [← hga] at Xa
  try rw [← hga]
  have HGD : Hid (ga ≠ gb ∧ ga ≠ gr ∧ gb ≠ ga ∧ gb ≠ gr ∧ gr ≠ ga ∧ gr ≠ gb) := by rw [hga, hgb, hgr]; exact ⟨by omega, by omega, by omega, by omega, by omega, by omega⟩
  clear hga hgb hgr
  replace H : Hid _ := H.out.below hb0
  replace K : Hid _ := K.out.below hb0
  replace hbw := Below.on hbw hb0
  clear hb0
  refine (docformd s H.out).mono ?_
  rintro e v1 ⟨rfl, hb1⟩
  rw [HC.out.1]
  replace Xa : Hid _ := Xa.out.below hb1
  replace Xb : Hid _ := Xb.out.below hb1
  replace Xr : Hid _ := Xr.out.below hb1
  replace H : Hid _ := H.out.below hb1
  replace K : Hid _ := K.out.below hb1
  replace hbw := Below.on hbw hb1
  clear hb1
  obtain ⟨cb0, cb1, cb2, fb0, fb1, fb2⟩ := Xb.out
  have hneb : gb < v1.heap.size := World.block_lt_of_cell? v1 _ cb0
  go_wp2_with fail
  clear cb0 cb1 cb2 fb0 fb1 fb2 hneb
  refine (docformd t K.out).mono ?_
  rintro e v2 ⟨rfl, hb2⟩
  rw [HC.out.2]
  replace Xa : Hid _ := Xa.out.below hb2
  replace Xb : Hid _ := Xb.out.below hb2
  replace Xr : Hid _ := Xr.out.below hb2
  replace H : Hid _ := H.out.below hb2
  replace K : Hid _ := K.out.below hb2
  replace hbw := Below.on hbw hb2
  clear hb2
  obtain ⟨cr0, cr1, cr2, fr0, fr1, fr2⟩ := Xr.out
  have hner : gr < v2.heap.size := World.block_lt_of_cell? v2 _ cr0
  go_wp2_with fail
  refine bodyPost_ret (v := .tuple #[DV false none 0 0 0, .int .i64 2]) (by rw [results_cell_tmp rfl]; go_simp) rfl ⟨rfl, ?_⟩
  first | exact hbw | exact bSet (bSet (bSet hbw _ _ _ HGr.out) _ _ _ HGr.out) _ _ _ HGr.out | exact Below.on (bSet (bSet (bSet hbw _ _ _ HGr.out) _ _ _ HGr.out) _ _ _ HGr.out) (below1 _ _) | exact Below.on (Below.on (bSet (bSet (bSet hbw _ _ _ HGr.out) _ _ _ HGr.out) _ _ _ HGr.out) (below1 _ _)) (below1 _ _)
theorem docsub_n {p q : Option Addr} {m c n d : Nat} {xs ys : List Nat} {w : World} {e f : Int} {s t : Bool} (h : At w p m c xs) (k : At w q n d ys) (h1 : formD s xs e = true) (h2 : formD t ys f = true) :
    Calls Tryz.prog 81 #[DV s p m c e, DV t q n d f] w fun en w' => ∃ zo eo er, SaidD w.heap.size w' en zo eo er ∧ SubR (iv s (valB B64 xs)) e (iv t (valB B64 ys)) f zo eo er ∧ Below w.heap.size w w' := by
  have H : Hid (At w p m c xs) := h
  have K : Hid (At w q n d ys) := k
  have HC : Hid (formD s xs e = true ∧ formD t ys f = true) := ⟨h1, h2⟩
  clear h k h1 h2
  go_enter Tryz.func81, Tryz.ntmps81
  go_wp2_with fail
  obtain ⟨W0, hW0⟩ : ∃ W0, W0 = (((w.alloc (.cells #[.bool s, .slice p m c, .int .i64 e] 30)).alloc (.cells #[.bool t, .slice q n d, .int .i64 f] 30)).alloc (.cells #[.bool false, .slice none 0 0, .int .i64 0] 30)) := ⟨_, rfl⟩
  have Xa : Hid (B3q W0 (w.heap.size) (.bool s) (.slice p m c) (.int .i64 e)) := by rw [hW0]; exact ⟨by go_simp, by go_simp, by go_simp, by go_simp, by go_simp, by go_simp⟩
  have Xb : Hid (B3q W0 (w.heap.size + 1) (.bool t) (.slice q n d) (.int .i64 f)) := by rw [hW0]; exact ⟨by go_simp, by go_simp, by go_simp, by go_simp, by go_simp, by go_simp⟩
  have Xr : Hid (B3q W0 (w.heap.size + 1 + 1) (.bool false) (.slice none 0 0) (.int .i64 0)) := by rw [hW0]; exact ⟨by go_simp, by go_simp, by go_simp, by go_simp, by go_simp, by go_simp⟩
  have hb0 : Below w.heap.size w W0 := by rw [hW0]; exact below3 w _ _ _
  rw [← hW0]
  clear hW0
  have hbw : Below w.heap.size w w := Below.refl _ _
  obtain ⟨gr, hgr⟩ : ∃ g, g = w.heap.size + 1 + 1 := ⟨_, rfl⟩
  have HGr : Hid (w.heap.size ≤ gr) := by rw [hgr]; show _ ≤ _; omega
  rw [← hgr] at Xr
  try rw [← hgr]
  obtain ⟨gb, hgb⟩ : ∃ g, g = w.heap.size + 1 := ⟨_, rfl⟩
  have HGb : Hid (w.heap.size ≤ gb) := by rw [hgb]; show _ ≤ _; omega
  rw [← hgb] at Xb
  try rw [← hgb]
  obtain ⟨ga, hga⟩ : ∃ g, g = w.heap.size := ⟨_, rfl⟩
  have HGa : Hid (w.heap.size ≤ ga) := by rw [hga]; show _ ≤ _; omega
  rw [← hga] at Xa
  try rw [← hga]
  have HGD : Hid (ga ≠ gb ∧ ga ≠ gr ∧ gb ≠ ga ∧ gb ≠ gr ∧ gr ≠ ga ∧ gr ≠ gb) := by rw [hga, hgb, hgr]; exact ⟨by omega, by omega, by omega, by omega, by omega, by omega⟩
  clear hga hgb hgr
  replace H : Hid _ := H.out.below hb0
  replace K : Hid _ := K.out.below hb0
  replace hbw := Below.on hbw hb0
  clear hb0
  refine (docformd s H.out).mono ?_
  rintro e v1 ⟨rfl, hb1⟩
  rw [HC.out.1]
  replace Xa : Hid _ := Xa.out.below hb1
  replace Xb : Hid _ := Xb.out.below hb1
  replace Xr : Hid _ := Xr.out.below hb1
  replace H : Hid _ := H.out.below hb1
  replace K : Hid _ := K.out.below hb1
  replace hbw := Below.on hbw hb1
  clear hb1
  obtain ⟨cb0, cb1, cb2, fb0, fb1, fb2⟩ := Xb.out
  have hneb : gb < v1.heap.size := World.block_lt_of_cell? v1 _ cb0
  go_wp2_with fail
  clear cb0 cb1 cb2 fb0 fb1 fb2 hneb
  refine (docformd t K.out).mono ?_
  rintro e v2 ⟨rfl, hb2⟩
  rw [HC.out.2]
  replace Xa : Hid _ := Xa.out.below hb2
  replace Xb : Hid _ := Xb.out.below hb2
  replace Xr : Hid _ := Xr.out.below hb2
  replace H : Hid _ := H.out.below hb2
  replace K : Hid _ := K.out.below hb2
  replace hbw := Below.on hbw hb2
  clear hb2
  obtain ⟨cb0, cb1, cb2, fb0, fb1, fb2⟩ := Xb.out
  have hneb : gb < v2.heap.size := World.block_lt_of_cell? v2 _ cb0
  go_wp2_with fail
  clear cb0 cb1 cb2 fb0 fb1 fb2 hneb
  refine (docnegA t K.out).mono ?_
  rintro en5 v5 ⟨z5, e5, r5, ⟨s5, p5, m5, c5, rfl, hq5⟩, ho5, hb5⟩
  replace Xa : Hid _ := Xa.out.below hb5
  replace Xb : Hid _ := Xb.out.below hb5
  replace Xr : Hid _ := Xr.out.below hb5
  replace H : Hid _ := H.out.below hb5
  replace K : Hid _ := K.out.below hb5
  replace hbw := Below.on hbw hb5
  clear hb5
  have hn5 : NegR (iv t (valB B64 ys)) f z5 e5 r5 := by rcases ho5 with ⟨h1, _⟩ | ⟨_, h1⟩; rw [HC.out.2] at h1; cases h1; exact h1
  obtain ⟨hz5, he5, hr5⟩ := hn5
  obtain ⟨ws, hX5⟩ := hq5.dn.zn.ex
  have hA5 := hX5.at_
  have hF5 := dn_formD hq5.dn hX5
  have hV5 : iv s5 (valB B64 ws) = z5 := by rw [hX5.nf.val]; exact hq5.dn.zn.iv
  have A5 : Hid (At v5 p5 m5 c5 ws) := hA5
  have H5 : Hid (formD s5 ws e5 = true ∧ iv s5 (valB B64 ws) = -(iv t (valB B64 ys)) ∧ e5 = f) := ⟨hF5, by rw [hV5, hz5], he5⟩
  clear ho5 hz5 he5 hr5 hA5 hF5 hV5 hq5 hX5
  obtain ⟨ca0, ca1, ca2, fa0, fa1, fa2⟩ := Xa.out
  have hnea : ga < v5.heap.size := World.block_lt_of_cell? v5 _ ca0
  go_wp2_with fail
  clear ca0 ca1 ca2 fa0 fa1 fa2 hnea
  have Xn0 : Hid (B3q (v5.alloc (.cells #[.bool s5, .slice p5 m5 c5, .int .i64 e5] 30)) v5.heap.size (.bool s5) (.slice p5 m5 c5) (.int .i64 e5)) := B3q.new v5 _ _ _ _
  have hbn : Below v5.heap.size v5 (v5.alloc (.cells #[.bool s5, .slice p5 m5 c5, .int .i64 e5] 30)) := below1 v5 _
  generalize v5.alloc (.cells #[.bool s5, .slice p5 m5 c5, .int .i64 e5] 30) = W6 at *
  have HGn : Hid (w.heap.size ≤ v5.heap.size) := hbw.size
  replace Xa : Hid _ := Xa.out.below hbn
  replace Xb : Hid _ := Xb.out.below hbn
  replace Xr : Hid _ := Xr.out.below hbn
  replace H : Hid _ := H.out.below hbn
  replace K : Hid _ := K.out.below hbn
  replace A5 : Hid _ := A5.out.below hbn
  replace hbw := Below.on hbw hbn
  clear hbn
  generalize v5.heap.size = gn at *
  have Xn := Xn0
  clear Xn0
  obtain ⟨ca0, ca1, ca2, fa0, fa1, fa2⟩ := Xa.out
  have hnea : ga < W6.heap.size := World.block_lt_of_cell? W6 _ ca0
  obtain ⟨cn0, cn1, cn2, fn0, fn1, fn2⟩ := Xn.out
  have hnen : gn < W6.heap.size := World.block_lt_of_cell? W6 _ cn0
  go_wp2_with fail
  clear ca0 ca1 ca2 fa0 fa1 fa2 hnea
  clear cn0 cn1 cn2 fn0 fn1 fn2 hnen
  have HRL : Hid (gr < W6.heap.size ∧ w.heap.size ≤ W6.heap.size) := ⟨Xr.out.lt, hbw.size⟩
  refine (docaddA s s5 H.out A5.out).mono ?_
  rintro e2 v9 ⟨zo, eo, er, ⟨s9, p9, m9, c9, rfl, hq9⟩, hr9, hb9⟩
  replace Xa : Hid _ := Xa.out.below hb9
  replace Xb : Hid _ := Xb.out.below hb9
  replace Xr : Hid _ := Xr.out.below hb9
  replace Xn : Hid _ := Xn.out.below hb9
  replace H : Hid _ := H.out.below hb9
  replace K : Hid _ := K.out.below hb9
  replace A5 : Hid _ := A5.out.below hb9
  replace hbw := Below.on hbw hb9
  clear hb9
  have Q9 : Hid (DQ W6.heap.size v9 s9 p9 m9 c9 eo zo) := hq9
  have R9 : Hid (SubR (iv s (valB B64 xs)) e (iv t (valB B64 ys)) f zo eo er) := by
    rcases hr9 with ⟨h1, _⟩ | ⟨_, _, h1⟩
    · rcases h1 with h1 | h1
      · rw [HC.out.1] at h1; cases h1
      · rw [H5.out.1] at h1; cases h1
    · rw [H5.out.2.1, H5.out.2.2] at h1; exact h1
  clear hq9 hr9
  obtain ⟨cr0, cr1, cr2, fr0, fr1, fr2⟩ := Xr.out
  have hner : gr < v9.heap.size := World.block_lt_of_cell? v9 _ cr0
  go_wp2_with fail
  refine bodyPost_ret (v := .tuple #[DV s9 p9 m9 c9 eo, .int .i64 er]) (by rw [results_cell_tmp rfl]; go_simp) rfl ⟨zo, eo, er, ⟨s9, p9, m9, c9, rfl, Q9.out.set3 HRL.out.1 HRL.out.2 _ _ _⟩, R9.out, ?_⟩
  exact bSet (bSet (bSet hbw _ _ _ HGr.out) _ _ _ HGr.out) _ _ _ HGr.out
theorem docsubA {p q : Option Addr} {m c n d : Nat} {xs ys : List Nat} {w : World} {e f : Int} (s t : Bool) (h : At w p m c xs) (k : At w q n d ys) :
    Calls Tryz.prog 81 #[DV s p m c e, DV t q n d f] w fun en w' => ∃ zo eo er, SaidD w.heap.size w' en zo eo er ∧ TwoD SubR s xs e t ys f zo eo er ∧ Below w.heap.size w w' := by
  cases hf : formD s xs e
  · exact (docsub_w1 h k hf).mono fun en w' ⟨he, hb⟩ => ⟨0, 0, 2, he ▸ SaidD.err _ _ _, .inl ⟨.inl hf, rfl, rfl, rfl⟩, hb⟩
  cases kf : formD t ys f
  · exact (docsub_w2 h k hf kf).mono fun en w' ⟨he, hb⟩ => ⟨0, 0, 2, he ▸ SaidD.err _ _ _, .inl ⟨.inr kf, rfl, rfl, rfl⟩, hb⟩
  exact (docsub_n h k hf kf).mono fun en w' ⟨zo, eo, er, h1, h2, hb⟩ => ⟨zo, eo, er, h1, .inr ⟨hf, kf, h2⟩, hb⟩
theorem answer5_6 {pa pb pm : Option Addr} {na ca nb cb nm cm : Nat} {xa xb xm : List Nat} {w : World} {ea eb nn : Int} (sa sb sm : Bool) (ha : At w pa na ca xa) (hb : At w pb nb cb xb) (hm : At w pm nm cm xm) (hn : na ≤ 17592186044416 ∧ nb ≤ 17592186044416 ∧ nm ≤ 17592186044416 ∧ -9223372036854775808 ≤ nn ∧ nn ≤ 9223372036854775807) (hT : Tab w) :
    Calls Tryz.prog 44 #[(.agg #[.int .i64 6, .bool sa, .slice pa na ca, .int .i64 ea, .bool sb, .slice pb nb cb, .int .i64 eb, .bool sm, .slice pm nm cm, .int .i64 nn])] w fun en w' => ∃ zo eo er, SaidD w.heap.size w' en zo eo er ∧ OneD NegR sa xa ea zo eo er ∧ Below w.heap.size w w' := by
  have HA : Hid (At w pa na ca xa) := ha
  have HB : Hid (At w pb nb cb xb) := hb
  have HM : Hid (At w pm nm cm xm) := hm
  have HN : Hid (na ≤ 17592186044416 ∧ nb ≤ 17592186044416 ∧ nm ≤ 17592186044416 ∧ -9223372036854775808 ≤ nn ∧ nn ≤ 9223372036854775807) := hn
  have TB : Hid (Tab w) := hT
  clear ha hb hm hn hT
  go_enter Tryz.func44, Tryz.ntmps44
  go_wp2_with fail
  obtain ⟨W0, hW0⟩ : ∃ W0, W0 = ((w.alloc (.cells #[.int .i64 6, .bool sa, .slice pa na ca, .int .i64 ea, .bool sb, .slice pb nb cb, .int .i64 eb, .bool sm, .slice pm nm cm, .int .i64 nn] 46)).alloc (.cells #[.bool false, .slice none 0 0, .int .i64 0] 30)) := ⟨_, rfl⟩
  have Xo : Hid (B10q W0 (w.heap.size) (.int .i64 6) (.bool sa) (.slice pa na ca) (.int .i64 ea) (.bool sb) (.slice pb nb cb) (.int .i64 eb) (.bool sm) (.slice pm nm cm) (.int .i64 nn)) := by rw [hW0]; exact ⟨by go_simp, by go_simp, by go_simp, by go_simp, by go_simp, by go_simp, by go_simp, by go_simp, by go_simp, by go_simp, by go_simp, by go_simp, by go_simp, by go_simp, by go_simp, by go_simp, by go_simp, by go_simp, by go_simp, by go_simp⟩
  have Xr : Hid (B3q W0 (w.heap.size + 1) (.bool false) (.slice none 0 0) (.int .i64 0)) := by rw [hW0]; exact ⟨by go_simp, by go_simp, by go_simp, by go_simp, by go_simp, by go_simp⟩
  have hb0 : Below w.heap.size w W0 := by rw [hW0]; exact below2 w _ _
  rw [← hW0]
  clear hW0
  have hbw : Below w.heap.size w w := Below.refl _ _
  obtain ⟨gr, hgr⟩ : ∃ g, g = w.heap.size + 1 := ⟨_, rfl⟩
  have HGr : Hid (w.heap.size ≤ gr) := by rw [hgr]; show _ ≤ _; omega
  rw [← hgr] at Xr
  try rw [← hgr]
  obtain ⟨go, hgo⟩ : ∃ g, g = w.heap.size := ⟨_, rfl⟩
  have HGo : Hid (w.heap.size ≤ go) := by rw [hgo]; show _ ≤ _; omega
  rw [← hgo] at Xo
  try rw [← hgo]
  have HGD : Hid (go ≠ gr ∧ gr ≠ go) := by rw [hgo, hgr]; exact ⟨by omega, by omega⟩
  clear hgo hgr
  replace HA : Hid _ := HA.out.below hb0
  replace HB : Hid _ := HB.out.below hb0
  replace HM : Hid _ := HM.out.below hb0
  replace hbw := Below.on hbw hb0
  clear hb0
  obtain ⟨co0, co1, co2, co3, co4, co5, co6, co7, co8, co9, fo0, fo1, fo2, fo3, fo4, fo5, fo6, fo7, fo8, fo9⟩ := Xo.out
  have hneo : go < W0.heap.size := World.block_lt_of_cell? W0 _ co0
  go_wp2_with fail
  clear co0 co1 co2 co3 co4 co5 co6 co7 co8 co9 fo0 fo1 fo2 fo3 fo4 fo5 fo6 fo7 fo8 fo9 hneo
  have HRL : Hid (gr < W0.heap.size ∧ w.heap.size ≤ W0.heap.size) := ⟨Xr.out.lt, hbw.size⟩
  refine (dnegA sa HA.out).mono ?_
  rintro e2 v6 ⟨zo, eo, er, ⟨s6, p6, m6, c6, rfl, hq6⟩, hr6, hb6⟩
  replace Xo : Hid (B10q v6 go (.int .i64 6) (.bool sa) (.slice pa na ca) (.int .i64 ea) (.bool sb) (.slice pb nb cb) (.int .i64 eb) (.bool sm) (.slice pm nm cm) (.int .i64 nn)) := Xo.out.below hb6
  replace Xr : Hid _ := Xr.out.below hb6
  replace HA : Hid _ := HA.out.below hb6
  replace HB : Hid _ := HB.out.below hb6
  replace HM : Hid _ := HM.out.below hb6
  replace hbw := Below.on hbw hb6
  clear hb6
  have Q6 : Hid (DQ W0.heap.size v6 s6 p6 m6 c6 eo zo) := hq6
  have R6 : Hid (OneD NegR sa xa ea zo eo er) := hr6
  clear hq6 hr6
  obtain ⟨cr0, cr1, cr2, fr0, fr1, fr2⟩ := Xr.out
  have hner : gr < v6.heap.size := World.block_lt_of_cell? v6 _ cr0
  go_wp2_with fail
  refine bodyPost_ret (v := .tuple #[DV s6 p6 m6 c6 eo, .int .i64 er]) (by rw [results_cell_tmp rfl]; go_simp) rfl ⟨zo, eo, er, ⟨s6, p6, m6, c6, rfl, Q6.out.set3 HRL.out.1 HRL.out.2 _ _ _⟩, R6.out, ?_⟩
  exact bSet (bSet (bSet hbw _ _ _ HGr.out) _ _ _ HGr.out) _ _ _ HGr.out
theorem doc5_6 {pa pb pm : Option Addr} {na ca nb cb nm cm : Nat} {xa xb xm : List Nat} {w : World} {ea eb nn : Int} (sa sb sm : Bool) (ha : At w pa na ca xa) (hb : At w pb nb cb xb) (hm : At w pm nm cm xm) (hn : na ≤ 17592186044416 ∧ nb ≤ 17592186044416 ∧ nm ≤ 17592186044416 ∧ -9223372036854775808 ≤ nn ∧ nn ≤ 9223372036854775807) (hT : Tab w) :
    Calls Tryz.prog 45 #[(.agg #[.int .i64 6, .bool sa, .slice pa na ca, .int .i64 ea, .bool sb, .slice pb nb cb, .int .i64 eb, .bool sm, .slice pm nm cm, .int .i64 nn])] w fun en w' => ∃ zo eo er, SaidD w.heap.size w' en zo eo er ∧ OneD NegR sa xa ea zo eo er ∧ Below w.heap.size w w' := by
  have HA : Hid (At w pa na ca xa) := ha
  have HB : Hid (At w pb nb cb xb) := hb
  have HM : Hid (At w pm nm cm xm) := hm
  have HN : Hid (na ≤ 17592186044416 ∧ nb ≤ 17592186044416 ∧ nm ≤ 17592186044416 ∧ -9223372036854775808 ≤ nn ∧ nn ≤ 9223372036854775807) := hn
  have TB : Hid (Tab w) := hT
  clear ha hb hm hn hT
  go_enter Tryz.func45, Tryz.ntmps45
  go_wp2_with fail
  obtain ⟨W0, hW0⟩ : ∃ W0, W0 = ((w.alloc (.cells #[.int .i64 6, .bool sa, .slice pa na ca, .int .i64 ea, .bool sb, .slice pb nb cb, .int .i64 eb, .bool sm, .slice pm nm cm, .int .i64 nn] 46)).alloc (.cells #[.bool false, .slice none 0 0, .int .i64 0] 30)) := ⟨_, rfl⟩
  have Xo : Hid (B10q W0 (w.heap.size) (.int .i64 6) (.bool sa) (.slice pa na ca) (.int .i64 ea) (.bool sb) (.slice pb nb cb) (.int .i64 eb) (.bool sm) (.slice pm nm cm) (.int .i64 nn)) := by rw [hW0]; exact ⟨by go_simp, by go_simp, by go_simp, by go_simp, by go_simp, by go_simp, by go_simp, by go_simp, by go_simp, by go_simp, by go_simp, by go_simp, by go_simp, by go_simp, by go_simp, by go_simp, by go_simp, by go_simp, by go_simp, by go_simp⟩
  have Xr : Hid (B3q W0 (w.heap.size + 1) (.bool false) (.slice none 0 0) (.int .i64 0)) := by rw [hW0]; exact ⟨by go_simp, by go_simp, by go_simp, by go_simp, by go_simp, by go_simp⟩
  have hb0 : Below w.heap.size w W0 := by rw [hW0]; exact below2 w _ _
  rw [← hW0]
  clear hW0
  have hbw : Below w.heap.size w w := Below.refl _ _
  obtain ⟨gr, hgr⟩ : ∃ g, g = w.heap.size + 1 := ⟨_, rfl⟩
  have HGr : Hid (w.heap.size ≤ gr) := by rw [hgr]; show _ ≤ _; omega
  rw [← hgr] at Xr
  try rw [← hgr]
  obtain ⟨go, hgo⟩ : ∃ g, g = w.heap.size := ⟨_, rfl⟩
  have HGo : Hid (w.heap.size ≤ go) := by rw [hgo]; show _ ≤ _; omega
  rw [← hgo] at Xo
  try rw [← hgo]
  have HGD : Hid (go ≠ gr ∧ gr ≠ go) := by rw [hgo, hgr]; exact ⟨by omega, by omega⟩
  clear hgo hgr
  replace HA : Hid _ := HA.out.below hb0
  replace HB : Hid _ := HB.out.below hb0
  replace HM : Hid _ := HM.out.below hb0
  replace hbw := Below.on hbw hb0
  clear hb0
  obtain ⟨co0, co1, co2, co3, co4, co5, co6, co7, co8, co9, fo0, fo1, fo2, fo3, fo4, fo5, fo6, fo7, fo8, fo9⟩ := Xo.out
  have hneo : go < W0.heap.size := World.block_lt_of_cell? W0 _ co0
  go_wp2_with fail
  clear co0 co1 co2 co3 co4 co5 co6 co7 co8 co9 fo0 fo1 fo2 fo3 fo4 fo5 fo6 fo7 fo8 fo9 hneo
  have HRL : Hid (gr < W0.heap.size ∧ w.heap.size ≤ W0.heap.size) := ⟨Xr.out.lt, hbw.size⟩
  refine (docnegA sa HA.out).mono ?_
  rintro e2 v6 ⟨zo, eo, er, ⟨s6, p6, m6, c6, rfl, hq6⟩, hr6, hb6⟩
  replace Xo : Hid (B10q v6 go (.int .i64 6) (.bool sa) (.slice pa na ca) (.int .i64 ea) (.bool sb) (.slice pb nb cb) (.int .i64 eb) (.bool sm) (.slice pm nm cm) (.int .i64 nn)) := Xo.out.below hb6
  replace Xr : Hid _ := Xr.out.below hb6
  replace HA : Hid _ := HA.out.below hb6
  replace HB : Hid _ := HB.out.below hb6
  replace HM : Hid _ := HM.out.below hb6
  replace hbw := Below.on hbw hb6
  clear hb6
  have Q6 : Hid (DQ W0.heap.size v6 s6 p6 m6 c6 eo zo) := hq6
  have R6 : Hid (OneD NegR sa xa ea zo eo er) := hr6
  clear hq6 hr6
  obtain ⟨cr0, cr1, cr2, fr0, fr1, fr2⟩ := Xr.out
  have hner : gr < v6.heap.size := World.block_lt_of_cell? v6 _ cr0
  go_wp2_with fail
  refine bodyPost_ret (v := .tuple #[DV s6 p6 m6 c6 eo, .int .i64 er]) (by rw [results_cell_tmp rfl]; go_simp) rfl ⟨zo, eo, er, ⟨s6, p6, m6, c6, rfl, Q6.out.set3 HRL.out.1 HRL.out.2 _ _ _⟩, R6.out, ?_⟩
  exact bSet (bSet (bSet hbw _ _ _ HGr.out) _ _ _ HGr.out) _ _ _ HGr.out
theorem plays5_6 {pa pb pm : Option Addr} {na ca nb cb nm cm : Nat} {xa xb xm : List Nat} {w : World} {ea eb nn : Int} (sa sb sm : Bool) (ha : At w pa na ca xa) (hb : At w pb nb cb xb) (hm : At w pm nm cm xm) (hn : na ≤ 17592186044416 ∧ nb ≤ 17592186044416 ∧ nm ≤ 17592186044416 ∧ -9223372036854775808 ≤ nn ∧ nn ≤ 9223372036854775807) (hT : Tab w) :
    Calls Tryz.prog 19 #[(.agg #[.int .i64 6, .bool sa, .slice pa na ca, .int .i64 ea, .bool sb, .slice pb nb cb, .int .i64 eb, .bool sm, .slice pm nm cm, .int .i64 nn])] w fun en w' => en = .returned (.bool true) ∧ Below w.heap.size w w' := by
  have HA : Hid (At w pa na ca xa) := ha
  have HB : Hid (At w pb nb cb xb) := hb
  have HM : Hid (At w pm nm cm xm) := hm
  have HN : Hid (na ≤ 17592186044416 ∧ nb ≤ 17592186044416 ∧ nm ≤ 17592186044416 ∧ -9223372036854775808 ≤ nn ∧ nn ≤ 9223372036854775807) := hn
  have TB : Hid (Tab w) := hT
  clear ha hb hm hn hT
  go_enter Tryz.func19, Tryz.ntmps19
  go_wp2_with fail
  obtain ⟨W0, hW0⟩ : ∃ W0, W0 = (w.alloc (.cells #[.int .i64 6, .bool sa, .slice pa na ca, .int .i64 ea, .bool sb, .slice pb nb cb, .int .i64 eb, .bool sm, .slice pm nm cm, .int .i64 nn] 46)) := ⟨_, rfl⟩
  have Xo : Hid (B10q W0 (w.heap.size) (.int .i64 6) (.bool sa) (.slice pa na ca) (.int .i64 ea) (.bool sb) (.slice pb nb cb) (.int .i64 eb) (.bool sm) (.slice pm nm cm) (.int .i64 nn)) := by rw [hW0]; exact ⟨by go_simp, by go_simp, by go_simp, by go_simp, by go_simp, by go_simp, by go_simp, by go_simp, by go_simp, by go_simp, by go_simp, by go_simp, by go_simp, by go_simp, by go_simp, by go_simp, by go_simp, by go_simp, by go_simp, by go_simp⟩
  have hb0 : Below w.heap.size w W0 := by rw [hW0]; exact below1 w _
  rw [← hW0]
  clear hW0
  have hbw : Below w.heap.size w w := Below.refl _ _
  obtain ⟨go, hgo⟩ : ∃ g, g = w.heap.size := ⟨_, rfl⟩
  have HGo : Hid (w.heap.size ≤ go) := by rw [hgo]; show _ ≤ _; omega
  rw [← hgo] at Xo
  try rw [← hgo]
  clear hgo
  replace HA : Hid _ := HA.out.below hb0
  replace HB : Hid _ := HB.out.below hb0
  replace HM : Hid _ := HM.out.below hb0
  replace hbw := Below.on hbw hb0
  clear hb0
  obtain ⟨co0, co1, co2, co3, co4, co5, co6, co7, co8, co9, fo0, fo1, fo2, fo3, fo4, fo5, fo6, fo7, fo8, fo9⟩ := Xo.out
  have hneo : go < W0.heap.size := World.block_lt_of_cell? W0 _ co0
  go_wp2_with fail
  clear co0 co1 co2 co3 co4 co5 co6 co7 co8 co9 fo0 fo1 fo2 fo3 fo4 fo5 fo6 fo7 fo8 fo9 hneo
  refine (twinO sa sb sm HA.out HB.out HM.out ⟨HN.out.1, HN.out.2.1, HN.out.2.2.1⟩).mono ?_
  rintro e2 v1 ⟨qa, qb, qm, rfl, ha1, hb1, hm1, hbb1⟩
  replace Xo : Hid (B10q v1 go (.int .i64 6) (.bool sa) (.slice pa na ca) (.int .i64 ea) (.bool sb) (.slice pb nb cb) (.int .i64 eb) (.bool sm) (.slice pm nm cm) (.int .i64 nn)) := Xo.out.below hbb1
  replace HA : Hid _ := HA.out.below hbb1
  replace HB : Hid _ := HB.out.below hbb1
  replace HM : Hid _ := HM.out.below hbb1
  replace hbw := Below.on hbw hbb1
  clear hbb1
  have TA : Hid (At v1 qa na na xa) := ha1
  have TC : Hid (At v1 qb nb nb xb) := hb1
  have TM : Hid (At v1 qm nm nm xm) := hm1
  clear ha1 hb1 hm1
  obtain ⟨co0, co1, co2, co3, co4, co5, co6, co7, co8, co9, fo0, fo1, fo2, fo3, fo4, fo5, fo6, fo7, fo8, fo9⟩ := Xo.out
  have hneo : go < v1.heap.size := World.block_lt_of_cell? v1 _ co0
  go_wp2_with fail
  clear co0 co1 co2 co3 co4 co5 co6 co7 co8 co9 fo0 fo1 fo2 fo3 fo4 fo5 fo6 fo7 fo8 fo9 hneo
  have Xt0 : Hid (B10q (v1.alloc (.cells #[.int .i64 6, .bool sa, .slice qa na na, .int .i64 ea, .bool sb, .slice qb nb nb, .int .i64 eb, .bool sm, .slice qm nm nm, .int .i64 nn] 46)) v1.heap.size (.int .i64 6) (.bool sa) (.slice qa na na) (.int .i64 ea) (.bool sb) (.slice qb nb nb) (.int .i64 eb) (.bool sm) (.slice qm nm nm) (.int .i64 nn)) := B10q.new v1 _ _ _ _ _ _ _ _ _ _ _
  have hbn : Below v1.heap.size v1 (v1.alloc (.cells #[.int .i64 6, .bool sa, .slice qa na na, .int .i64 ea, .bool sb, .slice qb nb nb, .int .i64 eb, .bool sm, .slice qm nm nm, .int .i64 nn] 46)) := below1 v1 _
  generalize v1.alloc (.cells #[.int .i64 6, .bool sa, .slice qa na na, .int .i64 ea, .bool sb, .slice qb nb nb, .int .i64 eb, .bool sm, .slice qm nm nm, .int .i64 nn] 46) = Wt at *
  have HGt : Hid (w.heap.size ≤ v1.heap.size) := hbw.size
  replace Xo : Hid (B10q Wt go (.int .i64 6) (.bool sa) (.slice pa na ca) (.int .i64 ea) (.bool sb) (.slice pb nb cb) (.int .i64 eb) (.bool sm) (.slice pm nm cm) (.int .i64 nn)) := Xo.out.below hbn
  replace HA : Hid _ := HA.out.below hbn
  replace HB : Hid _ := HB.out.below hbn
  replace HM : Hid _ := HM.out.below hbn
  replace TA : Hid _ := TA.out.below hbn
  replace TC : Hid _ := TC.out.below hbn
  replace TM : Hid _ := TM.out.below hbn
  replace hbw := Below.on hbw hbn
  clear hbn
  generalize v1.heap.size = gt at *
  have Xt := Xt0
  clear Xt0
  refine (answer5_6 sa sb sm TA.out TC.out TM.out HN.out (TB.out.below hbw)).mono ?_
  rintro e2 v2 ⟨z2, e2x, r2, ⟨s2, p2, m2, c2, rfl, hq2⟩, hr2, hb2⟩
  replace Xo : Hid (B10q v2 go (.int .i64 6) (.bool sa) (.slice pa na ca) (.int .i64 ea) (.bool sb) (.slice pb nb cb) (.int .i64 eb) (.bool sm) (.slice pm nm cm) (.int .i64 nn)) := Xo.out.below hb2
  replace Xt : Hid (B10q v2 gt (.int .i64 6) (.bool sa) (.slice qa na na) (.int .i64 ea) (.bool sb) (.slice qb nb nb) (.int .i64 eb) (.bool sm) (.slice qm nm nm) (.int .i64 nn)) := Xt.out.below hb2
  replace HA : Hid _ := HA.out.below hb2
  replace HB : Hid _ := HB.out.below hb2
  replace HM : Hid _ := HM.out.below hb2
  replace TA : Hid _ := TA.out.below hb2
  replace TC : Hid _ := TC.out.below hb2
  replace TM : Hid _ := TM.out.below hb2
  replace hbw := Below.on hbw hb2
  clear hb2
  have D2 : Hid (DN v2 s2 p2 m2 c2 e2x z2) := hq2.dn
  have R2 : Hid (OneD NegR sa xa ea z2 e2x r2) := hr2
  clear hq2 hr2
  obtain ⟨co0, co1, co2, co3, co4, co5, co6, co7, co8, co9, fo0, fo1, fo2, fo3, fo4, fo5, fo6, fo7, fo8, fo9⟩ := Xo.out
  have hneo : go < v2.heap.size := World.block_lt_of_cell? v2 _ co0
  go_wp2_with fail
  clear co0 co1 co2 co3 co4 co5 co6 co7 co8 co9 fo0 fo1 fo2 fo3 fo4 fo5 fo6 fo7 fo8 fo9 hneo
  have Xa0 : Hid (B3q (v2.alloc (.cells #[.bool s2, .slice p2 m2 c2, .int .i64 e2x] 30)) v2.heap.size (.bool s2) (.slice p2 m2 c2) (.int .i64 e2x)) := B3q.new v2 _ _ _ _
  have hbn : Below v2.heap.size v2 (v2.alloc (.cells #[.bool s2, .slice p2 m2 c2, .int .i64 e2x] 30)) := below1 v2 _
  generalize v2.alloc (.cells #[.bool s2, .slice p2 m2 c2, .int .i64 e2x] 30) = Wa at *
  have HGa : Hid (w.heap.size ≤ v2.heap.size) := hbw.size
  replace Xo : Hid (B10q Wa go (.int .i64 6) (.bool sa) (.slice pa na ca) (.int .i64 ea) (.bool sb) (.slice pb nb cb) (.int .i64 eb) (.bool sm) (.slice pm nm cm) (.int .i64 nn)) := Xo.out.below hbn
  replace Xt : Hid (B10q Wa gt (.int .i64 6) (.bool sa) (.slice qa na na) (.int .i64 ea) (.bool sb) (.slice qb nb nb) (.int .i64 eb) (.bool sm) (.slice qm nm nm) (.int .i64 nn)) := Xt.out.below hbn
  replace HA : Hid _ := HA.out.below hbn
  replace HB : Hid _ := HB.out.below hbn
  replace HM : Hid _ := HM.out.below hbn
  replace TA : Hid _ := TA.out.below hbn
  replace TC : Hid _ := TC.out.below hbn
  replace TM : Hid _ := TM.out.below hbn
  replace D2 : Hid _ := D2.out.below hbn
  replace hbw := Below.on hbw hbn
  clear hbn
  generalize v2.heap.size = ga at *
  have Xa := Xa0
  clear Xa0
  clear TA
  clear TC
  clear TM
  clear Xt
  refine (doc5_6 sa sb sm HA.out HB.out HM.out HN.out (TB.out.below hbw)).mono ?_
  rintro e3 v3 ⟨z3, e3x, r3, ⟨s3, p3, m3, c3, rfl, hq3⟩, hr3, hb3⟩
  replace Xo : Hid (B10q v3 go (.int .i64 6) (.bool sa) (.slice pa na ca) (.int .i64 ea) (.bool sb) (.slice pb nb cb) (.int .i64 eb) (.bool sm) (.slice pm nm cm) (.int .i64 nn)) := Xo.out.below hb3
  replace Xa : Hid _ := Xa.out.below hb3
  replace HA : Hid _ := HA.out.below hb3
  replace HB : Hid _ := HB.out.below hb3
  replace HM : Hid _ := HM.out.below hb3
  replace D2 : Hid _ := D2.out.below hb3
  replace hbw := Below.on hbw hb3
  clear hb3
  have D3 : Hid (DN v3 s3 p3 m3 c3 e3x z3) := hq3.dn
  obtain ⟨rfl, rfl, rfl⟩ := OneD.uniq NegR.uniq R2.out hr3
  clear hq3 hr3 R2
  obtain ⟨ca0, ca1, ca2, fa0, fa1, fa2⟩ := Xa.out
  have hnea : ga < v3.heap.size := World.block_lt_of_cell? v3 _ ca0
  go_wp2_with fail
  clear ca0 ca1 ca2 fa0 fa1 fa2 hnea
  have Xb0 : Hid (B3q (v3.alloc (.cells #[.bool s3, .slice p3 m3 c3, .int .i64 e2x] 30)) v3.heap.size (.bool s3) (.slice p3 m3 c3) (.int .i64 e2x)) := B3q.new v3 _ _ _ _
  have hbn : Below v3.heap.size v3 (v3.alloc (.cells #[.bool s3, .slice p3 m3 c3, .int .i64 e2x] 30)) := below1 v3 _
  generalize v3.alloc (.cells #[.bool s3, .slice p3 m3 c3, .int .i64 e2x] 30) = Wb at *
  have HGb : Hid (w.heap.size ≤ v3.heap.size) := hbw.size
  replace Xo : Hid (B10q Wb go (.int .i64 6) (.bool sa) (.slice pa na ca) (.int .i64 ea) (.bool sb) (.slice pb nb cb) (.int .i64 eb) (.bool sm) (.slice pm nm cm) (.int .i64 nn)) := Xo.out.below hbn
  replace Xa : Hid _ := Xa.out.below hbn
  replace HA : Hid _ := HA.out.below hbn
  replace HB : Hid _ := HB.out.below hbn
  replace HM : Hid _ := HM.out.below hbn
  replace D2 : Hid _ := D2.out.below hbn
  replace D3 : Hid _ := D3.out.below hbn
  replace hbw := Below.on hbw hbn
  clear hbn
  generalize v3.heap.size = gb at *
  have Xb := Xb0
  clear Xb0
  clear HA
  clear HB
  clear HM
  clear Xo
  refine (told5e r2 D2.out D3.out).mono ?_
  rintro e v9 ⟨rfl, hb9⟩
  replace Xa : Hid _ := Xa.out.below hb9
  replace Xb : Hid _ := Xb.out.below hb9
  replace D2 : Hid _ := D2.out.below hb9
  replace D3 : Hid _ := D3.out.below hb9
  replace hbw := Below.on hbw hb9
  clear hb9
  go_wp2_with fail
  go_ret
  exact ⟨rfl, hbw⟩
theorem answer5_7 {pa pb pm : Option Addr} {na ca nb cb nm cm : Nat} {xa xb xm : List Nat} {w : World} {ea eb nn : Int} (sa sb sm : Bool) (ha : At w pa na ca xa) (hb : At w pb nb cb xb) (hm : At w pm nm cm xm) (hn : na ≤ 17592186044416 ∧ nb ≤ 17592186044416 ∧ nm ≤ 17592186044416 ∧ -9223372036854775808 ≤ nn ∧ nn ≤ 9223372036854775807) (hT : Tab w) :
    Calls Tryz.prog 44 #[(.agg #[.int .i64 7, .bool sa, .slice pa na ca, .int .i64 ea, .bool sb, .slice pb nb cb, .int .i64 eb, .bool sm, .slice pm nm cm, .int .i64 nn])] w fun en w' => ∃ zo eo er, SaidD w.heap.size w' en zo eo er ∧ TwoD AddR sa xa ea sb xb eb zo eo er ∧ Below w.heap.size w w' := by
  have HA : Hid (At w pa na ca xa) := ha
  have HB : Hid (At w pb nb cb xb) := hb
  have HM : Hid (At w pm nm cm xm) := hm
  have HN : Hid (na ≤ 17592186044416 ∧ nb ≤ 17592186044416 ∧ nm ≤ 17592186044416 ∧ -9223372036854775808 ≤ nn ∧ nn ≤ 9223372036854775807) := hn
  have TB : Hid (Tab w) := hT
  clear ha hb hm hn hT
  go_enter Tryz.func44, Tryz.ntmps44
  go_wp2_with fail
  obtain ⟨W0, hW0⟩ : ∃ W0, W0 = ((w.alloc (.cells #[.int .i64 7, .bool sa, .slice pa na ca, .int .i64 ea, .bool sb, .slice pb nb cb, .int .i64 eb, .bool sm, .slice pm nm cm, .int .i64 nn] 46)).alloc (.cells #[.bool false, .slice none 0 0, .int .i64 0] 30)) := ⟨_, rfl⟩
  have Xo : Hid (B10q W0 (w.heap.size) (.int .i64 7) (.bool sa) (.slice pa na ca) (.int .i64 ea) (.bool sb) (.slice pb nb cb) (.int .i64 eb) (.bool sm) (.slice pm nm cm) (.int .i64 nn)) := by rw [hW0]; exact ⟨by go_simp, by go_simp, by go_simp, by go_simp, by go_simp, by go_simp, by go_simp, by go_simp, by go_simp, by go_simp, by go_simp, by go_simp, by go_simp, by go_simp, by go_simp, by go_simp, by go_simp, by go_simp, by go_simp, by go_simp⟩
  have Xr : Hid (B3q W0 (w.heap.size + 1) (.bool false) (.slice none 0 0) (.int .i64 0)) := by rw [hW0]; exact ⟨by go_simp, by go_simp, by go_simp, by go_simp, by go_simp, by go_simp⟩
  have hb0 : Below w.heap.size w W0 := by rw [hW0]; exact below2 w _ _
  rw [← hW0]
  clear hW0
  have hbw : Below w.heap.size w w := Below.refl _ _
  obtain ⟨gr, hgr⟩ : ∃ g, g = w.heap.size + 1 := ⟨_, rfl⟩
  have HGr : Hid (w.heap.size ≤ gr) := by rw [hgr]; show _ ≤ _; omega
  rw [← hgr] at Xr
  try rw [← hgr]
  obtain ⟨go, hgo⟩ : ∃ g, g = w.heap.size := ⟨_, rfl⟩
  have HGo : Hid (w.heap.size ≤ go) := by rw [hgo]; show _ ≤ _; omega
  rw [← hgo] at Xo
  try rw [← hgo]
  have HGD : Hid (go ≠ gr ∧ gr ≠ go) := by rw [hgo, hgr]; exact ⟨by omega, by omega⟩
  clear hgo hgr
  replace HA : Hid _ := HA.out.below hb0
  replace HB : Hid _ := HB.out.below hb0
  replace HM : Hid _ := HM.out.below hb0
  replace hbw := Below.on hbw hb0
  clear hb0
  obtain ⟨co0, co1, co2, co3, co4, co5, co6, co7, co8, co9, fo0, fo1, fo2, fo3, fo4, fo5, fo6, fo7, fo8, fo9⟩ := Xo.out
  have hneo : go < W0.heap.size := World.block_lt_of_cell? W0 _ co0
  go_wp2_with fail
  clear co0 co1 co2 co3 co4 co5 co6 co7 co8 co9 fo0 fo1 fo2 fo3 fo4 fo5 fo6 fo7 fo8 fo9 hneo
  have HRL : Hid (gr < W0.heap.size ∧ w.heap.size ≤ W0.heap.size) := ⟨Xr.out.lt, hbw.size⟩
  refine (daddA sa sb HA.out HB.out (TB.out.below hbw)).mono ?_
  rintro e2 v6 ⟨zo, eo, er, ⟨s6, p6, m6, c6, rfl, hq6⟩, hr6, hb6⟩
  replace Xo : Hid (B10q v6 go (.int .i64 7) (.bool sa) (.slice pa na ca) (.int .i64 ea) (.bool sb) (.slice pb nb cb) (.int .i64 eb) (.bool sm) (.slice pm nm cm) (.int .i64 nn)) := Xo.out.below hb6
  replace Xr : Hid _ := Xr.out.below hb6
  replace HA : Hid _ := HA.out.below hb6
  replace HB : Hid _ := HB.out.below hb6
  replace HM : Hid _ := HM.out.below hb6
  replace hbw := Below.on hbw hb6
  clear hb6
  have Q6 : Hid (DQ W0.heap.size v6 s6 p6 m6 c6 eo zo) := hq6
  have R6 : Hid (TwoD AddR sa xa ea sb xb eb zo eo er) := hr6
  clear hq6 hr6
  obtain ⟨cr0, cr1, cr2, fr0, fr1, fr2⟩ := Xr.out
  have hner : gr < v6.heap.size := World.block_lt_of_cell? v6 _ cr0
  go_wp2_with fail
  refine bodyPost_ret (v := .tuple #[DV s6 p6 m6 c6 eo, .int .i64 er]) (by rw [results_cell_tmp rfl]; go_simp) rfl ⟨zo, eo, er, ⟨s6, p6, m6, c6, rfl, Q6.out.set3 HRL.out.1 HRL.out.2 _ _ _⟩, R6.out, ?_⟩
  exact bSet (bSet (bSet hbw _ _ _ HGr.out) _ _ _ HGr.out) _ _ _ HGr.out
theorem doc5_7 {pa pb pm : Option Addr} {na ca nb cb nm cm : Nat} {xa xb xm : List Nat} {w : World} {ea eb nn : Int} (sa sb sm : Bool) (ha : At w pa na ca xa) (hb : At w pb nb cb xb) (hm : At w pm nm cm xm) (hn : na ≤ 17592186044416 ∧ nb ≤ 17592186044416 ∧ nm ≤ 17592186044416 ∧ -9223372036854775808 ≤ nn ∧ nn ≤ 9223372036854775807) (hT : Tab w) :
    Calls Tryz.prog 45 #[(.agg #[.int .i64 7, .bool sa, .slice pa na ca, .int .i64 ea, .bool sb, .slice pb nb cb, .int .i64 eb, .bool sm, .slice pm nm cm, .int .i64 nn])] w fun en w' => ∃ zo eo er, SaidD w.heap.size w' en zo eo er ∧ TwoD AddR sa xa ea sb xb eb zo eo er ∧ Below w.heap.size w w' := by
  have HA : Hid (At w pa na ca xa) := ha
  have HB : Hid (At w pb nb cb xb) := hb
  have HM : Hid (At w pm nm cm xm) := hm
  have HN : Hid (na ≤ 17592186044416 ∧ nb ≤ 17592186044416 ∧ nm ≤ 17592186044416 ∧ -9223372036854775808 ≤ nn ∧ nn ≤ 9223372036854775807) := hn
  have TB : Hid (Tab w) := hT
  clear ha hb hm hn hT
  go_enter Tryz.func45, Tryz.ntmps45
  go_wp2_with fail
  obtain ⟨W0, hW0⟩ : ∃ W0, W0 = ((w.alloc (.cells #[.int .i64 7, .bool sa, .slice pa na ca, .int .i64 ea, .bool sb, .slice pb nb cb, .int .i64 eb, .bool sm, .slice pm nm cm, .int .i64 nn] 46)).alloc (.cells #[.bool false, .slice none 0 0, .int .i64 0] 30)) := ⟨_, rfl⟩
  have Xo : Hid (B10q W0 (w.heap.size) (.int .i64 7) (.bool sa) (.slice pa na ca) (.int .i64 ea) (.bool sb) (.slice pb nb cb) (.int .i64 eb) (.bool sm) (.slice pm nm cm) (.int .i64 nn)) := by rw [hW0]; exact ⟨by go_simp, by go_simp, by go_simp, by go_simp, by go_simp, by go_simp, by go_simp, by go_simp, by go_simp, by go_simp, by go_simp, by go_simp, by go_simp, by go_simp, by go_simp, by go_simp, by go_simp, by go_simp, by go_simp, by go_simp⟩
  have Xr : Hid (B3q W0 (w.heap.size + 1) (.bool false) (.slice none 0 0) (.int .i64 0)) := by rw [hW0]; exact ⟨by go_simp, by go_simp, by go_simp, by go_simp, by go_simp, by go_simp⟩
  have hb0 : Below w.heap.size w W0 := by rw [hW0]; exact below2 w _ _
  rw [← hW0]
  clear hW0
  have hbw : Below w.heap.size w w := Below.refl _ _
  obtain ⟨gr, hgr⟩ : ∃ g, g = w.heap.size + 1 := ⟨_, rfl⟩
  have HGr : Hid (w.heap.size ≤ gr) := by rw [hgr]; show _ ≤ _; omega
  rw [← hgr] at Xr
  try rw [← hgr]
  obtain ⟨go, hgo⟩ : ∃ g, g = w.heap.size := ⟨_, rfl⟩
  have HGo : Hid (w.heap.size ≤ go) := by rw [hgo]; show _ ≤ _; omega
  rw [← hgo] at Xo
  try rw [← hgo]
  have HGD : Hid (go ≠ gr ∧ gr ≠ go) := by rw [hgo, hgr]; exact ⟨by omega, by omega⟩
  clear hgo hgr
  replace HA : Hid _ := HA.out.below hb0
  replace HB : Hid _ := HB.out.below hb0
  replace HM : Hid _ := HM.out.below hb0
  replace hbw := Below.on hbw hb0
  clear hb0
  obtain ⟨co0, co1, co2, co3, co4, co5, co6, co7, co8, co9, fo0, fo1, fo2, fo3, fo4, fo5, fo6, fo7, fo8, fo9⟩ := Xo.out
  have hneo : go < W0.heap.size := World.block_lt_of_cell? W0 _ co0
  go_wp2_with fail
  clear co0 co1 co2 co3 co4 co5 co6 co7 co8 co9 fo0 fo1 fo2 fo3 fo4 fo5 fo6 fo7 fo8 fo9 hneo
  have HRL : Hid (gr < W0.heap.size ∧ w.heap.size ≤ W0.heap.size) := ⟨Xr.out.lt, hbw.size⟩
  refine (docaddA sa sb HA.out HB.out).mono ?_
  rintro e2 v6 ⟨zo, eo, er, ⟨s6, p6, m6, c6, rfl, hq6⟩, hr6, hb6⟩
  replace Xo : Hid (B10q v6 go (.int .i64 7) (.bool sa) (.slice pa na ca) (.int .i64 ea) (.bool sb) (.slice pb nb cb) (.int .i64 eb) (.bool sm) (.slice pm nm cm) (.int .i64 nn)) := Xo.out.below hb6
  replace Xr : Hid _ := Xr.out.below hb6
  replace HA : Hid _ := HA.out.below hb6
  replace HB : Hid _ := HB.out.below hb6
  replace HM : Hid _ := HM.out.below hb6
  replace hbw := Below.on hbw hb6
  clear hb6
  have Q6 : Hid (DQ W0.heap.size v6 s6 p6 m6 c6 eo zo) := hq6
  have R6 : Hid (TwoD AddR sa xa ea sb xb eb zo eo er) := hr6
  clear hq6 hr6
  obtain ⟨cr0, cr1, cr2, fr0, fr1, fr2⟩ := Xr.out
  have hner : gr < v6.heap.size := World.block_lt_of_cell? v6 _ cr0
  go_wp2_with fail
  refine bodyPost_ret (v := .tuple #[DV s6 p6 m6 c6 eo, .int .i64 er]) (by rw [results_cell_tmp rfl]; go_simp) rfl ⟨zo, eo, er, ⟨s6, p6, m6, c6, rfl, Q6.out.set3 HRL.out.1 HRL.out.2 _ _ _⟩, R6.out, ?_⟩
  exact bSet (bSet (bSet hbw _ _ _ HGr.out) _ _ _ HGr.out) _ _ _ HGr.out
theorem plays5_7 {pa pb pm : Option Addr} {na ca nb cb nm cm : Nat} {xa xb xm : List Nat} {w : World} {ea eb nn : Int} (sa sb sm : Bool) (ha : At w pa na ca xa) (hb : At w pb nb cb xb) (hm : At w pm nm cm xm) (hn : na ≤ 17592186044416 ∧ nb ≤ 17592186044416 ∧ nm ≤ 17592186044416 ∧ -9223372036854775808 ≤ nn ∧ nn ≤ 9223372036854775807) (hT : Tab w) :
    Calls Tryz.prog 19 #[(.agg #[.int .i64 7, .bool sa, .slice pa na ca, .int .i64 ea, .bool sb, .slice pb nb cb, .int .i64 eb, .bool sm, .slice pm nm cm, .int .i64 nn])] w fun en w' => en = .returned (.bool true) ∧ Below w.heap.size w w' := by
  have HA : Hid (At w pa na ca xa) := ha
  have HB : Hid (At w pb nb cb xb) := hb
  have HM : Hid (At w pm nm cm xm) := hm
  have HN : Hid (na ≤ 17592186044416 ∧ nb ≤ 17592186044416 ∧ nm ≤ 17592186044416 ∧ -9223372036854775808 ≤ nn ∧ nn ≤ 9223372036854775807) := hn
  have TB : Hid (Tab w) := hT
  clear ha hb hm hn hT
  go_enter Tryz.func19, Tryz.ntmps19
  go_wp2_with fail
  obtain ⟨W0, hW0⟩ : ∃ W0, W0 = (w.alloc (.cells #[.int .i64 7, .bool sa, .slice pa na ca, .int .i64 ea, .bool sb, .slice pb nb cb, .int .i64 eb, .bool sm, .slice pm nm cm, .int .i64 nn] 46)) := ⟨_, rfl⟩
  have Xo : Hid (B10q W0 (w.heap.size) (.int .i64 7) (.bool sa) (.slice pa na ca) (.int .i64 ea) (.bool sb) (.slice pb nb cb) (.int .i64 eb) (.bool sm) (.slice pm nm cm) (.int .i64 nn)) := by rw [hW0]; exact ⟨by go_simp, by go_simp, by go_simp, by go_simp, by go_simp, by go_simp, by go_simp, by go_simp, by go_simp, by go_simp, by go_simp, by go_simp, by go_simp, by go_simp, by go_simp, by go_simp, by go_simp, by go_simp, by go_simp, by go_simp⟩
  have hb0 : Below w.heap.size w W0 := by rw [hW0]; exact below1 w _
  rw [← hW0]
  clear hW0
  have hbw : Below w.heap.size w w := Below.refl _ _
  obtain ⟨go, hgo⟩ : ∃ g, g = w.heap.size := ⟨_, rfl⟩
  have HGo : Hid (w.heap.size ≤ go) := by rw [hgo]; show _ ≤ _; omega
  rw [← hgo] at Xo
  try rw [← hgo]
  clear hgo
  replace HA : Hid _ := HA.out.below hb0
  replace HB : Hid _ := HB.out.below hb0
  replace HM : Hid _ := HM.out.below hb0
  replace hbw := Below.on hbw hb0
  clear hb0
  obtain ⟨co0, co1, co2, co3, co4, co5, co6, co7, co8, co9, fo0, fo1, fo2, fo3, fo4, fo5, fo6, fo7, fo8, fo9⟩ := Xo.out
  have hneo : go < W0.heap.size := World.block_lt_of_cell? W0 _ co0
  go_wp2_with fail
  clear co0 co1 co2 co3 co4 co5 co6 co7 co8 co9 fo0 fo1 fo2 fo3 fo4 fo5 fo6 fo7 fo8 fo9 hneo
  refine (twinO sa sb sm HA.out HB.out HM.out ⟨HN.out.1, HN.out.2.1, HN.out.2.2.1⟩).mono ?_
  rintro e2 v1 ⟨qa, qb, qm, rfl, ha1, hb1, hm1, hbb1⟩
  replace Xo : Hid (B10q v1 go (.int .i64 7) (.bool sa) (.slice pa na ca) (.int .i64 ea) (.bool sb) (.slice pb nb cb) (.int .i64 eb) (.bool sm) (.slice pm nm cm) (.int .i64 nn)) := Xo.out.below hbb1
  replace HA : Hid _ := HA.out.below hbb1
  replace HB : Hid _ := HB.out.below hbb1
  replace HM : Hid _ := HM.out.below hbb1
  replace hbw := Below.on hbw hbb1
  clear hbb1
  have TA : Hid (At v1 qa na na xa) := ha1
  have TC : Hid (At v1 qb nb nb xb) := hb1
  have TM : Hid (At v1 qm nm nm xm) := hm1
  clear ha1 hb1 hm1
  obtain ⟨co0, co1, co2, co3, co4, co5, co6, co7, co8, co9, fo0, fo1, fo2, fo3, fo4, fo5, fo6, fo7, fo8, fo9⟩ := Xo.out
  have hneo : go < v1.heap.size := World.block_lt_of_cell? v1 _ co0
  go_wp2_with fail
  clear co0 co1 co2 co3 co4 co5 co6 co7 co8 co9 fo0 fo1 fo2 fo3 fo4 fo5 fo6 fo7 fo8 fo9 hneo
  have Xt0 : Hid (B10q (v1.alloc (.cells #[.int .i64 7, .bool sa, .slice qa na na, .int .i64 ea, .bool sb, .slice qb nb nb, .int .i64 eb, .bool sm, .slice qm nm nm, .int .i64 nn] 46)) v1.heap.size (.int .i64 7) (.bool sa) (.slice qa na na) (.int .i64 ea) (.bool sb) (.slice qb nb nb) (.int .i64 eb) (.bool sm) (.slice qm nm nm) (.int .i64 nn)) := B10q.new v1 _ _ _ _ _ _ _ _ _ _ _
  have hbn : Below v1.heap.size v1 (v1.alloc (.cells #[.int .i64 7, .bool sa, .slice qa na na, .int .i64 ea, .bool sb, .slice qb nb nb, .int .i64 eb, .bool sm, .slice qm nm nm, .int .i64 nn] 46)) := below1 v1 _
  generalize v1.alloc (.cells #[.int .i64 7, .bool sa, .slice qa na na, .int .i64 ea, .bool sb, .slice qb nb nb, .int .i64 eb, .bool sm, .slice qm nm nm, .int .i64 nn] 46) = Wt at *
  have HGt : Hid (w.heap.size ≤ v1.heap.size) := hbw.size
  replace Xo : Hid (B10q Wt go (.int .i64 7) (.bool sa) (.slice pa na ca) (.int .i64 ea) (.bool sb) (.slice pb nb cb) (.int .i64 eb) (.bool sm) (.slice pm nm cm) (.int .i64 nn)) := Xo.out.below hbn
  replace HA : Hid _ := HA.out.below hbn
  replace HB : Hid _ := HB.out.below hbn
  replace HM : Hid _ := HM.out.below hbn
  replace TA : Hid _ := TA.out.below hbn
  replace TC : Hid _ := TC.out.below hbn
  replace TM : Hid _ := TM.out.below hbn
  replace hbw := Below.on hbw hbn
  clear hbn
  generalize v1.heap.size = gt at *
  have Xt := Xt0
  clear Xt0
  refine (answer5_7 sa sb sm TA.out TC.out TM.out HN.out (TB.out.below hbw)).mono ?_
  rintro e2 v2 ⟨z2, e2x, r2, ⟨s2, p2, m2, c2, rfl, hq2⟩, hr2, hb2⟩
  replace Xo : Hid (B10q v2 go (.int .i64 7) (.bool sa) (.slice pa na ca) (.int .i64 ea) (.bool sb) (.slice pb nb cb) (.int .i64 eb) (.bool sm) (.slice pm nm cm) (.int .i64 nn)) := Xo.out.below hb2
  replace Xt : Hid (B10q v2 gt (.int .i64 7) (.bool sa) (.slice qa na na) (.int .i64 ea) (.bool sb) (.slice qb nb nb) (.int .i64 eb) (.bool sm) (.slice qm nm nm) (.int .i64 nn)) := Xt.out.below hb2
  replace HA : Hid _ := HA.out.below hb2
  replace HB : Hid _ := HB.out.below hb2
  replace HM : Hid _ := HM.out.below hb2
  replace TA : Hid _ := TA.out.below hb2
  replace TC : Hid _ := TC.out.below hb2
  replace TM : Hid _ := TM.out.below hb2
  replace hbw := Below.on hbw hb2
  clear hb2
  have D2 : Hid (DN v2 s2 p2 m2 c2 e2x z2) := hq2.dn
  have R2 : Hid (TwoD AddR sa xa ea sb xb eb z2 e2x r2) := hr2
  clear hq2 hr2
  obtain ⟨co0, co1, co2, co3, co4, co5, co6, co7, co8, co9, fo0, fo1, fo2, fo3, fo4, fo5, fo6, fo7, fo8, fo9⟩ := Xo.out
  have hneo : go < v2.heap.size := World.block_lt_of_cell? v2 _ co0
  go_wp2_with fail
  clear co0 co1 co2 co3 co4 co5 co6 co7 co8 co9 fo0 fo1 fo2 fo3 fo4 fo5 fo6 fo7 fo8 fo9 hneo
  have Xa0 : Hid (B3q (v2.alloc (.cells #[.bool s2, .slice p2 m2 c2, .int .i64 e2x] 30)) v2.heap.size (.bool s2) (.slice p2 m2 c2) (.int .i64 e2x)) := B3q.new v2 _ _ _ _
  have hbn : Below v2.heap.size v2 (v2.alloc (.cells #[.bool s2, .slice p2 m2 c2, .int .i64 e2x] 30)) := below1 v2 _
  generalize v2.alloc (.cells #[.bool s2, .slice p2 m2 c2, .int .i64 e2x] 30) = Wa at *
  have HGa : Hid (w.heap.size ≤ v2.heap.size) := hbw.size
  replace Xo : Hid (B10q Wa go (.int .i64 7) (.bool sa) (.slice pa na ca) (.int .i64 ea) (.bool sb) (.slice pb nb cb) (.int .i64 eb) (.bool sm) (.slice pm nm cm) (.int .i64 nn)) := Xo.out.below hbn
  replace Xt : Hid (B10q Wa gt (.int .i64 7) (.bool sa) (.slice qa na na) (.int .i64 ea) (.bool sb) (.slice qb nb nb) (.int .i64 eb) (.bool sm) (.slice qm nm nm) (.int .i64 nn)) := Xt.out.below hbn
  replace HA : Hid _ := HA.out.below hbn
  replace HB : Hid _ := HB.out.below hbn
  replace HM : Hid _ := HM.out.below hbn
  replace TA : Hid _ := TA.out.below hbn
  replace TC : Hid _ := TC.out.below hbn
  replace TM : Hid _ := TM.out.below hbn
  replace D2 : Hid _ := D2.out.below hbn
  replace hbw := Below.on hbw hbn
  clear hbn
  generalize v2.heap.size = ga at *
  have Xa := Xa0
  clear Xa0
  clear TA
  clear TC
  clear TM
  clear Xt
  refine (doc5_7 sa sb sm HA.out HB.out HM.out HN.out (TB.out.below hbw)).mono ?_
  rintro e3 v3 ⟨z3, e3x, r3, ⟨s3, p3, m3, c3, rfl, hq3⟩, hr3, hb3⟩
  replace Xo : Hid (B10q v3 go (.int .i64 7) (.bool sa) (.slice pa na ca) (.int .i64 ea) (.bool sb) (.slice pb nb cb) (.int .i64 eb) (.bool sm) (.slice pm nm cm) (.int .i64 nn)) := Xo.out.below hb3
  replace Xa : Hid _ := Xa.out.below hb3
  replace HA : Hid _ := HA.out.below hb3
  replace HB : Hid _ := HB.out.below hb3
  replace HM : Hid _ := HM.out.below hb3
  replace D2 : Hid _ := D2.out.below hb3
  replace hbw := Below.on hbw hb3
  clear hb3
  have D3 : Hid (DN v3 s3 p3 m3 c3 e3x z3) := hq3.dn
  obtain ⟨rfl, rfl, rfl⟩ := TwoD.uniq AddR.uniq R2.out hr3
  clear hq3 hr3 R2
  obtain ⟨ca0, ca1, ca2, fa0, fa1, fa2⟩ := Xa.out
  have hnea : ga < v3.heap.size := World.block_lt_of_cell? v3 _ ca0
  go_wp2_with fail
  clear ca0 ca1 ca2 fa0 fa1 fa2 hnea
  have Xb0 : Hid (B3q (v3.alloc (.cells #[.bool s3, .slice p3 m3 c3, .int .i64 e2x] 30)) v3.heap.size (.bool s3) (.slice p3 m3 c3) (.int .i64 e2x)) := B3q.new v3 _ _ _ _
  have hbn : Below v3.heap.size v3 (v3.alloc (.cells #[.bool s3, .slice p3 m3 c3, .int .i64 e2x] 30)) := below1 v3 _
  generalize v3.alloc (.cells #[.bool s3, .slice p3 m3 c3, .int .i64 e2x] 30) = Wb at *
  have HGb : Hid (w.heap.size ≤ v3.heap.size) := hbw.size
  replace Xo : Hid (B10q Wb go (.int .i64 7) (.bool sa) (.slice pa na ca) (.int .i64 ea) (.bool sb) (.slice pb nb cb) (.int .i64 eb) (.bool sm) (.slice pm nm cm) (.int .i64 nn)) := Xo.out.below hbn
  replace Xa : Hid _ := Xa.out.below hbn
  replace HA : Hid _ := HA.out.below hbn
  replace HB : Hid _ := HB.out.below hbn
  replace HM : Hid _ := HM.out.below hbn
  replace D2 : Hid _ := D2.out.below hbn
  replace D3 : Hid _ := D3.out.below hbn
  replace hbw := Below.on hbw hbn
  clear hbn
  generalize v3.heap.size = gb at *
  have Xb := Xb0
  clear Xb0
  clear HA
  clear HB
  clear HM
  clear Xo
  refine (told5e r2 D2.out D3.out).mono ?_
  rintro e v9 ⟨rfl, hb9⟩
  replace Xa : Hid _ := Xa.out.below hb9
  replace Xb : Hid _ := Xb.out.below hb9
  replace D2 : Hid _ := D2.out.below hb9
  replace D3 : Hid _ := D3.out.below hb9
  replace hbw := Below.on hbw hb9
  clear hb9
  go_wp2_with fail
  go_ret
  exact ⟨rfl, hbw⟩
theorem answer5_8 {pa pb pm : Option Addr} {na ca nb cb nm cm : Nat} {xa xb xm : List Nat} {w : World} {ea eb nn : Int} (sa sb sm : Bool) (ha : At w pa na ca xa) (hb : At w pb nb cb xb) (hm : At w pm nm cm xm) (hn : na ≤ 17592186044416 ∧ nb ≤ 17592186044416 ∧ nm ≤ 17592186044416 ∧ -9223372036854775808 ≤ nn ∧ nn ≤ 9223372036854775807) (hT : Tab w) :
    Calls Tryz.prog 44 #[(.agg #[.int .i64 8, .bool sa, .slice pa na ca, .int .i64 ea, .bool sb, .slice pb nb cb, .int .i64 eb, .bool sm, .slice pm nm cm, .int .i64 nn])] w fun en w' => ∃ zo eo er, SaidD w.heap.size w' en zo eo er ∧ TwoD SubR sa xa ea sb xb eb zo eo er ∧ Below w.heap.size w w' := by
  have HA : Hid (At w pa na ca xa) := ha
  have HB : Hid (At w pb nb cb xb) := hb
  have HM : Hid (At w pm nm cm xm) := hm
  have HN : Hid (na ≤ 17592186044416 ∧ nb ≤ 17592186044416 ∧ nm ≤ 17592186044416 ∧ -9223372036854775808 ≤ nn ∧ nn ≤ 9223372036854775807) := hn
  have TB : Hid (Tab w) := hT
  clear ha hb hm hn hT
  go_enter Tryz.func44, Tryz.ntmps44
  go_wp2_with fail
  obtain ⟨W0, hW0⟩ : ∃ W0, W0 = ((w.alloc (.cells #[.int .i64 8, .bool sa, .slice pa na ca, .int .i64 ea, .bool sb, .slice pb nb cb, .int .i64 eb, .bool sm, .slice pm nm cm, .int .i64 nn] 46)).alloc (.cells #[.bool false, .slice none 0 0, .int .i64 0] 30)) := ⟨_, rfl⟩
  have Xo : Hid (B10q W0 (w.heap.size) (.int .i64 8) (.bool sa) (.slice pa na ca) (.int .i64 ea) (.bool sb) (.slice pb nb cb) (.int .i64 eb) (.bool sm) (.slice pm nm cm) (.int .i64 nn)) := by rw [hW0]; exact ⟨by go_simp, by go_simp, by go_simp, by go_simp, by go_simp, by go_simp, by go_simp, by go_simp, by go_simp, by go_simp, by go_simp, by go_simp, by go_simp, by go_simp, by go_simp, by go_simp, by go_simp, by go_simp, by go_simp, by go_simp⟩
  have Xr : Hid (B3q W0 (w.heap.size + 1) (.bool false) (.slice none 0 0) (.int .i64 0)) := by rw [hW0]; exact ⟨by go_simp, by go_simp, by go_simp, by go_simp, by go_simp, by go_simp⟩
  have hb0 : Below w.heap.size w W0 := by rw [hW0]; exact below2 w _ _
  rw [← hW0]
  clear hW0
  have hbw : Below w.heap.size w w := Below.refl _ _
  obtain ⟨gr, hgr⟩ : ∃ g, g = w.heap.size + 1 := ⟨_, rfl⟩
  have HGr : Hid (w.heap.size ≤ gr) := by rw [hgr]; show _ ≤ _; omega
  rw [← hgr] at Xr
  try rw [← hgr]
  obtain ⟨go, hgo⟩ : ∃ g, g = w.heap.size := ⟨_, rfl⟩
  have HGo : Hid (w.heap.size ≤ go) := by rw [hgo]; show _ ≤ _; omega
  rw [← hgo] at Xo
  try rw [← hgo]
  have HGD : Hid (go ≠ gr ∧ gr ≠ go) := by rw [hgo, hgr]; exact ⟨by omega, by omega⟩
  clear hgo hgr
  replace HA : Hid _ := HA.out.below hb0
  replace HB : Hid _ := HB.out.below hb0
  replace HM : Hid _ := HM.out.below hb0
  replace hbw := Below.on hbw hb0
  clear hb0
  obtain ⟨co0, co1, co2, co3, co4, co5, co6, co7, co8, co9, fo0, fo1, fo2, fo3, fo4, fo5, fo6, fo7, fo8, fo9⟩ := Xo.out
  have hneo : go < W0.heap.size := World.block_lt_of_cell? W0 _ co0
  go_wp2_with fail
  clear co0 co1 co2 co3 co4 co5 co6 co7 co8 co9 fo0 fo1 fo2 fo3 fo4 fo5 fo6 fo7 fo8 fo9 hneo
  have HRL : Hid (gr < W0.heap.size ∧ w.heap.size ≤ W0.heap.size) := ⟨Xr.out.lt, hbw.size⟩
  refine (dsubA sa sb HA.out HB.out (TB.out.below hbw)).mono ?_
  rintro e2 v6 ⟨zo, eo, er, ⟨s6, p6, m6, c6, rfl, hq6⟩, hr6, hb6⟩
  replace Xo : Hid (B10q v6 go (.int .i64 8) (.bool sa) (.slice pa na ca) (.int .i64 ea) (.bool sb) (.slice pb nb cb) (.int .i64 eb) (.bool sm) (.slice pm nm cm) (.int .i64 nn)) := Xo.out.below hb6
  replace Xr : Hid _ := Xr.out.below hb6
  replace HA : Hid _ := HA.out.below hb6
  replace HB : Hid _ := HB.out.below hb6
  replace HM : Hid _ := HM.out.below hb6
  replace hbw := Below.on hbw hb6
  clear hb6
  have Q6 : Hid (DQ W0.heap.size v6 s6 p6 m6 c6 eo zo) := hq6
  have R6 : Hid (TwoD SubR sa xa ea sb xb eb zo eo er) := hr6
  clear hq6 hr6
  obtain ⟨cr0, cr1, cr2, fr0, fr1, fr2⟩ := Xr.out
  have hner : gr < v6.heap.size := World.block_lt_of_cell? v6 _ cr0
  go_wp2_with fail
  refine bodyPost_ret (v := .tuple #[DV s6 p6 m6 c6 eo, .int .i64 er]) (by rw [results_cell_tmp rfl]; go_simp) rfl ⟨zo, eo, er, ⟨s6, p6, m6, c6, rfl, Q6.out.set3 HRL.out.1 HRL.out.2 _ _ _⟩, R6.out, ?_⟩
  exact bSet (bSet (bSet hbw _ _ _ HGr.out) _ _ _ HGr.out) _ _ _ HGr.out
theorem doc5_8 {pa pb pm : Option Addr} {na ca nb cb nm cm : Nat} {xa xb xm : List Nat} {w : World} {ea eb nn : Int} (sa sb sm : Bool) (ha : At w pa na ca xa) (hb : At w pb nb cb xb) (hm : At w pm nm cm xm) (hn : na ≤ 17592186044416 ∧ nb ≤ 17592186044416 ∧ nm ≤ 17592186044416 ∧ -9223372036854775808 ≤ nn ∧ nn ≤ 9223372036854775807) (hT : Tab w) :
    Calls Tryz.prog 45 #[(.agg #[.int .i64 8, .bool sa, .slice pa na ca, .int .i64 ea, .bool sb, .slice pb nb cb, .int .i64 eb, .bool sm, .slice pm nm cm, .int .i64 nn])] w fun en w' => ∃ zo eo er, SaidD w.heap.size w' en zo eo er ∧ TwoD SubR sa xa ea sb xb eb zo eo er ∧ Below w.heap.size w w' := by
  have HA : Hid (At w pa na ca xa) := ha
  have HB : Hid (At w pb nb cb xb) := hb
  have HM : Hid (At w pm nm cm xm) := hm
  have HN : Hid (na ≤ 17592186044416 ∧ nb ≤ 17592186044416 ∧ nm ≤ 17592186044416 ∧ -9223372036854775808 ≤ nn ∧ nn ≤ 9223372036854775807) := hn
  have TB : Hid (Tab w) := hT
  clear ha hb hm hn hT
  go_enter Tryz.func45, Tryz.ntmps45
  go_wp2_with fail
  obtain ⟨W0, hW0⟩ : ∃ W0, W0 = ((w.alloc (.cells #[.int .i64 8, .bool sa, .slice pa na ca, .int .i64 ea, .bool sb, .slice pb nb cb, .int .i64 eb, .bool sm, .slice pm nm cm, .int .i64 nn] 46)).alloc (.cells #[.bool false, .slice none 0 0, .int .i64 0] 30)) := ⟨_, rfl⟩
  have Xo : Hid (B10q W0 (w.heap.size) (.int .i64 8) (.bool sa) (.slice pa na ca) (.int .i64 ea) (.bool sb) (.slice pb nb cb) (.int .i64 eb) (.bool sm) (.slice pm nm cm) (.int .i64 nn)) := by rw [hW0]; exact ⟨by go_simp, by go_simp, by go_simp, by go_simp, by go_simp, by go_simp, by go_simp, by go_simp, by go_simp, by go_simp, by go_simp, by go_simp, by go_simp, by go_simp, by go_simp, by go_simp, by go_simp, by go_simp, by go_simp, by go_simp⟩
  have Xr : Hid (B3q W0 (w.heap.size + 1) (.bool false) (.slice none 0 0) (.int .i64 0)) := by rw [hW0]; exact ⟨by go_simp, by go_simp, by go_simp, by go_simp, by go_simp, by go_simp⟩
  have hb0 : Below w.heap.size w W0 := by rw [hW0]; exact below2 w _ _
  rw [← hW0]
  clear hW0
  have hbw : Below w.heap.size w w := Below.refl _ _
  obtain ⟨gr, hgr⟩ : ∃ g, g = w.heap.size + 1 := ⟨_, rfl⟩
  have HGr : Hid (w.heap.size ≤ gr) := by rw [hgr]; show _ ≤ _; omega
  rw [← hgr] at Xr
  try rw [← hgr]
  obtain ⟨go, hgo⟩ : ∃ g, g = w.heap.size := ⟨_, rfl⟩
  have HGo : Hid (w.heap.size ≤ go) := by rw [hgo]; show _ ≤ _; omega
  rw [← hgo] at Xo
  try rw [← hgo]
  have HGD : Hid (go ≠ gr ∧ gr ≠ go) := by rw [hgo, hgr]; exact ⟨by omega, by omega⟩
  clear hgo hgr
  replace HA : Hid _ := HA.out.below hb0
  replace HB : Hid _ := HB.out.below hb0
  replace HM : Hid _ := HM.out.below hb0
  replace hbw := Below.on hbw hb0
  clear hb0
  obtain ⟨co0, co1, co2, co3, co4, co5, co6, co7, co8, co9, fo0, fo1, fo2, fo3, fo4, fo5, fo6, fo7, fo8, fo9⟩ := Xo.out
  have hneo : go < W0.heap.size := World.block_lt_of_cell? W0 _ co0
  go_wp2_with fail
  clear co0 co1 co2 co3 co4 co5 co6 co7 co8 co9 fo0 fo1 fo2 fo3 fo4 fo5 fo6 fo7 fo8 fo9 hneo
  have HRL : Hid (gr < W0.heap.size ∧ w.heap.size ≤ W0.heap.size) := ⟨Xr.out.lt, hbw.size⟩
  refine (docsubA sa sb HA.out HB.out).mono ?_
  rintro e2 v6 ⟨zo, eo, er, ⟨s6, p6, m6, c6, rfl, hq6⟩, hr6, hb6⟩
  replace Xo : Hid (B10q v6 go (.int .i64 8) (.bool sa) (.slice pa na ca) (.int .i64 ea) (.bool sb) (.slice pb nb cb) (.int .i64 eb) (.bool sm) (.slice pm nm cm) (.int .i64 nn)) := Xo.out.below hb6
  replace Xr : Hid _ := Xr.out.below hb6
  replace HA : Hid _ := HA.out.below hb6
  replace HB : Hid _ := HB.out.below hb6
  replace HM : Hid _ := HM.out.below hb6
  replace hbw := Below.on hbw hb6
  clear hb6
  have Q6 : Hid (DQ W0.heap.size v6 s6 p6 m6 c6 eo zo) := hq6
  have R6 : Hid (TwoD SubR sa xa ea sb xb eb zo eo er) := hr6
  clear hq6 hr6
  obtain ⟨cr0, cr1, cr2, fr0, fr1, fr2⟩ := Xr.out
  have hner : gr < v6.heap.size := World.block_lt_of_cell? v6 _ cr0
  go_wp2_with fail
  refine bodyPost_ret (v := .tuple #[DV s6 p6 m6 c6 eo, .int .i64 er]) (by rw [results_cell_tmp rfl]; go_simp) rfl ⟨zo, eo, er, ⟨s6, p6, m6, c6, rfl, Q6.out.set3 HRL.out.1 HRL.out.2 _ _ _⟩, R6.out, ?_⟩
  exact bSet (bSet (bSet hbw _ _ _ HGr.out) _ _ _ HGr.out) _ _ _ HGr.out
theorem plays5_8 {pa pb pm : Option Addr} {na ca nb cb nm cm : Nat} {xa xb xm : List Nat} {w : World} {ea eb nn : Int} (sa sb sm : Bool) (ha : At w pa na ca xa) (hb : At w pb nb cb xb) (hm : At w pm nm cm xm) (hn : na ≤ 17592186044416 ∧ nb ≤ 17592186044416 ∧ nm ≤ 17592186044416 ∧ -9223372036854775808 ≤ nn ∧ nn ≤ 9223372036854775807) (hT : Tab w) :
    Calls Tryz.prog 19 #[(.agg #[.int .i64 8, .bool sa, .slice pa na ca, .int .i64 ea, .bool sb, .slice pb nb cb, .int .i64 eb, .bool sm, .slice pm nm cm, .int .i64 nn])] w fun en w' => en = .returned (.bool true) ∧ Below w.heap.size w w' := by
  have HA : Hid (At w pa na ca xa) := ha
  have HB : Hid (At w pb nb cb xb) := hb
  have HM : Hid (At w pm nm cm xm) := hm
  have HN : Hid (na ≤ 17592186044416 ∧ nb ≤ 17592186044416 ∧ nm ≤ 17592186044416 ∧ -9223372036854775808 ≤ nn ∧ nn ≤ 9223372036854775807) := hn
  have TB : Hid (Tab w) := hT
  clear ha hb hm hn hT
  go_enter Tryz.func19, Tryz.ntmps19
  go_wp2_with fail
  obtain ⟨W0, hW0⟩ : ∃ W0, W0 = (w.alloc (.cells #[.int .i64 8, .bool sa, .slice pa na ca, .int .i64 ea, .bool sb, .slice pb nb cb, .int .i64 eb, .bool sm, .slice pm nm cm, .int .i64 nn] 46)) := ⟨_, rfl⟩
  have Xo : Hid (B10q W0 (w.heap.size) (.int .i64 8) (.bool sa) (.slice pa na ca) (.int .i64 ea) (.bool sb) (.slice pb nb cb) (.int .i64 eb) (.bool sm) (.slice pm nm cm) (.int .i64 nn)) := by rw [hW0]; exact ⟨by go_simp, by go_simp, by go_simp, by go_simp, by go_simp, by go_simp, by go_simp, by go_simp, by go_simp, by go_simp, by go_simp, by go_simp, by go_simp, by go_simp, by go_simp, by go_simp, by go_simp, by go_simp, by go_simp, by go_simp⟩
  have hb0 : Below w.heap.size w W0 := by rw [hW0]; exact below1 w _
  rw [← hW0]
  clear hW0
  have hbw : Below w.heap.size w w := Below.refl _ _
  obtain ⟨go, hgo⟩ : ∃ g, g = w.heap.size := ⟨_, rfl⟩
  have HGo : Hid (w.heap.size ≤ go) := by rw [hgo]; show _ ≤ _; omega
  rw [← hgo] at Xo
  try rw [← hgo]
  clear hgo
  replace HA : Hid _ := HA.out.below hb0
  replace HB : Hid _ := HB.out.below hb0
  replace HM : Hid _ := HM.out.below hb0
  replace hbw := Below.on hbw hb0
  clear hb0
  obtain ⟨co0, co1, co2, co3, co4, co5, co6, co7, co8, co9, fo0, fo1, fo2, fo3, fo4, fo5, fo6, fo7, fo8, fo9⟩ := Xo.out
  have hneo : go < W0.heap.size := World.block_lt_of_cell? W0 _ co0
  go_wp2_with fail
  clear co0 co1 co2 co3 co4 co5 co6 co7 co8 co9 fo0 fo1 fo2 fo3 fo4 fo5 fo6 fo7 fo8 fo9 hneo
  refine (twinO sa sb sm HA.out HB.out HM.out ⟨HN.out.1, HN.out.2.1, HN.out.2.2.1⟩).mono ?_
  rintro e2 v1 ⟨qa, qb, qm, rfl, ha1, hb1, hm1, hbb1⟩
  replace Xo : Hid (B10q v1 go (.int .i64 8) (.bool sa) (.slice pa na ca) (.int .i64 ea) (.bool sb) (.slice pb nb cb) (.int .i64 eb) (.bool sm) (.slice pm nm cm) (.int .i64 nn)) := Xo.out.below hbb1
  replace HA : Hid _ := HA.out.below hbb1
  replace HB : Hid _ := HB.out.below hbb1
  replace HM : Hid _ := HM.out.below hbb1
  replace hbw := Below.on hbw hbb1
  clear hbb1
  have TA : Hid (At v1 qa na na xa) := ha1
  have TC : Hid (At v1 qb nb nb xb) := hb1
  have TM : Hid (At v1 qm nm nm xm) := hm1
  clear ha1 hb1 hm1
  obtain ⟨co0, co1, co2, co3, co4, co5, co6, co7, co8, co9, fo0, fo1, fo2, fo3, fo4, fo5, fo6, fo7, fo8, fo9⟩ := Xo.out
  have hneo : go < v1.heap.size := World.block_lt_of_cell? v1 _ co0
  go_wp2_with fail
  clear co0 co1 co2 co3 co4 co5 co6 co7 co8 co9 fo0 fo1 fo2 fo3 fo4 fo5 fo6 fo7 fo8 fo9 hneo
  have Xt0 : Hid (B10q (v1.alloc (.cells #[.int .i64 8, .bool sa, .slice qa na na, .int .i64 ea, .bool sb, .slice qb nb nb, .int .i64 eb, .bool sm, .slice qm nm nm, .int .i64 nn] 46)) v1.heap.size (.int .i64 8) (.bool sa) (.slice qa na na) (.int .i64 ea) (.bool sb) (.slice qb nb nb) (.int .i64 eb) (.bool sm) (.slice qm nm nm) (.int .i64 nn)) := B10q.new v1 _ _ _ _ _ _ _ _ _ _ _
  have hbn : Below v1.heap.size v1 (v1.alloc (.cells #[.int .i64 8, .bool sa, .slice qa na na, .int .i64 ea, .bool sb, .slice qb nb nb, .int .i64 eb, .bool sm, .slice qm nm nm, .int .i64 nn] 46)) := below1 v1 _
  generalize v1.alloc (.cells #[.int .i64 8, .bool sa, .slice qa na na, .int .i64 ea, .bool sb, .slice qb nb nb, .int .i64 eb, .bool sm, .slice qm nm nm, .int .i64 nn] 46) = Wt at *
  have HGt : Hid (w.heap.size ≤ v1.heap.size) := hbw.size
  replace Xo : Hid (B10q Wt go (.int .i64 8) (.bool sa) (.slice pa na ca) (.int .i64 ea) (.bool sb) (.slice pb nb cb) (.int .i64 eb) (.bool sm) (.slice pm nm cm) (.int .i64 nn)) := Xo.out.below hbn
  replace HA : Hid _ := HA.out.below hbn
  replace HB : Hid _ := HB.out.below hbn
  replace HM : Hid _ := HM.out.below hbn
  replace TA : Hid _ := TA.out.below hbn
  replace TC : Hid _ := TC.out.below hbn
  replace TM : Hid _ := TM.out.below hbn
  replace hbw := Below.on hbw hbn
  clear hbn
  generalize v1.heap.size = gt at *
  have Xt := Xt0
  clear Xt0
  refine (answer5_8 sa sb sm TA.out TC.out TM.out HN.out (TB.out.below hbw)).mono ?_
  rintro e2 v2 ⟨z2, e2x, r2, ⟨s2, p2, m2, c2, rfl, hq2⟩, hr2, hb2⟩
  replace Xo : Hid (B10q v2 go (.int .i64 8) (.bool sa) (.slice pa na ca) (.int .i64 ea) (.bool sb) (.slice pb nb cb) (.int .i64 eb) (.bool sm) (.slice pm nm cm) (.int .i64 nn)) := Xo.out.below hb2
  replace Xt : Hid (B10q v2 gt (.int .i64 8) (.bool sa) (.slice qa na na) (.int .i64 ea) (.bool sb) (.slice qb nb nb) (.int .i64 eb) (.bool sm) (.slice qm nm nm) (.int .i64 nn)) := Xt.out.below hb2
  replace HA : Hid _ := HA.out.below hb2
  replace HB : Hid _ := HB.out.below hb2
  replace HM : Hid _ := HM.out.below hb2
  replace TA : Hid _ := TA.out.below hb2
  replace TC : Hid _ := TC.out.below hb2
  replace TM : Hid _ := TM.out.below hb2
  replace hbw := Below.on hbw hb2
  clear hb2
  have D2 : Hid (DN v2 s2 p2 m2 c2 e2x z2) := hq2.dn
  have R2 : Hid (TwoD SubR sa xa ea sb xb eb z2 e2x r2) := hr2
  clear hq2 hr2
  obtain ⟨co0, co1, co2, co3, co4, co5, co6, co7, co8, co9, fo0, fo1, fo2, fo3, fo4, fo5, fo6, fo7, fo8, fo9⟩ := Xo.out
  have hneo : go < v2.heap.size := World.block_lt_of_cell? v2 _ co0
  go_wp2_with fail
  clear co0 co1 co2 co3 co4 co5 co6 co7 co8 co9 fo0 fo1 fo2 fo3 fo4 fo5 fo6 fo7 fo8 fo9 hneo
  have Xa0 : Hid (B3q (v2.alloc (.cells #[.bool s2, .slice p2 m2 c2, .int .i64 e2x] 30)) v2.heap.size (.bool s2) (.slice p2 m2 c2) (.int .i64 e2x)) := B3q.new v2 _ _ _ _
  have hbn : Below v2.heap.size v2 (v2.alloc (.cells #[.bool s2, .slice p2 m2 c2, .int .i64 e2x] 30)) := below1 v2 _
  generalize v2.alloc (.cells #[.bool s2, .slice p2 m2 c2, .int .i64 e2x] 30) = Wa at *
  have HGa : Hid (w.heap.size ≤ v2.heap.size) := hbw.size
  replace Xo : Hid (B10q Wa go (.int .i64 8) (.bool sa) (.slice pa na ca) (.int .i64 ea) (.bool sb) (.slice pb nb cb) (.int .i64 eb) (.bool sm) (.slice pm nm cm) (.int .i64 nn)) := Xo.out.below hbn
  replace Xt : Hid (B10q Wa gt (.int .i64 8) (.bool sa) (.slice qa na na) (.int .i64 ea) (.bool sb) (.slice qb nb nb) (.int .i64 eb) (.bool sm) (.slice qm nm nm) (.int .i64 nn)) := Xt.out.below hbn
  replace HA : Hid _ := HA.out.below hbn
  replace HB : Hid _ := HB.out.below hbn
  replace HM : Hid _ := HM.out.below hbn
  replace TA : Hid _ := TA.out.below hbn
  replace TC : Hid _ := TC.out.below hbn
  replace TM : Hid _ := TM.out.below hbn
  replace D2 : Hid _ := D2.out.below hbn
  replace hbw := Below.on hbw hbn
  clear hbn
  generalize v2.heap.size = ga at *
  have Xa := Xa0
  clear Xa0
  clear TA
  clear TC
  clear TM
  clear Xt
  refine (doc5_8 sa sb sm HA.out HB.out HM.out HN.out (TB.out.below hbw)).mono ?_
  rintro e3 v3 ⟨z3, e3x, r3, ⟨s3, p3, m3, c3, rfl, hq3⟩, hr3, hb3⟩
  replace Xo : Hid (B10q v3 go (.int .i64 8) (.bool sa) (.slice pa na ca) (.int .i64 ea) (.bool sb) (.slice pb nb cb) (.int .i64 eb) (.bool sm) (.slice pm nm cm) (.int .i64 nn)) := Xo.out.below hb3
  replace Xa : Hid _ := Xa.out.below hb3
  replace HA : Hid _ := HA.out.below hb3
  replace HB : Hid _ := HB.out.below hb3
  replace HM : Hid _ := HM.out.below hb3
  replace D2 : Hid _ := D2.out.below hb3
  replace hbw := Below.on hbw hb3
  clear hb3
  have D3 : Hid (DN v3 s3 p3 m3 c3 e3x z3) := hq3.dn
  obtain ⟨rfl, rfl, rfl⟩ := TwoD.uniq SubR.uniq R2.out hr3
  clear hq3 hr3 R2
  obtain ⟨ca0, ca1, ca2, fa0, fa1, fa2⟩ := Xa.out
  have hnea : ga < v3.heap.size := World.block_lt_of_cell? v3 _ ca0
  go_wp2_with fail
  clear ca0 ca1 ca2 fa0 fa1 fa2 hnea
  have Xb0 : Hid (B3q (v3.alloc (.cells #[.bool s3, .slice p3 m3 c3, .int .i64 e2x] 30)) v3.heap.size (.bool s3) (.slice p3 m3 c3) (.int .i64 e2x)) := B3q.new v3 _ _ _ _
  have hbn : Below v3.heap.size v3 (v3.alloc (.cells #[.bool s3, .slice p3 m3 c3, .int .i64 e2x] 30)) := below1 v3 _
  generalize v3.alloc (.cells #[.bool s3, .slice p3 m3 c3, .int .i64 e2x] 30) = Wb at *
  have HGb : Hid (w.heap.size ≤ v3.heap.size) := hbw.size
  replace Xo : Hid (B10q Wb go (.int .i64 8) (.bool sa) (.slice pa na ca) (.int .i64 ea) (.bool sb) (.slice pb nb cb) (.int .i64 eb) (.bool sm) (.slice pm nm cm) (.int .i64 nn)) := Xo.out.below hbn
  replace Xa : Hid _ := Xa.out.below hbn
  replace HA : Hid _ := HA.out.below hbn
  replace HB : Hid _ := HB.out.below hbn
  replace HM : Hid _ := HM.out.below hbn
  replace D2 : Hid _ := D2.out.below hbn
  replace D3 : Hid _ := D3.out.below hbn
  replace hbw := Below.on hbw hbn
  clear hbn
  generalize v3.heap.size = gb at *
  have Xb := Xb0
  clear Xb0
  clear HA
  clear HB
  clear HM
  clear Xo
  refine (told5e r2 D2.out D3.out).mono ?_
  rintro e v9 ⟨rfl, hb9⟩
  replace Xa : Hid _ := Xa.out.below hb9
  replace Xb : Hid _ := Xb.out.below hb9
  replace D2 : Hid _ := D2.out.below hb9
  replace D3 : Hid _ := D3.out.below hb9
  replace hbw := Below.on hbw hb9
  clear hb9
  go_wp2_with fail
  go_ret
  exact ⟨rfl, hbw⟩
theorem dyadicSums_walk {P : Option Addr} {N C : Nat} {its : List Op10} {w : World} (h : Scr5 w P N C its) (hT : Tab w) :
    Calls Tryz.prog 3 #[.slice P N C] w fun en w' => en = .returned (.bool true) ∧ Below w.heap.size w w' := by
  have H : Hid (Scr5 w P N C its) := h
  have TB : Hid (Tab w) := hT
  clear h hT
  go_enter Tryz.func3, Tryz.ntmps3
  go_wp2_with fail
  refine (awake5 _ TB.out).mono ?_
  rintro e2 v1 ⟨rfl, hb1⟩
  have HB1 : Hid (Below w.heap.size w v1) := hb1
  clear hb1
  go_wp2_with fail
  refine (all5 (lo := 6) (hi := 8) (H.out.below HB1.out) (TB.out.below HB1.out) (fun k h1 h2 => ?_)).mono ?_
  · rcases (show k = 6 ∨ k = 7 ∨ k = 8 by omega) with rfl | rfl | rfl
    · exact fun _ _ _ _ _ _ _ _ _ _ _ _ _ _ _ _ sa sb sm ha hb hm hn hT => plays5_6 sa sb sm ha hb hm hn hT
    · exact fun _ _ _ _ _ _ _ _ _ _ _ _ _ _ _ _ sa sb sm ha hb hm hn hT => plays5_7 sa sb sm ha hb hm hn hT
    · exact fun _ _ _ _ _ _ _ _ _ _ _ _ _ _ _ _ sa sb sm ha hb hm hn hT => plays5_8 sa sb sm ha hb hm hn hT
  · rintro e3 v2 ⟨rfl, hb2⟩
    have HB2 : Hid (Below w.heap.size w v2) := Below.on HB1.out hb2
    clear hb2
    go_wp2_with fail
    go_ret
    exact ⟨rfl, HB2.out⟩
end Go.Proofs.YtoajipejnmjdoaaGreatDoor
