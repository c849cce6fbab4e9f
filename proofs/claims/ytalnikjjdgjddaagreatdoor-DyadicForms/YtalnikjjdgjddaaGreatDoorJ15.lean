import Derived.Test.YtalnikjjdgjddaaGreatDoorJ13
import Derived.Test.YtalnikjjdgjddaaGreatDoorJ14
import Derived.Test.YtalnikjjdgjddaaGreatDoorJ12
import Derived.Test.YtalnikjjdgjddaaGreatDoorSmall
import Derived.Test.YtalnikjjdgjddaaGreatDoorJ11
import Derived.Deep.LoopGhost
import Derived.Test.YtalnikjjdgjddaaGreatDoorJ8
namespace Go.Proofs.YtalnikjjdgjddaaGreatDoor
open Go.RowKit Go.Shelf
set_option maxRecDepth 20000
set_option maxHeartbeats 0
theorem rdofA {w : World} {z : Int} (h0 : -9223372036854775808 ≤ z ∧ z ≤ 9223372036854775807) :
    Calls Tryz.prog 18 #[.int .i64 z] w fun en w' => ∃ s p m c eo zo, en = .returned (DV s p m c eo) ∧ DQ w.heap.size w' s p m c eo zo ∧ MkR z 0 zo eo 0 ∧ Below w.heap.size w w' := by
  have H : Hid (-9223372036854775808 ≤ z ∧ z ≤ 9223372036854775807) := h0
  clear h0
  go_enter Tryz.func18, Tryz.ntmps18
  go_wp2_with fail
  obtain ⟨W0, hW0⟩ : ∃ W0, W0 = (w.alloc (.cells #[.bool false, .slice none 0 0, .int .i64 0] 27)) := ⟨_, rfl⟩
  have Xr : Hid (B3q W0 (w.heap.size) (.bool false) (.slice none 0 0) (.int .i64 0)) := by rw [hW0]; exact ⟨by go_simp, by go_simp, by go_simp, by go_simp, by go_simp, by go_simp⟩
  have hb0 : Below w.heap.size w W0 := by rw [hW0]; exact below1 w _
  rw [← hW0]
  clear hW0
  have hbw : Below w.heap.size w w := Below.refl _ _
  obtain ⟨gr, hgr⟩ : ∃ g, g = w.heap.size := ⟨_, rfl⟩
  have HGr : Hid (w.heap.size ≤ gr) := by rw [hgr]; show _ ≤ _; omega
  rw [← hgr] at Xr
  try rw [← hgr]
  clear hgr
  replace hbw := Below.on hbw hb0
  clear hb0
  refine (rof04 z _ H.out.1 H.out.2).mono ?_
  rintro e v1 ⟨s1, g1, m1, rfl, hz1, hl1, hb1⟩
  replace Xr : Hid _ := Xr.out.below hb1
  replace hbw := Below.on hbw hb1
  clear hb1
  have Z1 : Hid (ZR v1 s1 (some ⟨g1, 0, none⟩) m1 z) := hz1
  have HL1 : Hid (m1 ≤ 16384) := by show _ ≤ _; omega
  clear hz1 hl1
  go_wp2_with fail
  have HRL : Hid (gr < v1.heap.size ∧ w.heap.size ≤ v1.heap.size) := ⟨Xr.out.lt, hbw.size⟩
  refine (told_a s1 Z1.out HL1.out).mono ?_
  rintro e v2 ⟨zo, eo, er, ⟨s2, p2, m2, c2, rfl, hq⟩, hr, hb2⟩
  obtain rfl : er = 0 := hr.er0 H.out
  have R2 : Hid (MkR z 0 zo eo 0) := hr
  clear hr
  replace Xr : Hid _ := Xr.out.below hb2
  replace Z1 : Hid _ := Z1.out.below hb2
  replace hbw := Below.on hbw hb2
  clear hb2
  have Q2 : Hid (DQ v1.heap.size v2 s2 p2 m2 c2 eo zo) := hq
  clear hq
  obtain ⟨cr0, cr1, cr2, fr0, fr1, fr2⟩ := Xr.out
  have hner : gr < v2.heap.size := World.block_lt_of_cell? v2 _ cr0
  go_wp2_with fail
  refine bodyPost_ret (v := DV s2 p2 m2 c2 eo) (by rw [results_cell1 rfl]; go_simp) rfl ⟨s2, p2, m2, c2, eo, zo, rfl, ?_, R2.out, ?_⟩
  · first | exact Q2.out.set3 HRL.out.1 HRL.out.2 _ _ _ | exact (Q2.out.set3 HRL.out.1 HRL.out.2 _ _ _).below (below1 _ _)
  · first | exact bSet (bSet (bSet hbw _ _ _ HGr.out) _ _ _ HGr.out) _ _ _ HGr.out | exact Below.on (bSet (bSet (bSet hbw _ _ _ HGr.out) _ _ _ HGr.out) _ _ _ HGr.out) (below1 _ _)
theorem docmake_b {p : Option Addr} {m c : Nat} {xs : List Nat} {w : World} {e : Int} (s : Bool) (h : At w p m c xs) (hf : formB xs = false) :
    Calls Tryz.prog 79 #[ZV s p m c, .int .i64 e] w fun en w' => en = .returned (.tuple #[DV false none 0 0 0, .int .i64 2]) ∧ Below w.heap.size w w' := by
  have H : Hid (At w p m c xs) := h
  have HF : Hid (formB xs = false) := hf
  clear h hf
  go_enter Tryz.func79, Tryz.ntmps79
  go_wp2_with fail
  obtain ⟨W0, hW0⟩ : ∃ W0, W0 = ((w.alloc (.cells #[.bool s, .slice p m c] 25)).alloc (.cells #[.bool false, .slice none 0 0, .int .i64 0] 27)) := ⟨_, rfl⟩
  have Xm : Hid (Box W0 (w.heap.size) (.bool s) (.slice p m c)) := by rw [hW0]; exact ⟨by go_simp, by go_simp, by go_simp, by go_simp⟩
  have Xr : Hid (B3q W0 (w.heap.size + 1) (.bool false) (.slice none 0 0) (.int .i64 0)) := by rw [hW0]; exact ⟨by go_simp, by go_simp, by go_simp, by go_simp, by go_simp, by go_simp⟩
  have hb0 : Below w.heap.size w W0 := by rw [hW0]; exact below2 w _ _
  rw [← hW0]
  clear hW0
  have hbw : Below w.heap.size w w := Below.refl _ _
  obtain ⟨gr, hgr⟩ : ∃ g, g = w.heap.size + 1 := ⟨_, rfl⟩
  have HGr : Hid (w.heap.size ≤ gr) := by rw [hgr]; show _ ≤ _; omega
  rw [← hgr] at Xr
  try rw [← hgr]
  obtain ⟨gm, hgm⟩ : ∃ g, g = w.heap.size := ⟨_, rfl⟩
  have HGm : Hid (w.heap.size ≤ gm) := by rw [hgm]; show _ ≤ _; omega
  rw [← hgm] at Xm
  try rw [← hgm]
  have HGD : Hid (gm ≠ gr ∧ gr ≠ gm) := by rw [hgm, hgr]; exact ⟨by omega, by omega⟩
  clear hgm hgr
  replace hbw := Below.on hbw hb0
  clear hb0
  refine (docform_any (H.out.below hbw)).mono ?_
  rintro e2 v1 ⟨rfl, hw⟩
  obtain rfl := hw.symm
  clear hw
  rw [HF.out]
  obtain ⟨cm0, cm1, fm0, fm1⟩ := Xm.out
  have hnem := Xm.out.lt
  obtain ⟨cr0, cr1, cr2, fr0, fr1, fr2⟩ := Xr.out
  have hner : gr < W0.heap.size := World.block_lt_of_cell? W0 _ cr0
  go_wp2_with fail
  refine bodyPost_ret (v := .tuple #[DV false none 0 0 0, .int .i64 2]) (by rw [results_cell_tmp rfl]; go_simp) rfl ⟨rfl, ?_⟩
  first | exact hbw | exact bSet (bSet (bSet hbw _ _ _ HGr.out) _ _ _ HGr.out) _ _ _ HGr.out
theorem docmake_z {p : Option Addr} {m c : Nat} {xs : List Nat} {w : World} {e : Int} (s : Bool) (h : At w p m c xs) (hf : formB xs = true) (hs : s = true) (hm : m = 0) :
    Calls Tryz.prog 79 #[ZV s p m c, .int .i64 e] w fun en w' => en = .returned (.tuple #[DV false none 0 0 0, .int .i64 2]) ∧ Below w.heap.size w w' := by
  subst hs hm
  have H : Hid (At w p 0 c xs) := h
  have HF : Hid (formB xs = true) := hf
  clear h hf
  go_enter Tryz.func79, Tryz.ntmps79
  go_wp2_with fail
  obtain ⟨W0, hW0⟩ : ∃ W0, W0 = ((w.alloc (.cells #[.bool true, .slice p 0 c] 25)).alloc (.cells #[.bool false, .slice none 0 0, .int .i64 0] 27)) := ⟨_, rfl⟩
  have Xm : Hid (Box W0 (w.heap.size) (.bool true) (.slice p 0 c)) := by rw [hW0]; exact ⟨by go_simp, by go_simp, by go_simp, by go_simp⟩
  have Xr : Hid (B3q W0 (w.heap.size + 1) (.bool false) (.slice none 0 0) (.int .i64 0)) := by rw [hW0]; exact ⟨by go_simp, by go_simp, by go_simp, by go_simp, by go_simp, by go_simp⟩
  have hb0 : Below w.heap.size w W0 := by rw [hW0]; exact below2 w _ _
  rw [← hW0]
  clear hW0
  have hbw : Below w.heap.size w w := Below.refl _ _
  obtain ⟨gr, hgr⟩ : ∃ g, g = w.heap.size + 1 := ⟨_, rfl⟩
  have HGr : Hid (w.heap.size ≤ gr) := by rw [hgr]; show _ ≤ _; omega
  rw [← hgr] at Xr
  try rw [← hgr]
  obtain ⟨gm, hgm⟩ : ∃ g, g = w.heap.size := ⟨_, rfl⟩
  have HGm : Hid (w.heap.size ≤ gm) := by rw [hgm]; show _ ≤ _; omega
  rw [← hgm] at Xm
  try rw [← hgm]
  have HGD : Hid (gm ≠ gr ∧ gr ≠ gm) := by rw [hgm, hgr]; exact ⟨by omega, by omega⟩
  clear hgm hgr
  replace hbw := Below.on hbw hb0
  clear hb0
  refine (docform_any (H.out.below hbw)).mono ?_
  rintro e2 v1 ⟨rfl, hw⟩
  obtain rfl := hw.symm
  clear hw
  rw [HF.out]
  obtain ⟨cm0, cm1, fm0, fm1⟩ := Xm.out
  have hnem := Xm.out.lt
  obtain ⟨cr0, cr1, cr2, fr0, fr1, fr2⟩ := Xr.out
  have hner : gr < W0.heap.size := World.block_lt_of_cell? W0 _ cr0
  go_wp2_with fail
  refine bodyPost_ret (v := .tuple #[DV false none 0 0 0, .int .i64 2]) (by rw [results_cell_tmp rfl]; go_simp) rfl ⟨rfl, ?_⟩
  first | exact hbw | exact bSet (bSet (bSet hbw _ _ _ HGr.out) _ _ _ HGr.out) _ _ _ HGr.out
theorem docmake_t {p : Option Addr} {m c : Nat} {xs : List Nat} {w : World} {e : Int} (s : Bool) (h : At w p m c xs) (hf : formB xs = true) (hs : s = true) (hm : m ≠ 0) (hl : m ≤ 8192) :
    Calls Tryz.prog 79 #[ZV s p m c, .int .i64 e] w fun en w' => ∃ zo eo er, SaidD w.heap.size w' en zo eo er ∧ MkR (iv s (valB B64 xs)) e zo eo er ∧ Below w.heap.size w w' := by
  subst hs
  have km : ¬ (m : Int) = 0 := by omega
  have H : Hid (At w p m c xs) := h
  have HF : Hid (formB xs = true) := hf
  have HL : Hid (m ≤ 8192) := hl
  clear hl
  clear h hf
  go_enter Tryz.func79, Tryz.ntmps79
  go_wp2_with fail
  obtain ⟨W0, hW0⟩ : ∃ W0, W0 = ((w.alloc (.cells #[.bool true, .slice p m c] 25)).alloc (.cells #[.bool false, .slice none 0 0, .int .i64 0] 27)) := ⟨_, rfl⟩
  have Xm : Hid (Box W0 (w.heap.size) (.bool true) (.slice p m c)) := by rw [hW0]; exact ⟨by go_simp, by go_simp, by go_simp, by go_simp⟩
  have Xr : Hid (B3q W0 (w.heap.size + 1) (.bool false) (.slice none 0 0) (.int .i64 0)) := by rw [hW0]; exact ⟨by go_simp, by go_simp, by go_simp, by go_simp, by go_simp, by go_simp⟩
  have hb0 : Below w.heap.size w W0 := by rw [hW0]; exact below2 w _ _
  rw [← hW0]
  clear hW0
  have hbw : Below w.heap.size w w := Below.refl _ _
  obtain ⟨gr, hgr⟩ : ∃ g, g = w.heap.size + 1 := ⟨_, rfl⟩
  have HGr : Hid (w.heap.size ≤ gr) := by rw [hgr]; show _ ≤ _; omega
  rw [← hgr] at Xr
  try rw [← hgr]
  obtain ⟨gm, hgm⟩ : ∃ g, g = w.heap.size := ⟨_, rfl⟩
  have HGm : Hid (w.heap.size ≤ gm) := by rw [hgm]; show _ ≤ _; omega
  rw [← hgm] at Xm
  try rw [← hgm]
  have HGD : Hid (gm ≠ gr ∧ gr ≠ gm) := by rw [hgm, hgr]; exact ⟨by omega, by omega⟩
  clear hgm hgr
  replace hbw := Below.on hbw hb0
  clear hb0
  refine (docform_any (H.out.below hbw)).mono ?_
  rintro e2 v1 ⟨rfl, hw⟩
  obtain rfl := hw.symm
  clear hw
  rw [HF.out]
  obtain ⟨cm0, cm1, fm0, fm1⟩ := Xm.out
  have hnem := Xm.out.lt
  go_wp2_with fail
  clear cm0 cm1 fm0 fm1 hnem
  refine (rfrom04 true (H.out.below hbw) (by have := HL.out; omega)).mono ?_
  rintro e2 v2 ⟨s2, p2, m2, rfl, hz2, hl2, hb2⟩
  replace Xm : Hid _ := Xm.out.below hb2
  replace Xr : Hid _ := Xr.out.below hb2
  replace hbw := Below.on hbw hb2
  clear hb2
  have Z2 : Hid (ZR v2 s2 p2 m2 (iv true (valB B64 xs))) := hz2
  have HL2 : Hid (m2 ≤ 16384) := by have := HL.out; show _ ≤ _; omega
  clear hz2 hl2
  go_wp2_with fail
  have HRL : Hid (gr < v2.heap.size ∧ w.heap.size ≤ v2.heap.size) := ⟨Xr.out.lt, hbw.size⟩
  refine (told_a s2 Z2.out HL2.out).mono ?_
  rintro e2 v3 ⟨zo, eo, er, ⟨s3, p3, m3, c3, rfl, hq⟩, hr, hb3⟩
  have R3 : Hid (MkR (iv true (valB B64 xs)) e zo eo er) := hr
  clear hr
  replace Xm : Hid _ := Xm.out.below hb3
  replace Xr : Hid _ := Xr.out.below hb3
  replace Z2 : Hid _ := Z2.out.below hb3
  replace hbw := Below.on hbw hb3
  clear hb3
  have Q3 : Hid (DQ v2.heap.size v3 s3 p3 m3 c3 eo zo) := hq
  clear hq
  obtain ⟨cr0, cr1, cr2, fr0, fr1, fr2⟩ := Xr.out
  have hner : gr < v3.heap.size := World.block_lt_of_cell? v3 _ cr0
  go_wp2_with fail
  refine bodyPost_ret (v := .tuple #[DV s3 p3 m3 c3 eo, .int .i64 er]) (by rw [results_cell_tmp rfl]; go_simp) rfl ⟨zo, eo, er, ⟨s3, p3, m3, c3, rfl, Q3.out.set3 HRL.out.1 HRL.out.2 _ _ _⟩, R3.out, ?_⟩
  exact bSet (bSet (bSet hbw _ _ _ HGr.out) _ _ _ HGr.out) _ _ _ HGr.out
theorem docmake_f {p : Option Addr} {m c : Nat} {xs : List Nat} {w : World} {e : Int} (s : Bool) (h : At w p m c xs) (hf : formB xs = true) (hs : s = false) (hl : m ≤ 8192) :
    Calls Tryz.prog 79 #[ZV s p m c, .int .i64 e] w fun en w' => ∃ zo eo er, SaidD w.heap.size w' en zo eo er ∧ MkR (iv s (valB B64 xs)) e zo eo er ∧ Below w.heap.size w w' := by
  subst hs
  have H : Hid (At w p m c xs) := h
  have HF : Hid (formB xs = true) := hf
  have HL : Hid (m ≤ 8192) := hl
  clear hl
  clear h hf
  go_enter Tryz.func79, Tryz.ntmps79
  go_wp2_with fail
  obtain ⟨W0, hW0⟩ : ∃ W0, W0 = ((w.alloc (.cells #[.bool false, .slice p m c] 25)).alloc (.cells #[.bool false, .slice none 0 0, .int .i64 0] 27)) := ⟨_, rfl⟩
  have Xm : Hid (Box W0 (w.heap.size) (.bool false) (.slice p m c)) := by rw [hW0]; exact ⟨by go_simp, by go_simp, by go_simp, by go_simp⟩
  have Xr : Hid (B3q W0 (w.heap.size + 1) (.bool false) (.slice none 0 0) (.int .i64 0)) := by rw [hW0]; exact ⟨by go_simp, by go_simp, by go_simp, by go_simp, by go_simp, by go_simp⟩
  have hb0 : Below w.heap.size w W0 := by rw [hW0]; exact below2 w _ _
  rw [← hW0]
  clear hW0
  have hbw : Below w.heap.size w w := Below.refl _ _
  obtain ⟨gr, hgr⟩ : ∃ g, g = w.heap.size + 1 := ⟨_, rfl⟩
  have HGr : Hid (w.heap.size ≤ gr) := by rw [hgr]; show _ ≤ _; omega
  rw [← hgr] at Xr
  try rw [← hgr]
  obtain ⟨gm, hgm⟩ : ∃ g, g = w.heap.size := ⟨_, rfl⟩
  have HGm : Hid (w.heap.size ≤ gm) := by rw [hgm]; show _ ≤ _; omega
  rw [← hgm] at Xm
  try rw [← hgm]
  have HGD : Hid (gm ≠ gr ∧ gr ≠ gm) := by rw [hgm, hgr]; exact ⟨by omega, by omega⟩
  clear hgm hgr
  replace hbw := Below.on hbw hb0
  clear hb0
  refine (docform_any (H.out.below hbw)).mono ?_
  rintro e2 v1 ⟨rfl, hw⟩
  obtain rfl := hw.symm
  clear hw
  rw [HF.out]
  obtain ⟨cm0, cm1, fm0, fm1⟩ := Xm.out
  have hnem := Xm.out.lt
  go_wp2_with fail
  clear cm0 cm1 fm0 fm1 hnem
  refine (rfrom04 false (H.out.below hbw) (by have := HL.out; omega)).mono ?_
  rintro e2 v2 ⟨s2, p2, m2, rfl, hz2, hl2, hb2⟩
  replace Xm : Hid _ := Xm.out.below hb2
  replace Xr : Hid _ := Xr.out.below hb2
  replace hbw := Below.on hbw hb2
  clear hb2
  have Z2 : Hid (ZR v2 s2 p2 m2 (iv false (valB B64 xs))) := hz2
  have HL2 : Hid (m2 ≤ 16384) := by have := HL.out; show _ ≤ _; omega
  clear hz2 hl2
  go_wp2_with fail
  have HRL : Hid (gr < v2.heap.size ∧ w.heap.size ≤ v2.heap.size) := ⟨Xr.out.lt, hbw.size⟩
  refine (told_a s2 Z2.out HL2.out).mono ?_
  rintro e2 v3 ⟨zo, eo, er, ⟨s3, p3, m3, c3, rfl, hq⟩, hr, hb3⟩
  have R3 : Hid (MkR (iv false (valB B64 xs)) e zo eo er) := hr
  clear hr
  replace Xm : Hid _ := Xm.out.below hb3
  replace Xr : Hid _ := Xr.out.below hb3
  replace Z2 : Hid _ := Z2.out.below hb3
  replace hbw := Below.on hbw hb3
  clear hb3
  have Q3 : Hid (DQ v2.heap.size v3 s3 p3 m3 c3 eo zo) := hq
  clear hq
  obtain ⟨cr0, cr1, cr2, fr0, fr1, fr2⟩ := Xr.out
  have hner : gr < v3.heap.size := World.block_lt_of_cell? v3 _ cr0
  go_wp2_with fail
  refine bodyPost_ret (v := .tuple #[DV s3 p3 m3 c3 eo, .int .i64 er]) (by rw [results_cell_tmp rfl]; go_simp) rfl ⟨zo, eo, er, ⟨s3, p3, m3, c3, rfl, Q3.out.set3 HRL.out.1 HRL.out.2 _ _ _⟩, R3.out, ?_⟩
  exact bSet (bSet (bSet hbw _ _ _ HGr.out) _ _ _ HGr.out) _ _ _ HGr.out
theorem docmakeA {p : Option Addr} {m c : Nat} {xs : List Nat} {w : World} {e : Int} (s : Bool) (h : At w p m c xs) :
    Calls Tryz.prog 79 #[ZV s p m c, .int .i64 e] w fun en w' => ∃ zo eo er, SaidD w.heap.size w' en zo eo er ∧ MakeA s xs e zo eo er ∧ Below w.heap.size w w' := by
  have hlen := h.len
  cases hf : formB xs
  · exact (docmake_b s h hf).mono fun en w' ⟨h1, h2⟩ => ⟨0, 0, 2, h1 ▸ SaidD.err _ _ 2, .inl ⟨by unfold formZ; rw [hf]; rfl, rfl, rfl, rfl⟩, h2⟩
  have hl : m ≤ 8192 := by rw [← hlen]; exact ((formB_iff xs).1 hf).1
  cases s
  · exact (docmake_f false h hf rfl hl).mono fun en w' ⟨zo, eo, er, h1, h2, h3⟩ => ⟨zo, eo, er, h1, .inr ⟨by unfold formZ; rw [hf]; rfl, h2⟩, h3⟩
  · by_cases hm : m = 0
    · exact (docmake_z true h hf rfl hm).mono fun en w' ⟨h1, h2⟩ => ⟨0, 0, 2, h1 ▸ SaidD.err _ _ 2, .inl ⟨by
        have : xs = [] := List.length_eq_zero_iff.1 (by omega)
        subst this
        rfl, rfl, rfl, rfl⟩, h2⟩
    · exact (docmake_t true h hf rfl hm hl).mono fun en w' ⟨zo, eo, er, h1, h2, h3⟩ => ⟨zo, eo, er, h1, .inr ⟨by
        unfold formZ
        rw [hf, decide_eq_false (fun e0 => by rw [e0] at hlen; exact hm hlen.symm)]
        rfl, h2⟩, h3⟩
theorem doccmp_l {p q : Option Addr} {m c n d : Nat} {w : World} {e f : Int} {s t : Bool} {xs : List Nat} (h : At w p m c xs) (hf : formD s xs e = false) :
    Calls Tryz.prog 43 #[DV s p m c e, DV t q n d f] w fun en w' => en = .returned (.tuple #[.int .i64 0, .int .i64 2]) ∧ Below w.heap.size w w' := by
  have H : Hid (At w p m c xs ∧ formD s xs e = false) := ⟨h, hf⟩
  clear h hf
  go_enter Tryz.func43, Tryz.ntmps43
  go_wp2_with fail
  obtain ⟨W0, hW0⟩ : ∃ W0, W0 = ((w.alloc (.cells #[.bool s, .slice p m c, .int .i64 e] 27)).alloc (.cells #[.bool t, .slice q n d, .int .i64 f] 27)) := ⟨_, rfl⟩
  have Xa : Hid (B3q W0 (w.heap.size) (.bool s) (.slice p m c) (.int .i64 e)) := by rw [hW0]; exact ⟨by go_simp, by go_simp, by go_simp, by go_simp, by go_simp, by go_simp⟩
  have Xb : Hid (B3q W0 (w.heap.size + 1) (.bool t) (.slice q n d) (.int .i64 f)) := by rw [hW0]; exact ⟨by go_simp, by go_simp, by go_simp, by go_simp, by go_simp, by go_simp⟩
  have hb0 : Below w.heap.size w W0 := by rw [hW0]; exact below2 w _ _
  rw [← hW0]
  clear hW0
  have hbw : Below w.heap.size w w := Below.refl _ _
  obtain ⟨gb, hgb⟩ : ∃ g, g = w.heap.size + 1 := ⟨_, rfl⟩
  have HGb : Hid (w.heap.size ≤ gb) := by rw [hgb]; show _ ≤ _; omega
  rw [← hgb] at Xb
  try rw [← hgb]
  obtain ⟨ga, hga⟩ : ∃ g, g = w.heap.size := ⟨_, rfl⟩
  have HGa : Hid (w.heap.size ≤ ga) := by rw [hga]; show _ ≤ _; omega
  rw [← hga] at Xa
  try rw [← hga]
  have HGD : Hid (ga ≠ gb ∧ gb ≠ ga) := by rw [hga, hgb]; exact ⟨by omega, by omega⟩
  clear hga hgb
  replace hbw := Below.on hbw hb0
  clear hb0
  refine (docformd s (H.out.1.below hbw)).mono ?_
  rintro e v1 ⟨rfl, hb1⟩
  rw [H.out.2]
  replace Xa : Hid _ := Xa.out.below hb1
  replace Xb : Hid _ := Xb.out.below hb1
  replace hbw := Below.on hbw hb1
  clear hb1
  obtain ⟨ca0, ca1, ca2, fa0, fa1, fa2⟩ := Xa.out
  have hnea : ga < v1.heap.size := World.block_lt_of_cell? v1 _ ca0
  obtain ⟨cb0, cb1, cb2, fb0, fb1, fb2⟩ := Xb.out
  have hneb : gb < v1.heap.size := World.block_lt_of_cell? v1 _ cb0
  go_wp2_with fail
  clear ca0 ca1 ca2 fa0 fa1 fa2 hnea
  clear cb0 cb1 cb2 fb0 fb1 fb2 hneb
  go_ret2
  exact ⟨rfl, hbw⟩
theorem doccmp_r {p q : Option Addr} {m c n d : Nat} {w : World} {e f : Int} {s t : Bool} {xs ys : List Nat} (h : At w p m c xs) (hf : formD s xs e = true) (k : At w q n d ys) (hg : formD t ys f = false) :
    Calls Tryz.prog 43 #[DV s p m c e, DV t q n d f] w fun en w' => en = .returned (.tuple #[.int .i64 0, .int .i64 2]) ∧ Below w.heap.size w w' := by
  have H : Hid (At w p m c xs ∧ formD s xs e = true) := ⟨h, hf⟩
  have K : Hid (At w q n d ys ∧ formD t ys f = false) := ⟨k, hg⟩
  clear h hf k hg
  go_enter Tryz.func43, Tryz.ntmps43
  go_wp2_with fail
  obtain ⟨W0, hW0⟩ : ∃ W0, W0 = ((w.alloc (.cells #[.bool s, .slice p m c, .int .i64 e] 27)).alloc (.cells #[.bool t, .slice q n d, .int .i64 f] 27)) := ⟨_, rfl⟩
  have Xa : Hid (B3q W0 (w.heap.size) (.bool s) (.slice p m c) (.int .i64 e)) := by rw [hW0]; exact ⟨by go_simp, by go_simp, by go_simp, by go_simp, by go_simp, by go_simp⟩
  have Xb : Hid (B3q W0 (w.heap.size + 1) (.bool t) (.slice q n d) (.int .i64 f)) := by rw [hW0]; exact ⟨by go_simp, by go_simp, by go_simp, by go_simp, by go_simp, by go_simp⟩
  have hb0 : Below w.heap.size w W0 := by rw [hW0]; exact below2 w _ _
  rw [← hW0]
  clear hW0
  have hbw : Below w.heap.size w w := Below.refl _ _
  obtain ⟨gb, hgb⟩ : ∃ g, g = w.heap.size + 1 := ⟨_, rfl⟩
  have HGb : Hid (w.heap.size ≤ gb) := by rw [hgb]; show _ ≤ _; omega
  rw [← hgb] at Xb
  try rw [← hgb]
  obtain ⟨ga, hga⟩ : ∃ g, g = w.heap.size := ⟨_, rfl⟩
  have HGa : Hid (w.heap.size ≤ ga) := by rw [hga]; show _ ≤ _; omega
  rw [← hga] at Xa
  try rw [← hga]
  have HGD : Hid (ga ≠ gb ∧ gb ≠ ga) := by rw [hga, hgb]; exact ⟨by omega, by omega⟩
  clear hga hgb
  replace hbw := Below.on hbw hb0
  clear hb0
  refine (docformd s (H.out.1.below hbw)).mono ?_
  rintro e v1 ⟨rfl, hb1⟩
  rw [H.out.2]
  replace Xa : Hid _ := Xa.out.below hb1
  replace Xb : Hid _ := Xb.out.below hb1
  replace hbw := Below.on hbw hb1
  clear hb1
  obtain ⟨ca0, ca1, ca2, fa0, fa1, fa2⟩ := Xa.out
  have hnea : ga < v1.heap.size := World.block_lt_of_cell? v1 _ ca0
  obtain ⟨cb0, cb1, cb2, fb0, fb1, fb2⟩ := Xb.out
  have hneb : gb < v1.heap.size := World.block_lt_of_cell? v1 _ cb0
  go_wp2_with fail
  clear ca0 ca1 ca2 fa0 fa1 fa2 hnea
  clear cb0 cb1 cb2 fb0 fb1 fb2 hneb
  refine (docformd t (K.out.1.below hbw)).mono ?_
  rintro e v2 ⟨rfl, hb2⟩
  rw [K.out.2]
  replace Xa : Hid _ := Xa.out.below hb2
  replace Xb : Hid _ := Xb.out.below hb2
  replace hbw := Below.on hbw hb2
  clear hb2
  obtain ⟨ca0, ca1, ca2, fa0, fa1, fa2⟩ := Xa.out
  have hnea : ga < v2.heap.size := World.block_lt_of_cell? v2 _ ca0
  obtain ⟨cb0, cb1, cb2, fb0, fb1, fb2⟩ := Xb.out
  have hneb : gb < v2.heap.size := World.block_lt_of_cell? v2 _ cb0
  go_wp2_with fail
  clear ca0 ca1 ca2 fa0 fa1 fa2 hnea
  clear cb0 cb1 cb2 fb0 fb1 fb2 hneb
  go_ret2
  exact ⟨rfl, hbw⟩
theorem doccmpA {p q : Option Addr} {m c n d : Nat} {xs ys : List Nat} {w : World} {e f : Int} (s t : Bool) (h : At w p m c xs) (k : At w q n d ys) :
    Calls Tryz.prog 43 #[DV s p m c e, DV t q n d f] w fun en w' => en = .returned (.tuple #[.int .i64 (CmpA s xs e t ys f).1, .int .i64 (CmpA s xs e t ys f).2]) ∧ Below w.heap.size w w' := by
  unfold CmpA
  cases hf : formD s xs e
  · rw [if_neg (by simp)]; exact doccmp_l h hf
  · cases hg : formD t ys f
    · rw [if_neg (by simp)]; exact doccmp_r h hf k hg
    · rw [if_pos ⟨rfl, rfl⟩]; exact rdc (formD_dn h hf) (formD_dn k hg)
theorem doctop_w {p : Option Addr} {m c : Nat} {w : World} {e : Int} {s : Bool} {xs : List Nat} (h : At w p m c xs) (hf : formD s xs e = false) :
    Calls Tryz.prog 44 #[DV s p m c e] w fun en w' => en = .returned (.tuple #[.int .i64 0, .int .i64 2]) ∧ Below w.heap.size w w' := by
  have H : Hid (At w p m c xs ∧ formD s xs e = false) := ⟨h, hf⟩
  clear h hf
  go_enter Tryz.func44, Tryz.ntmps44
  go_wp2_with fail
  obtain ⟨W0, hW0⟩ : ∃ W0, W0 = (w.alloc (.cells #[.bool s, .slice p m c, .int .i64 e] 27)) := ⟨_, rfl⟩
  have Xd : Hid (B3q W0 (w.heap.size) (.bool s) (.slice p m c) (.int .i64 e)) := by rw [hW0]; exact ⟨by go_simp, by go_simp, by go_simp, by go_simp, by go_simp, by go_simp⟩
  have hb0 : Below w.heap.size w W0 := by rw [hW0]; exact below1 w _
  rw [← hW0]
  clear hW0
  have hbw : Below w.heap.size w w := Below.refl _ _
  obtain ⟨gd, hgd⟩ : ∃ g, g = w.heap.size := ⟨_, rfl⟩
  have HGd : Hid (w.heap.size ≤ gd) := by rw [hgd]; show _ ≤ _; omega
  rw [← hgd] at Xd
  try rw [← hgd]
  clear hgd
  replace hbw := Below.on hbw hb0
  clear hb0
  refine (docformd s (H.out.1.below hbw)).mono ?_
  rintro e v1 ⟨rfl, hb1⟩
  rw [H.out.2]
  replace Xd : Hid _ := Xd.out.below hb1
  replace hbw := Below.on hbw hb1
  clear hb1
  obtain ⟨cd0, cd1, cd2, fd0, fd1, fd2⟩ := Xd.out
  have hned : gd < v1.heap.size := World.block_lt_of_cell? v1 _ cd0
  go_wp2_with fail
  clear cd0 cd1 cd2 fd0 fd1 fd2 hned
  go_ret2
  exact ⟨rfl, hbw⟩
theorem doctop_z {p : Option Addr} {m c : Nat} {w : World} {e : Int} {s : Bool} {xs : List Nat} (h : At w p m c xs) (hf : formD s xs e = true) (hm : m = 0) :
    Calls Tryz.prog 44 #[DV s p m c e] w fun en w' => en = .returned (.tuple #[.int .i64 0, .int .i64 4]) ∧ Below w.heap.size w w' := by
  have H : Hid (At w p m c xs ∧ formD s xs e = true) := ⟨h, hf⟩
  have HM : Hid (m = 0) := hm
  clear h hf hm
  go_enter Tryz.func44, Tryz.ntmps44
  go_wp2_with fail
  obtain ⟨W0, hW0⟩ : ∃ W0, W0 = (w.alloc (.cells #[.bool s, .slice p m c, .int .i64 e] 27)) := ⟨_, rfl⟩
  have Xd : Hid (B3q W0 (w.heap.size) (.bool s) (.slice p m c) (.int .i64 e)) := by rw [hW0]; exact ⟨by go_simp, by go_simp, by go_simp, by go_simp, by go_simp, by go_simp⟩
  have hb0 : Below w.heap.size w W0 := by rw [hW0]; exact below1 w _
  rw [← hW0]
  clear hW0
  have hbw : Below w.heap.size w w := Below.refl _ _
  obtain ⟨gd, hgd⟩ : ∃ g, g = w.heap.size := ⟨_, rfl⟩
  have HGd : Hid (w.heap.size ≤ gd) := by rw [hgd]; show _ ≤ _; omega
  rw [← hgd] at Xd
  try rw [← hgd]
  clear hgd
  replace hbw := Below.on hbw hb0
  clear hb0
  refine (docformd s (H.out.1.below hbw)).mono ?_
  rintro e v1 ⟨rfl, hb1⟩
  rw [H.out.2]
  replace Xd : Hid _ := Xd.out.below hb1
  replace hbw := Below.on hbw hb1
  clear hb1
  obtain ⟨cd0, cd1, cd2, fd0, fd1, fd2⟩ := Xd.out
  have hned : gd < v1.heap.size := World.block_lt_of_cell? v1 _ cd0
  go_wp2_with fail
  clear cd0 cd1 cd2 fd0 fd1 fd2 hned
  refine (nought).mono ?_
  rintro e v2 ⟨rfl, hb2⟩
  rw [decide_eq_true HM.out]
  replace Xd : Hid _ := Xd.out.below hb2
  replace hbw := Below.on hbw hb2
  clear hb2
  obtain ⟨cd0, cd1, cd2, fd0, fd1, fd2⟩ := Xd.out
  have hned : gd < v2.heap.size := World.block_lt_of_cell? v2 _ cd0
  go_wp2_with fail
  clear cd0 cd1 cd2 fd0 fd1 fd2 hned
  go_ret2
  exact ⟨rfl, hbw⟩
theorem doctop_n {p : Option Addr} {m c : Nat} {w : World} {e : Int} {s : Bool} {xs : List Nat} (h : At w p m c xs) (hf : formD s xs e = true) (hm : m ≠ 0) :
    Calls Tryz.prog 44 #[DV s p m c e] w fun en w' => en = .returned (.tuple #[.int .i64 (topI (iv s (valB B64 xs)) e), .int .i64 0]) ∧ Below w.heap.size w w' := by
  have H : Hid (At w p m c xs ∧ formD s xs e = true) := ⟨h, hf⟩
  have HM : Hid (m ≠ 0) := hm
  clear h hf hm
  go_enter Tryz.func44, Tryz.ntmps44
  go_wp2_with fail
  obtain ⟨W0, hW0⟩ : ∃ W0, W0 = (w.alloc (.cells #[.bool s, .slice p m c, .int .i64 e] 27)) := ⟨_, rfl⟩
  have Xd : Hid (B3q W0 (w.heap.size) (.bool s) (.slice p m c) (.int .i64 e)) := by rw [hW0]; exact ⟨by go_simp, by go_simp, by go_simp, by go_simp, by go_simp, by go_simp⟩
  have hb0 : Below w.heap.size w W0 := by rw [hW0]; exact below1 w _
  rw [← hW0]
  clear hW0
  have hbw : Below w.heap.size w w := Below.refl _ _
  obtain ⟨gd, hgd⟩ : ∃ g, g = w.heap.size := ⟨_, rfl⟩
  have HGd : Hid (w.heap.size ≤ gd) := by rw [hgd]; show _ ≤ _; omega
  rw [← hgd] at Xd
  try rw [← hgd]
  clear hgd
  replace hbw := Below.on hbw hb0
  clear hb0
  refine (docformd s (H.out.1.below hbw)).mono ?_
  rintro e v1 ⟨rfl, hb1⟩
  rw [H.out.2]
  replace Xd : Hid _ := Xd.out.below hb1
  replace hbw := Below.on hbw hb1
  clear hb1
  obtain ⟨cd0, cd1, cd2, fd0, fd1, fd2⟩ := Xd.out
  have hned : gd < v1.heap.size := World.block_lt_of_cell? v1 _ cd0
  go_wp2_with fail
  clear cd0 cd1 cd2 fd0 fd1 fd2 hned
  refine (nought).mono ?_
  rintro e v2 ⟨rfl, hb2⟩
  rw [decide_eq_false HM.out]
  replace Xd : Hid _ := Xd.out.below hb2
  replace hbw := Below.on hbw hb2
  clear hb2
  obtain ⟨cd0, cd1, cd2, fd0, fd1, fd2⟩ := Xd.out
  have hned : gd < v2.heap.size := World.block_lt_of_cell? v2 _ cd0
  go_wp2_with fail
  clear cd0 cd1 cd2 fd0 fd1 fd2 hned
  refine (topS (formD_dn (H.out.1.below hbw) H.out.2)).mono ?_
  rintro e v3 ⟨rfl, hb3⟩
  replace Xd : Hid _ := Xd.out.below hb3
  replace hbw := Below.on hbw hb3
  clear hb3
  go_wp2_with fail
  go_ret2
  exact ⟨rfl, hbw⟩
theorem doctopA {p : Option Addr} {m c : Nat} {xs : List Nat} {w : World} {e : Int} (s : Bool) (h : At w p m c xs) :
    Calls Tryz.prog 44 #[DV s p m c e] w fun en w' => en = .returned (.tuple #[.int .i64 (TopA s xs e).1, .int .i64 (TopA s xs e).2]) ∧ Below w.heap.size w w' := by
  unfold TopA
  cases hf : formD s xs e
  · rw [if_neg (by simp)]; exact doctop_w h hf
  · rw [if_pos rfl]
    have hd := formD_dn h hf
    by_cases hm : m = 0
    · rw [if_pos (zero_of hd hm)]; exact doctop_z h hf hm
    · have h0 : iv s (valB B64 xs) ≠ 0 := by
        have := odd_of hd (by omega)
        omega
      rw [if_neg h0]; exact doctop_n h hf hm
theorem told5l {p q : Option Addr} {m c n d : Nat} {w : World} {z e : Int} {s t : Bool} (h : DN w s p m c e z) (k : DN w t q n d e z) :
    Calls Tryz.prog 5 #[DV s p m c e, .int .i64 0, DV t q n d e, .int .i64 0] w fun en w' => en = .returned (.bool true) ∧ Below w.heap.size w w' := by
  have H : Hid (DN w s p m c e z) := h
  have K : Hid (DN w t q n d e z) := k
  clear h k
  go_enter Tryz.func5, Tryz.ntmps5
  go_wp2_with fail
  obtain ⟨W0, hW0⟩ : ∃ W0, W0 = ((w.alloc (.cells #[.bool s, .slice p m c, .int .i64 e] 27)).alloc (.cells #[.bool t, .slice q n d, .int .i64 e] 27)) := ⟨_, rfl⟩
  have Xa : Hid (B3q W0 (w.heap.size) (.bool s) (.slice p m c) (.int .i64 e)) := by rw [hW0]; exact ⟨by go_simp, by go_simp, by go_simp, by go_simp, by go_simp, by go_simp⟩
  have Xb : Hid (B3q W0 (w.heap.size + 1) (.bool t) (.slice q n d) (.int .i64 e)) := by rw [hW0]; exact ⟨by go_simp, by go_simp, by go_simp, by go_simp, by go_simp, by go_simp⟩
  have hb0 : Below w.heap.size w W0 := by rw [hW0]; exact below2 w _ _
  rw [← hW0]
  clear hW0
  have hbw : Below w.heap.size w w := Below.refl _ _
  obtain ⟨gb, hgb⟩ : ∃ g, g = w.heap.size + 1 := ⟨_, rfl⟩
  have HGb : Hid (w.heap.size ≤ gb) := by rw [hgb]; show _ ≤ _; omega
  rw [← hgb] at Xb
  try rw [← hgb]
  obtain ⟨ga, hga⟩ : ∃ g, g = w.heap.size := ⟨_, rfl⟩
  have HGa : Hid (w.heap.size ≤ ga) := by rw [hga]; show _ ≤ _; omega
  rw [← hga] at Xa
  try rw [← hga]
  have HGD : Hid (ga ≠ gb ∧ gb ≠ ga) := by rw [hga, hgb]; exact ⟨by omega, by omega⟩
  clear hga hgb
  replace hbw := Below.on hbw hb0
  clear hb0
  refine (sameD_t (H.out.below hbw) (K.out.below hbw)).mono ?_
  rintro e v1 ⟨rfl, hb1⟩
  replace Xa : Hid _ := Xa.out.below hb1
  replace Xb : Hid _ := Xb.out.below hb1
  replace hbw := Below.on hbw hb1
  clear hb1
  go_wp2_with fail
  go_ret
  exact ⟨rfl, hbw⟩
theorem awake5 (w : World) (hT : Tab w) :
    Calls Tryz.prog 9 #[] w fun en w' => en = .returned (.bool true) ∧ Below w.heap.size w w' := by
  have TB : Hid (Tab w) := hT
  have hbw : Below w.heap.size w w := Below.refl _ _
  clear hT
  go_enter Tryz.func9, Tryz.ntmps9
  go_wp2_with fail
  refine (num5 (3) (0) (by decide) (by decide) (by decide)).mono ?_
  rintro e2 v1 ⟨s1, g1, m1, c1, rfl, _, hd1, hb1⟩
  replace hbw := Below.on hbw hb1
  clear hb1
  have D1 : Hid (DN v1 s1 (some ⟨g1, 0, none⟩) m1 c1 (0) (3)) := hd1
  clear hd1
  go_wp2_with fail
  refine (num5 (1) (-2) (by decide) (by decide) (by decide)).mono ?_
  rintro e2 v2 ⟨s2, g2, m2, c2, rfl, _, hd2, hb2⟩
  replace D1 : Hid _ := D1.out.below hb2
  replace hbw := Below.on hbw hb2
  clear hb2
  have D2 : Hid (DN v2 s2 (some ⟨g2, 0, none⟩) m2 c2 (-2) (1)) := hd2
  clear hd2
  go_wp2_with fail
  have HBX : Hid (DB 3 0 10 10 ∧ DB 1 (-2) 10 10) := ⟨⟨.inr ⟨by decide, by decide, by decide⟩, by decide, by decide, by decide⟩, ⟨.inr ⟨by decide, by decide, by decide⟩, by decide, by decide, by decide⟩⟩
  refine (dadd_b D1.out D2.out HBX.out.1 HBX.out.2 (by decide) (TB.out.below hbw)).mono ?_
  rintro e2 v3 ⟨v, z3, e3, rfl, hv, hdb, hdv, hb3⟩
  have h9 : z3 = 13 ∧ e3 = -2 := dv_inj hdb.fm (.inr ⟨by decide, by decide, by decide⟩) (by rw [hdv, dv_shift (z := 3) (e := 0) (f := -2) (by decide) (by decide), ← dv_add]; rfl)
  obtain ⟨rfl, rfl⟩ := h9
  obtain ⟨s3, p3, m3, rfl, hd3⟩ := hv.dn hdb.fm
  clear hv hdb hdv
  replace D1 : Hid _ := D1.out.below hb3
  replace D2 : Hid _ := D2.out.below hb3
  replace hbw := Below.on hbw hb3
  clear hb3
  have D3 : Hid (DN v3 s3 p3 m3 m3 (-2) 13) := hd3
  clear hd3
  clear D1
  clear D2
  go_wp2_with fail
  have Xa0 : Hid (B3q (v3.alloc (.cells #[.bool s3, .slice p3 m3 m3, .int .i64 (-2)] 27)) v3.heap.size (.bool s3) (.slice p3 m3 m3) (.int .i64 (-2))) := B3q.new v3 _ _ _ _
  have hbn : Below v3.heap.size v3 (v3.alloc (.cells #[.bool s3, .slice p3 m3 m3, .int .i64 (-2)] 27)) := below1 v3 _
  generalize v3.alloc (.cells #[.bool s3, .slice p3 m3 m3, .int .i64 (-2)] 27) = Wa at *
  have HGa : Hid (w.heap.size ≤ v3.heap.size) := hbw.size
  replace D3 : Hid _ := D3.out.below hbn
  replace hbw := Below.on hbw hbn
  clear hbn
  generalize v3.heap.size = ga at *
  have Xa := Xa0
  clear Xa0
  refine (num5 (-1) (4) (by decide) (by decide) (by decide)).mono ?_
  rintro e2 v4 ⟨s4, g4, m4, c4, rfl, _, hd4, hb4⟩
  replace Xa : Hid _ := Xa.out.below hb4
  replace D3 : Hid _ := D3.out.below hb4
  replace hbw := Below.on hbw hb4
  clear hb4
  have D4 : Hid (DN v4 s4 (some ⟨g4, 0, none⟩) m4 c4 (4) (-1)) := hd4
  clear hd4
  go_wp2_with fail
  refine (num5 (1) (-9) (by decide) (by decide) (by decide)).mono ?_
  rintro e2 v5 ⟨s5, g5, m5, c5, rfl, _, hd5, hb5⟩
  replace Xa : Hid _ := Xa.out.below hb5
  replace D3 : Hid _ := D3.out.below hb5
  replace D4 : Hid _ := D4.out.below hb5
  replace hbw := Below.on hbw hb5
  clear hb5
  have D5 : Hid (DN v5 s5 (some ⟨g5, 0, none⟩) m5 c5 (-9) (1)) := hd5
  clear hd5
  go_wp2_with fail
  refine (dcmp_s D4.out D5.out (by decide) (by decide)).mono ?_
  rintro e v6 ⟨rfl, hb6⟩
  replace Xa : Hid _ := Xa.out.below hb6
  replace D3 : Hid _ := D3.out.below hb6
  replace D4 : Hid _ := D4.out.below hb6
  replace D5 : Hid _ := D5.out.below hb6
  replace hbw := Below.on hbw hb6
  clear hb6
  clear D4
  clear D5
  obtain ⟨ca0, ca1, ca2, fa0, fa1, fa2⟩ := Xa.out
  have hnea : ga < v6.heap.size := World.block_lt_of_cell? v6 _ ca0
  go_wp2_with fail
  clear ca0 ca1 ca2 fa0 fa1 fa2 hnea
  obtain ⟨Wz, hWz⟩ : ∃ W1, W1 = v6.drew := ⟨_, rfl⟩
  have hbd : Below v6.heap.size v6 Wz := by rw [hWz]; exact bDrew1 (Below.refl _ _)
  replace Xa : Hid _ := Xa.out.below hbd
  replace D3 : Hid _ := D3.out.below hbd
  replace hbw := Below.on hbw hbd
  clear hbd
  have HJ : Hid ((fun W' : World => W'.cell? ⟨ga, 0, none⟩ = some (.bool s3) ∧ W'.cell? ⟨ga, 1, none⟩ = some (.slice p3 m3 m3) ∧ W'.cell? ⟨ga, 2, none⟩ = some (.int .i64 (-2))) Wz) := ⟨Xa.out.c0, Xa.out.c1, Xa.out.c2⟩
  refine wp_region_J (fun W' => W'.cell? ⟨ga, 0, none⟩ = some (.bool s3) ∧ W'.cell? ⟨ga, 1, none⟩ = some (.slice p3 m3 m3) ∧ W'.cell? ⟨ga, 2, none⟩ = some (.int .i64 (-2))) (by kernel_rfl) ?_
  rw [← hWz]
  clear hWz
  refine wpJ_tq 0 rfl HJ.out ?_
  refine wpJ_tq 1 rfl HJ.out ?_
  refine wpJ_on 2 rfl fun KJ hK => ?_
  go_simp
  refine (num5 (13) (-2) (by decide) (by decide) (by decide)).mono ?_
  rintro e2 v7 ⟨s7, g7, m7, c7, rfl, _, hd7, hb7⟩
  replace Xa : Hid _ := Xa.out.below hb7
  replace D3 : Hid _ := D3.out.below hb7
  replace hbw := Below.on hbw hb7
  clear hb7
  have D7 : Hid (DN v7 s7 (some ⟨g7, 0, none⟩) m7 c7 (-2) (13)) := hd7
  clear hd7
  refine hK _ _ ⟨Xa.out.c0, Xa.out.c1, Xa.out.c2⟩ ?_
  clear hK
  refine wpJ_on 3 rfl fun KJ hK => ?_
  go_simp
  refine (told5l D3.out D7.out).mono ?_
  rintro e v8 ⟨rfl, hb8⟩
  replace Xa : Hid _ := Xa.out.below hb8
  replace D3 : Hid _ := D3.out.below hb8
  replace D7 : Hid _ := D7.out.below hb8
  replace hbw := Below.on hbw hb8
  clear hb8
  clear HJ
  have HJ : Hid ((fun W' : World => W'.cell? ⟨ga, 0, none⟩ = some (.bool s3) ∧ W'.cell? ⟨ga, 1, none⟩ = some (.slice p3 m3 m3) ∧ W'.cell? ⟨ga, 2, none⟩ = some (.int .i64 (-2))) v8) := ⟨Xa.out.c0, Xa.out.c1, Xa.out.c2⟩
  refine hK _ _ HJ.out ?_
  clear hK
  refine wpJ_tq 4 rfl HJ.out ?_
  refine wpJ_tq 5 rfl HJ.out ?_
  refine wpJ_tq 6 rfl HJ.out ?_
  refine wpJ_tq 7 rfl HJ.out ?_
  refine wpJ_tq 8 rfl HJ.out ?_
  refine wpJ_tq 9 rfl HJ.out ?_
  refine wpJ_tq 10 rfl HJ.out ?_
  refine wpJ_tq 11 rfl HJ.out ?_
  refine wpJ_tq 12 rfl HJ.out ?_
  refine wpJ_on 13 rfl fun KJ hK => ?_
  go_simp
  refine (dof12 (TB.out.below hbw)).mono ?_
  rintro e2 v9 ⟨s9, p9, m9, rfl, hd9, hb9⟩
  replace Xa : Hid _ := Xa.out.below hb9
  replace D3 : Hid _ := D3.out.below hb9
  replace D7 : Hid _ := D7.out.below hb9
  replace hbw := Below.on hbw hb9
  clear hb9
  have D9 : Hid (DN v9 s9 p9 m9 m9 2 3) := hd9
  clear hd9
  refine hK _ _ ⟨Xa.out.c0, Xa.out.c1, Xa.out.c2⟩ ?_
  clear hK
  refine wpJ_on 14 rfl fun KJ hK => ?_
  go_simp
  refine (num5 (3) (2) (by decide) (by decide) (by decide)).mono ?_
  rintro e2 v10 ⟨s10, g10, m10, c10, rfl, _, hd10, hb10⟩
  replace Xa : Hid _ := Xa.out.below hb10
  replace D3 : Hid _ := D3.out.below hb10
  replace D7 : Hid _ := D7.out.below hb10
  replace D9 : Hid _ := D9.out.below hb10
  replace hbw := Below.on hbw hb10
  clear hb10
  have D10 : Hid (DN v10 s10 (some ⟨g10, 0, none⟩) m10 c10 (2) (3)) := hd10
  clear hd10
  refine hK _ _ ⟨Xa.out.c0, Xa.out.c1, Xa.out.c2⟩ ?_
  clear hK
  refine wpJ_on 15 rfl fun KJ hK => ?_
  go_simp
  refine (sameD_t D9.out D10.out).mono ?_
  rintro e v11 ⟨rfl, hb11⟩
  replace Xa : Hid _ := Xa.out.below hb11
  replace D3 : Hid _ := D3.out.below hb11
  replace D7 : Hid _ := D7.out.below hb11
  replace D9 : Hid _ := D9.out.below hb11
  replace D10 : Hid _ := D10.out.below hb11
  replace hbw := Below.on hbw hb11
  clear hb11
  clear HJ
  have HJ : Hid ((fun W' : World => W'.cell? ⟨ga, 0, none⟩ = some (.bool s3) ∧ W'.cell? ⟨ga, 1, none⟩ = some (.slice p3 m3 m3) ∧ W'.cell? ⟨ga, 2, none⟩ = some (.int .i64 (-2))) v11) := ⟨Xa.out.c0, Xa.out.c1, Xa.out.c2⟩
  refine hK _ _ HJ.out ?_
  clear hK
  refine wpJ_tq 16 rfl HJ.out ?_
  refine wpJ_tq 17 rfl HJ.out ?_
  refine wpJ_done (by kernel_rfl) ?_ _
  clear HJ
  go_wp2_with fail
  go_ret
  exact ⟨rfl, hbw⟩
structure B10q (W : World) (g : Nat) (v0 v1 v2 v3 v4 v5 v6 v7 v8 v9 : Value) : Prop where
  c0 : W.cell? ⟨g, 0, none⟩ = some v0
  c1 : W.cell? ⟨g, 1, none⟩ = some v1
  c2 : W.cell? ⟨g, 2, none⟩ = some v2
  c3 : W.cell? ⟨g, 3, none⟩ = some v3
  c4 : W.cell? ⟨g, 4, none⟩ = some v4
  c5 : W.cell? ⟨g, 5, none⟩ = some v5
  c6 : W.cell? ⟨g, 6, none⟩ = some v6
  c7 : W.cell? ⟨g, 7, none⟩ = some v7
  c8 : W.cell? ⟨g, 8, none⟩ = some v8
  c9 : W.cell? ⟨g, 9, none⟩ = some v9
  f0 : W.frozen? ⟨g, 0, none⟩ = false
  f1 : W.frozen? ⟨g, 1, none⟩ = false
  f2 : W.frozen? ⟨g, 2, none⟩ = false
  f3 : W.frozen? ⟨g, 3, none⟩ = false
  f4 : W.frozen? ⟨g, 4, none⟩ = false
  f5 : W.frozen? ⟨g, 5, none⟩ = false
  f6 : W.frozen? ⟨g, 6, none⟩ = false
  f7 : W.frozen? ⟨g, 7, none⟩ = false
  f8 : W.frozen? ⟨g, 8, none⟩ = false
  f9 : W.frozen? ⟨g, 9, none⟩ = false
theorem B10q.lt {w : World} {g : Nat} {v0 v1 v2 v3 v4 v5 v6 v7 v8 v9 : Value} (h : B10q w g v0 v1 v2 v3 v4 v5 v6 v7 v8 v9) : g < w.heap.size := World.block_lt_of_cell? w _ h.c0
theorem B10q.below {W W' : World} {g : Nat} {v0 v1 v2 v3 v4 v5 v6 v7 v8 v9 : Value} (h : B10q W g v0 v1 v2 v3 v4 v5 v6 v7 v8 v9) (hb : Below W.heap.size W W') : B10q W' g v0 v1 v2 v3 v4 v5 v6 v7 v8 v9 := by
  have hl : g < W.heap.size := World.block_lt_of_cell? W _ h.c0
  exact ⟨(hb.cell (p := ⟨g, 0, none⟩) hl).trans h.c0, (hb.cell (p := ⟨g, 1, none⟩) hl).trans h.c1, (hb.cell (p := ⟨g, 2, none⟩) hl).trans h.c2, (hb.cell (p := ⟨g, 3, none⟩) hl).trans h.c3, (hb.cell (p := ⟨g, 4, none⟩) hl).trans h.c4, (hb.cell (p := ⟨g, 5, none⟩) hl).trans h.c5, (hb.cell (p := ⟨g, 6, none⟩) hl).trans h.c6, (hb.cell (p := ⟨g, 7, none⟩) hl).trans h.c7, (hb.cell (p := ⟨g, 8, none⟩) hl).trans h.c8, (hb.cell (p := ⟨g, 9, none⟩) hl).trans h.c9, (hb.frozen (p := ⟨g, 0, none⟩) hl).trans h.f0, (hb.frozen (p := ⟨g, 1, none⟩) hl).trans h.f1, (hb.frozen (p := ⟨g, 2, none⟩) hl).trans h.f2, (hb.frozen (p := ⟨g, 3, none⟩) hl).trans h.f3, (hb.frozen (p := ⟨g, 4, none⟩) hl).trans h.f4, (hb.frozen (p := ⟨g, 5, none⟩) hl).trans h.f5, (hb.frozen (p := ⟨g, 6, none⟩) hl).trans h.f6, (hb.frozen (p := ⟨g, 7, none⟩) hl).trans h.f7, (hb.frozen (p := ⟨g, 8, none⟩) hl).trans h.f8, (hb.frozen (p := ⟨g, 9, none⟩) hl).trans h.f9⟩
theorem B10q.new (w : World) (ty : TypeId) (v0 v1 v2 v3 v4 v5 v6 v7 v8 v9 : Value) : B10q (w.alloc (.cells #[v0, v1, v2, v3, v4, v5, v6, v7, v8, v9] ty)) w.heap.size v0 v1 v2 v3 v4 v5 v6 v7 v8 v9 := ⟨by go_simp, by go_simp, by go_simp, by go_simp, by go_simp, by go_simp, by go_simp, by go_simp, by go_simp, by go_simp, by go_simp, by go_simp, by go_simp, by go_simp, by go_simp, by go_simp, by go_simp, by go_simp, by go_simp, by go_simp⟩
theorem B10q.set10 {w : World} {r : Nat} {u0 u1 u2 u3 u4 u5 u6 u7 u8 u9 : Value} {v0 v1 v2 v3 v4 v5 v6 v7 v8 v9 : Value} (h : B10q w r u0 u1 u2 u3 u4 u5 u6 u7 u8 u9) : B10q ((((((((((w.setCell ⟨r, 0, none⟩ v0).setCell ⟨r, 1, none⟩ v1).setCell ⟨r, 2, none⟩ v2).setCell ⟨r, 3, none⟩ v3).setCell ⟨r, 4, none⟩ v4).setCell ⟨r, 5, none⟩ v5).setCell ⟨r, 6, none⟩ v6).setCell ⟨r, 7, none⟩ v7).setCell ⟨r, 8, none⟩ v8).setCell ⟨r, 9, none⟩ v9) r v0 v1 v2 v3 v4 v5 v6 v7 v8 v9 := by
  obtain ⟨c0, c1, c2, c3, c4, c5, c6, c7, c8, c9, f0, f1, f2, f3, f4, f5, f6, f7, f8, f9⟩ := h
  exact ⟨by go_simp, by go_simp, by go_simp, by go_simp, by go_simp, by go_simp, by go_simp, by go_simp, by go_simp, by go_simp, by go_simp, by go_simp, by go_simp, by go_simp, by go_simp, by go_simp, by go_simp, by go_simp, by go_simp, by go_simp⟩
theorem At.set10 {w : World} {g r n c : Nat} {xs : List Nat} {v0 v1 v2 v3 v4 v5 v6 v7 v8 v9 : Value} (h : At w (some ⟨g, 0, none⟩) n c xs) (hne : g ≠ r) : At ((((((((((w.setCell ⟨r, 0, none⟩ v0).setCell ⟨r, 1, none⟩ v1).setCell ⟨r, 2, none⟩ v2).setCell ⟨r, 3, none⟩ v3).setCell ⟨r, 4, none⟩ v4).setCell ⟨r, 5, none⟩ v5).setCell ⟨r, 6, none⟩ v6).setCell ⟨r, 7, none⟩ v7).setCell ⟨r, 8, none⟩ v8).setCell ⟨r, 9, none⟩ v9) (some ⟨g, 0, none⟩) n c xs := ((((((((((h.setOther _ _ _ hne).setOther _ _ _ hne).setOther _ _ _ hne).setOther _ _ _ hne).setOther _ _ _ hne).setOther _ _ _ hne).setOther _ _ _ hne).setOther _ _ _ hne).setOther _ _ _ hne).setOther _ _ _ hne)
theorem below_set10 {B r : Nat} {w w' : World} {v0 v1 v2 v3 v4 v5 v6 v7 v8 v9 : Value} (h : Below B w w') (hr : B ≤ r) : Below B w ((((((((((w'.setCell ⟨r, 0, none⟩ v0).setCell ⟨r, 1, none⟩ v1).setCell ⟨r, 2, none⟩ v2).setCell ⟨r, 3, none⟩ v3).setCell ⟨r, 4, none⟩ v4).setCell ⟨r, 5, none⟩ v5).setCell ⟨r, 6, none⟩ v6).setCell ⟨r, 7, none⟩ v7).setCell ⟨r, 8, none⟩ v8).setCell ⟨r, 9, none⟩ v9) := (bSet (bSet (bSet (bSet (bSet (bSet (bSet (bSet (bSet (bSet h _ _ _ hr) _ _ _ hr) _ _ _ hr) _ _ _ hr) _ _ _ hr) _ _ _ hr) _ _ _ hr) _ _ _ hr) _ _ _ hr) _ _ _ hr)
theorem loadVar_B10 {w : World} {g : Nat} {v0 v1 v2 v3 v4 v5 v6 v7 v8 v9 : Value} (h : B10q w g v0 v1 v2 v3 v4 v5 v6 v7 v8 v9) : (loadVar 55 ⟨g, 0, none⟩).run Tryz.prog w = .ok (.agg #[v0, v1, v2, v3, v4, v5, v6, v7, v8, v9]) w := by
  have hl : (loadCells ⟨g, 0, none⟩ 10).run Tryz.prog w = .ok #[v0, v1, v2, v3, v4, v5, v6, v7, v8, v9] w :=
    run_loadCells_list (P := Tryz.prog) w ⟨g, 0, none⟩ [v0, v1, v2, v3, v4, v5, v6, v7, v8, v9] (fun j v hv => by
      have hadd : (⟨g, 0, none⟩ : Addr).add j = ⟨g, j, none⟩ := by unfold Addr.add; split <;> simp_all
      rw [hadd]
      exact match j, hv with
      | 0, hv => by
        obtain rfl : v0 = v := by simpa using hv
        exact h.c0
      | 1, hv => by
        obtain rfl : v1 = v := by simpa using hv
        exact h.c1
      | 2, hv => by
        obtain rfl : v2 = v := by simpa using hv
        exact h.c2
      | 3, hv => by
        obtain rfl : v3 = v := by simpa using hv
        exact h.c3
      | 4, hv => by
        obtain rfl : v4 = v := by simpa using hv
        exact h.c4
      | 5, hv => by
        obtain rfl : v5 = v := by simpa using hv
        exact h.c5
      | 6, hv => by
        obtain rfl : v6 = v := by simpa using hv
        exact h.c6
      | 7, hv => by
        obtain rfl : v7 = v := by simpa using hv
        exact h.c7
      | 8, hv => by
        obtain rfl : v8 = v := by simpa using hv
        exact h.c8
      | 9, hv => by
        obtain rfl : v9 = v := by simpa using hv
        exact h.c9
      | k + 10, hv => by simp at hv)
  have hi : (Tryz.prog.info? 55).map (·.size) = some 10 := by kernel_rfl
  cases hq : Tryz.prog.info? 55 with
  | none => simp [hq] at hi
  | some i =>
    have hs : i.size = 10 := by simpa [hq] using hi
    have hagg : (isAgg 55).run Tryz.prog w = .ok true w := by
      unfold isAgg
      rw [Sem.run_bind, run_underlying Tryz.underlying55 w]
      rfl
    simp [loadVar, Sem.run_bind, hagg, sizeOf, typeInfo, hq, hs, hl]
theorem twinD {p : Option Addr} {m c : Nat} {xs : List Nat} {w : World} {e : Int} (s : Bool) (h : At w p m c xs) (hm : m ≤ 17592186044416) :
    Calls Tryz.prog 64 #[DV s p m c e] w fun en w' => ∃ g, en = .returned (DV s (some ⟨g, 0, none⟩) m m e) ∧ w.heap.size ≤ g ∧ At w' (some ⟨g, 0, none⟩) m m xs ∧ Below w.heap.size w w' := by
  have H : Hid (At w p m c xs) := h
  have HM : Hid (m ≤ 17592186044416) := hm
  clear h hm
  go_enter Tryz.func64, Tryz.ntmps64
  go_wp2_with fail
  obtain ⟨W0, hW0⟩ : ∃ W0, W0 = ((w.alloc (.cells #[.bool s, .slice p m c, .int .i64 e] 27)).alloc (.cells #[.bool false, .slice none 0 0, .int .i64 0] 27)) := ⟨_, rfl⟩
  have Xd : Hid (B3q W0 (w.heap.size) (.bool s) (.slice p m c) (.int .i64 e)) := by rw [hW0]; exact ⟨by go_simp, by go_simp, by go_simp, by go_simp, by go_simp, by go_simp⟩
  have Xr : Hid (B3q W0 (w.heap.size + 1) (.bool false) (.slice none 0 0) (.int .i64 0)) := by rw [hW0]; exact ⟨by go_simp, by go_simp, by go_simp, by go_simp, by go_simp, by go_simp⟩
  have hb0 : Below w.heap.size w W0 := by rw [hW0]; exact below2 w _ _
  rw [← hW0]
  clear hW0
  have hbw : Below w.heap.size w w := Below.refl _ _
  obtain ⟨gr, hgr⟩ : ∃ g, g = w.heap.size + 1 := ⟨_, rfl⟩
  have HGr : Hid (w.heap.size ≤ gr) := by rw [hgr]; show _ ≤ _; omega
  rw [← hgr] at Xr
  try rw [← hgr]
  obtain ⟨gd, hgd⟩ : ∃ g, g = w.heap.size := ⟨_, rfl⟩
  have HGd : Hid (w.heap.size ≤ gd) := by rw [hgd]; show _ ≤ _; omega
  rw [← hgd] at Xd
  try rw [← hgd]
  have HGD : Hid (gd ≠ gr ∧ gr ≠ gd) := by rw [hgd, hgr]; exact ⟨by omega, by omega⟩
  clear hgd hgr
  replace H : Hid _ := H.out.below hb0
  replace hbw := Below.on hbw hb0
  clear hb0
  obtain ⟨W1, hW1⟩ : ∃ W1, W1 = W0.drew := ⟨_, rfl⟩
  have hbd : Below W0.heap.size W0 W1 := by rw [hW1]; exact bDrew1 (Below.refl _ _)
  replace Xd : Hid _ := Xd.out.below hbd
  replace Xr : Hid _ := Xr.out.below hbd
  replace H : Hid _ := H.out.below hbd
  replace hbw := Below.on hbw hbd
  clear hbd
  have HJ : Hid ((fun W' : World => W'.cell? ⟨gd, 0, none⟩ = some (.bool s) ∧ W'.cell? ⟨gd, 1, none⟩ = some (.slice p m c) ∧ W'.cell? ⟨gd, 2, none⟩ = some (.int .i64 e)) W1) := ⟨Xd.out.c0, Xd.out.c1, Xd.out.c2⟩
  refine wp_region_J (fun W' => W'.cell? ⟨gd, 0, none⟩ = some (.bool s) ∧ W'.cell? ⟨gd, 1, none⟩ = some (.slice p m c) ∧ W'.cell? ⟨gd, 2, none⟩ = some (.int .i64 e)) (by kernel_rfl) ?_
  rw [← hW1]
  clear hW1
  refine wpJ_tq 0 rfl HJ.out ?_
  refine wpJ_tq 1 rfl HJ.out ?_
  refine wpJ_tq 2 rfl HJ.out ?_
  refine wpJ_tq 3 rfl HJ.out ?_
  refine wpJ_tq 4 rfl HJ.out ?_
  refine wpJ_tq 5 rfl HJ.out ?_
  refine wpJ_tq 8 rfl HJ.out ?_
  refine wpJ_tq 9 rfl HJ.out ?_
  refine wpJ_on 6 rfl fun KJ hK => ?_
  go_simp
  refine (twin_any H.out (by have := HM.out; omega)).mono ?_
  rintro e2 w2 ⟨g2, rfl, hg2, hblk2, hb2⟩
  have HRL : Hid (gr < g2 ∧ w.heap.size ≤ g2) := ⟨Nat.lt_of_lt_of_le Xr.out.lt hg2, Nat.le_trans hbw.size hg2⟩
  have hA2 := hblk2.at_ H.out.dig H.out.len (by have := HM.out; unfold maxLen; omega)
  replace Xd : Hid _ := Xd.out.below hb2
  replace Xr : Hid _ := Xr.out.below hb2
  replace H : Hid _ := H.out.below hb2
  replace hbw := Below.on hbw hb2
  clear hb2
  have A2 : Hid (At w2 (some ⟨g2, 0, none⟩) m m xs) := hA2
  clear hg2 hblk2 hA2
  clear HJ
  have HJ : Hid ((fun W' : World => W'.cell? ⟨gd, 0, none⟩ = some (.bool s) ∧ W'.cell? ⟨gd, 1, none⟩ = some (.slice p m c) ∧ W'.cell? ⟨gd, 2, none⟩ = some (.int .i64 e)) w2) := ⟨Xd.out.c0, Xd.out.c1, Xd.out.c2⟩
  refine hK _ _ HJ.out ?_
  clear hK
  refine wpJ_tq 7 rfl HJ.out ?_
  refine wpJ_tq 10 rfl HJ.out ?_
  obtain ⟨cr0, cr1, cr2, fr0, fr1, fr2⟩ := Xr.out
  have hner : gr < w2.heap.size := World.block_lt_of_cell? w2 _ cr0
  obtain ⟨cd0, cd1, cd2, fd0, fd1, fd2⟩ := Xd.out
  have hned : gd < w2.heap.size := World.block_lt_of_cell? w2 _ cd0
  obtain ⟨hgd0, hgd1⟩ := HGD.out
  refine wpJ_on 11 rfl fun KJ hK => ?_
  go_simp
  have HJ2 : Hid ((fun W' : World => W'.cell? ⟨gd, 0, none⟩ = some (.bool s) ∧ W'.cell? ⟨gd, 1, none⟩ = some (.slice p m c) ∧ W'.cell? ⟨gd, 2, none⟩ = some (.int .i64 e)) (((w2.setCell ⟨gr, 0, none⟩ (.bool s)).setCell ⟨gr, 1, none⟩ (.slice (some ⟨g2, 0, none⟩) m m)).setCell ⟨gr, 2, none⟩ (.int .i64 e))) := ⟨by go_simp, by go_simp, by go_simp⟩
  refine hK _ _ HJ2.out ?_
  clear hK HJ
  have HJ := HJ2
  clear HJ2
  refine wpJ_done (by kernel_rfl) ?_ _
  clear HJ
  go_wp2_with fail
  refine bodyPost_ret (v := DV s (some ⟨g2, 0, none⟩) m m e) (by rw [results_cell1 rfl]; go_simp) rfl ⟨g2, rfl, HRL.out.2, ?_, ?_⟩
  · have := HRL.out.1
    exact ((A2.out.setOther _ _ _ (by omega)).setOther _ _ _ (by omega)).setOther _ _ _ (by omega)
  · exact bSet (bSet (bSet hbw _ _ _ HGr.out) _ _ _ HGr.out) _ _ _ HGr.out
theorem told5e {p q : Option Addr} {m c n d : Nat} {w : World} {z e : Int} {s t : Bool} (er : Int) (h : DN w s p m c e z) (k : DN w t q n d e z) :
    Calls Tryz.prog 5 #[DV s p m c e, .int .i64 er, DV t q n d e, .int .i64 er] w fun en w' => en = .returned (.bool true) ∧ Below w.heap.size w w' := by
  have H : Hid (DN w s p m c e z) := h
  have K : Hid (DN w t q n d e z) := k
  have hee : (er == er) = true := by simp
  clear h k
  go_enter Tryz.func5, Tryz.ntmps5
  go_wp2_with fail
  obtain ⟨W0, hW0⟩ : ∃ W0, W0 = ((w.alloc (.cells #[.bool s, .slice p m c, .int .i64 e] 27)).alloc (.cells #[.bool t, .slice q n d, .int .i64 e] 27)) := ⟨_, rfl⟩
  have Xa : Hid (B3q W0 (w.heap.size) (.bool s) (.slice p m c) (.int .i64 e)) := by rw [hW0]; exact ⟨by go_simp, by go_simp, by go_simp, by go_simp, by go_simp, by go_simp⟩
  have Xb : Hid (B3q W0 (w.heap.size + 1) (.bool t) (.slice q n d) (.int .i64 e)) := by rw [hW0]; exact ⟨by go_simp, by go_simp, by go_simp, by go_simp, by go_simp, by go_simp⟩
  have hb0 : Below w.heap.size w W0 := by rw [hW0]; exact below2 w _ _
  rw [← hW0]
  clear hW0
  have hbw : Below w.heap.size w w := Below.refl _ _
  obtain ⟨gb, hgb⟩ : ∃ g, g = w.heap.size + 1 := ⟨_, rfl⟩
  have HGb : Hid (w.heap.size ≤ gb) := by rw [hgb]; show _ ≤ _; omega
  rw [← hgb] at Xb
  try rw [← hgb]
  obtain ⟨ga, hga⟩ : ∃ g, g = w.heap.size := ⟨_, rfl⟩
  have HGa : Hid (w.heap.size ≤ ga) := by rw [hga]; show _ ≤ _; omega
  rw [← hga] at Xa
  try rw [← hga]
  have HGD : Hid (ga ≠ gb ∧ gb ≠ ga) := by rw [hga, hgb]; exact ⟨by omega, by omega⟩
  clear hga hgb
  replace hbw := Below.on hbw hb0
  clear hb0
  refine (sameD_t (H.out.below hbw) (K.out.below hbw)).mono ?_
  rintro e v1 ⟨rfl, hb1⟩
  replace Xa : Hid _ := Xa.out.below hb1
  replace Xb : Hid _ := Xb.out.below hb1
  replace hbw := Below.on hbw hb1
  clear hb1
  go_wp2_with fail
  go_ret
  exact ⟨rfl, hbw⟩
theorem twinO {pa pb pm : Option Addr} {na ca nb cb nm cm : Nat} {xa xb xm : List Nat} {w : World} {kd ea eb nn : Int} (sa sb sm : Bool) (ha : At w pa na ca xa) (hb : At w pb nb cb xb) (hm : At w pm nm cm xm) (hn : na ≤ 17592186044416 ∧ nb ≤ 17592186044416 ∧ nm ≤ 17592186044416) :
    Calls Tryz.prog 42 #[(.agg #[.int .i64 kd, .bool sa, .slice pa na ca, .int .i64 ea, .bool sb, .slice pb nb cb, .int .i64 eb, .bool sm, .slice pm nm cm, .int .i64 nn])] w fun en w' => ∃ qa qb qm, en = .returned (.agg #[.int .i64 kd, .bool sa, .slice qa na na, .int .i64 ea, .bool sb, .slice qb nb nb, .int .i64 eb, .bool sm, .slice qm nm nm, .int .i64 nn]) ∧ At w' qa na na xa ∧ At w' qb nb nb xb ∧ At w' qm nm nm xm ∧ Below w.heap.size w w' := by
  have HA : Hid (At w pa na ca xa) := ha
  have HB : Hid (At w pb nb cb xb) := hb
  have HM : Hid (At w pm nm cm xm) := hm
  have HN : Hid (na ≤ 17592186044416 ∧ nb ≤ 17592186044416 ∧ nm ≤ 17592186044416) := hn
  clear ha hb hm hn
  go_enter Tryz.func42, Tryz.ntmps42
  go_wp2_with fail
  obtain ⟨W0, hW0⟩ : ∃ W0, W0 = ((w.alloc (.cells #[.int .i64 kd, .bool sa, .slice pa na ca, .int .i64 ea, .bool sb, .slice pb nb cb, .int .i64 eb, .bool sm, .slice pm nm cm, .int .i64 nn] 55)).alloc (.cells #[.int .i64 0, .bool false, .slice none 0 0, .int .i64 0, .bool false, .slice none 0 0, .int .i64 0, .bool false, .slice none 0 0, .int .i64 0] 55)) := ⟨_, rfl⟩
  have Xo : Hid (B10q W0 (w.heap.size) (.int .i64 kd) (.bool sa) (.slice pa na ca) (.int .i64 ea) (.bool sb) (.slice pb nb cb) (.int .i64 eb) (.bool sm) (.slice pm nm cm) (.int .i64 nn)) := by rw [hW0]; exact ⟨by go_simp, by go_simp, by go_simp, by go_simp, by go_simp, by go_simp, by go_simp, by go_simp, by go_simp, by go_simp, by go_simp, by go_simp, by go_simp, by go_simp, by go_simp, by go_simp, by go_simp, by go_simp, by go_simp, by go_simp⟩
  have Xr : Hid (B10q W0 (w.heap.size + 1) (.int .i64 0) (.bool false) (.slice none 0 0) (.int .i64 0) (.bool false) (.slice none 0 0) (.int .i64 0) (.bool false) (.slice none 0 0) (.int .i64 0)) := by rw [hW0]; exact ⟨by go_simp, by go_simp, by go_simp, by go_simp, by go_simp, by go_simp, by go_simp, by go_simp, by go_simp, by go_simp, by go_simp, by go_simp, by go_simp, by go_simp, by go_simp, by go_simp, by go_simp, by go_simp, by go_simp, by go_simp⟩
  have hb0 : Below w.heap.size w W0 := by rw [hW0]; exact below2 w _ _
  rw [← hW0]
  clear hW0
  have hbw : Below w.heap.size w w := Below.refl _ _
  obtain ⟨gr, hgr⟩ : ∃ g, g = w.heap.size + 1 := ⟨_, rfl⟩
  have HGr : Hid (w.heap.size ≤ gr) := by rw [hgr]; show _ ≤ _; omega
  rw [← hgr] at Xr
  try rw [← hgr]
  obtain ⟨go, hgo⟩ : ∃ g, g = w.heap.size := ⟨_, rfl⟩
  have HGo : Hid (w.heap.size ≤ go) := by rw [hgo]; show _ ≤ _; omega
  rw [← hgo] at Xo
  try rw [← hgo]
  have HGD : Hid (go ≠ gr ∧ gr ≠ go) := by rw [hgo, hgr]; exact ⟨by omega, by omega⟩
  clear hgo hgr
  replace hbw := Below.on hbw hb0
  clear hb0
  obtain ⟨co0, co1, co2, co3, co4, co5, co6, co7, co8, co9, fo0, fo1, fo2, fo3, fo4, fo5, fo6, fo7, fo8, fo9⟩ := Xo.out
  have hneo : go < W0.heap.size := World.block_lt_of_cell? W0 _ co0
  go_wp2_with fail
  clear co0 co1 co2 co3 co4 co5 co6 co7 co8 co9 fo0 fo1 fo2 fo3 fo4 fo5 fo6 fo7 fo8 fo9 hneo
  refine (twinD sa (HA.out.below hbw) HN.out.1).mono ?_
  rintro e2 v1 ⟨g1, rfl, hg1, hA1, hb1⟩
  have HD1 : Hid (go < g1 ∧ gr < g1) := ⟨Nat.lt_of_lt_of_le Xo.out.lt hg1, Nat.lt_of_lt_of_le Xr.out.lt hg1⟩
  replace Xo : Hid _ := Xo.out.below hb1
  replace Xr : Hid _ := Xr.out.below hb1
  replace hbw := Below.on hbw hb1
  clear hb1
  have T1 : Hid (At v1 (some ⟨g1, 0, none⟩) na na xa) := hA1
  clear hA1 hg1
  obtain ⟨hgd0, hgd1⟩ := HGD.out
  obtain ⟨co0, co1, co2, co3, co4, co5, co6, co7, co8, co9, fo0, fo1, fo2, fo3, fo4, fo5, fo6, fo7, fo8, fo9⟩ := Xo.out
  have hneo : go < v1.heap.size := World.block_lt_of_cell? v1 _ co0
  obtain ⟨cr0, cr1, cr2, cr3, cr4, cr5, cr6, cr7, cr8, cr9, fr0, fr1, fr2, fr3, fr4, fr5, fr6, fr7, fr8, fr9⟩ := Xr.out
  have hner : gr < v1.heap.size := World.block_lt_of_cell? v1 _ cr0
  go_wp2_with fail
  have Xo2 : Hid (B10q (((v1.setCell ⟨go, 1, none⟩ (.bool sa)).setCell ⟨go, 2, none⟩ (.slice (some ⟨g1, 0, none⟩) na na)).setCell ⟨go, 3, none⟩ (.int .i64 ea)) go (.int .i64 kd) (.bool sa) (.slice (some ⟨g1, 0, none⟩) na na) (.int .i64 ea) (.bool sb) (.slice pb nb cb) (.int .i64 eb) (.bool sm) (.slice pm nm cm) (.int .i64 nn)) := ⟨by go_simp, by go_simp, by go_simp, by go_simp, by go_simp, by go_simp, by go_simp, by go_simp, by go_simp, by go_simp, by go_simp, by go_simp, by go_simp, by go_simp, by go_simp, by go_simp, by go_simp, by go_simp, by go_simp, by go_simp⟩
  have Xr2 : Hid (B10q (((v1.setCell ⟨go, 1, none⟩ (.bool sa)).setCell ⟨go, 2, none⟩ (.slice (some ⟨g1, 0, none⟩) na na)).setCell ⟨go, 3, none⟩ (.int .i64 ea)) gr (.int .i64 0) (.bool false) (.slice none 0 0) (.int .i64 0) (.bool false) (.slice none 0 0) (.int .i64 0) (.bool false) (.slice none 0 0) (.int .i64 0)) := ⟨by go_simp, by go_simp, by go_simp, by go_simp, by go_simp, by go_simp, by go_simp, by go_simp, by go_simp, by go_simp, by go_simp, by go_simp, by go_simp, by go_simp, by go_simp, by go_simp, by go_simp, by go_simp, by go_simp, by go_simp⟩
  have T12 : Hid (At (((v1.setCell ⟨go, 1, none⟩ (.bool sa)).setCell ⟨go, 2, none⟩ (.slice (some ⟨g1, 0, none⟩) na na)).setCell ⟨go, 3, none⟩ (.int .i64 ea)) (some ⟨g1, 0, none⟩) na na xa) := (((T1.out.setOther _ _ _ (by have := HD1.out; omega)).setOther _ _ _ (by have := HD1.out; omega)).setOther _ _ _ (by have := HD1.out; omega))
  have hbw2 : Below w.heap.size w (((v1.setCell ⟨go, 1, none⟩ (.bool sa)).setCell ⟨go, 2, none⟩ (.slice (some ⟨g1, 0, none⟩) na na)).setCell ⟨go, 3, none⟩ (.int .i64 ea)) := bSet (bSet (bSet (hbw) _ _ _ HGo.out) _ _ _ HGo.out) _ _ _ HGo.out
  clear co0 co1 co2 co3 co4 co5 co6 co7 co8 co9 fo0 fo1 fo2 fo3 fo4 fo5 fo6 fo7 fo8 fo9 hneo
  clear cr0 cr1 cr2 cr3 cr4 cr5 cr6 cr7 cr8 cr9 fr0 fr1 fr2 fr3 fr4 fr5 fr6 fr7 fr8 fr9 hner
  clear hgd0 hgd1 Xo Xr hbw T1
  generalize (((v1.setCell ⟨go, 1, none⟩ (.bool sa)).setCell ⟨go, 2, none⟩ (.slice (some ⟨g1, 0, none⟩) na na)).setCell ⟨go, 3, none⟩ (.int .i64 ea)) = W2 at *
  have Xo := Xo2
  have Xr := Xr2
  have hbw := hbw2
  have T1 := T12
  clear Xo2 Xr2 hbw2 T12
  refine (twinD sb (HB.out.below hbw) HN.out.2.1).mono ?_
  rintro e2 v3 ⟨g3, rfl, hg3, hA3, hb3⟩
  have HD3 : Hid (go < g3 ∧ gr < g3) := ⟨Nat.lt_of_lt_of_le Xo.out.lt hg3, Nat.lt_of_lt_of_le Xr.out.lt hg3⟩
  replace Xo : Hid _ := Xo.out.below hb3
  replace Xr : Hid _ := Xr.out.below hb3
  replace T1 : Hid _ := T1.out.below hb3
  replace hbw := Below.on hbw hb3
  clear hb3
  have T3 : Hid (At v3 (some ⟨g3, 0, none⟩) nb nb xb) := hA3
  clear hA3 hg3
  obtain ⟨hgd0, hgd1⟩ := HGD.out
  obtain ⟨co0, co1, co2, co3, co4, co5, co6, co7, co8, co9, fo0, fo1, fo2, fo3, fo4, fo5, fo6, fo7, fo8, fo9⟩ := Xo.out
  have hneo : go < v3.heap.size := World.block_lt_of_cell? v3 _ co0
  obtain ⟨cr0, cr1, cr2, cr3, cr4, cr5, cr6, cr7, cr8, cr9, fr0, fr1, fr2, fr3, fr4, fr5, fr6, fr7, fr8, fr9⟩ := Xr.out
  have hner : gr < v3.heap.size := World.block_lt_of_cell? v3 _ cr0
  go_wp2_with fail
  have Xo2 : Hid (B10q (((v3.setCell ⟨go, 4, none⟩ (.bool sb)).setCell ⟨go, 5, none⟩ (.slice (some ⟨g3, 0, none⟩) nb nb)).setCell ⟨go, 6, none⟩ (.int .i64 eb)) go (.int .i64 kd) (.bool sa) (.slice (some ⟨g1, 0, none⟩) na na) (.int .i64 ea) (.bool sb) (.slice (some ⟨g3, 0, none⟩) nb nb) (.int .i64 eb) (.bool sm) (.slice pm nm cm) (.int .i64 nn)) := ⟨by go_simp, by go_simp, by go_simp, by go_simp, by go_simp, by go_simp, by go_simp, by go_simp, by go_simp, by go_simp, by go_simp, by go_simp, by go_simp, by go_simp, by go_simp, by go_simp, by go_simp, by go_simp, by go_simp, by go_simp⟩
  have Xr2 : Hid (B10q (((v3.setCell ⟨go, 4, none⟩ (.bool sb)).setCell ⟨go, 5, none⟩ (.slice (some ⟨g3, 0, none⟩) nb nb)).setCell ⟨go, 6, none⟩ (.int .i64 eb)) gr (.int .i64 0) (.bool false) (.slice none 0 0) (.int .i64 0) (.bool false) (.slice none 0 0) (.int .i64 0) (.bool false) (.slice none 0 0) (.int .i64 0)) := ⟨by go_simp, by go_simp, by go_simp, by go_simp, by go_simp, by go_simp, by go_simp, by go_simp, by go_simp, by go_simp, by go_simp, by go_simp, by go_simp, by go_simp, by go_simp, by go_simp, by go_simp, by go_simp, by go_simp, by go_simp⟩
  have T12 : Hid (At (((v3.setCell ⟨go, 4, none⟩ (.bool sb)).setCell ⟨go, 5, none⟩ (.slice (some ⟨g3, 0, none⟩) nb nb)).setCell ⟨go, 6, none⟩ (.int .i64 eb)) (some ⟨g1, 0, none⟩) na na xa) := (((T1.out.setOther _ _ _ (by have := HD1.out; omega)).setOther _ _ _ (by have := HD1.out; omega)).setOther _ _ _ (by have := HD1.out; omega))
  have T32 : Hid (At (((v3.setCell ⟨go, 4, none⟩ (.bool sb)).setCell ⟨go, 5, none⟩ (.slice (some ⟨g3, 0, none⟩) nb nb)).setCell ⟨go, 6, none⟩ (.int .i64 eb)) (some ⟨g3, 0, none⟩) nb nb xb) := (((T3.out.setOther _ _ _ (by have := HD3.out; omega)).setOther _ _ _ (by have := HD3.out; omega)).setOther _ _ _ (by have := HD3.out; omega))
  have hbw2 : Below w.heap.size w (((v3.setCell ⟨go, 4, none⟩ (.bool sb)).setCell ⟨go, 5, none⟩ (.slice (some ⟨g3, 0, none⟩) nb nb)).setCell ⟨go, 6, none⟩ (.int .i64 eb)) := bSet (bSet (bSet (hbw) _ _ _ HGo.out) _ _ _ HGo.out) _ _ _ HGo.out
  clear co0 co1 co2 co3 co4 co5 co6 co7 co8 co9 fo0 fo1 fo2 fo3 fo4 fo5 fo6 fo7 fo8 fo9 hneo
  clear cr0 cr1 cr2 cr3 cr4 cr5 cr6 cr7 cr8 cr9 fr0 fr1 fr2 fr3 fr4 fr5 fr6 fr7 fr8 fr9 hner
  clear hgd0 hgd1 Xo Xr hbw T1 T3
  generalize (((v3.setCell ⟨go, 4, none⟩ (.bool sb)).setCell ⟨go, 5, none⟩ (.slice (some ⟨g3, 0, none⟩) nb nb)).setCell ⟨go, 6, none⟩ (.int .i64 eb)) = W4 at *
  have Xo := Xo2
  have Xr := Xr2
  have hbw := hbw2
  have T1 := T12
  have T3 := T32
  clear Xo2 Xr2 hbw2 T12 T32
  refine (twinD sm (HM.out.below hbw) HN.out.2.2).mono ?_
  rintro e2 v5 ⟨g5, rfl, hg5, hA5, hb5⟩
  have HD5 : Hid (go < g5 ∧ gr < g5) := ⟨Nat.lt_of_lt_of_le Xo.out.lt hg5, Nat.lt_of_lt_of_le Xr.out.lt hg5⟩
  replace Xo : Hid _ := Xo.out.below hb5
  replace Xr : Hid _ := Xr.out.below hb5
  replace T1 : Hid _ := T1.out.below hb5
  replace T3 : Hid _ := T3.out.below hb5
  replace hbw := Below.on hbw hb5
  clear hb5
  have T5 : Hid (At v5 (some ⟨g5, 0, none⟩) nm nm xm) := hA5
  clear hA5 hg5
  obtain ⟨hgd0, hgd1⟩ := HGD.out
  obtain ⟨co0, co1, co2, co3, co4, co5, co6, co7, co8, co9, fo0, fo1, fo2, fo3, fo4, fo5, fo6, fo7, fo8, fo9⟩ := Xo.out
  have hneo : go < v5.heap.size := World.block_lt_of_cell? v5 _ co0
  obtain ⟨cr0, cr1, cr2, cr3, cr4, cr5, cr6, cr7, cr8, cr9, fr0, fr1, fr2, fr3, fr4, fr5, fr6, fr7, fr8, fr9⟩ := Xr.out
  have hner : gr < v5.heap.size := World.block_lt_of_cell? v5 _ cr0
  go_wp2_with fail
  have Xr2 : Hid (B10q ((v5.setCell ⟨go, 7, none⟩ (.bool sm)).setCell ⟨go, 8, none⟩ (.slice (some ⟨g5, 0, none⟩) nm nm)) gr (.int .i64 0) (.bool false) (.slice none 0 0) (.int .i64 0) (.bool false) (.slice none 0 0) (.int .i64 0) (.bool false) (.slice none 0 0) (.int .i64 0)) := ⟨by go_simp, by go_simp, by go_simp, by go_simp, by go_simp, by go_simp, by go_simp, by go_simp, by go_simp, by go_simp, by go_simp, by go_simp, by go_simp, by go_simp, by go_simp, by go_simp, by go_simp, by go_simp, by go_simp, by go_simp⟩
  have T12 : Hid (At ((v5.setCell ⟨go, 7, none⟩ (.bool sm)).setCell ⟨go, 8, none⟩ (.slice (some ⟨g5, 0, none⟩) nm nm)) (some ⟨g1, 0, none⟩) na na xa) := ((T1.out.setOther _ _ _ (by have := HD1.out; omega)).setOther _ _ _ (by have := HD1.out; omega))
  have T32 : Hid (At ((v5.setCell ⟨go, 7, none⟩ (.bool sm)).setCell ⟨go, 8, none⟩ (.slice (some ⟨g5, 0, none⟩) nm nm)) (some ⟨g3, 0, none⟩) nb nb xb) := ((T3.out.setOther _ _ _ (by have := HD3.out; omega)).setOther _ _ _ (by have := HD3.out; omega))
  have T52 : Hid (At ((v5.setCell ⟨go, 7, none⟩ (.bool sm)).setCell ⟨go, 8, none⟩ (.slice (some ⟨g5, 0, none⟩) nm nm)) (some ⟨g5, 0, none⟩) nm nm xm) := ((T5.out.setOther _ _ _ (by have := HD5.out; omega)).setOther _ _ _ (by have := HD5.out; omega))
  have hbw2 : Below w.heap.size w ((v5.setCell ⟨go, 7, none⟩ (.bool sm)).setCell ⟨go, 8, none⟩ (.slice (some ⟨g5, 0, none⟩) nm nm)) := bSet (bSet hbw _ _ _ HGo.out) _ _ _ HGo.out
  clear co0 co1 co2 co3 co4 co5 co6 co7 co8 co9 fo0 fo1 fo2 fo3 fo4 fo5 fo6 fo7 fo8 fo9 hneo
  clear cr0 cr1 cr2 cr3 cr4 cr5 cr6 cr7 cr8 cr9 fr0 fr1 fr2 fr3 fr4 fr5 fr6 fr7 fr8 fr9 hner
  clear hgd0 hgd1 Xo Xr hbw T1 T3 T5
  generalize ((v5.setCell ⟨go, 7, none⟩ (.bool sm)).setCell ⟨go, 8, none⟩ (.slice (some ⟨g5, 0, none⟩) nm nm)) = W6 at *
  have Xr := Xr2
  have hbw := hbw2
  have T1 := T12
  have T3 := T32
  have T5 := T52
  clear Xr2 hbw2 T12 T32 T52
  obtain ⟨cr0, cr1, cr2, cr3, cr4, cr5, cr6, cr7, cr8, cr9, fr0, fr1, fr2, fr3, fr4, fr5, fr6, fr7, fr8, fr9⟩ := Xr.out
  have hner : gr < W6.heap.size := World.block_lt_of_cell? W6 _ cr0
  clear cr0 cr1 cr2 cr3 cr4 cr5 cr6 cr7 cr8 cr9 fr0 fr1 fr2 fr3 fr4 fr5 fr6 fr7 fr8 fr9 hner
  have Xr3 : Hid (B10q ((((((((((W6.setCell ⟨gr, 0, none⟩ (.int .i64 kd)).setCell ⟨gr, 1, none⟩ (.bool sa)).setCell ⟨gr, 2, none⟩ (.slice (some ⟨g1, 0, none⟩) na na)).setCell ⟨gr, 3, none⟩ (.int .i64 ea)).setCell ⟨gr, 4, none⟩ (.bool sb)).setCell ⟨gr, 5, none⟩ (.slice (some ⟨g3, 0, none⟩) nb nb)).setCell ⟨gr, 6, none⟩ (.int .i64 eb)).setCell ⟨gr, 7, none⟩ (.bool sm)).setCell ⟨gr, 8, none⟩ (.slice (some ⟨g5, 0, none⟩) nm nm)).setCell ⟨gr, 9, none⟩ (.int .i64 nn)) gr (.int .i64 kd) (.bool sa) (.slice (some ⟨g1, 0, none⟩) na na) (.int .i64 ea) (.bool sb) (.slice (some ⟨g3, 0, none⟩) nb nb) (.int .i64 eb) (.bool sm) (.slice (some ⟨g5, 0, none⟩) nm nm) (.int .i64 nn)) := Xr.out.set10
  have T13 : Hid (At ((((((((((W6.setCell ⟨gr, 0, none⟩ (.int .i64 kd)).setCell ⟨gr, 1, none⟩ (.bool sa)).setCell ⟨gr, 2, none⟩ (.slice (some ⟨g1, 0, none⟩) na na)).setCell ⟨gr, 3, none⟩ (.int .i64 ea)).setCell ⟨gr, 4, none⟩ (.bool sb)).setCell ⟨gr, 5, none⟩ (.slice (some ⟨g3, 0, none⟩) nb nb)).setCell ⟨gr, 6, none⟩ (.int .i64 eb)).setCell ⟨gr, 7, none⟩ (.bool sm)).setCell ⟨gr, 8, none⟩ (.slice (some ⟨g5, 0, none⟩) nm nm)).setCell ⟨gr, 9, none⟩ (.int .i64 nn)) (some ⟨g1, 0, none⟩) na na xa) := T1.out.set10 (by have := HD1.out; omega)
  have T33 : Hid (At ((((((((((W6.setCell ⟨gr, 0, none⟩ (.int .i64 kd)).setCell ⟨gr, 1, none⟩ (.bool sa)).setCell ⟨gr, 2, none⟩ (.slice (some ⟨g1, 0, none⟩) na na)).setCell ⟨gr, 3, none⟩ (.int .i64 ea)).setCell ⟨gr, 4, none⟩ (.bool sb)).setCell ⟨gr, 5, none⟩ (.slice (some ⟨g3, 0, none⟩) nb nb)).setCell ⟨gr, 6, none⟩ (.int .i64 eb)).setCell ⟨gr, 7, none⟩ (.bool sm)).setCell ⟨gr, 8, none⟩ (.slice (some ⟨g5, 0, none⟩) nm nm)).setCell ⟨gr, 9, none⟩ (.int .i64 nn)) (some ⟨g3, 0, none⟩) nb nb xb) := T3.out.set10 (by have := HD3.out; omega)
  have T53 : Hid (At ((((((((((W6.setCell ⟨gr, 0, none⟩ (.int .i64 kd)).setCell ⟨gr, 1, none⟩ (.bool sa)).setCell ⟨gr, 2, none⟩ (.slice (some ⟨g1, 0, none⟩) na na)).setCell ⟨gr, 3, none⟩ (.int .i64 ea)).setCell ⟨gr, 4, none⟩ (.bool sb)).setCell ⟨gr, 5, none⟩ (.slice (some ⟨g3, 0, none⟩) nb nb)).setCell ⟨gr, 6, none⟩ (.int .i64 eb)).setCell ⟨gr, 7, none⟩ (.bool sm)).setCell ⟨gr, 8, none⟩ (.slice (some ⟨g5, 0, none⟩) nm nm)).setCell ⟨gr, 9, none⟩ (.int .i64 nn)) (some ⟨g5, 0, none⟩) nm nm xm) := T5.out.set10 (by have := HD5.out; omega)
  have hbw3 : Below w.heap.size w ((((((((((W6.setCell ⟨gr, 0, none⟩ (.int .i64 kd)).setCell ⟨gr, 1, none⟩ (.bool sa)).setCell ⟨gr, 2, none⟩ (.slice (some ⟨g1, 0, none⟩) na na)).setCell ⟨gr, 3, none⟩ (.int .i64 ea)).setCell ⟨gr, 4, none⟩ (.bool sb)).setCell ⟨gr, 5, none⟩ (.slice (some ⟨g3, 0, none⟩) nb nb)).setCell ⟨gr, 6, none⟩ (.int .i64 eb)).setCell ⟨gr, 7, none⟩ (.bool sm)).setCell ⟨gr, 8, none⟩ (.slice (some ⟨g5, 0, none⟩) nm nm)).setCell ⟨gr, 9, none⟩ (.int .i64 nn)) := below_set10 hbw HGr.out
  clear Xr hbw T1 T3 T5
  generalize ((((((((((W6.setCell ⟨gr, 0, none⟩ (.int .i64 kd)).setCell ⟨gr, 1, none⟩ (.bool sa)).setCell ⟨gr, 2, none⟩ (.slice (some ⟨g1, 0, none⟩) na na)).setCell ⟨gr, 3, none⟩ (.int .i64 ea)).setCell ⟨gr, 4, none⟩ (.bool sb)).setCell ⟨gr, 5, none⟩ (.slice (some ⟨g3, 0, none⟩) nb nb)).setCell ⟨gr, 6, none⟩ (.int .i64 eb)).setCell ⟨gr, 7, none⟩ (.bool sm)).setCell ⟨gr, 8, none⟩ (.slice (some ⟨g5, 0, none⟩) nm nm)).setCell ⟨gr, 9, none⟩ (.int .i64 nn)) = W8 at *
  refine bodyPost_ret (v := .agg #[.int .i64 kd, .bool sa, .slice (some ⟨g1, 0, none⟩) na na, .int .i64 ea, .bool sb, .slice (some ⟨g3, 0, none⟩) nb nb, .int .i64 eb, .bool sm, .slice (some ⟨g5, 0, none⟩) nm nm, .int .i64 nn]) (by rw [results_cell1 rfl]; exact loadVar_B10 (Xr3.out.below (below1 W8 _))) rfl ⟨some ⟨g1, 0, none⟩, some ⟨g3, 0, none⟩, some ⟨g5, 0, none⟩, rfl, T13.out.below (below1 W8 _), T33.out.below (below1 W8 _), T53.out.below (below1 W8 _), Below.on hbw3 (below1 W8 _)⟩
def Play5 (k : Int) : Prop := ∀ (pa pb pm : Option Addr) (na ca nb cb nm cm : Nat) (xa xb xm : List Nat) (w : World) (ea eb nn : Int) (sa sb sm : Bool), At w pa na ca xa → At w pb nb cb xb → At w pm nm cm xm → (na ≤ 17592186044416 ∧ nb ≤ 17592186044416 ∧ nm ≤ 17592186044416 ∧ -9223372036854775808 ≤ nn ∧ nn ≤ 9223372036854775807) → Tab w →
    Calls Tryz.prog 24 #[.agg #[.int .i64 k, .bool sa, .slice pa na ca, .int .i64 ea, .bool sb, .slice pb nb cb, .int .i64 eb, .bool sm, .slice pm nm cm, .int .i64 nn]] w fun e w' => e = .returned (.bool true) ∧ Below w.heap.size w w'

theorem all5 {P : Option Addr} {N C : Nat} {its : List Op10} {w : World} {lo hi : Int} (h : Scr5 w P N C its) (hT : Tab w)
    (hp : ∀ k, lo ≤ k → k ≤ hi → Play5 k) :
    Calls Tryz.prog 10 #[.slice P N C, .int .i64 lo, .int .i64 hi] w fun e w' => e = .returned (.bool true) ∧ Below w.heap.size w w' := by
  have H : Hid (Scr5 w P N C its) := h
  have HP : Hid (∀ k, lo ≤ k → k ≤ hi → Play5 k) := hp
  have HT : Hid (Tab w) := hT
  have HLN : Hid (its.length = N) := h.len
  have cap := h.cap; have big := h.big
  unfold maxLen at big
  clear h hp hT
  go_enter Tryz.func10, Tryz.ntmps10
  go_wp2_with fail
  go_loopg [11] N (fun gg iv wr => ∃ k : Nat, k + gg = N ∧ iv = .int .i64 k ∧ Below w.heap.size w wr)
  case atStart => exact ⟨0, by omega, rfl, Below.refl _ _⟩
  case round =>
    obtain ⟨k, hkg, rfl, hbw⟩ := hrel
    cases gk with
    | zero =>
      obtain rfl : k = N := by omega
      have hnk : ¬ (k : Int) < (k : Int) := by omega
      go_wp2_with fail
      go_ret
      exact ⟨rfl, hbw⟩
    | succ gg =>
      have hki : k < its.length := by rw [HLN.out]; omega
      have HR := H.out.below hbw
      obtain ⟨g, off, rfl, hc⟩ := HR.cells.resolve_left (by omega)
      obtain ⟨e0, e1, e2, e3, e4, e5, e6, e7, e8, e9⟩ := hc k hki
      have HAT : Hid (At wr its[k].pa its[k].na its[k].ca its[k].xa ∧ At wr its[k].pb its[k].nb its[k].cb its[k].xb ∧ At wr its[k].pm its[k].nm its[k].cm its[k].xm ∧ its[k].na ≤ 17592186044416 ∧ its[k].nb ≤ 17592186044416 ∧ its[k].nm ≤ 17592186044416 ∧ -9223372036854775808 ≤ its[k].nn ∧ its[k].nn ≤ 9223372036854775807) := HR.ats its[k] (List.getElem_mem hki)
      have HBW : Hid (Below w.heap.size w wr) := hbw
      have hkk : (k : Int) < (N : Int) := by omega
      have hlt : g < wr.heap.size := World.block_lt_of_cell? wr _ e0
      clear hc HR hbw
      generalize its[k].k = kd at *
      generalize its[k].sa = sa at *
      generalize its[k].pa = pa at *
      generalize its[k].na = na at *
      generalize its[k].ca = ca at *
      generalize its[k].xa = xa at *
      generalize its[k].ea = ea at *
      generalize its[k].sb = sb at *
      generalize its[k].pb = pb at *
      generalize its[k].nb = nb at *
      generalize its[k].cb = cb at *
      generalize its[k].xb = xb at *
      generalize its[k].eb = eb at *
      generalize its[k].sm = sm at *
      generalize its[k].pm = pm at *
      generalize its[k].nm = nm at *
      generalize its[k].cm = cm at *
      generalize its[k].xm = xm at *
      generalize its[k].nn = nn at *
      have hb0 : Below wr.heap.size wr (wr.alloc (.cells #[.int .i64 kd, .bool sa, .slice pa na ca, .int .i64 ea, .bool sb, .slice pb nb cb, .int .i64 eb, .bool sm, .slice pm nm cm, .int .i64 nn] 55)) := below1 wr _
      have HAO : Hid (At (wr.alloc (.cells #[.int .i64 kd, .bool sa, .slice pa na ca, .int .i64 ea, .bool sb, .slice pb nb cb, .int .i64 eb, .bool sm, .slice pm nm cm, .int .i64 nn] 55)) pa na ca xa ∧ At (wr.alloc (.cells #[.int .i64 kd, .bool sa, .slice pa na ca, .int .i64 ea, .bool sb, .slice pb nb cb, .int .i64 eb, .bool sm, .slice pm nm cm, .int .i64 nn] 55)) pb nb cb xb ∧ At (wr.alloc (.cells #[.int .i64 kd, .bool sa, .slice pa na ca, .int .i64 ea, .bool sb, .slice pb nb cb, .int .i64 eb, .bool sm, .slice pm nm cm, .int .i64 nn] 55)) pm nm cm xm ∧ na ≤ 17592186044416 ∧ nb ≤ 17592186044416 ∧ nm ≤ 17592186044416 ∧ -9223372036854775808 ≤ nn ∧ nn ≤ 9223372036854775807) := ⟨HAT.out.1.below hb0, HAT.out.2.1.below hb0, HAT.out.2.2.1.below hb0, HAT.out.2.2.2⟩
      have HBO : Hid (Below w.heap.size w (wr.alloc (.cells #[.int .i64 kd, .bool sa, .slice pa na ca, .int .i64 ea, .bool sb, .slice pb nb cb, .int .i64 eb, .bool sm, .slice pm nm cm, .int .i64 nn] 55))) := Below.on HBW.out hb0
      clear hb0 HAT HBW
      by_cases hlo : lo ≤ kd
      · have hlo2 : ¬ kd < lo := by omega
        by_cases hhi : kd ≤ hi
        · have hhi2 : ¬ hi < kd := by omega
          have HPK : Hid (Play5 kd) := HP.out kd hlo hhi
          go_wp2_with fail
          refine (HPK.out pa pb pm na ca nb cb nm cm xa xb xm _ ea eb nn sa sb sm HAO.out.1 HAO.out.2.1 HAO.out.2.2.1 HAO.out.2.2.2 (HT.out.below HBO.out)).mono ?_
          rintro e wz ⟨rfl, hbq⟩
          have hbz := Below.on HBO.out hbq
          clear hbq e0 e1 e2 e3 e4 e5 e6 e7 e8 e9
          go_wp2_with fail
          go_roundg gg
          case measure => omega
          case rel => exact ⟨k + 1, by omega, by go_num, hbz⟩
        · have hhi2 : hi < kd := by omega
          go_wp2_with fail
          go_roundg gg
          case measure => omega
          case rel => exact ⟨k + 1, by omega, by go_num, HBO.out⟩
      · have hlo2 : kd < lo := by omega
        go_wp2_with fail
        go_roundg gg
        case measure => omega
        case rel => exact ⟨k + 1, by omega, by go_num, HBO.out⟩
end Go.Proofs.YtalnikjjdgjddaaGreatDoor
