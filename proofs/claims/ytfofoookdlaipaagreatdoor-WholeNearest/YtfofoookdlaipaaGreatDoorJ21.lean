import Derived.Test.YtfofoookdlaipaaGreatDoorJ11
import Derived.Test.YtfofoookdlaipaaGreatDoorJ20
import Derived.Test.YtfofoookdlaipaaGreatDoorJ14
import Derived.Test.YtfofoookdlaipaaGreatDoorBb5
namespace Go.Proofs.YtfofoookdlaipaaGreatDoor
open Go.RowKit Go.Shelf

theorem DO.mono {B B' : Nat} {w : World} {s : Bool} {p : Option Addr} {m : Nat} {e z : Int} (h : DO B w s p m e z) (hB : B' ≤ B) : DO B' w s p m e z := by
  obtain ⟨zs, h1, h2, h3⟩ := h.own
  exact ⟨⟨zs, h1.mono hB, h2, h3⟩, h.sg, h.fm⟩
abbrev EV (s : Bool) (p : Option Addr) (m c : Nat) (e : Int) : Value := .agg #[.bool s, .slice p m c, .int .i64 e, .int .i64 0]
set_option maxRecDepth 20000 in
set_option maxHeartbeats 8000000 in
theorem stold {p : Option Addr} {m c : Nat} {w : World} {e : Int} {s : Bool} :
    Calls Tryz.prog 166 #[DV s p m c e, .int .i64 0] w fun en w' => en = .returned (EV s p m c e) ∧ Below w.heap.size w w' := by
  go_enter Tryz.func166, Tryz.ntmps166
  go_wp2_with fail
  refine bodyPost_ret (v := EV s p m c e) (by rw [results_cell1 rfl]; go_simp) rfl ⟨rfl, ?_⟩
  first | exact Below.on (below1 w _) (below1 _ _) | exact below2 w _ _ | exact below1 w _ | exact Below.on (below2 w _ _) (below1 _ _)
set_option maxRecDepth 20000 in
set_option maxHeartbeats 8000000 in
theorem sbetw {p q : Option Addr} {m c n d : Nat} {w : World} {e f : Int} {s t : Bool} :
    Calls Tryz.prog 165 #[EV s p m c e, EV t q n d f] w fun en w' => en = .returned (.tuple #[SV s p m c e t q n d f, .int .i64 0]) ∧ Below w.heap.size w w' := by
  go_enter Tryz.func165, Tryz.ntmps165
  go_wp2_with fail
  refine bodyPost_ret (v := .tuple #[SV s p m c e t q n d f, .int .i64 0]) (by rw [results_cell_tmp rfl]; go_simp) rfl ⟨rfl, ?_⟩
  first | exact below3 w _ _ _ | exact Below.on (below2 w _ _) (below1 _ _)
set_option maxRecDepth 20000 in
set_option maxHeartbeats 8000000 in
theorem dscale_z {p : Option Addr} {m c : Nat} {w : World} {z e N : Int} {s : Bool} (h : DN w s p m c e z) (hz : z = 0) :
    Calls Tryz.prog 167 #[DV s p m c e, .int .i64 N] w fun en w' => en = .returned (.tuple #[DV false none 0 0 0, .int .i64 0]) ∧ Below w.heap.size w w' := by
  have A : Hid (DN w s p m c e z) := h
  have HS : Hid (sgnI z = 0) := by rw [hz]; rfl
  clear h hz
  go_enter Tryz.func167, Tryz.ntmps167
  go_wp2_with fail
  obtain ⟨W0, hW0⟩ : ∃ W0, W0 = ((w.alloc (.cells #[.bool s, .slice p m c, .int .i64 e] 34)).alloc (.cells #[.bool false, .slice none 0 0, .int .i64 0] 34)) := ⟨_, rfl⟩
  have Xd : Hid (B3q W0 (w.heap.size) (.bool s) (.slice p m c) (.int .i64 e)) := by rw [hW0]; exact ⟨by go_simp, by go_simp, by go_simp, by go_simp, by go_simp, by go_simp⟩
  have Xr : Hid (B3q W0 (w.heap.size + 1) (.bool false) (.slice none 0 0) (.int .i64 0)) := by rw [hW0]; exact ⟨by go_simp, by go_simp, by go_simp, by go_simp, by go_simp, by go_simp⟩
  have hb0 : Below w.heap.size w W0 := by rw [hW0]; exact below2 w _ _
  rw [← hW0]
  clear hW0
  have hbw : Below w.heap.size w w := Below.refl _ _
  obtain ⟨gr, hgr⟩ : ∃ g, g = w.heap.size + 1 := ⟨_, rfl⟩
  have HGr : Hid (w.heap.size ≤ gr) := by rw [hgr]; show _ ≤ _; omega
  rw [← hgr] at Xr
  try rw [← hgr]
  obtain ⟨gd, hgd⟩ : ∃ g, g = w.heap.size := ⟨_, rfl⟩
  have HGd : Hid (w.heap.size ≤ gd) := by rw [hgd]; show _ ≤ _; omega
  rw [← hgd] at Xd
  try rw [← hgd]
  have HGD : Hid (gd ≠ gr ∧ gr ≠ gd) := by rw [hgd, hgr]; exact ⟨by omega, by omega⟩
  clear hgd hgr
  replace hbw := Below.on hbw hb0
  clear hb0
  refine (dform_t (A.out.below hbw)).mono ?_
  rintro e v1 ⟨rfl, hb1⟩
  replace Xd : Hid _ := Xd.out.below hb1
  replace Xr : Hid _ := Xr.out.below hb1
  replace hbw := Below.on hbw hb1
  clear hb1
  obtain ⟨cd0, cd1, cd2, fd0, fd1, fd2⟩ := Xd.out
  have hned : gd < v1.heap.size := World.block_lt_of_cell? v1 _ cd0
  go_wp2_with fail
  clear cd0 cd1 cd2 fd0 fd1 fd2 hned
  refine (zsign (A.out.zn.below hbw)).mono ?_
  rintro e v2 ⟨rfl, hb2⟩
  rw [HS.out]
  replace Xd : Hid _ := Xd.out.below hb2
  replace Xr : Hid _ := Xr.out.below hb2
  replace hbw := Below.on hbw hb2
  clear hb2
  obtain ⟨cr0, cr1, cr2, fr0, fr1, fr2⟩ := Xr.out
  have hner : gr < v2.heap.size := World.block_lt_of_cell? v2 _ cr0
  go_wp2_with fail
  refine bodyPost_ret (v := .tuple #[DV false none 0 0 0, .int .i64 0]) (by rw [results_cell_tmp rfl]; go_simp) rfl ⟨rfl, ?_⟩
  first | exact hbw | exact (bSet (bSet (bSet hbw _ _ _ HGr.out) _ _ _ HGr.out) _ _ _ HGr.out)
theorem DO.zero (B : Nat) (w : World) : DO B w false none 0 0 0 := ⟨⟨[], Own.empty _ _ _, Nf.nil _, by decide⟩, rfl, .inl ⟨rfl, rfl⟩⟩
theorem dscale0 {p : Option Addr} {m c : Nat} {w : World} {z e : Int} {s : Bool} (h : DN w s p m c e z) :
    Calls Tryz.prog 167 #[DV s p m c e, .int .i64 0] w fun en w' => ∃ s1 p1 m1, en = .returned (.tuple #[DV s1 p1 m1 m1 e, .int .i64 0]) ∧ DO w.heap.size w' s1 p1 m1 e z ∧ Below w.heap.size w w' := by
  by_cases hz : z = 0
  · have he : e = 0 := by rcases h.fm with ⟨_, h2⟩ | ⟨h2, _⟩; (· exact h2); omega
    refine (dscale_z h hz).mono fun en w' ⟨h1, h2⟩ => ⟨false, none, 0, ?_, ?_, h2⟩
    · rw [h1, he]
    · rw [hz, he]; exact DO.zero _ _
  · refine (dscale (N := 0) h hz (by rcases h.fm with ⟨_, h2⟩ | ⟨_, h2, h3⟩ <;> omega)).mono fun en w' ⟨v, h1, h2, h3⟩ => ?_
    rw [Int.add_zero] at h2
    obtain ⟨s1, p1, m1, rfl, h4⟩ := DO.of h2 h.fm
    exact ⟨s1, p1, m1, h1, h4, h3⟩
set_option maxRecDepth 20000 in
set_option maxHeartbeats 8000000 in
theorem sscale {p q : Option Addr} {m c n d : Nat} {w : World} {e f : Int} {s t : Bool} {x y : Int} (h : DN w s p m c e x) (k : DN w t q n d f y) (hc : dv x e ≤ dv y f) :
    Calls Tryz.prog 136 #[SV s p m c e t q n d f, .int .i64 0] w fun en w' => ∃ s1 p1 m1 s2 p2 m2, en = .returned (.tuple #[SV s1 p1 m1 m1 e s2 p2 m2 m2 f, .int .i64 0]) ∧ DO w.heap.size w' s1 p1 m1 e x ∧ DO w.heap.size w' s2 p2 m2 f y ∧ Below w.heap.size w w' := by
  have A : Hid (DN w s p m c e x) := h
  have B : Hid (DN w t q n d f y) := k
  have HC : Hid (dv x e ≤ dv y f) := hc
  clear h k hc
  go_enter Tryz.func136, Tryz.ntmps136
  go_wp2_with fail
  obtain ⟨W0, hW0⟩ : ∃ W0, W0 = ((w.alloc (.cells #[.bool s, .slice p m c, .int .i64 e, .bool t, .slice q n d, .int .i64 f] 66)).alloc (.cells #[.bool false, .slice none 0 0, .int .i64 0, .bool false, .slice none 0 0, .int .i64 0] 66)) := ⟨_, rfl⟩
  have Xs : Hid (B6q W0 (w.heap.size) (.bool s) (.slice p m c) (.int .i64 e) (.bool t) (.slice q n d) (.int .i64 f)) := by rw [hW0]; exact ⟨by go_simp, by go_simp, by go_simp, by go_simp, by go_simp, by go_simp, by go_simp, by go_simp, by go_simp, by go_simp, by go_simp, by go_simp⟩
  have Xr : Hid (B6q W0 (w.heap.size + 1) (.bool false) (.slice none 0 0) (.int .i64 0) (.bool false) (.slice none 0 0) (.int .i64 0)) := by rw [hW0]; exact ⟨by go_simp, by go_simp, by go_simp, by go_simp, by go_simp, by go_simp, by go_simp, by go_simp, by go_simp, by go_simp, by go_simp, by go_simp⟩
  have hb0 : Below w.heap.size w W0 := by rw [hW0]; exact below2 w _ _
  rw [← hW0]
  clear hW0
  have hbw : Below w.heap.size w w := Below.refl _ _
  obtain ⟨gr, hgr⟩ : ∃ g, g = w.heap.size + 1 := ⟨_, rfl⟩
  have HGr : Hid (w.heap.size ≤ gr) := by rw [hgr]; show _ ≤ _; omega
  rw [← hgr] at Xr
  try rw [← hgr]
  obtain ⟨gs, hgs⟩ : ∃ g, g = w.heap.size := ⟨_, rfl⟩
  have HGs : Hid (w.heap.size ≤ gs) := by rw [hgs]; show _ ≤ _; omega
  rw [← hgs] at Xs
  try rw [← hgs]
  have HGD : Hid (gs ≠ gr ∧ gr ≠ gs) := by rw [hgs, hgr]; exact ⟨by omega, by omega⟩
  clear hgs hgr
  replace hbw := Below.on hbw hb0
  clear hb0
  refine (sform_t (A.out.below hbw) (B.out.below hbw) HC.out).mono ?_
  rintro e v1 ⟨rfl, hb1⟩
  replace Xs : Hid _ := Xs.out.below hb1
  replace Xr : Hid _ := Xr.out.below hb1
  replace hbw := Below.on hbw hb1
  clear hb1
  obtain ⟨cs0, cs1, cs2, cs3, cs4, cs5, fs0, fs1, fs2, fs3, fs4, fs5⟩ := Xs.out
  have hnes : gs < v1.heap.size := World.block_lt_of_cell? v1 _ cs0
  go_wp2_with fail
  clear cs0 cs1 cs2 cs3 cs4 cs5 fs0 fs1 fs2 fs3 fs4 fs5 hnes
  obtain ⟨W5, hW5⟩ : ∃ W1, W1 = v1.drew := ⟨_, rfl⟩
  have hbd : Below v1.heap.size v1 W5 := by rw [hW5]; exact bDrew1 (Below.refl _ _)
  replace Xs : Hid _ := Xs.out.below hbd
  replace Xr : Hid _ := Xr.out.below hbd
  replace hbw := Below.on hbw hbd
  clear hbd
  have HJ : Hid ((fun W' : World => W'.cell? ⟨gs, 0, none⟩ = some (.bool s) ∧ W'.cell? ⟨gs, 1, none⟩ = some (.slice p m c) ∧ W'.cell? ⟨gs, 2, none⟩ = some (.int .i64 e) ∧ W'.cell? ⟨gs, 3, none⟩ = some (.bool t) ∧ W'.cell? ⟨gs, 4, none⟩ = some (.slice q n d) ∧ W'.cell? ⟨gs, 5, none⟩ = some (.int .i64 f)) W5) := ⟨Xs.out.c0, Xs.out.c1, Xs.out.c2, Xs.out.c3, Xs.out.c4, Xs.out.c5⟩
  refine wp_region_J (fun W' => W'.cell? ⟨gs, 0, none⟩ = some (.bool s) ∧ W'.cell? ⟨gs, 1, none⟩ = some (.slice p m c) ∧ W'.cell? ⟨gs, 2, none⟩ = some (.int .i64 e) ∧ W'.cell? ⟨gs, 3, none⟩ = some (.bool t) ∧ W'.cell? ⟨gs, 4, none⟩ = some (.slice q n d) ∧ W'.cell? ⟨gs, 5, none⟩ = some (.int .i64 f)) (by kernel_rfl) ?_
  rw [← hW5]
  clear hW5
  refine wpJ_take (i := 0) (v := ?v1x0) rfl (by kernel_rfl) (by kernel_rfl) (by kernel_rfl) (fun _ _ _ h => h) (by kernel_rfl) ?hy1x0 HJ.out ?rest1x0
  case hy1x0 => (intro W' hJ; obtain ⟨j0, j1, j2, j3, j4, j5⟩ := hJ; go_simp; first | done | with_reducible rfl)
  refine wpJ_take (i := 1) (v := ?v2x1) rfl (by kernel_rfl) (by kernel_rfl) (by kernel_rfl) (fun _ _ _ h => h) (by kernel_rfl) ?hy2x1 HJ.out ?rest2x1
  case hy2x1 => (intro W' hJ; obtain ⟨j0, j1, j2, j3, j4, j5⟩ := hJ; go_simp; first | done | with_reducible rfl)
  refine wpJ_take (i := 2) (v := ?v3x2) rfl (by kernel_rfl) (by kernel_rfl) (by kernel_rfl) (fun _ _ _ h => h) (by kernel_rfl) ?hy3x2 HJ.out ?rest3x2
  case hy3x2 => (intro W' hJ; obtain ⟨j0, j1, j2, j3, j4, j5⟩ := hJ; go_simp; first | done | with_reducible rfl)
  refine wpJ_take (i := 7) (v := ?v4x7) rfl (by kernel_rfl) (by kernel_rfl) (by kernel_rfl) (fun _ _ _ h => h) (by kernel_rfl) ?hy4x7 HJ.out ?rest4x7
  case hy4x7 => (intro W' hJ; obtain ⟨j0, j1, j2, j3, j4, j5⟩ := hJ; go_simp; first | done | with_reducible rfl)
  refine wpJ_take (i := 8) (v := ?v5x8) rfl (by kernel_rfl) (by kernel_rfl) (by kernel_rfl) (fun _ _ _ h => h) (by kernel_rfl) ?hy5x8 HJ.out ?rest5x8
  case hy5x8 => (intro W' hJ; obtain ⟨j0, j1, j2, j3, j4, j5⟩ := hJ; go_simp; first | done | with_reducible rfl)
  go_simp
  refine wpJ_take (i := 9) (v := ?v6x9) rfl (by kernel_rfl) (by kernel_rfl) (by kernel_rfl) (fun _ _ _ h => h) (by kernel_rfl) ?hy6x9 HJ.out ?rest6x9
  case hy6x9 => (intro W' hJ; obtain ⟨j0, j1, j2, j3, j4, j5⟩ := hJ; go_simp; first | done | with_reducible rfl)
  refine wpJ_one (i := 3) (by kernel_rfl) rfl (by kernel_rfl) (fun KJ hK => ?_)
  go_simp
  have HWL2 : Hid (gr < W5.heap.size ∧ w.heap.size ≤ W5.heap.size) := ⟨Xr.out.lt, hbw.size⟩
  refine (dscale0 (A.out.below hbw)).mono ?_
  rintro e9 v2 ⟨s2, p2, m2, rfl, hd, hb2⟩
  replace Xs : Hid _ := Xs.out.below hb2
  replace Xr : Hid _ := Xr.out.below hb2
  replace hbw := Below.on hbw hb2
  clear hb2
  have D2 : Hid (DO W5.heap.size v2 s2 p2 m2 e x) := hd
  clear hd
  clear HJ
  have HJ : Hid ((fun W' : World => W'.cell? ⟨gs, 0, none⟩ = some (.bool s) ∧ W'.cell? ⟨gs, 1, none⟩ = some (.slice p m c) ∧ W'.cell? ⟨gs, 2, none⟩ = some (.int .i64 e) ∧ W'.cell? ⟨gs, 3, none⟩ = some (.bool t) ∧ W'.cell? ⟨gs, 4, none⟩ = some (.slice q n d) ∧ W'.cell? ⟨gs, 5, none⟩ = some (.int .i64 f)) v2) := ⟨Xs.out.c0, Xs.out.c1, Xs.out.c2, Xs.out.c3, Xs.out.c4, Xs.out.c5⟩
  refine hK _ _ HJ.out ?_
  clear hK
  refine wpJ_take (i := 4) (v := ?v7x4) rfl (by kernel_rfl) (by kernel_rfl) (by kernel_rfl) (fun _ _ _ h => h) (by kernel_rfl) ?hy7x4 HJ.out ?rest7x4
  case hy7x4 => (intro W' hJ; obtain ⟨j0, j1, j2, j3, j4, j5⟩ := hJ; go_simp; first | done | with_reducible rfl)
  refine wpJ_take (i := 5) (v := ?v8x5) rfl (by kernel_rfl) (by kernel_rfl) (by kernel_rfl) (fun _ _ _ h => h) (by kernel_rfl) ?hy8x5 HJ.out ?rest8x5
  case hy8x5 => (intro W' hJ; obtain ⟨j0, j1, j2, j3, j4, j5⟩ := hJ; go_simp; first | done | with_reducible rfl)
  refine wpJ_one (i := 6) (by kernel_rfl) rfl (by kernel_rfl) (fun KJ hK => ?_)
  go_simp
  refine (stold).mono ?_
  rintro e v3 ⟨rfl, hb3⟩
  replace Xs : Hid _ := Xs.out.below hb3
  replace Xr : Hid _ := Xr.out.below hb3
  replace D2 : Hid (DO W5.heap.size v3 s2 p2 m2 e x) := D2.out.below hb3
  replace hbw := Below.on hbw hb3
  clear hb3
  refine hK _ _ ⟨Xs.out.c0, Xs.out.c1, Xs.out.c2, Xs.out.c3, Xs.out.c4, Xs.out.c5⟩ ?_
  clear hK
  refine wpJ_one (i := 10) (by kernel_rfl) rfl (by kernel_rfl) (fun KJ hK => ?_)
  go_simp
  have HWL4 : Hid (gr < v3.heap.size ∧ w.heap.size ≤ v3.heap.size) := ⟨Xr.out.lt, hbw.size⟩
  refine (dscale0 (B.out.below hbw)).mono ?_
  rintro e9 v4 ⟨s4, p4, m4, rfl, hd, hb4⟩
  replace Xs : Hid _ := Xs.out.below hb4
  replace Xr : Hid _ := Xr.out.below hb4
  replace D2 : Hid (DO W5.heap.size v4 s2 p2 m2 e x) := D2.out.below hb4
  replace hbw := Below.on hbw hb4
  clear hb4
  have D4 : Hid (DO v3.heap.size v4 s4 p4 m4 f y) := hd
  clear hd
  clear HJ
  have HJ : Hid ((fun W' : World => W'.cell? ⟨gs, 0, none⟩ = some (.bool s) ∧ W'.cell? ⟨gs, 1, none⟩ = some (.slice p m c) ∧ W'.cell? ⟨gs, 2, none⟩ = some (.int .i64 e) ∧ W'.cell? ⟨gs, 3, none⟩ = some (.bool t) ∧ W'.cell? ⟨gs, 4, none⟩ = some (.slice q n d) ∧ W'.cell? ⟨gs, 5, none⟩ = some (.int .i64 f)) v4) := ⟨Xs.out.c0, Xs.out.c1, Xs.out.c2, Xs.out.c3, Xs.out.c4, Xs.out.c5⟩
  refine hK _ _ HJ.out ?_
  clear hK
  refine wpJ_take (i := 11) (v := ?v9x11) rfl (by kernel_rfl) (by kernel_rfl) (by kernel_rfl) (fun _ _ _ h => h) (by kernel_rfl) ?hy9x11 HJ.out ?rest9x11
  case hy9x11 => (intro W' hJ; obtain ⟨j0, j1, j2, j3, j4, j5⟩ := hJ; go_simp; first | done | with_reducible rfl)
  refine wpJ_take (i := 12) (v := ?v10x12) rfl (by kernel_rfl) (by kernel_rfl) (by kernel_rfl) (fun _ _ _ h => h) (by kernel_rfl) ?hy10x12 HJ.out ?rest10x12
  case hy10x12 => (intro W' hJ; obtain ⟨j0, j1, j2, j3, j4, j5⟩ := hJ; go_simp; first | done | with_reducible rfl)
  refine wpJ_one (i := 13) (by kernel_rfl) rfl (by kernel_rfl) (fun KJ hK => ?_)
  go_simp
  refine (stold).mono ?_
  rintro e v5 ⟨rfl, hb5⟩
  replace Xs : Hid _ := Xs.out.below hb5
  replace Xr : Hid _ := Xr.out.below hb5
  replace D2 : Hid (DO W5.heap.size v5 s2 p2 m2 e x) := D2.out.below hb5
  replace D4 : Hid (DO v3.heap.size v5 s4 p4 m4 f y) := D4.out.below hb5
  replace hbw := Below.on hbw hb5
  clear hb5
  refine hK _ _ ⟨Xs.out.c0, Xs.out.c1, Xs.out.c2, Xs.out.c3, Xs.out.c4, Xs.out.c5⟩ ?_
  clear hK
  refine wpJ_one (i := 14) (by kernel_rfl) rfl (by kernel_rfl) (fun KJ hK => ?_)
  go_simp
  refine (sbetw).mono ?_
  rintro e v6 ⟨rfl, hb6⟩
  replace Xs : Hid _ := Xs.out.below hb6
  replace Xr : Hid _ := Xr.out.below hb6
  replace D2 : Hid (DO W5.heap.size v6 s2 p2 m2 e x) := D2.out.below hb6
  replace D4 : Hid (DO v3.heap.size v6 s4 p4 m4 f y) := D4.out.below hb6
  replace hbw := Below.on hbw hb6
  clear hb6
  clear HJ
  have HJ : Hid ((fun W' : World => W'.cell? ⟨gs, 0, none⟩ = some (.bool s) ∧ W'.cell? ⟨gs, 1, none⟩ = some (.slice p m c) ∧ W'.cell? ⟨gs, 2, none⟩ = some (.int .i64 e) ∧ W'.cell? ⟨gs, 3, none⟩ = some (.bool t) ∧ W'.cell? ⟨gs, 4, none⟩ = some (.slice q n d) ∧ W'.cell? ⟨gs, 5, none⟩ = some (.int .i64 f)) v6) := ⟨Xs.out.c0, Xs.out.c1, Xs.out.c2, Xs.out.c3, Xs.out.c4, Xs.out.c5⟩
  refine hK _ _ HJ.out ?_
  clear hK
  refine wpJ_take (i := 15) (v := ?v11x15) rfl (by kernel_rfl) (by kernel_rfl) (by kernel_rfl) (fun _ _ _ h => h) (by kernel_rfl) ?hy11x15 HJ.out ?rest11x15
  case hy11x15 => (intro W' hJ; obtain ⟨j0, j1, j2, j3, j4, j5⟩ := hJ; go_simp; first | done | with_reducible rfl)
  refine wpJ_take (i := 16) (v := ?v12x16) rfl (by kernel_rfl) (by kernel_rfl) (by kernel_rfl) (fun _ _ _ h => h) (by kernel_rfl) ?hy12x16 HJ.out ?rest12x16
  case hy12x16 => (intro W' hJ; obtain ⟨j0, j1, j2, j3, j4, j5⟩ := hJ; go_simp; first | done | with_reducible rfl)
  obtain ⟨cr0, cr1, cr2, cr3, cr4, cr5, fr0, fr1, fr2, fr3, fr4, fr5⟩ := Xr.out
  have hner : gr < v6.heap.size := World.block_lt_of_cell? v6 _ cr0
  obtain ⟨cs0, cs1, cs2, cs3, cs4, cs5, fs0, fs1, fs2, fs3, fs4, fs5⟩ := Xs.out
  have hnes : gs < v6.heap.size := World.block_lt_of_cell? v6 _ cs0
  obtain ⟨hgd0, hgd1⟩ := HGD.out
  refine wpJ_one (i := 17) (by kernel_rfl) rfl (by kernel_rfl) (fun KJ hK => ?_)
  go_simp
  have HJ2 : Hid ((fun W' : World => W'.cell? ⟨gs, 0, none⟩ = some (.bool s) ∧ W'.cell? ⟨gs, 1, none⟩ = some (.slice p m c) ∧ W'.cell? ⟨gs, 2, none⟩ = some (.int .i64 e) ∧ W'.cell? ⟨gs, 3, none⟩ = some (.bool t) ∧ W'.cell? ⟨gs, 4, none⟩ = some (.slice q n d) ∧ W'.cell? ⟨gs, 5, none⟩ = some (.int .i64 f)) ((((((v6.setCell ⟨gr, 0, none⟩ (.bool s2)).setCell ⟨gr, 1, none⟩ (.slice p2 m2 m2)).setCell ⟨gr, 2, none⟩ (.int .i64 e)).setCell ⟨gr, 3, none⟩ (.bool s4)).setCell ⟨gr, 4, none⟩ (.slice p4 m4 m4)).setCell ⟨gr, 5, none⟩ (.int .i64 f))) := ⟨by go_simp, by go_simp, by go_simp, by go_simp, by go_simp, by go_simp⟩
  refine hK _ _ HJ2.out ?_
  clear hK HJ
  have HJ := HJ2
  clear HJ2
  refine wpJ_take (i := 18) (v := ?v13x18) rfl (by kernel_rfl) (by kernel_rfl) (by kernel_rfl) (fun _ _ _ h => h) (by kernel_rfl) ?hy13x18 HJ.out ?rest13x18
  case hy13x18 => (intro W' hJ; obtain ⟨j0, j1, j2, j3, j4, j5⟩ := hJ; go_simp; first | done | with_reducible rfl)
  refine wpJ_done (by kernel_rfl) ?_ _
  clear HJ
  go_wp2_with fail
  refine bodyPost_ret (v := .tuple #[SV s2 p2 m2 m2 e s4 p4 m4 m4 f, .int .i64 0]) (by rw [results_cell_tmp rfl]; go_simp) rfl ⟨s2, p2, m2, s4, p4, m4, rfl, ?_, ?_, ?_⟩
  · exact ((((((D2.out.set _ _ _ HWL2.out.1).set _ _ _ HWL2.out.1).set _ _ _ HWL2.out.1).set _ _ _ HWL2.out.1).set _ _ _ HWL2.out.1).set _ _ _ HWL2.out.1).mono HWL2.out.2
  · exact ((((((D4.out.set _ _ _ HWL4.out.1).set _ _ _ HWL4.out.1).set _ _ _ HWL4.out.1).set _ _ _ HWL4.out.1).set _ _ _ HWL4.out.1).set _ _ _ HWL4.out.1).mono HWL4.out.2
  · exact (bSet (bSet (bSet (bSet (bSet (bSet hbw _ _ _ HGr.out) _ _ _ HGr.out) _ _ _ HGr.out) _ _ _ HGr.out) _ _ _ HGr.out) _ _ _ HGr.out)
set_option maxRecDepth 20000 in
set_option maxHeartbeats 8000000 in
theorem smake {p q : Option Addr} {m c n d : Nat} {w : World} {e f : Int} {s t : Bool} {x y : Int} (h : DN w s p m c e x) (k : DN w t q n d f y) (hc : dv x e ≤ dv y f) :
    Calls Tryz.prog 101 #[DV s p m c e, DV t q n d f] w fun en w' => ∃ s1 p1 m1 s2 p2 m2, en = .returned (.tuple #[SV s1 p1 m1 m1 e s2 p2 m2 m2 f, .int .i64 0]) ∧ DO w.heap.size w' s1 p1 m1 e x ∧ DO w.heap.size w' s2 p2 m2 f y ∧ Below w.heap.size w w' := by
  have A : Hid (DN w s p m c e x) := h
  have B : Hid (DN w t q n d f y) := k
  have HC : Hid (dv x e ≤ dv y f) := hc
  clear h k hc
  go_enter Tryz.func101, Tryz.ntmps101
  go_wp2_with fail
  obtain ⟨W0, hW0⟩ : ∃ W0, W0 = (((w.alloc (.cells #[.bool s, .slice p m c, .int .i64 e] 34)).alloc (.cells #[.bool t, .slice q n d, .int .i64 f] 34)).alloc (.cells #[.bool false, .slice none 0 0, .int .i64 0, .bool false, .slice none 0 0, .int .i64 0] 66)) := ⟨_, rfl⟩
  have Xa : Hid (B3q W0 (w.heap.size) (.bool s) (.slice p m c) (.int .i64 e)) := by rw [hW0]; exact ⟨by go_simp, by go_simp, by go_simp, by go_simp, by go_simp, by go_simp⟩
  have Xb : Hid (B3q W0 (w.heap.size + 1) (.bool t) (.slice q n d) (.int .i64 f)) := by rw [hW0]; exact ⟨by go_simp, by go_simp, by go_simp, by go_simp, by go_simp, by go_simp⟩
  have Xr : Hid (B6q W0 (w.heap.size + 1 + 1) (.bool false) (.slice none 0 0) (.int .i64 0) (.bool false) (.slice none 0 0) (.int .i64 0)) := by rw [hW0]; exact ⟨by go_simp, by go_simp, by go_simp, by go_simp, by go_simp, by go_simp, by go_simp, by go_simp, by go_simp, by go_simp, by go_simp, by go_simp⟩
  have hb0 : Below w.heap.size w W0 := by rw [hW0]; exact below3 w _ _ _
  rw [← hW0]
  clear hW0
  have hbw : Below w.heap.size w w := Below.refl _ _
  obtain ⟨gr, hgr⟩ : ∃ g, g = w.heap.size + 1 + 1 := ⟨_, rfl⟩
  have HGr : Hid (w.heap.size ≤ gr) := by rw [hgr]; show _ ≤ _; omega
  rw [← hgr] at Xr
  try rw [← hgr]
  obtain ⟨gb, hgb⟩ : ∃ g, g = w.heap.size + 1 := ⟨_, rfl⟩
  have HGb : Hid (w.heap.size ≤ gb) := by rw [hgb]; show _ ≤ _; omega
  rw [← hgb] at Xb
  try rw [← hgb]
  obtain ⟨ga, hga⟩ : ∃ g, g = w.heap.size := ⟨_, rfl⟩
  have HGa : Hid (w.heap.size ≤ ga) := by rw [hga]; show _ ≤ _; omega
  rw [← hga] at Xa
  try rw [← hga]
  have HGD : Hid (ga ≠ gb ∧ ga ≠ gr ∧ gb ≠ ga ∧ gb ≠ gr ∧ gr ≠ ga ∧ gr ≠ gb) := by rw [hga, hgb, hgr]; exact ⟨by omega, by omega, by omega, by omega, by omega, by omega⟩
  clear hga hgb hgr
  replace hbw := Below.on hbw hb0
  clear hb0
  have HWL : Hid (gr < W0.heap.size ∧ w.heap.size ≤ W0.heap.size) := ⟨Xr.out.lt, hbw.size⟩
  refine (sscale (A.out.below hbw) (B.out.below hbw) HC.out).mono ?_
  rintro e9 v1 ⟨s1, p1, m1, s2, p2, m2, rfl, hd1, hd2, hb1⟩
  replace Xa : Hid _ := Xa.out.below hb1
  replace Xb : Hid _ := Xb.out.below hb1
  replace Xr : Hid _ := Xr.out.below hb1
  replace hbw := Below.on hbw hb1
  clear hb1
  have D1 : Hid (DO W0.heap.size v1 s1 p1 m1 e x) := hd1
  have D2 : Hid (DO W0.heap.size v1 s2 p2 m2 f y) := hd2
  clear hd1 hd2
  obtain ⟨cr0, cr1, cr2, cr3, cr4, cr5, fr0, fr1, fr2, fr3, fr4, fr5⟩ := Xr.out
  have hner : gr < v1.heap.size := World.block_lt_of_cell? v1 _ cr0
  go_wp2_with fail
  refine bodyPost_ret (v := .tuple #[SV s1 p1 m1 m1 e s2 p2 m2 m2 f, .int .i64 0]) (by rw [results_cell_tmp rfl]; go_simp) rfl ⟨s1, p1, m1, s2, p2, m2, rfl, ?_, ?_, ?_⟩
  · exact ((((((D1.out.set _ _ _ HWL.out.1).set _ _ _ HWL.out.1).set _ _ _ HWL.out.1).set _ _ _ HWL.out.1).set _ _ _ HWL.out.1).set _ _ _ HWL.out.1).mono HWL.out.2
  · exact ((((((D2.out.set _ _ _ HWL.out.1).set _ _ _ HWL.out.1).set _ _ _ HWL.out.1).set _ _ _ HWL.out.1).set _ _ _ HWL.out.1).set _ _ _ HWL.out.1).mono HWL.out.2
  · exact (bSet (bSet (bSet (bSet (bSet (bSet hbw _ _ _ HGr.out) _ _ _ HGr.out) _ _ _ HGr.out) _ _ _ HGr.out) _ _ _ HGr.out) _ _ _ HGr.out)
set_option maxRecDepth 20000 in
set_option maxHeartbeats 8000000 in
theorem stake {p : Option Addr} {m c : Nat} {w : World} {e : Int} {s : Bool} {a : Option Addr} :
    Calls Tryz.prog 47 #[.pointer a, DV s p m c e, .int .i64 0] w fun en w' => en = .returned (DV s p m c e) ∧ Below w.heap.size w w' := by
  go_enter Tryz.func47, Tryz.ntmps47
  go_wp2_with fail
  refine bodyPost_ret (v := DV s p m c e) (by rw [results_cell1 rfl]; go_simp) rfl ⟨rfl, ?_⟩
  first | exact below2 w _ _ | exact below1 w _
set_option maxRecDepth 20000 in
set_option maxHeartbeats 8000000 in
theorem scmp {p q : Option Addr} {m c n d : Nat} {w : World} {e f : Int} {s t : Bool} {a : Option Addr} {x y : Int} (h : DN w s p m c e x) (k : DN w t q n d f y) :
    Calls Tryz.prog 16 #[.pointer a, DV s p m c e, DV t q n d f] w fun en w' => en = .returned (.int .i64 (cmpI (dv x e) (dv y f))) ∧ Below w.heap.size w w' := by
  have A : Hid (DN w s p m c e x) := h
  have B : Hid (DN w t q n d f y) := k
  clear h k
  go_enter Tryz.func16, Tryz.ntmps16
  go_wp2_with fail
  obtain ⟨W0, hW0⟩ : ∃ W0, W0 = ((w.alloc (.cells #[.bool s, .slice p m c, .int .i64 e] 34)).alloc (.cells #[.bool t, .slice q n d, .int .i64 f] 34)) := ⟨_, rfl⟩
  have Xx : Hid (B3q W0 (w.heap.size) (.bool s) (.slice p m c) (.int .i64 e)) := by rw [hW0]; exact ⟨by go_simp, by go_simp, by go_simp, by go_simp, by go_simp, by go_simp⟩
  have Xy : Hid (B3q W0 (w.heap.size + 1) (.bool t) (.slice q n d) (.int .i64 f)) := by rw [hW0]; exact ⟨by go_simp, by go_simp, by go_simp, by go_simp, by go_simp, by go_simp⟩
  have hb0 : Below w.heap.size w W0 := by rw [hW0]; exact below2 w _ _
  rw [← hW0]
  clear hW0
  have hbw : Below w.heap.size w w := Below.refl _ _
  obtain ⟨gy, hgy⟩ : ∃ g, g = w.heap.size + 1 := ⟨_, rfl⟩
  have HGy : Hid (w.heap.size ≤ gy) := by rw [hgy]; show _ ≤ _; omega
  rw [← hgy] at Xy
  try rw [← hgy]
  obtain ⟨gx, hgx⟩ : ∃ g, g = w.heap.size := ⟨_, rfl⟩
  have HGx : Hid (w.heap.size ≤ gx) := by rw [hgx]; show _ ≤ _; omega
  rw [← hgx] at Xx
  try rw [← hgx]
  have HGD : Hid (gx ≠ gy ∧ gy ≠ gx) := by rw [hgx, hgy]; exact ⟨by omega, by omega⟩
  clear hgx hgy
  replace hbw := Below.on hbw hb0
  clear hb0
  refine (dcmp (A.out.below hbw) (B.out.below hbw)).mono ?_
  rintro e v1 ⟨rfl, hb1⟩
  replace Xx : Hid _ := Xx.out.below hb1
  replace Xy : Hid _ := Xy.out.below hb1
  replace hbw := Below.on hbw hb1
  clear hb1
  go_wp2_with fail
  go_ret
  exact ⟨rfl, hbw⟩
set_option maxRecDepth 20000 in
set_option maxHeartbeats 8000000 in
theorem sadd {p q : Option Addr} {m c n d : Nat} {w : World} {e f : Int} {s t : Bool} {a : Option Addr} {x y : Int} (h : DN w s p m c e x) (k : DN w t q n d f y) {K E : Nat} (bx : DB x e K E) (by_ : DB y f K E) (hK : K + 2 * E + 1 ≤ 524288) (hT : Tab w) :
    Calls Tryz.prog 53 #[.pointer a, DV s p m c e, DV t q n d f] w fun en w' => ∃ zo eo s1 p1 m1, en = .returned (DV s1 p1 m1 m1 eo) ∧ DO w.heap.size w' s1 p1 m1 eo zo ∧ DB zo eo (K + 2 * E + 1) (K + 3 * E + 1) ∧ dv zo eo = dv x e + dv y f ∧ Below w.heap.size w w' := by
  have A : Hid (DN w s p m c e x) := h
  have B : Hid (DN w t q n d f y) := k
  have BX : Hid (DB x e K E) := bx
  have BY : Hid (DB y f K E) := by_
  have HK : Hid (K + 2 * E + 1 ≤ 524288) := hK
  have TB : Hid (Tab w) := hT
  clear h k bx by_ hK hT
  go_enter Tryz.func53, Tryz.ntmps53
  go_wp2_with fail
  obtain ⟨W0, hW0⟩ : ∃ W0, W0 = (((w.alloc (.cells #[.bool s, .slice p m c, .int .i64 e] 34)).alloc (.cells #[.bool t, .slice q n d, .int .i64 f] 34)).alloc (.cells #[.bool false, .slice none 0 0, .int .i64 0] 34)) := ⟨_, rfl⟩
  have Xx : Hid (B3q W0 (w.heap.size) (.bool s) (.slice p m c) (.int .i64 e)) := by rw [hW0]; exact ⟨by go_simp, by go_simp, by go_simp, by go_simp, by go_simp, by go_simp⟩
  have Xy : Hid (B3q W0 (w.heap.size + 1) (.bool t) (.slice q n d) (.int .i64 f)) := by rw [hW0]; exact ⟨by go_simp, by go_simp, by go_simp, by go_simp, by go_simp, by go_simp⟩
  have Xr : Hid (B3q W0 (w.heap.size + 1 + 1) (.bool false) (.slice none 0 0) (.int .i64 0)) := by rw [hW0]; exact ⟨by go_simp, by go_simp, by go_simp, by go_simp, by go_simp, by go_simp⟩
  have hb0 : Below w.heap.size w W0 := by rw [hW0]; exact below3 w _ _ _
  rw [← hW0]
  clear hW0
  have hbw : Below w.heap.size w w := Below.refl _ _
  obtain ⟨gr, hgr⟩ : ∃ g, g = w.heap.size + 1 + 1 := ⟨_, rfl⟩
  have HGr : Hid (w.heap.size ≤ gr) := by rw [hgr]; show _ ≤ _; omega
  rw [← hgr] at Xr
  try rw [← hgr]
  obtain ⟨gy, hgy⟩ : ∃ g, g = w.heap.size + 1 := ⟨_, rfl⟩
  have HGy : Hid (w.heap.size ≤ gy) := by rw [hgy]; show _ ≤ _; omega
  rw [← hgy] at Xy
  try rw [← hgy]
  obtain ⟨gx, hgx⟩ : ∃ g, g = w.heap.size := ⟨_, rfl⟩
  have HGx : Hid (w.heap.size ≤ gx) := by rw [hgx]; show _ ≤ _; omega
  rw [← hgx] at Xx
  try rw [← hgx]
  have HGD : Hid (gx ≠ gy ∧ gx ≠ gr ∧ gy ≠ gx ∧ gy ≠ gr ∧ gr ≠ gx ∧ gr ≠ gy) := by rw [hgx, hgy, hgr]; exact ⟨by omega, by omega, by omega, by omega, by omega, by omega⟩
  clear hgx hgy hgr
  replace hbw := Below.on hbw hb0
  clear hb0
  have HRL : Hid (gr < W0.heap.size ∧ w.heap.size ≤ W0.heap.size) := ⟨Xr.out.lt, hbw.size⟩
  refine (dadd_b (A.out.below hbw) (B.out.below hbw) BX.out BY.out HK.out (TB.out.below hbw)).mono ?_
  rintro e9 v1 ⟨v, zo, eo, rfl, hv, hdb, hdv, hb1⟩
  obtain ⟨s1, p1, m1, rfl, hd1⟩ := DO.of hv hdb.fm
  have HRES : Hid (DB zo eo (K + 2 * E + 1) (K + 3 * E + 1) ∧ dv zo eo = dv x e + dv y f) := ⟨hdb, hdv⟩
  clear hv hdb hdv
  replace Xx : Hid _ := Xx.out.below hb1
  replace Xy : Hid _ := Xy.out.below hb1
  replace Xr : Hid _ := Xr.out.below hb1
  replace hbw := Below.on hbw hb1
  clear hb1
  have D1 : Hid (DO W0.heap.size v1 s1 p1 m1 eo zo) := hd1
  clear hd1
  go_wp2_with fail
  refine (stake).mono ?_
  rintro e v2 ⟨rfl, hb2⟩
  replace Xx : Hid _ := Xx.out.below hb2
  replace Xy : Hid _ := Xy.out.below hb2
  replace Xr : Hid _ := Xr.out.below hb2
  replace D1 : Hid (DO W0.heap.size v2 s1 p1 m1 eo zo) := D1.out.below hb2
  replace hbw := Below.on hbw hb2
  clear hb2
  obtain ⟨cr0, cr1, cr2, fr0, fr1, fr2⟩ := Xr.out
  have hner : gr < v2.heap.size := World.block_lt_of_cell? v2 _ cr0
  go_wp2_with fail
  refine bodyPost_ret (v := DV s1 p1 m1 m1 eo) (by rw [results_cell1 rfl]; go_simp) rfl ⟨zo, eo, s1, p1, m1, rfl, ?_, HRES.out.1, HRES.out.2, ?_⟩
  · exact ((((D1.out.set _ _ _ HRL.out.1).set _ _ _ HRL.out.1).set _ _ _ HRL.out.1).mono HRL.out.2)
  · exact (bSet (bSet (bSet hbw _ _ _ HGr.out) _ _ _ HGr.out) _ _ _ HGr.out)
set_option maxRecDepth 20000 in
set_option maxHeartbeats 8000000 in
theorem ssub {p q : Option Addr} {m c n d : Nat} {w : World} {e f : Int} {s t : Bool} {a : Option Addr} {x y : Int} (h : DN w s p m c e x) (k : DN w t q n d f y) {K E : Nat} (bx : DB x e K E) (by_ : DB y f K E) (hK : K + 2 * E + 1 ≤ 524288) (hT : Tab w) :
    Calls Tryz.prog 52 #[.pointer a, DV s p m c e, DV t q n d f] w fun en w' => ∃ zo eo s1 p1 m1, en = .returned (DV s1 p1 m1 m1 eo) ∧ DO w.heap.size w' s1 p1 m1 eo zo ∧ DB zo eo (K + 2 * E + 1) (K + 3 * E + 1) ∧ dv zo eo = dv x e - dv y f ∧ Below w.heap.size w w' := by
  have A : Hid (DN w s p m c e x) := h
  have B : Hid (DN w t q n d f y) := k
  have BX : Hid (DB x e K E) := bx
  have BY : Hid (DB y f K E) := by_
  have HK : Hid (K + 2 * E + 1 ≤ 524288) := hK
  have TB : Hid (Tab w) := hT
  clear h k bx by_ hK hT
  go_enter Tryz.func52, Tryz.ntmps52
  go_wp2_with fail
  obtain ⟨W0, hW0⟩ : ∃ W0, W0 = (((w.alloc (.cells #[.bool s, .slice p m c, .int .i64 e] 34)).alloc (.cells #[.bool t, .slice q n d, .int .i64 f] 34)).alloc (.cells #[.bool false, .slice none 0 0, .int .i64 0] 34)) := ⟨_, rfl⟩
  have Xx : Hid (B3q W0 (w.heap.size) (.bool s) (.slice p m c) (.int .i64 e)) := by rw [hW0]; exact ⟨by go_simp, by go_simp, by go_simp, by go_simp, by go_simp, by go_simp⟩
  have Xy : Hid (B3q W0 (w.heap.size + 1) (.bool t) (.slice q n d) (.int .i64 f)) := by rw [hW0]; exact ⟨by go_simp, by go_simp, by go_simp, by go_simp, by go_simp, by go_simp⟩
  have Xr : Hid (B3q W0 (w.heap.size + 1 + 1) (.bool false) (.slice none 0 0) (.int .i64 0)) := by rw [hW0]; exact ⟨by go_simp, by go_simp, by go_simp, by go_simp, by go_simp, by go_simp⟩
  have hb0 : Below w.heap.size w W0 := by rw [hW0]; exact below3 w _ _ _
  rw [← hW0]
  clear hW0
  have hbw : Below w.heap.size w w := Below.refl _ _
  obtain ⟨gr, hgr⟩ : ∃ g, g = w.heap.size + 1 + 1 := ⟨_, rfl⟩
  have HGr : Hid (w.heap.size ≤ gr) := by rw [hgr]; show _ ≤ _; omega
  rw [← hgr] at Xr
  try rw [← hgr]
  obtain ⟨gy, hgy⟩ : ∃ g, g = w.heap.size + 1 := ⟨_, rfl⟩
  have HGy : Hid (w.heap.size ≤ gy) := by rw [hgy]; show _ ≤ _; omega
  rw [← hgy] at Xy
  try rw [← hgy]
  obtain ⟨gx, hgx⟩ : ∃ g, g = w.heap.size := ⟨_, rfl⟩
  have HGx : Hid (w.heap.size ≤ gx) := by rw [hgx]; show _ ≤ _; omega
  rw [← hgx] at Xx
  try rw [← hgx]
  have HGD : Hid (gx ≠ gy ∧ gx ≠ gr ∧ gy ≠ gx ∧ gy ≠ gr ∧ gr ≠ gx ∧ gr ≠ gy) := by rw [hgx, hgy, hgr]; exact ⟨by omega, by omega, by omega, by omega, by omega, by omega⟩
  clear hgx hgy hgr
  replace hbw := Below.on hbw hb0
  clear hb0
  have HRL : Hid (gr < W0.heap.size ∧ w.heap.size ≤ W0.heap.size) := ⟨Xr.out.lt, hbw.size⟩
  refine (dsub_b (A.out.below hbw) (B.out.below hbw) BX.out BY.out HK.out (TB.out.below hbw)).mono ?_
  rintro e9 v1 ⟨v, zo, eo, rfl, hv, hdb, hdv, hb1⟩
  obtain ⟨s1, p1, m1, rfl, hd1⟩ := DO.of hv hdb.fm
  have HRES : Hid (DB zo eo (K + 2 * E + 1) (K + 3 * E + 1) ∧ dv zo eo = dv x e - dv y f) := ⟨hdb, hdv⟩
  clear hv hdb hdv
  replace Xx : Hid _ := Xx.out.below hb1
  replace Xy : Hid _ := Xy.out.below hb1
  replace Xr : Hid _ := Xr.out.below hb1
  replace hbw := Below.on hbw hb1
  clear hb1
  have D1 : Hid (DO W0.heap.size v1 s1 p1 m1 eo zo) := hd1
  clear hd1
  go_wp2_with fail
  refine (stake).mono ?_
  rintro e v2 ⟨rfl, hb2⟩
  replace Xx : Hid _ := Xx.out.below hb2
  replace Xy : Hid _ := Xy.out.below hb2
  replace Xr : Hid _ := Xr.out.below hb2
  replace D1 : Hid (DO W0.heap.size v2 s1 p1 m1 eo zo) := D1.out.below hb2
  replace hbw := Below.on hbw hb2
  clear hb2
  obtain ⟨cr0, cr1, cr2, fr0, fr1, fr2⟩ := Xr.out
  have hner : gr < v2.heap.size := World.block_lt_of_cell? v2 _ cr0
  go_wp2_with fail
  refine bodyPost_ret (v := DV s1 p1 m1 m1 eo) (by rw [results_cell1 rfl]; go_simp) rfl ⟨zo, eo, s1, p1, m1, rfl, ?_, HRES.out.1, HRES.out.2, ?_⟩
  · exact ((((D1.out.set _ _ _ HRL.out.1).set _ _ _ HRL.out.1).set _ _ _ HRL.out.1).mono HRL.out.2)
  · exact (bSet (bSet (bSet hbw _ _ _ HGr.out) _ _ _ HGr.out) _ _ _ HGr.out)
set_option maxRecDepth 20000 in
set_option maxHeartbeats 8000000 in
theorem smul {p q : Option Addr} {m c n d : Nat} {w : World} {e f : Int} {s t : Bool} {a : Option Addr} {x y : Int} (h : DN w s p m c e x) (k : DN w t q n d f y) {K E K' E' : Nat} (bx : DB x e K E) (by_ : DB y f K' E') (hK : K + K' ≤ 524288) (hE : E + E' ≤ 524288) (hT : Tab w) :
    Calls Tryz.prog 54 #[.pointer a, DV s p m c e, DV t q n d f] w fun en w' => ∃ zo eo s1 p1 m1, en = .returned (DV s1 p1 m1 m1 eo) ∧ DO w.heap.size w' s1 p1 m1 eo zo ∧ DB zo eo (K + K') (E + E' + K + K') ∧ dv zo eo = dv (x * y) (e + f) ∧ Below w.heap.size w w' := by
  have A : Hid (DN w s p m c e x) := h
  have B : Hid (DN w t q n d f y) := k
  have BX : Hid (DB x e K E) := bx
  have BY : Hid (DB y f K' E') := by_
  have HK : Hid (K + K' ≤ 524288) := hK
  have HE : Hid (E + E' ≤ 524288) := hE
  have TB : Hid (Tab w) := hT
  clear h k bx by_ hK hT hE
  go_enter Tryz.func54, Tryz.ntmps54
  go_wp2_with fail
  obtain ⟨W0, hW0⟩ : ∃ W0, W0 = (((w.alloc (.cells #[.bool s, .slice p m c, .int .i64 e] 34)).alloc (.cells #[.bool t, .slice q n d, .int .i64 f] 34)).alloc (.cells #[.bool false, .slice none 0 0, .int .i64 0] 34)) := ⟨_, rfl⟩
  have Xx : Hid (B3q W0 (w.heap.size) (.bool s) (.slice p m c) (.int .i64 e)) := by rw [hW0]; exact ⟨by go_simp, by go_simp, by go_simp, by go_simp, by go_simp, by go_simp⟩
  have Xy : Hid (B3q W0 (w.heap.size + 1) (.bool t) (.slice q n d) (.int .i64 f)) := by rw [hW0]; exact ⟨by go_simp, by go_simp, by go_simp, by go_simp, by go_simp, by go_simp⟩
  have Xr : Hid (B3q W0 (w.heap.size + 1 + 1) (.bool false) (.slice none 0 0) (.int .i64 0)) := by rw [hW0]; exact ⟨by go_simp, by go_simp, by go_simp, by go_simp, by go_simp, by go_simp⟩
  have hb0 : Below w.heap.size w W0 := by rw [hW0]; exact below3 w _ _ _
  rw [← hW0]
  clear hW0
  have hbw : Below w.heap.size w w := Below.refl _ _
  obtain ⟨gr, hgr⟩ : ∃ g, g = w.heap.size + 1 + 1 := ⟨_, rfl⟩
  have HGr : Hid (w.heap.size ≤ gr) := by rw [hgr]; show _ ≤ _; omega
  rw [← hgr] at Xr
  try rw [← hgr]
  obtain ⟨gy, hgy⟩ : ∃ g, g = w.heap.size + 1 := ⟨_, rfl⟩
  have HGy : Hid (w.heap.size ≤ gy) := by rw [hgy]; show _ ≤ _; omega
  rw [← hgy] at Xy
  try rw [← hgy]
  obtain ⟨gx, hgx⟩ : ∃ g, g = w.heap.size := ⟨_, rfl⟩
  have HGx : Hid (w.heap.size ≤ gx) := by rw [hgx]; show _ ≤ _; omega
  rw [← hgx] at Xx
  try rw [← hgx]
  have HGD : Hid (gx ≠ gy ∧ gx ≠ gr ∧ gy ≠ gx ∧ gy ≠ gr ∧ gr ≠ gx ∧ gr ≠ gy) := by rw [hgx, hgy, hgr]; exact ⟨by omega, by omega, by omega, by omega, by omega, by omega⟩
  clear hgx hgy hgr
  replace hbw := Below.on hbw hb0
  clear hb0
  have HRL : Hid (gr < W0.heap.size ∧ w.heap.size ≤ W0.heap.size) := ⟨Xr.out.lt, hbw.size⟩
  refine (dmul_b (A.out.below hbw) (B.out.below hbw) BX.out BY.out HK.out HE.out (TB.out.below hbw)).mono ?_
  rintro e9 v1 ⟨v, zo, eo, rfl, hv, hdb, hdv, hb1⟩
  obtain ⟨s1, p1, m1, rfl, hd1⟩ := DO.of hv hdb.fm
  have HRES : Hid (DB zo eo (K + K') (E + E' + K + K') ∧ dv zo eo = dv (x * y) (e + f)) := ⟨hdb, hdv⟩
  clear hv hdb hdv
  replace Xx : Hid _ := Xx.out.below hb1
  replace Xy : Hid _ := Xy.out.below hb1
  replace Xr : Hid _ := Xr.out.below hb1
  replace hbw := Below.on hbw hb1
  clear hb1
  have D1 : Hid (DO W0.heap.size v1 s1 p1 m1 eo zo) := hd1
  clear hd1
  go_wp2_with fail
  refine (stake).mono ?_
  rintro e v2 ⟨rfl, hb2⟩
  replace Xx : Hid _ := Xx.out.below hb2
  replace Xy : Hid _ := Xy.out.below hb2
  replace Xr : Hid _ := Xr.out.below hb2
  replace D1 : Hid (DO W0.heap.size v2 s1 p1 m1 eo zo) := D1.out.below hb2
  replace hbw := Below.on hbw hb2
  clear hb2
  obtain ⟨cr0, cr1, cr2, fr0, fr1, fr2⟩ := Xr.out
  have hner : gr < v2.heap.size := World.block_lt_of_cell? v2 _ cr0
  go_wp2_with fail
  refine bodyPost_ret (v := DV s1 p1 m1 m1 eo) (by rw [results_cell1 rfl]; go_simp) rfl ⟨zo, eo, s1, p1, m1, rfl, ?_, HRES.out.1, HRES.out.2, ?_⟩
  · exact ((((D1.out.set _ _ _ HRL.out.1).set _ _ _ HRL.out.1).set _ _ _ HRL.out.1).mono HRL.out.2)
  · exact (bSet (bSet (bSet hbw _ _ _ HGr.out) _ _ _ HGr.out) _ _ _ HGr.out)
end Go.Proofs.YtfofoookdlaipaaGreatDoor

namespace Go.Proofs.YtfofoookdlaipaaGreatDoor
open Go.RowKit Go.Shelf

set_option maxRecDepth 20000 in
set_option maxHeartbeats 8000000 in
theorem tint_s {p q : Option Addr} {m c n d : Nat} {w : World} {s t : Bool} (hs : s ≠ t) :
    Calls Tryz.prog 44 #[ZV s p m c, ZV t q n d] w fun en w' => en = .returned (.bool false) ∧ Below w.heap.size w w' := by
  have h1 : (s == t) = false := by simp [hs]
  have h2 : (t == s) = false := by simp; exact fun h => hs h.symm
  clear hs
  go_enter Tryz.func44, Tryz.ntmps44
  go_wp2_with fail
  go_ret
  first | exact ⟨rfl, below2 w _ _⟩ | exact ⟨rfl, bDrewN (below2 w _ _) _⟩
set_option maxRecDepth 20000 in
set_option maxHeartbeats 8000000 in
theorem tint_e {p q : Option Addr} {m c n d : Nat} {w : World} {x y : Int} {s t : Bool} (h : ZN w s p m c x) (k : ZN w t q n d y) (hs : s = t) :
    Calls Tryz.prog 44 #[ZV s p m c, ZV t q n d] w fun en w' => en = .returned (.bool (decide (x = y))) ∧ Below w.heap.size w w' := by
  subst hs
  have A : Hid (ZN w s p m c x) := h
  have B : Hid (ZN w s q n d y) := k
  clear h k
  go_enter Tryz.func44, Tryz.ntmps44
  go_wp2_with fail
  obtain ⟨W0, hW0⟩ : ∃ W0, W0 = ((w.alloc (.cells #[.bool s, .slice p m c] 32)).alloc (.cells #[.bool s, .slice q n d] 32)) := ⟨_, rfl⟩
  have Xa : Hid (Box W0 (w.heap.size) (.bool s) (.slice p m c)) := by rw [hW0]; exact ⟨by go_simp, by go_simp, by go_simp, by go_simp⟩
  have Xb : Hid (Box W0 (w.heap.size + 1) (.bool s) (.slice q n d)) := by rw [hW0]; exact ⟨by go_simp, by go_simp, by go_simp, by go_simp⟩
  have hb0 : Below w.heap.size w W0 := by rw [hW0]; exact below2 w _ _
  rw [← hW0]
  clear hW0
  have hbw : Below w.heap.size w w := Below.refl _ _
  obtain ⟨gb, hgb⟩ : ∃ g, g = w.heap.size + 1 := ⟨_, rfl⟩
  have HGb : Hid (w.heap.size ≤ gb) := by rw [hgb]; show _ ≤ _; omega
  rw [← hgb] at Xb
  try rw [← hgb]
  obtain ⟨ga, hga⟩ : ∃ g, g = w.heap.size := ⟨_, rfl⟩
  have HGa : Hid (w.heap.size ≤ ga) := by rw [hga]; show _ ≤ _; omega
  rw [← hga] at Xa
  try rw [← hga]
  have HGD : Hid (ga ≠ gb ∧ gb ≠ ga) := by rw [hga, hgb]; exact ⟨by omega, by omega⟩
  clear hga hgb
  replace hbw := Below.on hbw hb0
  clear hb0
  obtain ⟨xs, hX⟩ := (A.out.below hbw).ex
  obtain ⟨ys, hY⟩ := (B.out.below hbw).ex
  refine (tsame_any hX.at_ hY.at_).mono ?_
  rintro e9 v1 ⟨rfl, r, rfl⟩
  rw [show decide (xs = ys) = decide (x = y) from decide_eq_decide.2 ⟨fun h => by
      have h1 := hX.nf.ext hY.nf h
      have h2 := A.out.iv; have h3 := B.out.iv
      rw [← h2, ← h3, h1], fun h => by
      subst h
      exact hX.nf.inj B64_one hY.nf⟩]
  clear hX hY
  have hbr := bDrewN (Below.refl W0.heap.size W0) r
  generalize W0.drewN r = v1 at *
  replace Xa : Hid _ := Xa.out.below hbr
  replace Xb : Hid _ := Xb.out.below hbr
  replace hbw := Below.on hbw hbr
  clear hbr
  go_wp2_with fail
  go_ret
  exact ⟨rfl, hbw⟩
theorem tint {p q : Option Addr} {m c n d : Nat} {w : World} {x y : Int} {s t : Bool} (h : ZN w s p m c x) (k : ZN w t q n d y) :
    Calls Tryz.prog 44 #[ZV s p m c, ZV t q n d] w fun en w' => en = .returned (.bool (decide (x = y))) ∧ Below w.heap.size w w' := by
  by_cases hs : s = t
  · exact tint_e h k hs
  · have : ¬ x = y := fun hxy => hs (by rw [h.sg, k.sg, hxy])
    rw [decide_eq_false this]
    exact tint_s hs
set_option maxRecDepth 20000 in
set_option maxHeartbeats 8000000 in
theorem tdy_n {p q : Option Addr} {m c n d : Nat} {w : World} {e f : Int} {s t : Bool} (he : e ≠ f) :
    Calls Tryz.prog 10 #[DV s p m c e, DV t q n d f] w fun en w' => en = .returned (.bool false) ∧ Below w.heap.size w w' := by
  have h1 : (e == f) = false := by simp [he]
  clear he
  go_enter Tryz.func10, Tryz.ntmps10
  go_wp2_with fail
  go_ret
  first | exact ⟨rfl, below2 w _ _⟩ | exact ⟨rfl, bDrewN (below2 w _ _) _⟩
set_option maxRecDepth 20000 in
set_option maxHeartbeats 8000000 in
theorem tdy_e {p q : Option Addr} {m c n d : Nat} {w : World} {e f : Int} {s t : Bool} {x y : Int} (h : DN w s p m c e x) (k : DN w t q n d f y) (he : e = f) :
    Calls Tryz.prog 10 #[DV s p m c e, DV t q n d f] w fun en w' => en = .returned (.bool (decide (x = y))) ∧ Below w.heap.size w w' := by
  subst he
  have A : Hid (DN w s p m c e x) := h
  have B : Hid (DN w t q n d e y) := k
  clear h k
  go_enter Tryz.func10, Tryz.ntmps10
  go_wp2_with fail
  obtain ⟨W0, hW0⟩ : ∃ W0, W0 = ((w.alloc (.cells #[.bool s, .slice p m c, .int .i64 e] 34)).alloc (.cells #[.bool t, .slice q n d, .int .i64 e] 34)) := ⟨_, rfl⟩
  have Xa : Hid (B3q W0 (w.heap.size) (.bool s) (.slice p m c) (.int .i64 e)) := by rw [hW0]; exact ⟨by go_simp, by go_simp, by go_simp, by go_simp, by go_simp, by go_simp⟩
  have Xb : Hid (B3q W0 (w.heap.size + 1) (.bool t) (.slice q n d) (.int .i64 e)) := by rw [hW0]; exact ⟨by go_simp, by go_simp, by go_simp, by go_simp, by go_simp, by go_simp⟩
  have hb0 : Below w.heap.size w W0 := by rw [hW0]; exact below2 w _ _
  rw [← hW0]
  clear hW0
  have hbw : Below w.heap.size w w := Below.refl _ _
  obtain ⟨gb, hgb⟩ : ∃ g, g = w.heap.size + 1 := ⟨_, rfl⟩
  have HGb : Hid (w.heap.size ≤ gb) := by rw [hgb]; show _ ≤ _; omega
  rw [← hgb] at Xb
  try rw [← hgb]
  obtain ⟨ga, hga⟩ : ∃ g, g = w.heap.size := ⟨_, rfl⟩
  have HGa : Hid (w.heap.size ≤ ga) := by rw [hga]; show _ ≤ _; omega
  rw [← hga] at Xa
  try rw [← hga]
  have HGD : Hid (ga ≠ gb ∧ gb ≠ ga) := by rw [hga, hgb]; exact ⟨by omega, by omega⟩
  clear hga hgb
  replace hbw := Below.on hbw hb0
  clear hb0
  refine (tint (A.out.zn.below hbw) (B.out.zn.below hbw)).mono ?_
  rintro e v1 ⟨rfl, hb1⟩
  replace Xa : Hid _ := Xa.out.below hb1
  replace Xb : Hid _ := Xb.out.below hb1
  replace hbw := Below.on hbw hb1
  clear hb1
  go_wp2_with fail
  go_ret
  exact ⟨rfl, hbw⟩
theorem tdy {p q : Option Addr} {m c n d : Nat} {w : World} {x y e f : Int} {s t : Bool} (h : DN w s p m c e x) (k : DN w t q n d f y) :
    Calls Tryz.prog 10 #[DV s p m c e, DV t q n d f] w fun en w' => en = .returned (.bool (decide (dv x e = dv y f))) ∧ Below w.heap.size w w' := by
  by_cases he : e = f
  · have : decide (dv x e = dv y f) = decide (x = y) := decide_eq_decide.2 ⟨fun hd => (dv_inj h.fm k.fm hd).1, fun hd => by rw [hd, he]⟩
    rw [this]
    exact tdy_e h k he
  · have : ¬ dv x e = dv y f := fun hd => he (dv_inj h.fm k.fm hd).2
    rw [decide_eq_false this]
    exact tdy_n he
set_option maxRecDepth 20000 in
set_option maxHeartbeats 8000000 in
theorem tfmt_32 (w : World) :
    Calls Tryz.prog 6 #[.bool true] w fun en w' => en = .returned (.int .i64 32) ∧ Below w.heap.size w w' := by
  go_enter Tryz.func6, Tryz.ntmps6
  go_wp2_with fail
  go_ret
  exact ⟨rfl, Below.refl _ _⟩
set_option maxRecDepth 20000 in
set_option maxHeartbeats 8000000 in
theorem tfmt_64 (w : World) :
    Calls Tryz.prog 6 #[.bool false] w fun en w' => en = .returned (.int .i64 64) ∧ Below w.heap.size w w' := by
  go_enter Tryz.func6, Tryz.ntmps6
  go_wp2_with fail
  go_ret
  exact ⟨rfl, Below.refl _ _⟩
set_option maxRecDepth 20000 in
set_option maxHeartbeats 8000000 in
theorem tpat_64 (b : Nat) (w : World) :
    Calls Tryz.prog 19 #[.int .i64 64, U b] w fun en w' => en = .returned (U b) ∧ Below w.heap.size w w' := by
  go_enter Tryz.func19, Tryz.ntmps19
  go_wp2_with fail
  go_ret
  exact ⟨rfl, Below.refl _ _⟩
set_option maxRecDepth 20000 in
set_option maxHeartbeats 8000000 in
theorem tpat_32 (b : Nat) (hb : b < B64) (w : World) :
    Calls Tryz.prog 19 #[.int .i64 32, U b] w fun en w' => en = .returned (U (b % 4294967296)) ∧ Below w.heap.size w w' := by
  have h1 : bits BinOp.and IntKind.u64 (b : Int) 4294967295 = ((b % 4294967296 : Nat) : Int) := by
    have := bits_and_u64_nat b 4294967295 (by rw [B64_eq] at hb; omega) (by decide)
    rw [show ((4294967295 : Nat) : Int) = 4294967295 from rfl] at this
    rw [this, show b &&& 4294967295 = b % 2 ^ 32 from Nat.and_two_pow_sub_one_eq_mod b 32]
  clear hb
  go_enter Tryz.func19, Tryz.ntmps19
  go_wp2_with fail
  go_ret
  exact ⟨rfl, Below.refl _ _⟩
end Go.Proofs.YtfofoookdlaipaaGreatDoor

namespace Go.Proofs.YtfofoookdlaipaaGreatDoor
open Go.RowKit Go.Shelf

theorem dv_part {z e q g i : Int} (he : -2097152 ≤ e) (hg : -2097152 ≤ g) (hq : dv q g = dv i (-8)) : 256 * dv (z * q) (e + g) = i * dv z e := by
  have h1 := dv_mul (z := z) (c := q) he hg
  have h2 : dv i 0 = dv (i * 256) (-8) := by
    have := dv_up (x := i) (e := -8) 8 (by decide)
    rw [show (-8 : Int) + ((8 : Nat) : Int) = 0 from rfl] at this
    rw [this]
    rfl
  have h3 : dv (i * 256) (-8) = 256 * dv i (-8) := by unfold dv; rw [Int.mul_comm i, Int.mul_assoc]
  have h4 : dv i 0 = i * ((2 ^ 4194304 : Nat) : Int) := by unfold dv; rw [show ((0 : Int) + 4194304).toNat = 4194304 from rfl]
  have hT := pow_pos_int 4194304
  rw [hq] at h1
  generalize ((2 ^ 4194304 : Nat) : Int) = T at *
  have h5 : 256 * dv i (-8) = i * T := by rw [← h3, ← h2, h4]
  refine Int.eq_of_mul_eq_mul_right hT ?_
  rw [Int.mul_assoc, h1, Int.mul_left_comm, h5, ← Int.mul_assoc, Int.mul_comm (dv z e)]
theorem results_cc {fn : Func} {p u : Tmp} {ty ty2 : TypeId} (h : fn.results = #[.cell p ty, .cell u ty2]) (tmps : Array Value) (P : Program) (w : World) :
    (results fn tmps).run P w = ((asAddr (tmps.getD p undef)).run P w).andThen fun a w₁ => ((loadVar ty a).run P w₁).andThen fun v w₂ => ((asAddr (tmps.getD u undef)).run P w₂).andThen fun b w₃ => ((loadVar ty2 b).run P w₃).andThen fun v2 w₄ => .ok (.tuple #[v, v2]) w₄ := by
  simp only [results, h]
  simp [Sem.run_bind, Result.andThen]
theorem part_ex {i : Nat} (hi : i < 256) : ∃ zp ep, DB zp ep 8 8 ∧ dv zp ep = dv (i : Int) (-8) := by
  by_cases h0 : i = 0
  · subst h0
    exact ⟨0, 0, ⟨.inl ⟨rfl, rfl⟩, by decide, by decide, by decide⟩, by rw [show ((0 : Nat) : Int) = 0 from rfl, dv_zero, dv_zero]⟩
  · obtain ⟨zo, eo, g1, g2, _, g4, g5, g6⟩ := form_ex (z := (i : Int)) (e := -8) (L := 8) (by omega) (by decide) (by rw [Int.natAbs_natCast]; omega) (by decide)
    refine ⟨zo, eo, ⟨g1, ?_, by omega, by omega⟩, g2⟩
    rw [Int.natAbs_natCast] at g4
    exact Nat.lt_of_le_of_lt g4 (by omega)
set_option maxRecDepth 20000 in
set_option maxHeartbeats 8000000 in
theorem sbet_e {p q : Option Addr} {m c n d : Nat} {w : World} {e f : Int} {s t : Bool} {a : Option Addr} {x y : Int} (h : DN w s p m c e x) (k : DN w t q n d f y) {K E : Nat} (bx : DB x e K E) (by_ : DB y f K E) (hKE : 5 * K + 12 * E + 46 ≤ 524288) (hc : dv x e ≤ dv y f) (i : Nat) (hi : i < 256) (hT : Tab w) (hi5 : i = 255) :
    Calls Tryz.prog 55 #[.pointer a, DV s p m c e, DV t q n d f, .int .u8 i] w fun en w' => ∃ s1 p1 m1 s2 p2 m2, en = .returned (.tuple #[SV s1 p1 m1 m1 e s2 p2 m2 m2 f, DV t q n d f]) ∧ DO w.heap.size w' s1 p1 m1 e x ∧ DO w.heap.size w' s2 p2 m2 f y ∧ Below w.heap.size w w' := by
  have A : Hid (DN w s p m c e x) := h
  have B : Hid (DN w t q n d f y) := k
  have BX : Hid (DB x e K E) := bx
  have BY : Hid (DB y f K E) := by_
  have HKE : Hid (5 * K + 12 * E + 46 ≤ 524288) := hKE
  have HC : Hid (dv x e ≤ dv y f) := hc
  obtain ⟨cc, hcc⟩ : ∃ cc, cc = cmpI (dv x e) (dv y f) := ⟨_, rfl⟩
  have HCC : Hid (cmpI (dv x e) (dv y f) = cc) := hcc.symm
  have k9 : decide (0 < cc) = false := by rw [hcc]; unfold cmpI; by_cases a : dv x e < dv y f; (· rw [if_pos a]; rfl); rw [if_neg a, if_pos (by omega)]; rfl
  clear hcc
  have TB : Hid (Tab w) := hT
  obtain ⟨zp, ep, hdb, hdp⟩ := part_ex hi
  have HP : Hid (DB zp ep 8 8 ∧ dv zp ep = dv (i : Int) (-8)) := ⟨hdb, hdp⟩
  have HI : Hid (-9223372036854775808 ≤ (i : Int) ∧ (i : Int) ≤ 9223372036854775807) := by show _ ∧ _; omega
  have w1 : IntKind.i64.wrap (i : Int) = (i : Int) := by simp [IntKind.wrap, IntKind.signed, IntKind.bits]; omega
  have w2 : wrap64 (i : Int) = (i : Int) := by simp only [wrap64]; omega
  have q1 : ((i : Int) == 255) = true := by simp; omega
  clear h k bx by_ hKE hc hi hT hdb hdp hi5
  go_enter Tryz.func55, Tryz.ntmps55
  go_wp2_with fail
  obtain ⟨W0, hW0⟩ : ∃ W0, W0 = ((((w.alloc (.cells #[.bool s, .slice p m c, .int .i64 e] 34)).alloc (.cells #[.bool t, .slice q n d, .int .i64 f] 34)).alloc (.cells #[.bool false, .slice none 0 0, .int .i64 0, .bool false, .slice none 0 0, .int .i64 0] 66)).alloc (.cells #[.bool false, .slice none 0 0, .int .i64 0] 34)) := ⟨_, rfl⟩
  have Xx : Hid (B3q W0 (w.heap.size) (.bool s) (.slice p m c) (.int .i64 e)) := by rw [hW0]; exact ⟨by go_simp, by go_simp, by go_simp, by go_simp, by go_simp, by go_simp⟩
  have Xy : Hid (B3q W0 (w.heap.size + 1) (.bool t) (.slice q n d) (.int .i64 f)) := by rw [hW0]; exact ⟨by go_simp, by go_simp, by go_simp, by go_simp, by go_simp, by go_simp⟩
  have Xr : Hid (B6q W0 (w.heap.size + 1 + 1) (.bool false) (.slice none 0 0) (.int .i64 0) (.bool false) (.slice none 0 0) (.int .i64 0)) := by rw [hW0]; exact ⟨by go_simp, by go_simp, by go_simp, by go_simp, by go_simp, by go_simp, by go_simp, by go_simp, by go_simp, by go_simp, by go_simp, by go_simp⟩
  have Xu : Hid (B3q W0 (w.heap.size + 1 + 1 + 1) (.bool false) (.slice none 0 0) (.int .i64 0)) := by rw [hW0]; exact ⟨by go_simp, by go_simp, by go_simp, by go_simp, by go_simp, by go_simp⟩
  have hb0 : Below w.heap.size w W0 := by rw [hW0]; exact below4 w _ _ _ _
  rw [← hW0]
  clear hW0
  have hbw : Below w.heap.size w w := Below.refl _ _
  obtain ⟨gu, hgu⟩ : ∃ g, g = w.heap.size + 1 + 1 + 1 := ⟨_, rfl⟩
  have HGu : Hid (w.heap.size ≤ gu) := by rw [hgu]; show _ ≤ _; omega
  rw [← hgu] at Xu
  try rw [← hgu]
  obtain ⟨gr, hgr⟩ : ∃ g, g = w.heap.size + 1 + 1 := ⟨_, rfl⟩
  have HGr : Hid (w.heap.size ≤ gr) := by rw [hgr]; show _ ≤ _; omega
  rw [← hgr] at Xr
  try rw [← hgr]
  obtain ⟨gy, hgy⟩ : ∃ g, g = w.heap.size + 1 := ⟨_, rfl⟩
  have HGy : Hid (w.heap.size ≤ gy) := by rw [hgy]; show _ ≤ _; omega
  rw [← hgy] at Xy
  try rw [← hgy]
  obtain ⟨gx, hgx⟩ : ∃ g, g = w.heap.size := ⟨_, rfl⟩
  have HGx : Hid (w.heap.size ≤ gx) := by rw [hgx]; show _ ≤ _; omega
  rw [← hgx] at Xx
  try rw [← hgx]
  have HGD : Hid (gx ≠ gy ∧ gx ≠ gr ∧ gx ≠ gu ∧ gy ≠ gx ∧ gy ≠ gr ∧ gy ≠ gu ∧ gr ≠ gx ∧ gr ≠ gy ∧ gr ≠ gu ∧ gu ≠ gx ∧ gu ≠ gy ∧ gu ≠ gr) := by rw [hgx, hgy, hgr, hgu]; exact ⟨by omega, by omega, by omega, by omega, by omega, by omega, by omega, by omega, by omega, by omega, by omega, by omega⟩
  clear hgx hgy hgr hgu
  replace hbw := Below.on hbw hb0
  clear hb0
  refine (scmp (A.out.below hbw) (B.out.below hbw)).mono ?_
  rintro e v1 ⟨rfl, hb1⟩
  rw [HCC.out]
  replace Xx : Hid _ := Xx.out.below hb1
  replace Xy : Hid _ := Xy.out.below hb1
  replace Xr : Hid _ := Xr.out.below hb1
  replace Xu : Hid _ := Xu.out.below hb1
  replace hbw := Below.on hbw hb1
  clear hb1
  obtain ⟨cx0, cx1, cx2, fx0, fx1, fx2⟩ := Xx.out
  have hnex : gx < v1.heap.size := World.block_lt_of_cell? v1 _ cx0
  obtain ⟨cy0, cy1, cy2, fy0, fy1, fy2⟩ := Xy.out
  have hney : gy < v1.heap.size := World.block_lt_of_cell? v1 _ cy0
  go_wp2_with fail
  clear cx0 cx1 cx2 fx0 fx1 fx2 hnex
  clear cy0 cy1 cy2 fy0 fy1 fy2 hney
  have HWS : Hid (gr < v1.heap.size ∧ gu < v1.heap.size ∧ w.heap.size ≤ v1.heap.size) := ⟨Xr.out.lt, Xu.out.lt, hbw.size⟩
  refine (smake (A.out.below hbw) (B.out.below hbw) HC.out).mono ?_
  rintro e9 v2 ⟨s2, p2, m2, s3, p3, m3, rfl, hd1, hd2, hb2⟩
  replace Xx : Hid _ := Xx.out.below hb2
  replace Xy : Hid _ := Xy.out.below hb2
  replace Xr : Hid _ := Xr.out.below hb2
  replace Xu : Hid _ := Xu.out.below hb2
  replace hbw := Below.on hbw hb2
  clear hb2
  have S2 : Hid (DO v1.heap.size v2 s2 p2 m2 e x) := hd1
  have S3 : Hid (DO v1.heap.size v2 s3 p3 m3 f y) := hd2
  clear hd1 hd2
  go_wp2_with fail
  have HDS : Hid (gr ≠ v2.heap.size ∧ gu ≠ v2.heap.size) := ⟨Nat.ne_of_lt Xr.out.lt, Nat.ne_of_lt Xu.out.lt⟩
  have Xsp0 : Hid (B6q (v2.alloc (.cells #[.bool s2, .slice p2 m2 m2, .int .i64 e, .bool s3, .slice p3 m3 m3, .int .i64 f] 66)) v2.heap.size (.bool s2) (.slice p2 m2 m2) (.int .i64 e) (.bool s3) (.slice p3 m3 m3) (.int .i64 f)) := B6q.new v2 _ _ _ _ _ _ _
  have hbn : Below v2.heap.size v2 (v2.alloc (.cells #[.bool s2, .slice p2 m2 m2, .int .i64 e, .bool s3, .slice p3 m3 m3, .int .i64 f] 66)) := below1 v2 _
  generalize v2.alloc (.cells #[.bool s2, .slice p2 m2 m2, .int .i64 e, .bool s3, .slice p3 m3 m3, .int .i64 f] 66) = Ws at *
  have HGsp : Hid (w.heap.size ≤ v2.heap.size) := hbw.size
  replace Xx : Hid _ := Xx.out.below hbn
  replace Xy : Hid _ := Xy.out.below hbn
  replace Xr : Hid _ := Xr.out.below hbn
  replace Xu : Hid _ := Xu.out.below hbn
  replace S2 : Hid (DO v1.heap.size Ws s2 p2 m2 e x) := S2.out.below hbn
  replace S3 : Hid (DO v1.heap.size Ws s3 p3 m3 f y) := S3.out.below hbn
  replace hbw := Below.on hbw hbn
  clear hbn
  generalize v2.heap.size = gsp at *
  have Xsp := Xsp0
  clear Xsp0
  refine (zof (i : Int) _ HI.out.1 HI.out.2).mono ?_
  rintro e9 v4 ⟨s4, p4, m4, rfl, hz, hb4⟩
  replace Xx : Hid _ := Xx.out.below hb4
  replace Xy : Hid _ := Xy.out.below hb4
  replace Xr : Hid _ := Xr.out.below hb4
  replace Xu : Hid _ := Xu.out.below hb4
  replace Xsp : Hid _ := Xsp.out.below hb4
  replace S2 : Hid (DO v1.heap.size v4 s2 p2 m2 e x) := S2.out.below hb4
  replace S3 : Hid (DO v1.heap.size v4 s3 p3 m3 f y) := S3.out.below hb4
  replace hbw := Below.on hbw hb4
  clear hb4
  have Z4 : Hid (ZN v4 s4 p4 m4 m4 (i : Int)) := hz
  clear hz
  go_wp2_with fail
  refine (makep Z4.out (by decide) (TB.out.below hbw)).mono ?_
  rintro e9 v5 ⟨hv, hb5⟩
  obtain ⟨v, rfl, hv2⟩ := hv.form HP.out.1.fm HP.out.2
  obtain ⟨s5, p5, m5, rfl, hd5⟩ := hv2.dn HP.out.1.fm
  clear hv hv2
  replace Xx : Hid _ := Xx.out.below hb5
  replace Xy : Hid _ := Xy.out.below hb5
  replace Xr : Hid _ := Xr.out.below hb5
  replace Xu : Hid _ := Xu.out.below hb5
  replace Xsp : Hid _ := Xsp.out.below hb5
  replace S2 : Hid (DO v1.heap.size v5 s2 p2 m2 e x) := S2.out.below hb5
  replace S3 : Hid (DO v1.heap.size v5 s3 p3 m3 f y) := S3.out.below hb5
  replace Z4 : Hid _ := Z4.out.below hb5
  replace hbw := Below.on hbw hb5
  clear hb5
  have D5 : Hid (DN v5 s5 p5 m5 m5 ep zp) := hd5
  clear hd5
  clear Z4
  go_wp2_with fail
  refine (stake).mono ?_
  rintro e v6 ⟨rfl, hb6⟩
  replace Xx : Hid _ := Xx.out.below hb6
  replace Xy : Hid _ := Xy.out.below hb6
  replace Xr : Hid _ := Xr.out.below hb6
  replace Xu : Hid _ := Xu.out.below hb6
  replace Xsp : Hid _ := Xsp.out.below hb6
  replace S2 : Hid (DO v1.heap.size v6 s2 p2 m2 e x) := S2.out.below hb6
  replace S3 : Hid (DO v1.heap.size v6 s3 p3 m3 f y) := S3.out.below hb6
  replace D5 : Hid _ := D5.out.below hb6
  replace hbw := Below.on hbw hb6
  clear hb6
  go_wp2_with fail
  have Xpt0 : Hid (B3q (v6.alloc (.cells #[.bool s5, .slice p5 m5 m5, .int .i64 ep] 34)) v6.heap.size (.bool s5) (.slice p5 m5 m5) (.int .i64 ep)) := B3q.new v6 _ _ _ _
  have hbn : Below v6.heap.size v6 (v6.alloc (.cells #[.bool s5, .slice p5 m5 m5, .int .i64 ep] 34)) := below1 v6 _
  generalize v6.alloc (.cells #[.bool s5, .slice p5 m5 m5, .int .i64 ep] 34) = Wp at *
  have HGpt : Hid (w.heap.size ≤ v6.heap.size) := hbw.size
  replace Xx : Hid _ := Xx.out.below hbn
  replace Xy : Hid _ := Xy.out.below hbn
  replace Xr : Hid _ := Xr.out.below hbn
  replace Xu : Hid _ := Xu.out.below hbn
  replace Xsp : Hid _ := Xsp.out.below hbn
  replace S2 : Hid (DO v1.heap.size Wp s2 p2 m2 e x) := S2.out.below hbn
  replace S3 : Hid (DO v1.heap.size Wp s3 p3 m3 f y) := S3.out.below hbn
  replace D5 : Hid _ := D5.out.below hbn
  replace hbw := Below.on hbw hbn
  clear hbn
  generalize v6.heap.size = gpt at *
  have Xpt := Xpt0
  clear Xpt0
  obtain ⟨W7, hW7⟩ : ∃ W1, W1 = Wp.drew := ⟨_, rfl⟩
  have hbd : Below Wp.heap.size Wp W7 := by rw [hW7]; exact bDrew1 (Below.refl _ _)
  replace Xx : Hid _ := Xx.out.below hbd
  replace Xy : Hid _ := Xy.out.below hbd
  replace Xr : Hid _ := Xr.out.below hbd
  replace Xu : Hid _ := Xu.out.below hbd
  replace Xsp : Hid _ := Xsp.out.below hbd
  replace Xpt : Hid _ := Xpt.out.below hbd
  replace S2 : Hid (DO v1.heap.size W7 s2 p2 m2 e x) := S2.out.below hbd
  replace S3 : Hid (DO v1.heap.size W7 s3 p3 m3 f y) := S3.out.below hbd
  replace D5 : Hid _ := D5.out.below hbd
  replace hbw := Below.on hbw hbd
  clear hbd
  have HJ : Hid ((fun W' : World => W'.cell? ⟨gsp, 0, none⟩ = some (.bool s2) ∧ W'.cell? ⟨gsp, 1, none⟩ = some (.slice p2 m2 m2) ∧ W'.cell? ⟨gsp, 2, none⟩ = some (.int .i64 e) ∧ W'.cell? ⟨gsp, 3, none⟩ = some (.bool s3) ∧ W'.cell? ⟨gsp, 4, none⟩ = some (.slice p3 m3 m3) ∧ W'.cell? ⟨gsp, 5, none⟩ = some (.int .i64 f) ∧ W'.cell? ⟨gy, 0, none⟩ = some (.bool t) ∧ W'.cell? ⟨gy, 1, none⟩ = some (.slice q n d) ∧ W'.cell? ⟨gy, 2, none⟩ = some (.int .i64 f)) W7) := ⟨Xsp.out.c0, Xsp.out.c1, Xsp.out.c2, Xsp.out.c3, Xsp.out.c4, Xsp.out.c5, Xy.out.c0, Xy.out.c1, Xy.out.c2⟩
  refine wp_region_J (fun W' => W'.cell? ⟨gsp, 0, none⟩ = some (.bool s2) ∧ W'.cell? ⟨gsp, 1, none⟩ = some (.slice p2 m2 m2) ∧ W'.cell? ⟨gsp, 2, none⟩ = some (.int .i64 e) ∧ W'.cell? ⟨gsp, 3, none⟩ = some (.bool s3) ∧ W'.cell? ⟨gsp, 4, none⟩ = some (.slice p3 m3 m3) ∧ W'.cell? ⟨gsp, 5, none⟩ = some (.int .i64 f) ∧ W'.cell? ⟨gy, 0, none⟩ = some (.bool t) ∧ W'.cell? ⟨gy, 1, none⟩ = some (.slice q n d) ∧ W'.cell? ⟨gy, 2, none⟩ = some (.int .i64 f)) (by kernel_rfl) ?_
  rw [← hW7]
  clear hW7
  refine wpJ_take (i := 0) (v := ?v1x0) rfl (by kernel_rfl) (by kernel_rfl) (by kernel_rfl) (fun _ _ _ h => h) (by kernel_rfl) ?hy1x0 HJ.out ?rest1x0
  case hy1x0 => (intro W' hJ; obtain ⟨j0, j1, j2, j3, j4, j5, j6, j7, j8⟩ := hJ; go_simp; first | done | with_reducible rfl)
  refine wpJ_take (i := 1) (v := ?v2x1) rfl (by kernel_rfl) (by kernel_rfl) (by kernel_rfl) (fun _ _ _ h => h) (by kernel_rfl) ?hy2x1 HJ.out ?rest2x1
  case hy2x1 => (intro W' hJ; obtain ⟨j0, j1, j2, j3, j4, j5, j6, j7, j8⟩ := hJ; go_simp; first | done | with_reducible rfl)
  obtain ⟨csp0, csp1, csp2, csp3, csp4, csp5, fsp0, fsp1, fsp2, fsp3, fsp4, fsp5⟩ := Xsp.out
  have hnesp : gsp < W7.heap.size := World.block_lt_of_cell? W7 _ csp0
  obtain ⟨cr0, cr1, cr2, cr3, cr4, cr5, fr0, fr1, fr2, fr3, fr4, fr5⟩ := Xr.out
  have hner : gr < W7.heap.size := World.block_lt_of_cell? W7 _ cr0
  obtain ⟨cu0, cu1, cu2, fu0, fu1, fu2⟩ := Xu.out
  have hneu : gu < W7.heap.size := World.block_lt_of_cell? W7 _ cu0
  obtain ⟨cy0, cy1, cy2, fy0, fy1, fy2⟩ := Xy.out
  have hney : gy < W7.heap.size := World.block_lt_of_cell? W7 _ cy0
  obtain ⟨d1, d2, d3, d4, d5, d6, d7, d8, d9, d10, d11, d12⟩ := HGD.out
  have k1 := HDS.out.1
  have k2 := HDS.out.2
  have k3 : gsp ≠ gr := fun h => k1 h.symm
  have k4 : gsp ≠ gu := fun h => k2 h.symm
  refine wpJ_one (i := 2) (by kernel_rfl) rfl (by kernel_rfl) (fun KJ hK => ?_)
  go_simp
  have HJ2 : Hid ((fun W' : World => W'.cell? ⟨gsp, 0, none⟩ = some (.bool s2) ∧ W'.cell? ⟨gsp, 1, none⟩ = some (.slice p2 m2 m2) ∧ W'.cell? ⟨gsp, 2, none⟩ = some (.int .i64 e) ∧ W'.cell? ⟨gsp, 3, none⟩ = some (.bool s3) ∧ W'.cell? ⟨gsp, 4, none⟩ = some (.slice p3 m3 m3) ∧ W'.cell? ⟨gsp, 5, none⟩ = some (.int .i64 f) ∧ W'.cell? ⟨gy, 0, none⟩ = some (.bool t) ∧ W'.cell? ⟨gy, 1, none⟩ = some (.slice q n d) ∧ W'.cell? ⟨gy, 2, none⟩ = some (.int .i64 f)) ((((((W7.setCell ⟨gr, 0, none⟩ (.bool s2)).setCell ⟨gr, 1, none⟩ (.slice p2 m2 m2)).setCell ⟨gr, 2, none⟩ (.int .i64 e)).setCell ⟨gr, 3, none⟩ (.bool s3)).setCell ⟨gr, 4, none⟩ (.slice p3 m3 m3)).setCell ⟨gr, 5, none⟩ (.int .i64 f))) := ⟨by go_simp, by go_simp, by go_simp, by go_simp, by go_simp, by go_simp, by go_simp, by go_simp, by go_simp⟩
  refine hK _ _ HJ2.out ?_
  clear hK HJ
  refine wpJ_one (i := 3) (by kernel_rfl) rfl (by kernel_rfl) (fun KJ hK => ?_)
  go_simp
  have HJ : Hid ((fun W' : World => W'.cell? ⟨gsp, 0, none⟩ = some (.bool s2) ∧ W'.cell? ⟨gsp, 1, none⟩ = some (.slice p2 m2 m2) ∧ W'.cell? ⟨gsp, 2, none⟩ = some (.int .i64 e) ∧ W'.cell? ⟨gsp, 3, none⟩ = some (.bool s3) ∧ W'.cell? ⟨gsp, 4, none⟩ = some (.slice p3 m3 m3) ∧ W'.cell? ⟨gsp, 5, none⟩ = some (.int .i64 f) ∧ W'.cell? ⟨gy, 0, none⟩ = some (.bool t) ∧ W'.cell? ⟨gy, 1, none⟩ = some (.slice q n d) ∧ W'.cell? ⟨gy, 2, none⟩ = some (.int .i64 f)) (((((((((W7.setCell ⟨gr, 0, none⟩ (.bool s2)).setCell ⟨gr, 1, none⟩ (.slice p2 m2 m2)).setCell ⟨gr, 2, none⟩ (.int .i64 e)).setCell ⟨gr, 3, none⟩ (.bool s3)).setCell ⟨gr, 4, none⟩ (.slice p3 m3 m3)).setCell ⟨gr, 5, none⟩ (.int .i64 f)).setCell ⟨gu, 0, none⟩ (.bool t)).setCell ⟨gu, 1, none⟩ (.slice q n d)).setCell ⟨gu, 2, none⟩ (.int .i64 f))) := ⟨by go_simp, by go_simp, by go_simp, by go_simp, by go_simp, by go_simp, by go_simp, by go_simp, by go_simp⟩
  refine hK _ _ HJ.out ?_
  clear hK HJ2
  refine wpJ_done (by kernel_rfl) ?_ _
  clear HJ
  go_wp2_with fail
  refine bodyPost_ret (v := .tuple #[SV s2 p2 m2 m2 e s3 p3 m3 m3 f, DV t q n d f]) (by rw [results_cc rfl]; go_simp) rfl ⟨s2, p2, m2, s3, p3, m3, rfl, ?_, ?_, ?_⟩
  · exact (((((((((S2.out.set _ _ _ HWS.out.1).set _ _ _ HWS.out.1).set _ _ _ HWS.out.1).set _ _ _ HWS.out.1).set _ _ _ HWS.out.1).set _ _ _ HWS.out.1).set _ _ _ HWS.out.2.1).set _ _ _ HWS.out.2.1).set _ _ _ HWS.out.2.1).mono HWS.out.2.2
  · exact (((((((((S3.out.set _ _ _ HWS.out.1).set _ _ _ HWS.out.1).set _ _ _ HWS.out.1).set _ _ _ HWS.out.1).set _ _ _ HWS.out.1).set _ _ _ HWS.out.1).set _ _ _ HWS.out.2.1).set _ _ _ HWS.out.2.1).set _ _ _ HWS.out.2.1).mono HWS.out.2.2
  · exact (bSet (bSet (bSet (bSet (bSet (bSet (bSet (bSet (bSet hbw _ _ _ HGr.out) _ _ _ HGr.out) _ _ _ HGr.out) _ _ _ HGr.out) _ _ _ HGr.out) _ _ _ HGr.out) _ _ _ HGu.out) _ _ _ HGu.out) _ _ _ HGu.out)
set_option maxRecDepth 20000 in
set_option maxHeartbeats 8000000 in
theorem sbet_n {p q : Option Addr} {m c n d : Nat} {w : World} {e f : Int} {s t : Bool} {a : Option Addr} {x y : Int} (h : DN w s p m c e x) (k : DN w t q n d f y) {K E : Nat} (bx : DB x e K E) (by_ : DB y f K E) (hKE : 5 * K + 12 * E + 46 ≤ 524288) (hc : dv x e ≤ dv y f) (i : Nat) (hi : i < 256) (hT : Tab w) (hi5 : i ≠ 255) :
    Calls Tryz.prog 55 #[.pointer a, DV s p m c e, DV t q n d f, .int .u8 i] w fun en w' => ∃ s1 p1 m1 s2 p2 m2 s3 p3 m3 zu eu, en = .returned (.tuple #[SV s1 p1 m1 m1 e s2 p2 m2 m2 f, DV s3 p3 m3 m3 eu]) ∧ DO w.heap.size w' s1 p1 m1 e x ∧ DO w.heap.size w' s2 p2 m2 f y ∧ DN w' s3 p3 m3 m3 eu zu ∧ 256 * dv zu eu = 256 * dv x e + (i : Int) * (dv y f - dv x e) ∧ Below w.heap.size w w' := by
  have A : Hid (DN w s p m c e x) := h
  have B : Hid (DN w t q n d f y) := k
  have BX : Hid (DB x e K E) := bx
  have BY : Hid (DB y f K E) := by_
  have HKE : Hid (5 * K + 12 * E + 46 ≤ 524288) := hKE
  have HC : Hid (dv x e ≤ dv y f) := hc
  obtain ⟨cc, hcc⟩ : ∃ cc, cc = cmpI (dv x e) (dv y f) := ⟨_, rfl⟩
  have HCC : Hid (cmpI (dv x e) (dv y f) = cc) := hcc.symm
  have k9 : decide (0 < cc) = false := by rw [hcc]; unfold cmpI; by_cases a : dv x e < dv y f; (· rw [if_pos a]; rfl); rw [if_neg a, if_pos (by omega)]; rfl
  clear hcc
  have TB : Hid (Tab w) := hT
  obtain ⟨zp, ep, hdb, hdp⟩ := part_ex hi
  have HP : Hid (DB zp ep 8 8 ∧ dv zp ep = dv (i : Int) (-8)) := ⟨hdb, hdp⟩
  have HI : Hid (-9223372036854775808 ≤ (i : Int) ∧ (i : Int) ≤ 9223372036854775807) := by show _ ∧ _; omega
  have w1 : IntKind.i64.wrap (i : Int) = (i : Int) := by simp [IntKind.wrap, IntKind.signed, IntKind.bits]; omega
  have w2 : wrap64 (i : Int) = (i : Int) := by simp only [wrap64]; omega
  have q1 : ((i : Int) == 255) = false := by simp; omega
  clear h k bx by_ hKE hc hi hT hdb hdp hi5
  go_enter Tryz.func55, Tryz.ntmps55
  go_wp2_with fail
  obtain ⟨W0, hW0⟩ : ∃ W0, W0 = ((((w.alloc (.cells #[.bool s, .slice p m c, .int .i64 e] 34)).alloc (.cells #[.bool t, .slice q n d, .int .i64 f] 34)).alloc (.cells #[.bool false, .slice none 0 0, .int .i64 0, .bool false, .slice none 0 0, .int .i64 0] 66)).alloc (.cells #[.bool false, .slice none 0 0, .int .i64 0] 34)) := ⟨_, rfl⟩
  have Xx : Hid (B3q W0 (w.heap.size) (.bool s) (.slice p m c) (.int .i64 e)) := by rw [hW0]; exact ⟨by go_simp, by go_simp, by go_simp, by go_simp, by go_simp, by go_simp⟩
  have Xy : Hid (B3q W0 (w.heap.size + 1) (.bool t) (.slice q n d) (.int .i64 f)) := by rw [hW0]; exact ⟨by go_simp, by go_simp, by go_simp, by go_simp, by go_simp, by go_simp⟩
  have Xr : Hid (B6q W0 (w.heap.size + 1 + 1) (.bool false) (.slice none 0 0) (.int .i64 0) (.bool false) (.slice none 0 0) (.int .i64 0)) := by rw [hW0]; exact ⟨by go_simp, by go_simp, by go_simp, by go_simp, by go_simp, by go_simp, by go_simp, by go_simp, by go_simp, by go_simp, by go_simp, by go_simp⟩
  have Xu : Hid (B3q W0 (w.heap.size + 1 + 1 + 1) (.bool false) (.slice none 0 0) (.int .i64 0)) := by rw [hW0]; exact ⟨by go_simp, by go_simp, by go_simp, by go_simp, by go_simp, by go_simp⟩
  have hb0 : Below w.heap.size w W0 := by rw [hW0]; exact below4 w _ _ _ _
  rw [← hW0]
  clear hW0
  have hbw : Below w.heap.size w w := Below.refl _ _
  obtain ⟨gu, hgu⟩ : ∃ g, g = w.heap.size + 1 + 1 + 1 := ⟨_, rfl⟩
  have HGu : Hid (w.heap.size ≤ gu) := by rw [hgu]; show _ ≤ _; omega
  rw [← hgu] at Xu
  try rw [← hgu]
  obtain ⟨gr, hgr⟩ : ∃ g, g = w.heap.size + 1 + 1 := ⟨_, rfl⟩
  have HGr : Hid (w.heap.size ≤ gr) := by rw [hgr]; show _ ≤ _; omega
  rw [← hgr] at Xr
  try rw [← hgr]
  obtain ⟨gy, hgy⟩ : ∃ g, g = w.heap.size + 1 := ⟨_, rfl⟩
  have HGy : Hid (w.heap.size ≤ gy) := by rw [hgy]; show _ ≤ _; omega
  rw [← hgy] at Xy
  try rw [← hgy]
  obtain ⟨gx, hgx⟩ : ∃ g, g = w.heap.size := ⟨_, rfl⟩
  have HGx : Hid (w.heap.size ≤ gx) := by rw [hgx]; show _ ≤ _; omega
  rw [← hgx] at Xx
  try rw [← hgx]
  have HGD : Hid (gx ≠ gy ∧ gx ≠ gr ∧ gx ≠ gu ∧ gy ≠ gx ∧ gy ≠ gr ∧ gy ≠ gu ∧ gr ≠ gx ∧ gr ≠ gy ∧ gr ≠ gu ∧ gu ≠ gx ∧ gu ≠ gy ∧ gu ≠ gr) := by rw [hgx, hgy, hgr, hgu]; exact ⟨by omega, by omega, by omega, by omega, by omega, by omega, by omega, by omega, by omega, by omega, by omega, by omega⟩
  clear hgx hgy hgr hgu
  replace hbw := Below.on hbw hb0
  clear hb0
  refine (scmp (A.out.below hbw) (B.out.below hbw)).mono ?_
  rintro e v1 ⟨rfl, hb1⟩
  rw [HCC.out]
  replace Xx : Hid _ := Xx.out.below hb1
  replace Xy : Hid _ := Xy.out.below hb1
  replace Xr : Hid _ := Xr.out.below hb1
  replace Xu : Hid _ := Xu.out.below hb1
  replace hbw := Below.on hbw hb1
  clear hb1
  obtain ⟨cx0, cx1, cx2, fx0, fx1, fx2⟩ := Xx.out
  have hnex : gx < v1.heap.size := World.block_lt_of_cell? v1 _ cx0
  obtain ⟨cy0, cy1, cy2, fy0, fy1, fy2⟩ := Xy.out
  have hney : gy < v1.heap.size := World.block_lt_of_cell? v1 _ cy0
  go_wp2_with fail
  clear cx0 cx1 cx2 fx0 fx1 fx2 hnex
  clear cy0 cy1 cy2 fy0 fy1 fy2 hney
  have HWS : Hid (gr < v1.heap.size ∧ gu < v1.heap.size ∧ w.heap.size ≤ v1.heap.size) := ⟨Xr.out.lt, Xu.out.lt, hbw.size⟩
  refine (smake (A.out.below hbw) (B.out.below hbw) HC.out).mono ?_
  rintro e9 v2 ⟨s2, p2, m2, s3, p3, m3, rfl, hd1, hd2, hb2⟩
  replace Xx : Hid _ := Xx.out.below hb2
  replace Xy : Hid _ := Xy.out.below hb2
  replace Xr : Hid _ := Xr.out.below hb2
  replace Xu : Hid _ := Xu.out.below hb2
  replace hbw := Below.on hbw hb2
  clear hb2
  have S2 : Hid (DO v1.heap.size v2 s2 p2 m2 e x) := hd1
  have S3 : Hid (DO v1.heap.size v2 s3 p3 m3 f y) := hd2
  clear hd1 hd2
  go_wp2_with fail
  have HDS : Hid (gr ≠ v2.heap.size ∧ gu ≠ v2.heap.size) := ⟨Nat.ne_of_lt Xr.out.lt, Nat.ne_of_lt Xu.out.lt⟩
  have Xsp0 : Hid (B6q (v2.alloc (.cells #[.bool s2, .slice p2 m2 m2, .int .i64 e, .bool s3, .slice p3 m3 m3, .int .i64 f] 66)) v2.heap.size (.bool s2) (.slice p2 m2 m2) (.int .i64 e) (.bool s3) (.slice p3 m3 m3) (.int .i64 f)) := B6q.new v2 _ _ _ _ _ _ _
  have hbn : Below v2.heap.size v2 (v2.alloc (.cells #[.bool s2, .slice p2 m2 m2, .int .i64 e, .bool s3, .slice p3 m3 m3, .int .i64 f] 66)) := below1 v2 _
  generalize v2.alloc (.cells #[.bool s2, .slice p2 m2 m2, .int .i64 e, .bool s3, .slice p3 m3 m3, .int .i64 f] 66) = Ws at *
  have HGsp : Hid (w.heap.size ≤ v2.heap.size) := hbw.size
  replace Xx : Hid _ := Xx.out.below hbn
  replace Xy : Hid _ := Xy.out.below hbn
  replace Xr : Hid _ := Xr.out.below hbn
  replace Xu : Hid _ := Xu.out.below hbn
  replace S2 : Hid (DO v1.heap.size Ws s2 p2 m2 e x) := S2.out.below hbn
  replace S3 : Hid (DO v1.heap.size Ws s3 p3 m3 f y) := S3.out.below hbn
  replace hbw := Below.on hbw hbn
  clear hbn
  generalize v2.heap.size = gsp at *
  have Xsp := Xsp0
  clear Xsp0
  refine (zof (i : Int) _ HI.out.1 HI.out.2).mono ?_
  rintro e9 v4 ⟨s4, p4, m4, rfl, hz, hb4⟩
  replace Xx : Hid _ := Xx.out.below hb4
  replace Xy : Hid _ := Xy.out.below hb4
  replace Xr : Hid _ := Xr.out.below hb4
  replace Xu : Hid _ := Xu.out.below hb4
  replace Xsp : Hid _ := Xsp.out.below hb4
  replace S2 : Hid (DO v1.heap.size v4 s2 p2 m2 e x) := S2.out.below hb4
  replace S3 : Hid (DO v1.heap.size v4 s3 p3 m3 f y) := S3.out.below hb4
  replace hbw := Below.on hbw hb4
  clear hb4
  have Z4 : Hid (ZN v4 s4 p4 m4 m4 (i : Int)) := hz
  clear hz
  go_wp2_with fail
  refine (makep Z4.out (by decide) (TB.out.below hbw)).mono ?_
  rintro e9 v5 ⟨hv, hb5⟩
  obtain ⟨v, rfl, hv2⟩ := hv.form HP.out.1.fm HP.out.2
  obtain ⟨s5, p5, m5, rfl, hd5⟩ := hv2.dn HP.out.1.fm
  clear hv hv2
  replace Xx : Hid _ := Xx.out.below hb5
  replace Xy : Hid _ := Xy.out.below hb5
  replace Xr : Hid _ := Xr.out.below hb5
  replace Xu : Hid _ := Xu.out.below hb5
  replace Xsp : Hid _ := Xsp.out.below hb5
  replace S2 : Hid (DO v1.heap.size v5 s2 p2 m2 e x) := S2.out.below hb5
  replace S3 : Hid (DO v1.heap.size v5 s3 p3 m3 f y) := S3.out.below hb5
  replace Z4 : Hid _ := Z4.out.below hb5
  replace hbw := Below.on hbw hb5
  clear hb5
  have D5 : Hid (DN v5 s5 p5 m5 m5 ep zp) := hd5
  clear hd5
  clear Z4
  go_wp2_with fail
  refine (stake).mono ?_
  rintro e v6 ⟨rfl, hb6⟩
  replace Xx : Hid _ := Xx.out.below hb6
  replace Xy : Hid _ := Xy.out.below hb6
  replace Xr : Hid _ := Xr.out.below hb6
  replace Xu : Hid _ := Xu.out.below hb6
  replace Xsp : Hid _ := Xsp.out.below hb6
  replace S2 : Hid (DO v1.heap.size v6 s2 p2 m2 e x) := S2.out.below hb6
  replace S3 : Hid (DO v1.heap.size v6 s3 p3 m3 f y) := S3.out.below hb6
  replace D5 : Hid _ := D5.out.below hb6
  replace hbw := Below.on hbw hb6
  clear hb6
  go_wp2_with fail
  have HDP : Hid (gr ≠ v6.heap.size ∧ gu ≠ v6.heap.size) := ⟨Nat.ne_of_lt Xr.out.lt, Nat.ne_of_lt Xu.out.lt⟩
  have Xpt0 : Hid (B3q (v6.alloc (.cells #[.bool s5, .slice p5 m5 m5, .int .i64 ep] 34)) v6.heap.size (.bool s5) (.slice p5 m5 m5) (.int .i64 ep)) := B3q.new v6 _ _ _ _
  have hbn : Below v6.heap.size v6 (v6.alloc (.cells #[.bool s5, .slice p5 m5 m5, .int .i64 ep] 34)) := below1 v6 _
  generalize v6.alloc (.cells #[.bool s5, .slice p5 m5 m5, .int .i64 ep] 34) = Wp at *
  have HGpt : Hid (w.heap.size ≤ v6.heap.size) := hbw.size
  replace Xx : Hid _ := Xx.out.below hbn
  replace Xy : Hid _ := Xy.out.below hbn
  replace Xr : Hid _ := Xr.out.below hbn
  replace Xu : Hid _ := Xu.out.below hbn
  replace Xsp : Hid _ := Xsp.out.below hbn
  replace S2 : Hid (DO v1.heap.size Wp s2 p2 m2 e x) := S2.out.below hbn
  replace S3 : Hid (DO v1.heap.size Wp s3 p3 m3 f y) := S3.out.below hbn
  replace D5 : Hid _ := D5.out.below hbn
  replace hbw := Below.on hbw hbn
  clear hbn
  generalize v6.heap.size = gpt at *
  have Xpt := Xpt0
  clear Xpt0
  obtain ⟨W7, hW7⟩ : ∃ W1, W1 = Wp.drew := ⟨_, rfl⟩
  have hbd : Below Wp.heap.size Wp W7 := by rw [hW7]; exact bDrew1 (Below.refl _ _)
  replace Xx : Hid _ := Xx.out.below hbd
  replace Xy : Hid _ := Xy.out.below hbd
  replace Xr : Hid _ := Xr.out.below hbd
  replace Xu : Hid _ := Xu.out.below hbd
  replace Xsp : Hid _ := Xsp.out.below hbd
  replace Xpt : Hid _ := Xpt.out.below hbd
  replace S2 : Hid (DO v1.heap.size W7 s2 p2 m2 e x) := S2.out.below hbd
  replace S3 : Hid (DO v1.heap.size W7 s3 p3 m3 f y) := S3.out.below hbd
  replace D5 : Hid _ := D5.out.below hbd
  replace hbw := Below.on hbw hbd
  clear hbd
  have HJ : Hid ((fun W' : World => W'.cell? ⟨gsp, 0, none⟩ = some (.bool s2) ∧ W'.cell? ⟨gsp, 1, none⟩ = some (.slice p2 m2 m2) ∧ W'.cell? ⟨gsp, 2, none⟩ = some (.int .i64 e) ∧ W'.cell? ⟨gsp, 3, none⟩ = some (.bool s3) ∧ W'.cell? ⟨gsp, 4, none⟩ = some (.slice p3 m3 m3) ∧ W'.cell? ⟨gsp, 5, none⟩ = some (.int .i64 f) ∧ W'.cell? ⟨gx, 0, none⟩ = some (.bool s) ∧ W'.cell? ⟨gx, 1, none⟩ = some (.slice p m c) ∧ W'.cell? ⟨gx, 2, none⟩ = some (.int .i64 e) ∧ W'.cell? ⟨gy, 0, none⟩ = some (.bool t) ∧ W'.cell? ⟨gy, 1, none⟩ = some (.slice q n d) ∧ W'.cell? ⟨gy, 2, none⟩ = some (.int .i64 f) ∧ W'.cell? ⟨gpt, 0, none⟩ = some (.bool s5) ∧ W'.cell? ⟨gpt, 1, none⟩ = some (.slice p5 m5 m5) ∧ W'.cell? ⟨gpt, 2, none⟩ = some (.int .i64 ep)) W7) := ⟨Xsp.out.c0, Xsp.out.c1, Xsp.out.c2, Xsp.out.c3, Xsp.out.c4, Xsp.out.c5, Xx.out.c0, Xx.out.c1, Xx.out.c2, Xy.out.c0, Xy.out.c1, Xy.out.c2, Xpt.out.c0, Xpt.out.c1, Xpt.out.c2⟩
  refine wp_region_J (fun W' => W'.cell? ⟨gsp, 0, none⟩ = some (.bool s2) ∧ W'.cell? ⟨gsp, 1, none⟩ = some (.slice p2 m2 m2) ∧ W'.cell? ⟨gsp, 2, none⟩ = some (.int .i64 e) ∧ W'.cell? ⟨gsp, 3, none⟩ = some (.bool s3) ∧ W'.cell? ⟨gsp, 4, none⟩ = some (.slice p3 m3 m3) ∧ W'.cell? ⟨gsp, 5, none⟩ = some (.int .i64 f) ∧ W'.cell? ⟨gx, 0, none⟩ = some (.bool s) ∧ W'.cell? ⟨gx, 1, none⟩ = some (.slice p m c) ∧ W'.cell? ⟨gx, 2, none⟩ = some (.int .i64 e) ∧ W'.cell? ⟨gy, 0, none⟩ = some (.bool t) ∧ W'.cell? ⟨gy, 1, none⟩ = some (.slice q n d) ∧ W'.cell? ⟨gy, 2, none⟩ = some (.int .i64 f) ∧ W'.cell? ⟨gpt, 0, none⟩ = some (.bool s5) ∧ W'.cell? ⟨gpt, 1, none⟩ = some (.slice p5 m5 m5) ∧ W'.cell? ⟨gpt, 2, none⟩ = some (.int .i64 ep)) (by kernel_rfl) ?_
  rw [← hW7]
  clear hW7
  refine wpJ_take (i := 0) (v := ?v3x0) rfl (by kernel_rfl) (by kernel_rfl) (by kernel_rfl) (fun _ _ _ h => h) (by kernel_rfl) ?hy3x0 HJ.out ?rest3x0
  case hy3x0 => (intro W' hJ; obtain ⟨j0, j1, j2, j3, j4, j5, j6, j7, j8, j9, j10, j11, j12, j13, j14⟩ := hJ; go_simp; first | done | with_reducible rfl)
  refine wpJ_take (i := 1) (v := ?v4x1) rfl (by kernel_rfl) (by kernel_rfl) (by kernel_rfl) (fun _ _ _ h => h) (by kernel_rfl) ?hy4x1 HJ.out ?rest4x1
  case hy4x1 => (intro W' hJ; obtain ⟨j0, j1, j2, j3, j4, j5, j6, j7, j8, j9, j10, j11, j12, j13, j14⟩ := hJ; go_simp; first | done | with_reducible rfl)
  refine wpJ_take (i := 2) (v := ?v5x2) rfl (by kernel_rfl) (by kernel_rfl) (by kernel_rfl) (fun _ _ _ h => h) (by kernel_rfl) ?hy5x2 HJ.out ?rest5x2
  case hy5x2 => (intro W' hJ; obtain ⟨j0, j1, j2, j3, j4, j5, j6, j7, j8, j9, j10, j11, j12, j13, j14⟩ := hJ; go_simp; first | done | with_reducible rfl)
  refine wpJ_take (i := 3) (v := ?v6x3) rfl (by kernel_rfl) (by kernel_rfl) (by kernel_rfl) (fun _ _ _ h => h) (by kernel_rfl) ?hy6x3 HJ.out ?rest6x3
  case hy6x3 => (intro W' hJ; obtain ⟨j0, j1, j2, j3, j4, j5, j6, j7, j8, j9, j10, j11, j12, j13, j14⟩ := hJ; go_simp; first | done | with_reducible rfl)
  refine wpJ_take (i := 4) (v := ?v7x4) rfl (by kernel_rfl) (by kernel_rfl) (by kernel_rfl) (fun _ _ _ h => h) (by kernel_rfl) ?hy7x4 HJ.out ?rest7x4
  case hy7x4 => (intro W' hJ; obtain ⟨j0, j1, j2, j3, j4, j5, j6, j7, j8, j9, j10, j11, j12, j13, j14⟩ := hJ; go_simp; first | done | with_reducible rfl)
  go_simp
  refine wpJ_take (i := 5) (v := ?v8x5) rfl (by kernel_rfl) (by kernel_rfl) (by kernel_rfl) (fun _ _ _ h => h) (by kernel_rfl) ?hy8x5 HJ.out ?rest8x5
  case hy8x5 => (intro W' hJ; obtain ⟨j0, j1, j2, j3, j4, j5, j6, j7, j8, j9, j10, j11, j12, j13, j14⟩ := hJ; go_simp; first | done | with_reducible rfl)
  refine wpJ_take (i := 6) (v := ?v9x6) rfl (by kernel_rfl) (by kernel_rfl) (by kernel_rfl) (fun _ _ _ h => h) (by kernel_rfl) ?hy9x6 HJ.out ?rest9x6
  case hy9x6 => (intro W' hJ; obtain ⟨j0, j1, j2, j3, j4, j5, j6, j7, j8, j9, j10, j11, j12, j13, j14⟩ := hJ; go_simp; first | done | with_reducible rfl)
  refine wpJ_take (i := 8) (v := ?v10x8) rfl (by kernel_rfl) (by kernel_rfl) (by kernel_rfl) (fun _ _ _ h => h) (by kernel_rfl) ?hy10x8 HJ.out ?rest10x8
  case hy10x8 => (intro W' hJ; obtain ⟨j0, j1, j2, j3, j4, j5, j6, j7, j8, j9, j10, j11, j12, j13, j14⟩ := hJ; go_simp; first | done | with_reducible rfl)
  refine wpJ_one (i := 7) (by kernel_rfl) rfl (by kernel_rfl) (fun KJ hK => ?_)
  go_simp
  have HWL8 : Hid (gr < W7.heap.size ∧ gu < W7.heap.size) := ⟨Xr.out.lt, Xu.out.lt⟩
  refine (ssub (B.out.below hbw) (A.out.below hbw) BY.out BX.out (by have := HKE.out; omega) (TB.out.below hbw)).mono ?_
  rintro e9 v8 ⟨zo8, eo8, s8, p8, m8, rfl, hd, hdb, hdv, hb8⟩
  have HB8 : Hid (DB zo8 eo8 (K + 2 * E + 1) (K + 3 * E + 1) ∧ dv zo8 eo8 = dv y f - dv x e) := ⟨hdb, hdv⟩
  clear hdb hdv
  replace Xx : Hid _ := Xx.out.below hb8
  replace Xy : Hid _ := Xy.out.below hb8
  replace Xr : Hid _ := Xr.out.below hb8
  replace Xu : Hid _ := Xu.out.below hb8
  replace Xsp : Hid _ := Xsp.out.below hb8
  replace Xpt : Hid _ := Xpt.out.below hb8
  replace S2 : Hid (DO v1.heap.size v8 s2 p2 m2 e x) := S2.out.below hb8
  replace S3 : Hid (DO v1.heap.size v8 s3 p3 m3 f y) := S3.out.below hb8
  replace D5 : Hid _ := D5.out.below hb8
  replace hbw := Below.on hbw hb8
  clear hb8
  have D8 : Hid (DO W7.heap.size v8 s8 p8 m8 eo8 zo8) := hd
  clear hd
  refine hK _ _ ⟨Xsp.out.c0, Xsp.out.c1, Xsp.out.c2, Xsp.out.c3, Xsp.out.c4, Xsp.out.c5, Xx.out.c0, Xx.out.c1, Xx.out.c2, Xy.out.c0, Xy.out.c1, Xy.out.c2, Xpt.out.c0, Xpt.out.c1, Xpt.out.c2⟩ ?_
  clear hK
  refine wpJ_one (i := 9) (by kernel_rfl) rfl (by kernel_rfl) (fun KJ hK => ?_)
  go_simp
  have HWL9 : Hid (gr < v8.heap.size ∧ gu < v8.heap.size) := ⟨Xr.out.lt, Xu.out.lt⟩
  refine (smul D8.out.dn D5.out HB8.out.1 HP.out.1 (by have := HKE.out; omega) (by have := HKE.out; omega) (TB.out.below hbw)).mono ?_
  rintro e9 v9 ⟨zo9, eo9, s9, p9, m9, rfl, hd, hdb, hdv, hb9⟩
  have HB9 : Hid (DB zo9 eo9 (K + 2 * E + 1 + 8) (K + 3 * E + 1 + 8 + (K + 2 * E + 1) + 8) ∧ dv zo9 eo9 = dv (zo8 * zp) (eo8 + ep)) := ⟨hdb, hdv⟩
  clear hdb hdv
  replace Xx : Hid _ := Xx.out.below hb9
  replace Xy : Hid _ := Xy.out.below hb9
  replace Xr : Hid _ := Xr.out.below hb9
  replace Xu : Hid _ := Xu.out.below hb9
  replace Xsp : Hid _ := Xsp.out.below hb9
  replace Xpt : Hid _ := Xpt.out.below hb9
  replace S2 : Hid (DO v1.heap.size v9 s2 p2 m2 e x) := S2.out.below hb9
  replace S3 : Hid (DO v1.heap.size v9 s3 p3 m3 f y) := S3.out.below hb9
  replace D5 : Hid _ := D5.out.below hb9
  replace D8 : Hid (DO W7.heap.size v9 s8 p8 m8 eo8 zo8) := D8.out.below hb9
  replace hbw := Below.on hbw hb9
  clear hb9
  have D9 : Hid (DO v8.heap.size v9 s9 p9 m9 eo9 zo9) := hd
  clear hd
  refine hK _ _ ⟨Xsp.out.c0, Xsp.out.c1, Xsp.out.c2, Xsp.out.c3, Xsp.out.c4, Xsp.out.c5, Xx.out.c0, Xx.out.c1, Xx.out.c2, Xy.out.c0, Xy.out.c1, Xy.out.c2, Xpt.out.c0, Xpt.out.c1, Xpt.out.c2⟩ ?_
  clear hK
  refine wpJ_one (i := 10) (by kernel_rfl) rfl (by kernel_rfl) (fun KJ hK => ?_)
  go_simp
  have HWL10 : Hid (gr < v9.heap.size ∧ gu < v9.heap.size) := ⟨Xr.out.lt, Xu.out.lt⟩
  refine (sadd (A.out.below hbw) D9.out.dn (BX.out.mono (by omega) (by omega)) HB9.out.1 (by have := HKE.out; omega) (TB.out.below hbw)).mono ?_
  rintro e9 v10 ⟨zo10, eo10, s10, p10, m10, rfl, hd, hdb, hdv, hb10⟩
  have HB10 : Hid (DB zo10 eo10 ((K + 2 * E + 1 + 8) + 2 * (K + 3 * E + 1 + 8 + (K + 2 * E + 1) + 8) + 1) ((K + 2 * E + 1 + 8) + 3 * (K + 3 * E + 1 + 8 + (K + 2 * E + 1) + 8) + 1) ∧ dv zo10 eo10 = dv x e + dv zo9 eo9) := ⟨hdb, hdv⟩
  clear hdb hdv
  replace Xx : Hid _ := Xx.out.below hb10
  replace Xy : Hid _ := Xy.out.below hb10
  replace Xr : Hid _ := Xr.out.below hb10
  replace Xu : Hid _ := Xu.out.below hb10
  replace Xsp : Hid _ := Xsp.out.below hb10
  replace Xpt : Hid _ := Xpt.out.below hb10
  replace S2 : Hid (DO v1.heap.size v10 s2 p2 m2 e x) := S2.out.below hb10
  replace S3 : Hid (DO v1.heap.size v10 s3 p3 m3 f y) := S3.out.below hb10
  replace D5 : Hid _ := D5.out.below hb10
  replace D8 : Hid (DO W7.heap.size v10 s8 p8 m8 eo8 zo8) := D8.out.below hb10
  replace D9 : Hid (DO v8.heap.size v10 s9 p9 m9 eo9 zo9) := D9.out.below hb10
  replace hbw := Below.on hbw hb10
  clear hb10
  have D10 : Hid (DO v9.heap.size v10 s10 p10 m10 eo10 zo10) := hd
  clear hd
  refine hK _ _ ⟨Xsp.out.c0, Xsp.out.c1, Xsp.out.c2, Xsp.out.c3, Xsp.out.c4, Xsp.out.c5, Xx.out.c0, Xx.out.c1, Xx.out.c2, Xy.out.c0, Xy.out.c1, Xy.out.c2, Xpt.out.c0, Xpt.out.c1, Xpt.out.c2⟩ ?_
  clear hK
  obtain ⟨csp0, csp1, csp2, csp3, csp4, csp5, fsp0, fsp1, fsp2, fsp3, fsp4, fsp5⟩ := Xsp.out
  have hnesp : gsp < v10.heap.size := World.block_lt_of_cell? v10 _ csp0
  obtain ⟨cr0, cr1, cr2, cr3, cr4, cr5, fr0, fr1, fr2, fr3, fr4, fr5⟩ := Xr.out
  have hner : gr < v10.heap.size := World.block_lt_of_cell? v10 _ cr0
  obtain ⟨cu0, cu1, cu2, fu0, fu1, fu2⟩ := Xu.out
  have hneu : gu < v10.heap.size := World.block_lt_of_cell? v10 _ cu0
  obtain ⟨cx0, cx1, cx2, fx0, fx1, fx2⟩ := Xx.out
  have hnex : gx < v10.heap.size := World.block_lt_of_cell? v10 _ cx0
  obtain ⟨cy0, cy1, cy2, fy0, fy1, fy2⟩ := Xy.out
  have hney : gy < v10.heap.size := World.block_lt_of_cell? v10 _ cy0
  obtain ⟨cpt0, cpt1, cpt2, fpt0, fpt1, fpt2⟩ := Xpt.out
  have hnept : gpt < v10.heap.size := World.block_lt_of_cell? v10 _ cpt0
  obtain ⟨d1, d2, d3, d4, d5, d6, d7, d8, d9, d10, d11, d12⟩ := HGD.out
  have k1 := HDS.out.1
  have k2 := HDS.out.2
  have k3 : gsp ≠ gr := fun h => k1 h.symm
  have k4 : gsp ≠ gu := fun h => k2 h.symm
  have k5 := HDP.out.1
  have k6 := HDP.out.2
  have k7 : gpt ≠ gr := fun h => k5 h.symm
  have k8 : gpt ≠ gu := fun h => k6 h.symm
  refine wpJ_one (i := 11) (by kernel_rfl) rfl (by kernel_rfl) (fun KJ hK => ?_)
  go_simp
  have HJ2 : Hid ((fun W' : World => W'.cell? ⟨gsp, 0, none⟩ = some (.bool s2) ∧ W'.cell? ⟨gsp, 1, none⟩ = some (.slice p2 m2 m2) ∧ W'.cell? ⟨gsp, 2, none⟩ = some (.int .i64 e) ∧ W'.cell? ⟨gsp, 3, none⟩ = some (.bool s3) ∧ W'.cell? ⟨gsp, 4, none⟩ = some (.slice p3 m3 m3) ∧ W'.cell? ⟨gsp, 5, none⟩ = some (.int .i64 f) ∧ W'.cell? ⟨gx, 0, none⟩ = some (.bool s) ∧ W'.cell? ⟨gx, 1, none⟩ = some (.slice p m c) ∧ W'.cell? ⟨gx, 2, none⟩ = some (.int .i64 e) ∧ W'.cell? ⟨gy, 0, none⟩ = some (.bool t) ∧ W'.cell? ⟨gy, 1, none⟩ = some (.slice q n d) ∧ W'.cell? ⟨gy, 2, none⟩ = some (.int .i64 f) ∧ W'.cell? ⟨gpt, 0, none⟩ = some (.bool s5) ∧ W'.cell? ⟨gpt, 1, none⟩ = some (.slice p5 m5 m5) ∧ W'.cell? ⟨gpt, 2, none⟩ = some (.int .i64 ep)) ((((((v10.setCell ⟨gr, 0, none⟩ (.bool s2)).setCell ⟨gr, 1, none⟩ (.slice p2 m2 m2)).setCell ⟨gr, 2, none⟩ (.int .i64 e)).setCell ⟨gr, 3, none⟩ (.bool s3)).setCell ⟨gr, 4, none⟩ (.slice p3 m3 m3)).setCell ⟨gr, 5, none⟩ (.int .i64 f))) := ⟨by go_simp, by go_simp, by go_simp, by go_simp, by go_simp, by go_simp, by go_simp, by go_simp, by go_simp, by go_simp, by go_simp, by go_simp, by go_simp, by go_simp, by go_simp⟩
  refine hK _ _ HJ2.out ?_
  clear hK HJ
  refine wpJ_one (i := 12) (by kernel_rfl) rfl (by kernel_rfl) (fun KJ hK => ?_)
  go_simp
  have HJ : Hid ((fun W' : World => W'.cell? ⟨gsp, 0, none⟩ = some (.bool s2) ∧ W'.cell? ⟨gsp, 1, none⟩ = some (.slice p2 m2 m2) ∧ W'.cell? ⟨gsp, 2, none⟩ = some (.int .i64 e) ∧ W'.cell? ⟨gsp, 3, none⟩ = some (.bool s3) ∧ W'.cell? ⟨gsp, 4, none⟩ = some (.slice p3 m3 m3) ∧ W'.cell? ⟨gsp, 5, none⟩ = some (.int .i64 f) ∧ W'.cell? ⟨gx, 0, none⟩ = some (.bool s) ∧ W'.cell? ⟨gx, 1, none⟩ = some (.slice p m c) ∧ W'.cell? ⟨gx, 2, none⟩ = some (.int .i64 e) ∧ W'.cell? ⟨gy, 0, none⟩ = some (.bool t) ∧ W'.cell? ⟨gy, 1, none⟩ = some (.slice q n d) ∧ W'.cell? ⟨gy, 2, none⟩ = some (.int .i64 f) ∧ W'.cell? ⟨gpt, 0, none⟩ = some (.bool s5) ∧ W'.cell? ⟨gpt, 1, none⟩ = some (.slice p5 m5 m5) ∧ W'.cell? ⟨gpt, 2, none⟩ = some (.int .i64 ep)) (((((((((v10.setCell ⟨gr, 0, none⟩ (.bool s2)).setCell ⟨gr, 1, none⟩ (.slice p2 m2 m2)).setCell ⟨gr, 2, none⟩ (.int .i64 e)).setCell ⟨gr, 3, none⟩ (.bool s3)).setCell ⟨gr, 4, none⟩ (.slice p3 m3 m3)).setCell ⟨gr, 5, none⟩ (.int .i64 f)).setCell ⟨gu, 0, none⟩ (.bool s10)).setCell ⟨gu, 1, none⟩ (.slice p10 m10 m10)).setCell ⟨gu, 2, none⟩ (.int .i64 eo10))) := ⟨by go_simp, by go_simp, by go_simp, by go_simp, by go_simp, by go_simp, by go_simp, by go_simp, by go_simp, by go_simp, by go_simp, by go_simp, by go_simp, by go_simp, by go_simp⟩
  refine hK _ _ HJ.out ?_
  clear hK HJ2
  refine wpJ_done (by kernel_rfl) ?_ _
  clear HJ
  go_wp2_with fail
  refine bodyPost_ret (v := .tuple #[SV s2 p2 m2 m2 e s3 p3 m3 m3 f, DV s10 p10 m10 m10 eo10]) (by rw [results_cc rfl]; go_simp) rfl ⟨s2, p2, m2, s3, p3, m3, s10, p10, m10, zo10, eo10, rfl, ?_, ?_, ?_, ?_, ?_⟩
  · exact (((((((((S2.out.set _ _ _ HWS.out.1).set _ _ _ HWS.out.1).set _ _ _ HWS.out.1).set _ _ _ HWS.out.1).set _ _ _ HWS.out.1).set _ _ _ HWS.out.1).set _ _ _ HWS.out.2.1).set _ _ _ HWS.out.2.1).set _ _ _ HWS.out.2.1).mono HWS.out.2.2
  · exact (((((((((S3.out.set _ _ _ HWS.out.1).set _ _ _ HWS.out.1).set _ _ _ HWS.out.1).set _ _ _ HWS.out.1).set _ _ _ HWS.out.1).set _ _ _ HWS.out.1).set _ _ _ HWS.out.2.1).set _ _ _ HWS.out.2.1).set _ _ _ HWS.out.2.1).mono HWS.out.2.2
  · exact (((((((((D10.out.set _ _ _ HWL10.out.1).set _ _ _ HWL10.out.1).set _ _ _ HWL10.out.1).set _ _ _ HWL10.out.1).set _ _ _ HWL10.out.1).set _ _ _ HWL10.out.1).set _ _ _ HWL10.out.2).set _ _ _ HWL10.out.2).set _ _ _ HWL10.out.2).dn
  · have h1 := dv_part (z := zo8) (e := eo8) (q := zp) (g := ep) (i := (i : Int)) (by have := HB8.out.1.lo; have := HKE.out; omega) (by have := HP.out.1.lo; omega) HP.out.2
    rw [← HB9.out.2, HB8.out.2] at h1
    rw [HB10.out.2]
    omega
  · exact (bSet (bSet (bSet (bSet (bSet (bSet (bSet (bSet (bSet hbw _ _ _ HGr.out) _ _ _ HGr.out) _ _ _ HGr.out) _ _ _ HGr.out) _ _ _ HGr.out) _ _ _ HGr.out) _ _ _ HGu.out) _ _ _ HGu.out) _ _ _ HGu.out)
end Go.Proofs.YtfofoookdlaipaaGreatDoor

namespace Go.Proofs.YtfofoookdlaipaaGreatDoor
open Go.RowKit Go.Shelf

end Go.Proofs.YtfofoookdlaipaaGreatDoor

namespace Go.Proofs.YtfofoookdlaipaaGreatDoor
open Go.RowKit Go.Shelf

end Go.Proofs.YtfofoookdlaipaaGreatDoor

namespace Go.Proofs.YtfofoookdlaipaaGreatDoor
open Go.RowKit Go.Shelf

end Go.Proofs.YtfofoookdlaipaaGreatDoor

namespace Go.Proofs.YtfofoookdlaipaaGreatDoor
open Go.RowKit Go.Shelf

theorem results_t3 {fn : Func} {a b c : Tmp} (h : fn.results = #[.tmp a, .tmp b, .tmp c]) (tmps : Array Value) (P : Program) (w : World) :
    (results fn tmps).run P w = .ok (.tuple #[tmps.getD a undef, tmps.getD b undef, tmps.getD c undef]) w := by
  simp only [results, h]
  simp
set_option maxRecDepth 20000 in
set_option maxHeartbeats 8000000 in
theorem decide_y {f p m l : Int} {S I H sd : Nat} {Be : Int} (J : Jn f p m l S I H sd Be) {s1 s2 : Bool} {p1 p2 : Option Addr} {m1 m2 c1 c2 : Nat} {e1 e2 : Int} {w : World} {x y : Int} (h : DN w s1 p1 m1 c1 e1 x) (k : DN w s2 p2 m2 c2 e2 y) (hc : dv x e1 ≤ dv y e2) (hq : rnp l sd Be S I x e1 = rnp l sd Be S I y e2) (hT : Tab w) :
    Calls Tryz.prog 56 #[.int .i64 f, SV s1 p1 m1 c1 e1 s2 p2 m2 c2 e2] w fun en w' => en = .returned (.tuple #[U (rnp l sd Be S I x e1), .bool true, .int .i64 0]) ∧ Below w.heap.size w w' := by
  have HJN : Hid (Jn f p m l S I H sd Be) := J
  have A : Hid (DN w s1 p1 m1 c1 e1 x) := h
  have B : Hid (DN w s2 p2 m2 c2 e2 y) := k
  have HC : Hid (dv x e1 ≤ dv y e2) := hc
  have TB : Hid (Tab w) := hT
  have HE : Hid ((-4194304 ≤ e1 ∧ e1 ≤ 4194304) ∧ -4194304 ≤ e2 ∧ e2 ≤ 4194304) := by
    refine ⟨?_, ?_⟩
    · rcases h.fm with ⟨_, h2⟩ | ⟨_, h2, h3⟩ <;> omega
    · rcases k.fm with ⟨_, h2⟩ | ⟨_, h2, h3⟩ <;> omega
  obtain ⟨ra, hra⟩ : ∃ r, r = rnp l sd Be S I x e1 := ⟨_, rfl⟩
  obtain ⟨rb, hrb⟩ : ∃ r, r = rnp l sd Be S I y e2 := ⟨_, rfl⟩
  rw [← hra, ← hrb] at hq
  rw [← hra]
  have HR : Hid (rnp l sd Be S I x e1 = ra ∧ rnp l sd Be S I y e2 = rb) := ⟨hra.symm, hrb.symm⟩
  have q1 : ((ra : Int) == (rb : Int)) = true := by simp; omega
  clear J h k hc hT hra hrb
  subst hq
  go_enter Tryz.func56, Tryz.ntmps56
  go_wp2_with fail
  obtain ⟨W0, hW0⟩ : ∃ W0, W0 = (w.alloc (.cells #[.bool s1, .slice p1 m1 c1, .int .i64 e1, .bool s2, .slice p2 m2 c2, .int .i64 e2] 66)) := ⟨_, rfl⟩
  have Xs : Hid (B6q W0 (w.heap.size) (.bool s1) (.slice p1 m1 c1) (.int .i64 e1) (.bool s2) (.slice p2 m2 c2) (.int .i64 e2)) := by rw [hW0]; exact ⟨by go_simp, by go_simp, by go_simp, by go_simp, by go_simp, by go_simp, by go_simp, by go_simp, by go_simp, by go_simp, by go_simp, by go_simp⟩
  have hb0 : Below w.heap.size w W0 := by rw [hW0]; exact below1 w _
  rw [← hW0]
  clear hW0
  have hbw : Below w.heap.size w w := Below.refl _ _
  obtain ⟨gs, hgs⟩ : ∃ g, g = w.heap.size := ⟨_, rfl⟩
  have HGs : Hid (w.heap.size ≤ gs) := by rw [hgs]; show _ ≤ _; omega
  rw [← hgs] at Xs
  try rw [← hgs]
  clear hgs
  replace hbw := Below.on hbw hb0
  clear hb0
  refine (HJN.out.jm.pm.fm.of _).mono ?_
  rintro e v1 ⟨rfl, hb1⟩
  replace Xs : Hid _ := Xs.out.below hb1
  replace hbw := Below.on hbw hb1
  clear hb1
  obtain ⟨cs0, cs1, cs2, cs3, cs4, cs5, fs0, fs1, fs2, fs3, fs4, fs5⟩ := Xs.out
  have hnes : gs < v1.heap.size := World.block_lt_of_cell? v1 _ cs0
  go_wp2_with fail
  clear cs0 cs1 cs2 cs3 cs4 cs5 fs0 fs1 fs2 fs3 fs4 fs5 hnes
  have Xg0 : Hid (B3q (v1.alloc (.cells #[.int .i64 p, .int .i64 m, .int .i64 l] 71)) v1.heap.size (.int .i64 p) (.int .i64 m) (.int .i64 l)) := B3q.new v1 _ _ _ _
  have hbn : Below v1.heap.size v1 (v1.alloc (.cells #[.int .i64 p, .int .i64 m, .int .i64 l] 71)) := below1 v1 _
  generalize v1.alloc (.cells #[.int .i64 p, .int .i64 m, .int .i64 l] 71) = Wg at *
  have HGg : Hid (w.heap.size ≤ v1.heap.size) := hbw.size
  replace Xs : Hid _ := Xs.out.below hbn
  replace hbw := Below.on hbw hbn
  clear hbn
  generalize v1.heap.size = gg at *
  have Xg := Xg0
  clear Xg0
  refine (sform_t (A.out.below hbw) (B.out.below hbw) HC.out).mono ?_
  rintro e v2 ⟨rfl, hb2⟩
  replace Xs : Hid _ := Xs.out.below hb2
  replace Xg : Hid _ := Xg.out.below hb2
  replace hbw := Below.on hbw hb2
  clear hb2
  obtain ⟨cs0, cs1, cs2, cs3, cs4, cs5, fs0, fs1, fs2, fs3, fs4, fs5⟩ := Xs.out
  have hnes : gs < v2.heap.size := World.block_lt_of_cell? v2 _ cs0
  obtain ⟨cg0, cg1, cg2, fg0, fg1, fg2⟩ := Xg.out
  have hneg : gg < v2.heap.size := World.block_lt_of_cell? v2 _ cg0
  go_wp2_with fail
  clear cs0 cs1 cs2 cs3 cs4 cs5 fs0 fs1 fs2 fs3 fs4 fs5 hnes
  clear cg0 cg1 cg2 fg0 fg1 fg2 hneg
  refine (nearest_ok HJN.out (A.out.zn.below hbw) HE.out.1 (TB.out.below hbw)).mono ?_
  rintro e v3 ⟨rfl, hb3⟩
  rw [HR.out.1]
  replace Xs : Hid _ := Xs.out.below hb3
  replace Xg : Hid _ := Xg.out.below hb3
  replace hbw := Below.on hbw hb3
  clear hb3
  obtain ⟨cs0, cs1, cs2, cs3, cs4, cs5, fs0, fs1, fs2, fs3, fs4, fs5⟩ := Xs.out
  have hnes : gs < v3.heap.size := World.block_lt_of_cell? v3 _ cs0
  obtain ⟨cg0, cg1, cg2, fg0, fg1, fg2⟩ := Xg.out
  have hneg : gg < v3.heap.size := World.block_lt_of_cell? v3 _ cg0
  go_wp2_with fail
  clear cs0 cs1 cs2 cs3 cs4 cs5 fs0 fs1 fs2 fs3 fs4 fs5 hnes
  clear cg0 cg1 cg2 fg0 fg1 fg2 hneg
  refine (nearest_ok HJN.out (B.out.zn.below hbw) HE.out.2 (TB.out.below hbw)).mono ?_
  rintro e v4 ⟨rfl, hb4⟩
  rw [HR.out.2]
  replace Xs : Hid _ := Xs.out.below hb4
  replace Xg : Hid _ := Xg.out.below hb4
  replace hbw := Below.on hbw hb4
  clear hb4
  obtain ⟨cs0, cs1, cs2, cs3, cs4, cs5, fs0, fs1, fs2, fs3, fs4, fs5⟩ := Xs.out
  have hnes : gs < v4.heap.size := World.block_lt_of_cell? v4 _ cs0
  obtain ⟨cg0, cg1, cg2, fg0, fg1, fg2⟩ := Xg.out
  have hneg : gg < v4.heap.size := World.block_lt_of_cell? v4 _ cg0
  go_wp2_with fail
  clear cs0 cs1 cs2 cs3 cs4 cs5 fs0 fs1 fs2 fs3 fs4 fs5 hnes
  clear cg0 cg1 cg2 fg0 fg1 fg2 hneg
  refine bodyPost_ret (v := .tuple #[U ra, .bool true, .int .i64 0]) (by rw [results_t3 rfl]; go_simp) rfl ⟨rfl, hbw⟩
set_option maxRecDepth 20000 in
set_option maxHeartbeats 8000000 in
theorem decide_n {f p m l : Int} {S I H sd : Nat} {Be : Int} (J : Jn f p m l S I H sd Be) {s1 s2 : Bool} {p1 p2 : Option Addr} {m1 m2 c1 c2 : Nat} {e1 e2 : Int} {w : World} {x y : Int} (h : DN w s1 p1 m1 c1 e1 x) (k : DN w s2 p2 m2 c2 e2 y) (hc : dv x e1 ≤ dv y e2) (hq : ¬ rnp l sd Be S I x e1 = rnp l sd Be S I y e2) (hT : Tab w) :
    Calls Tryz.prog 56 #[.int .i64 f, SV s1 p1 m1 c1 e1 s2 p2 m2 c2 e2] w fun en w' => en = .returned (.tuple #[.int .u64 0, .bool false, .int .i64 0]) ∧ Below w.heap.size w w' := by
  have HJN : Hid (Jn f p m l S I H sd Be) := J
  have A : Hid (DN w s1 p1 m1 c1 e1 x) := h
  have B : Hid (DN w s2 p2 m2 c2 e2 y) := k
  have HC : Hid (dv x e1 ≤ dv y e2) := hc
  have TB : Hid (Tab w) := hT
  have HE : Hid ((-4194304 ≤ e1 ∧ e1 ≤ 4194304) ∧ -4194304 ≤ e2 ∧ e2 ≤ 4194304) := by
    refine ⟨?_, ?_⟩
    · rcases h.fm with ⟨_, h2⟩ | ⟨_, h2, h3⟩ <;> omega
    · rcases k.fm with ⟨_, h2⟩ | ⟨_, h2, h3⟩ <;> omega
  obtain ⟨ra, hra⟩ : ∃ r, r = rnp l sd Be S I x e1 := ⟨_, rfl⟩
  obtain ⟨rb, hrb⟩ : ∃ r, r = rnp l sd Be S I y e2 := ⟨_, rfl⟩
  rw [← hra, ← hrb] at hq
  skip
  have HR : Hid (rnp l sd Be S I x e1 = ra ∧ rnp l sd Be S I y e2 = rb) := ⟨hra.symm, hrb.symm⟩
  have q1 : ((ra : Int) == (rb : Int)) = false := by simp; omega
  clear J h k hc hT hra hrb
  clear hq
  go_enter Tryz.func56, Tryz.ntmps56
  go_wp2_with fail
  obtain ⟨W0, hW0⟩ : ∃ W0, W0 = (w.alloc (.cells #[.bool s1, .slice p1 m1 c1, .int .i64 e1, .bool s2, .slice p2 m2 c2, .int .i64 e2] 66)) := ⟨_, rfl⟩
  have Xs : Hid (B6q W0 (w.heap.size) (.bool s1) (.slice p1 m1 c1) (.int .i64 e1) (.bool s2) (.slice p2 m2 c2) (.int .i64 e2)) := by rw [hW0]; exact ⟨by go_simp, by go_simp, by go_simp, by go_simp, by go_simp, by go_simp, by go_simp, by go_simp, by go_simp, by go_simp, by go_simp, by go_simp⟩
  have hb0 : Below w.heap.size w W0 := by rw [hW0]; exact below1 w _
  rw [← hW0]
  clear hW0
  have hbw : Below w.heap.size w w := Below.refl _ _
  obtain ⟨gs, hgs⟩ : ∃ g, g = w.heap.size := ⟨_, rfl⟩
  have HGs : Hid (w.heap.size ≤ gs) := by rw [hgs]; show _ ≤ _; omega
  rw [← hgs] at Xs
  try rw [← hgs]
  clear hgs
  replace hbw := Below.on hbw hb0
  clear hb0
  refine (HJN.out.jm.pm.fm.of _).mono ?_
  rintro e v1 ⟨rfl, hb1⟩
  replace Xs : Hid _ := Xs.out.below hb1
  replace hbw := Below.on hbw hb1
  clear hb1
  obtain ⟨cs0, cs1, cs2, cs3, cs4, cs5, fs0, fs1, fs2, fs3, fs4, fs5⟩ := Xs.out
  have hnes : gs < v1.heap.size := World.block_lt_of_cell? v1 _ cs0
  go_wp2_with fail
  clear cs0 cs1 cs2 cs3 cs4 cs5 fs0 fs1 fs2 fs3 fs4 fs5 hnes
  have Xg0 : Hid (B3q (v1.alloc (.cells #[.int .i64 p, .int .i64 m, .int .i64 l] 71)) v1.heap.size (.int .i64 p) (.int .i64 m) (.int .i64 l)) := B3q.new v1 _ _ _ _
  have hbn : Below v1.heap.size v1 (v1.alloc (.cells #[.int .i64 p, .int .i64 m, .int .i64 l] 71)) := below1 v1 _
  generalize v1.alloc (.cells #[.int .i64 p, .int .i64 m, .int .i64 l] 71) = Wg at *
  have HGg : Hid (w.heap.size ≤ v1.heap.size) := hbw.size
  replace Xs : Hid _ := Xs.out.below hbn
  replace hbw := Below.on hbw hbn
  clear hbn
  generalize v1.heap.size = gg at *
  have Xg := Xg0
  clear Xg0
  refine (sform_t (A.out.below hbw) (B.out.below hbw) HC.out).mono ?_
  rintro e v2 ⟨rfl, hb2⟩
  replace Xs : Hid _ := Xs.out.below hb2
  replace Xg : Hid _ := Xg.out.below hb2
  replace hbw := Below.on hbw hb2
  clear hb2
  obtain ⟨cs0, cs1, cs2, cs3, cs4, cs5, fs0, fs1, fs2, fs3, fs4, fs5⟩ := Xs.out
  have hnes : gs < v2.heap.size := World.block_lt_of_cell? v2 _ cs0
  obtain ⟨cg0, cg1, cg2, fg0, fg1, fg2⟩ := Xg.out
  have hneg : gg < v2.heap.size := World.block_lt_of_cell? v2 _ cg0
  go_wp2_with fail
  clear cs0 cs1 cs2 cs3 cs4 cs5 fs0 fs1 fs2 fs3 fs4 fs5 hnes
  clear cg0 cg1 cg2 fg0 fg1 fg2 hneg
  refine (nearest_ok HJN.out (A.out.zn.below hbw) HE.out.1 (TB.out.below hbw)).mono ?_
  rintro e v3 ⟨rfl, hb3⟩
  rw [HR.out.1]
  replace Xs : Hid _ := Xs.out.below hb3
  replace Xg : Hid _ := Xg.out.below hb3
  replace hbw := Below.on hbw hb3
  clear hb3
  obtain ⟨cs0, cs1, cs2, cs3, cs4, cs5, fs0, fs1, fs2, fs3, fs4, fs5⟩ := Xs.out
  have hnes : gs < v3.heap.size := World.block_lt_of_cell? v3 _ cs0
  obtain ⟨cg0, cg1, cg2, fg0, fg1, fg2⟩ := Xg.out
  have hneg : gg < v3.heap.size := World.block_lt_of_cell? v3 _ cg0
  go_wp2_with fail
  clear cs0 cs1 cs2 cs3 cs4 cs5 fs0 fs1 fs2 fs3 fs4 fs5 hnes
  clear cg0 cg1 cg2 fg0 fg1 fg2 hneg
  refine (nearest_ok HJN.out (B.out.zn.below hbw) HE.out.2 (TB.out.below hbw)).mono ?_
  rintro e v4 ⟨rfl, hb4⟩
  rw [HR.out.2]
  replace Xs : Hid _ := Xs.out.below hb4
  replace Xg : Hid _ := Xg.out.below hb4
  replace hbw := Below.on hbw hb4
  clear hb4
  obtain ⟨cs0, cs1, cs2, cs3, cs4, cs5, fs0, fs1, fs2, fs3, fs4, fs5⟩ := Xs.out
  have hnes : gs < v4.heap.size := World.block_lt_of_cell? v4 _ cs0
  obtain ⟨cg0, cg1, cg2, fg0, fg1, fg2⟩ := Xg.out
  have hneg : gg < v4.heap.size := World.block_lt_of_cell? v4 _ cg0
  go_wp2_with fail
  clear cs0 cs1 cs2 cs3 cs4 cs5 fs0 fs1 fs2 fs3 fs4 fs5 hnes
  clear cg0 cg1 cg2 fg0 fg1 fg2 hneg
  refine bodyPost_ret (v := .tuple #[.int .u64 0, .bool false, .int .i64 0]) (by rw [results_t3 rfl]; go_simp) rfl ⟨rfl, hbw⟩
end Go.Proofs.YtfofoookdlaipaaGreatDoor

