import Derived.Test.YtkiacehilnghiaaGreatDoorJ14
namespace Go.Proofs.YtkiacehilnghiaaGreatDoor
open Go.RowKit Go.Shelf

structure Cuts (z e : Int) (P K : Nat) (zl el zh eh : Int) : Prop where
  fl : DFm zl el
  fh : DFm zh eh
  vl : dv zl el = dv (rd false z (2 ^ K)) (e + K)
  vh : dv zh eh = dv (rd true z (2 ^ K)) (e + K)
  bl : bitsN zl.natAbs ≤ P
  bh : bitsN zh.natAbs ≤ P
  gl : e + K ≤ el
  gh : e + K ≤ eh
theorem cuts_ex {z e : Int} {P K : Nat} (hf : DFm z e) (hz : z ≠ 0) (hP : 1 ≤ P) (hK : K = bitsN z.natAbs - P) (ht : topI z e < 1048576) : ∃ zl el zh eh, Cuts z e P K zl el zh eh := by
  obtain ⟨zl, el, a1, a2, a3, a4, a5, _⟩ := cut_form false hf hz hP hK ht
  obtain ⟨zh, eh, b1, b2, b3, b4, b5, _⟩ := cut_form true hf hz hP hK ht
  exact ⟨zl, el, zh, eh, a1, b1, a2, b2, odd_bits a3 hP a4, odd_bits b3 hP b4, a5, b5⟩
theorem Cuts.lo {z e zl el zh eh : Int} {P K : Nat} (h : Cuts z e P K zl el zh eh) (he : -4194304 ≤ e) : dv zl el ≤ dv z e := by
  rw [h.vl, dv_up K he]
  exact dv_le _ (rd_down z (Nat.pow_pos (by omega))).1
theorem Cuts.hi {z e zl el zh eh : Int} {P K : Nat} (h : Cuts z e P K zl el zh eh) (he : -4194304 ≤ e) : dv z e ≤ dv zh eh := by
  rw [h.vh, dv_up K he]
  exact dv_le _ (rd_up z (Nat.pow_pos (by omega))).1
theorem Cuts.same {z e zl el zh eh : Int} {P K : Nat} (h : Cuts z e P K zl el zh eh) (hf : DFm z e) (he : -4194304 ≤ e) (hs : zl = zh ∧ el = eh) : zl = z ∧ el = e := by
  refine dv_inj h.fl hf ?_
  have h1 := h.lo he
  have h2 := h.hi he
  rw [← hs.1, ← hs.2] at h2
  omega
theorem Cuts.gap {z e zl el zh eh : Int} {P K : Nat} (h : Cuts z e P K zl el zh eh) (hz : z ≠ 0) (hP : 1 ≤ P ∧ P ≤ 70000) (hK : K = bitsN z.natAbs - P) (he : -1048576 ≤ e) (hs : ¬ (zl = zh ∧ el = eh)) :
    topI z e - P + 1 = e + K ∧ dv 1 (e + K) = dv zh eh - dv zl el ∧ (zh ≠ 0 → zl ≠ 0 → (zh * 2 ^ (eh - min eh el).toNat).natAbs < LIM ∧ (zl * 2 ^ (el - min eh el).toNat).natAbs < LIM ∧ (zh * 2 ^ (eh - min eh el).toNat - zl * 2 ^ (el - min eh el).toNat).natAbs < LIM) := by
  have h1 := rd_step z (d := 2 ^ K) (Nat.pow_pos (by omega))
  have h2 : rd true z (2 ^ K) = rd false z (2 ^ K) + 1 := by
    rcases h1 with ⟨h3, _⟩ | h3
    · exact absurd (dv_inj h.fl h.fh (by rw [h.vl, h.vh, h3])) hs
    · exact h3
  have hK0 : K ≠ 0 := by
    intro h9
    rw [h9, Nat.pow_zero, rd_one, rd_one] at h2
    omega
  refine ⟨by unfold topI; omega, by rw [h.vl, h.vh, h2, dv_add]; omega, fun _ _ => ?_⟩
  exact gap_len h.vl h.vh (cut_size false hz hP.1 hK).1 (cut_size true hz hP.1 hK).1 h.gl h.gh (by omega) (by omega)
theorem seven_d : ∃ K : Nat, K = bitsN (7 : Int).natAbs - 2 ∧ dv 3 1 = dv (rd false 7 (2 ^ K)) (0 + (K : Int)) ∧ dv 1 3 = dv (rd true 7 (2 ^ K)) (0 + (K : Int)) :=
  ⟨1, by decide, rfl, by rw [show rd true 7 (2 ^ 1) = 4 from rfl, dv_shift (z := 1) (e := 3) (f := 1) (by decide) (by decide)]; rfl⟩
set_option maxRecDepth 20000 in
set_option maxHeartbeats 8000000 in
theorem dyadicNeighbours_w {p : Option Addr} {m c : Nat} {xs : List Nat} {w : World} {e Q : Int} (s : Bool) (h : At w p m c xs) (hT : Tab w) :
    Calls Tryz.prog 4 #[DV s p m c e, .int .i64 Q] w fun en w' => en = .returned (.bool true) ∧ Below w.heap.size w w' := by
  have H : Hid (At w p m c xs) := h
  have TB : Hid (Tab w) := hT
  obtain ⟨K7, hK7, hd7, hu7⟩ := seven_d
  have HK7 : Hid (K7 = bitsN (7 : Int).natAbs - 2 ∧ dv 3 1 = dv (rd false 7 (2 ^ K7)) (0 + (K7 : Int)) ∧ dv 1 3 = dv (rd true 7 (2 ^ K7)) (0 + (K7 : Int))) := ⟨hK7, hd7, hu7⟩
  clear h hT hK7 hd7 hu7
  go_enter Tryz.func4, Tryz.ntmps4
  go_wp2_with fail
  obtain ⟨W0, hW0⟩ : ∃ W0, W0 = (w.alloc (.cells #[.bool s, .slice p m c, .int .i64 e] 26)) := ⟨_, rfl⟩
  have Xd : Hid (B3q W0 (w.heap.size) (.bool s) (.slice p m c) (.int .i64 e)) := by rw [hW0]; exact ⟨by go_simp, by go_simp, by go_simp, by go_simp, by go_simp, by go_simp⟩
  have hb0 : Below w.heap.size w W0 := by rw [hW0]; exact below1 w _
  rw [← hW0]
  clear hW0
  have hbw : Below w.heap.size w w := Below.refl _ _
  obtain ⟨gd, hgd⟩ : ∃ g, g = w.heap.size := ⟨_, rfl⟩
  have HGd : Hid (w.heap.size ≤ gd) := by rw [hgd]; show _ ≤ _; omega
  rw [← hgd] at Xd
  try rw [← hgd]
  clear hgd
  replace hbw := Below.on hbw hb0
  clear hb0
  refine (num5 (7) (0) (by decide) (by decide) (by decide)).mono ?_
  rintro e2 v1 ⟨s1, g1, m1, c1, rfl, _, hd1, hb1⟩
  replace Xd : Hid _ := Xd.out.below hb1
  replace hbw := Below.on hbw hb1
  clear hb1
  have D1 : Hid (DN v1 s1 (some ⟨g1, 0, none⟩) m1 c1 (0) (7)) := hd1
  clear hd1
  go_wp2_with fail
  refine (bits_d (P := 2) D1.out (by decide) HK7.out.1 (TB.out.below hbw)).mono ?_
  rintro e2 v2 ⟨hv, hb2⟩
  obtain ⟨v, rfl, hv2⟩ := hv.form (.inr ⟨by decide, by decide, by decide⟩) (HK7.out.2.1)
  obtain ⟨s2, p2, m2, rfl, hd2⟩ := hv2.dn (.inr ⟨by decide, by decide, by decide⟩)
  clear hv hv2
  replace Xd : Hid _ := Xd.out.below hb2
  replace D1 : Hid _ := D1.out.below hb2
  replace hbw := Below.on hbw hb2
  clear hb2
  have D2 : Hid (DN v2 s2 p2 m2 m2 (1) (3)) := hd2
  clear hd2
  clear D1
  go_wp2_with fail
  have HDdl : Hid (gd ≠ v2.heap.size) := Nat.ne_of_lt Xd.out.lt
  have Xl0 : Hid (B3q (v2.alloc (.cells #[.bool s2, .slice p2 m2 m2, .int .i64 (1)] 26)) v2.heap.size (.bool s2) (.slice p2 m2 m2) (.int .i64 (1))) := B3q.new v2 _ _ _ _
  have hbn : Below v2.heap.size v2 (v2.alloc (.cells #[.bool s2, .slice p2 m2 m2, .int .i64 (1)] 26)) := below1 v2 _
  generalize v2.alloc (.cells #[.bool s2, .slice p2 m2 m2, .int .i64 (1)] 26) = Wl at *
  have HGl : Hid (w.heap.size ≤ v2.heap.size) := hbw.size
  replace Xd : Hid _ := Xd.out.below hbn
  replace D2 : Hid _ := D2.out.below hbn
  replace hbw := Below.on hbw hbn
  clear hbn
  generalize v2.heap.size = gl at *
  have Xl := Xl0
  clear Xl0
  refine (num5 (7) (0) (by decide) (by decide) (by decide)).mono ?_
  rintro e2 v3 ⟨s3, g3, m3, c3, rfl, _, hd3, hb3⟩
  replace Xd : Hid _ := Xd.out.below hb3
  replace Xl : Hid _ := Xl.out.below hb3
  replace D2 : Hid _ := D2.out.below hb3
  replace hbw := Below.on hbw hb3
  clear hb3
  have D3 : Hid (DN v3 s3 (some ⟨g3, 0, none⟩) m3 c3 (0) (7)) := hd3
  clear hd3
  go_wp2_with fail
  refine (bits_u (P := 2) D3.out (by decide) HK7.out.1 (TB.out.below hbw)).mono ?_
  rintro e2 v4 ⟨hv, hb4⟩
  obtain ⟨v, rfl, hv2⟩ := hv.form (.inr ⟨by decide, by decide, by decide⟩) (HK7.out.2.2)
  obtain ⟨s4, p4, m4, rfl, hd4⟩ := hv2.dn (.inr ⟨by decide, by decide, by decide⟩)
  clear hv hv2
  replace Xd : Hid _ := Xd.out.below hb4
  replace Xl : Hid _ := Xl.out.below hb4
  replace D2 : Hid _ := D2.out.below hb4
  replace D3 : Hid _ := D3.out.below hb4
  replace hbw := Below.on hbw hb4
  clear hb4
  have D4 : Hid (DN v4 s4 p4 m4 m4 (3) (1)) := hd4
  clear hd4
  clear D3
  go_wp2_with fail
  have HDdh : Hid (gd ≠ v4.heap.size) := Nat.ne_of_lt Xd.out.lt
  have HDlh : Hid (gl ≠ v4.heap.size) := Nat.ne_of_lt Xl.out.lt
  have Xh0 : Hid (B3q (v4.alloc (.cells #[.bool s4, .slice p4 m4 m4, .int .i64 (3)] 26)) v4.heap.size (.bool s4) (.slice p4 m4 m4) (.int .i64 (3))) := B3q.new v4 _ _ _ _
  have hbn : Below v4.heap.size v4 (v4.alloc (.cells #[.bool s4, .slice p4 m4 m4, .int .i64 (3)] 26)) := below1 v4 _
  generalize v4.alloc (.cells #[.bool s4, .slice p4 m4 m4, .int .i64 (3)] 26) = Wh at *
  have HGh : Hid (w.heap.size ≤ v4.heap.size) := hbw.size
  replace Xd : Hid _ := Xd.out.below hbn
  replace Xl : Hid _ := Xl.out.below hbn
  replace D2 : Hid _ := D2.out.below hbn
  replace D4 : Hid _ := D4.out.below hbn
  replace hbw := Below.on hbw hbn
  clear hbn
  generalize v4.heap.size = gh at *
  have Xh := Xh0
  clear Xh0
  obtain ⟨Wr, hWr⟩ : ∃ W1, W1 = Wh.drew := ⟨_, rfl⟩
  have hbd : Below Wh.heap.size Wh Wr := by rw [hWr]; exact bDrew1 (Below.refl _ _)
  replace Xd : Hid _ := Xd.out.below hbd
  replace Xl : Hid _ := Xl.out.below hbd
  replace Xh : Hid _ := Xh.out.below hbd
  replace D2 : Hid _ := D2.out.below hbd
  replace D4 : Hid _ := D4.out.below hbd
  replace hbw := Below.on hbw hbd
  clear hbd
  have HJ : Hid ((fun W' : World => W'.cell? ⟨gl, 0, none⟩ = some (.bool s2) ∧ W'.cell? ⟨gl, 1, none⟩ = some (.slice p2 m2 m2) ∧ W'.cell? ⟨gl, 2, none⟩ = some (.int .i64 (1)) ∧ W'.cell? ⟨gh, 0, none⟩ = some (.bool s4) ∧ W'.cell? ⟨gh, 1, none⟩ = some (.slice p4 m4 m4) ∧ W'.cell? ⟨gh, 2, none⟩ = some (.int .i64 (3))) Wr) := ⟨Xl.out.c0, Xl.out.c1, Xl.out.c2, Xh.out.c0, Xh.out.c1, Xh.out.c2⟩
  refine wp_region_J (fun W' => W'.cell? ⟨gl, 0, none⟩ = some (.bool s2) ∧ W'.cell? ⟨gl, 1, none⟩ = some (.slice p2 m2 m2) ∧ W'.cell? ⟨gl, 2, none⟩ = some (.int .i64 (1)) ∧ W'.cell? ⟨gh, 0, none⟩ = some (.bool s4) ∧ W'.cell? ⟨gh, 1, none⟩ = some (.slice p4 m4 m4) ∧ W'.cell? ⟨gh, 2, none⟩ = some (.int .i64 (3))) (by kernel_rfl) ?_
  rw [← hWr]
  clear hWr
  refine wpJ_take (i := 0) (v := ?v1x0) rfl (by kernel_rfl) (by kernel_rfl) (by kernel_rfl) (fun _ _ _ h => h) (by kernel_rfl) ?hy1x0 HJ.out ?rest1x0
  case hy1x0 => (intro W' hJ; obtain ⟨j0, j1, j2, j3, j4, j5⟩ := hJ; go_simp; first | done | with_reducible rfl)
  refine wpJ_take (i := 1) (v := ?v2x1) rfl (by kernel_rfl) (by kernel_rfl) (by kernel_rfl) (fun _ _ _ h => h) (by kernel_rfl) ?hy2x1 HJ.out ?rest2x1
  case hy2x1 => (intro W' hJ; obtain ⟨j0, j1, j2, j3, j4, j5⟩ := hJ; go_simp; first | done | with_reducible rfl)
  refine wpJ_one (i := 2) (by kernel_rfl) rfl (by kernel_rfl) (fun KJ hK => ?_)
  go_simp
  refine (num5 (3) (1) (by decide) (by decide) (by decide)).mono ?_
  rintro e2 v5 ⟨s5, g5, m5, c5, rfl, _, hd5, hb5⟩
  replace Xd : Hid _ := Xd.out.below hb5
  replace Xl : Hid _ := Xl.out.below hb5
  replace Xh : Hid _ := Xh.out.below hb5
  replace D2 : Hid _ := D2.out.below hb5
  replace D4 : Hid _ := D4.out.below hb5
  replace hbw := Below.on hbw hb5
  clear hb5
  have D5 : Hid (DN v5 s5 (some ⟨g5, 0, none⟩) m5 c5 (1) (3)) := hd5
  clear hd5
  refine hK _ _ ⟨Xl.out.c0, Xl.out.c1, Xl.out.c2, Xh.out.c0, Xh.out.c1, Xh.out.c2⟩ ?_
  clear hK
  refine wpJ_one (i := 3) (by kernel_rfl) rfl (by kernel_rfl) (fun KJ hK => ?_)
  go_simp
  refine (same5 D2.out D5.out).mono ?_
  rintro e v6 ⟨rfl, hb6⟩
  replace Xd : Hid _ := Xd.out.below hb6
  replace Xl : Hid _ := Xl.out.below hb6
  replace Xh : Hid _ := Xh.out.below hb6
  replace D2 : Hid _ := D2.out.below hb6
  replace D4 : Hid _ := D4.out.below hb6
  replace D5 : Hid _ := D5.out.below hb6
  replace hbw := Below.on hbw hb6
  clear hb6
  clear HJ
  have HJ : Hid ((fun W' : World => W'.cell? ⟨gl, 0, none⟩ = some (.bool s2) ∧ W'.cell? ⟨gl, 1, none⟩ = some (.slice p2 m2 m2) ∧ W'.cell? ⟨gl, 2, none⟩ = some (.int .i64 (1)) ∧ W'.cell? ⟨gh, 0, none⟩ = some (.bool s4) ∧ W'.cell? ⟨gh, 1, none⟩ = some (.slice p4 m4 m4) ∧ W'.cell? ⟨gh, 2, none⟩ = some (.int .i64 (3))) v6) := ⟨Xl.out.c0, Xl.out.c1, Xl.out.c2, Xh.out.c0, Xh.out.c1, Xh.out.c2⟩
  refine hK _ _ HJ.out ?_
  clear hK
  refine wpJ_take (i := 4) (v := ?v3x4) rfl (by kernel_rfl) (by kernel_rfl) (by kernel_rfl) (fun _ _ _ h => h) (by kernel_rfl) ?hy3x4 HJ.out ?rest3x4
  case hy3x4 => (intro W' hJ; obtain ⟨j0, j1, j2, j3, j4, j5⟩ := hJ; go_simp; first | done | with_reducible rfl)
  refine wpJ_take (i := 5) (v := ?v4x5) rfl (by kernel_rfl) (by kernel_rfl) (by kernel_rfl) (fun _ _ _ h => h) (by kernel_rfl) ?hy4x5 HJ.out ?rest4x5
  case hy4x5 => (intro W' hJ; obtain ⟨j0, j1, j2, j3, j4, j5⟩ := hJ; go_simp; first | done | with_reducible rfl)
  refine wpJ_take (i := 6) (v := ?v5x6) rfl (by kernel_rfl) (by kernel_rfl) (by kernel_rfl) (fun _ _ _ h => h) (by kernel_rfl) ?hy5x6 HJ.out ?rest5x6
  case hy5x6 => (intro W' hJ; obtain ⟨j0, j1, j2, j3, j4, j5⟩ := hJ; go_simp; first | done | with_reducible rfl)
  refine wpJ_take (i := 7) (v := ?v6x7) rfl (by kernel_rfl) (by kernel_rfl) (by kernel_rfl) (fun _ _ _ h => h) (by kernel_rfl) ?hy6x7 HJ.out ?rest6x7
  case hy6x7 => (intro W' hJ; obtain ⟨j0, j1, j2, j3, j4, j5⟩ := hJ; go_simp; first | done | with_reducible rfl)
  refine wpJ_one (i := 8) (by kernel_rfl) rfl (by kernel_rfl) (fun KJ hK => ?_)
  go_simp
  refine (num5 (1) (3) (by decide) (by decide) (by decide)).mono ?_
  rintro e2 v7 ⟨s7, g7, m7, c7, rfl, _, hd7, hb7⟩
  replace Xd : Hid _ := Xd.out.below hb7
  replace Xl : Hid _ := Xl.out.below hb7
  replace Xh : Hid _ := Xh.out.below hb7
  replace D2 : Hid _ := D2.out.below hb7
  replace D4 : Hid _ := D4.out.below hb7
  replace D5 : Hid _ := D5.out.below hb7
  replace hbw := Below.on hbw hb7
  clear hb7
  have D7 : Hid (DN v7 s7 (some ⟨g7, 0, none⟩) m7 c7 (3) (1)) := hd7
  clear hd7
  refine hK _ _ ⟨Xl.out.c0, Xl.out.c1, Xl.out.c2, Xh.out.c0, Xh.out.c1, Xh.out.c2⟩ ?_
  clear hK
  refine wpJ_one (i := 9) (by kernel_rfl) rfl (by kernel_rfl) (fun KJ hK => ?_)
  go_simp
  refine (same5 D4.out D7.out).mono ?_
  rintro e v8 ⟨rfl, hb8⟩
  replace Xd : Hid _ := Xd.out.below hb8
  replace Xl : Hid _ := Xl.out.below hb8
  replace Xh : Hid _ := Xh.out.below hb8
  replace D2 : Hid _ := D2.out.below hb8
  replace D4 : Hid _ := D4.out.below hb8
  replace D5 : Hid _ := D5.out.below hb8
  replace D7 : Hid _ := D7.out.below hb8
  replace hbw := Below.on hbw hb8
  clear hb8
  clear HJ
  have HJ : Hid ((fun W' : World => W'.cell? ⟨gl, 0, none⟩ = some (.bool s2) ∧ W'.cell? ⟨gl, 1, none⟩ = some (.slice p2 m2 m2) ∧ W'.cell? ⟨gl, 2, none⟩ = some (.int .i64 (1)) ∧ W'.cell? ⟨gh, 0, none⟩ = some (.bool s4) ∧ W'.cell? ⟨gh, 1, none⟩ = some (.slice p4 m4 m4) ∧ W'.cell? ⟨gh, 2, none⟩ = some (.int .i64 (3))) v8) := ⟨Xl.out.c0, Xl.out.c1, Xl.out.c2, Xh.out.c0, Xh.out.c1, Xh.out.c2⟩
  refine hK _ _ HJ.out ?_
  clear hK
  refine wpJ_take (i := 10) (v := ?v7x10) rfl (by kernel_rfl) (by kernel_rfl) (by kernel_rfl) (fun _ _ _ h => h) (by kernel_rfl) ?hy7x10 HJ.out ?rest7x10
  case hy7x10 => (intro W' hJ; obtain ⟨j0, j1, j2, j3, j4, j5⟩ := hJ; go_simp; first | done | with_reducible rfl)
  refine wpJ_take (i := 11) (v := ?v8x11) rfl (by kernel_rfl) (by kernel_rfl) (by kernel_rfl) (fun _ _ _ h => h) (by kernel_rfl) ?hy8x11 HJ.out ?rest8x11
  case hy8x11 => (intro W' hJ; obtain ⟨j0, j1, j2, j3, j4, j5⟩ := hJ; go_simp; first | done | with_reducible rfl)
  refine wpJ_take (i := 12) (v := ?v9x12) rfl (by kernel_rfl) (by kernel_rfl) (by kernel_rfl) (fun _ _ _ h => h) (by kernel_rfl) ?hy9x12 HJ.out ?rest9x12
  case hy9x12 => (intro W' hJ; obtain ⟨j0, j1, j2, j3, j4, j5⟩ := hJ; go_simp; first | done | with_reducible rfl)
  refine wpJ_one (i := 13) (by kernel_rfl) rfl (by kernel_rfl) (fun KJ hK => ?_)
  go_simp
  refine (awake5 _ (TB.out.below hbw)).mono ?_
  rintro e v9 ⟨rfl, hb9⟩
  replace Xd : Hid _ := Xd.out.below hb9
  replace Xl : Hid _ := Xl.out.below hb9
  replace Xh : Hid _ := Xh.out.below hb9
  replace D2 : Hid _ := D2.out.below hb9
  replace D4 : Hid _ := D4.out.below hb9
  replace D5 : Hid _ := D5.out.below hb9
  replace D7 : Hid _ := D7.out.below hb9
  replace hbw := Below.on hbw hb9
  clear hb9
  clear HJ
  have HJ : Hid ((fun W' : World => W'.cell? ⟨gl, 0, none⟩ = some (.bool s2) ∧ W'.cell? ⟨gl, 1, none⟩ = some (.slice p2 m2 m2) ∧ W'.cell? ⟨gl, 2, none⟩ = some (.int .i64 (1)) ∧ W'.cell? ⟨gh, 0, none⟩ = some (.bool s4) ∧ W'.cell? ⟨gh, 1, none⟩ = some (.slice p4 m4 m4) ∧ W'.cell? ⟨gh, 2, none⟩ = some (.int .i64 (3))) v9) := ⟨Xl.out.c0, Xl.out.c1, Xl.out.c2, Xh.out.c0, Xh.out.c1, Xh.out.c2⟩
  refine hK _ _ HJ.out ?_
  clear hK
  refine wpJ_take (i := 14) (v := ?v10x14) rfl (by kernel_rfl) (by kernel_rfl) (by kernel_rfl) (fun _ _ _ h => h) (by kernel_rfl) ?hy10x14 HJ.out ?rest10x14
  case hy10x14 => (intro W' hJ; obtain ⟨j0, j1, j2, j3, j4, j5⟩ := hJ; go_simp; first | done | with_reducible rfl)
  refine wpJ_take (i := 15) (v := ?v11x15) rfl (by kernel_rfl) (by kernel_rfl) (by kernel_rfl) (fun _ _ _ h => h) (by kernel_rfl) ?hy11x15 HJ.out ?rest11x15
  case hy11x15 => (intro W' hJ; obtain ⟨j0, j1, j2, j3, j4, j5⟩ := hJ; go_simp; first | done | with_reducible rfl)
  refine wpJ_done (by kernel_rfl) ?_ _
  clear HJ
  clear D2
  clear D4
  clear D5
  clear D7
  obtain ⟨cd0, cd1, cd2, fd0, fd1, fd2⟩ := Xd.out
  have hned : gd < v9.heap.size := World.block_lt_of_cell? v9 _ cd0
  go_wp2_with fail
  clear cd0 cd1 cd2 fd0 fd1 fd2 hned
  by_cases hQ1 : Q < 1
  · have HQ1 : Hid (Q < 1) := hQ1
    refine (bits_ld HQ1.out).mono ?_
    rintro e v10 ⟨rfl, hb10⟩
    replace Xd : Hid _ := Xd.out.below hb10
    replace Xl : Hid _ := Xl.out.below hb10
    replace Xh : Hid _ := Xh.out.below hb10
    replace hbw := Below.on hbw hb10
    clear hb10
    obtain ⟨cl0, cl1, cl2, fl0, fl1, fl2⟩ := Xl.out
    have hnel : gl < v10.heap.size := World.block_lt_of_cell? v10 _ cl0
    obtain ⟨cd0, cd1, cd2, fd0, fd1, fd2⟩ := Xd.out
    have hned : gd < v10.heap.size := World.block_lt_of_cell? v10 _ cd0
    obtain ⟨ch0, ch1, ch2, fh0, fh1, fh2⟩ := Xh.out
    have hneh : gh < v10.heap.size := World.block_lt_of_cell? v10 _ ch0
    have qad : gd ≠ gl := HDdl.out
    have qbd : gl ≠ gd := fun h => qad h.symm
    have qah : gh ≠ gl := fun h => HDlh.out h.symm
    have qbh : gl ≠ gh := fun h => qah h.symm
    go_wp2_with fail
    have Xl2 : Hid (B3q (((v10.setCell ⟨gl, 0, none⟩ (.bool false)).setCell ⟨gl, 1, none⟩ (.slice none 0 0)).setCell ⟨gl, 2, none⟩ (.int .i64 0)) gl (.bool false) (.slice none 0 0) (.int .i64 0)) := ⟨by go_simp, by go_simp, by go_simp, by go_simp, by go_simp, by go_simp⟩
    have Xd2 : Hid (B3q (((v10.setCell ⟨gl, 0, none⟩ (.bool false)).setCell ⟨gl, 1, none⟩ (.slice none 0 0)).setCell ⟨gl, 2, none⟩ (.int .i64 0)) gd (.bool s) (.slice p m c) (.int .i64 e)) := ⟨by go_simp, by go_simp, by go_simp, by go_simp, by go_simp, by go_simp⟩
    have Xh2 : Hid (B3q (((v10.setCell ⟨gl, 0, none⟩ (.bool false)).setCell ⟨gl, 1, none⟩ (.slice none 0 0)).setCell ⟨gl, 2, none⟩ (.int .i64 0)) gh (.bool s4) (.slice p4 m4 m4) (.int .i64 (3))) := ⟨by go_simp, by go_simp, by go_simp, by go_simp, by go_simp, by go_simp⟩
    have hbw2 : Below w.heap.size w (((v10.setCell ⟨gl, 0, none⟩ (.bool false)).setCell ⟨gl, 1, none⟩ (.slice none 0 0)).setCell ⟨gl, 2, none⟩ (.int .i64 0)) := bSet (bSet (bSet hbw _ _ _ HGl.out) _ _ _ HGl.out) _ _ _ HGl.out
    clear cl0 cl1 cl2 fl0 fl1 fl2 hnel
    clear cd0 cd1 cd2 fd0 fd1 fd2 hned
    clear ch0 ch1 ch2 fh0 fh1 fh2 hneh
    clear qad qbd qah qbh hbw Xl Xd Xh 
    generalize (((v10.setCell ⟨gl, 0, none⟩ (.bool false)).setCell ⟨gl, 1, none⟩ (.slice none 0 0)).setCell ⟨gl, 2, none⟩ (.int .i64 0)) = Wl2 at *
    have Xl := Xl2
    have Xd := Xd2
    have Xh := Xh2
    have hbw := hbw2
    clear hbw2 Xl2 Xd2 Xh2 
    refine (bits_lu HQ1.out).mono ?_
    rintro e v11 ⟨rfl, hb11⟩
    replace Xd : Hid _ := Xd.out.below hb11
    replace Xl : Hid _ := Xl.out.below hb11
    replace Xh : Hid _ := Xh.out.below hb11
    replace hbw := Below.on hbw hb11
    clear hb11
    obtain ⟨ch0, ch1, ch2, fh0, fh1, fh2⟩ := Xh.out
    have hneh : gh < v11.heap.size := World.block_lt_of_cell? v11 _ ch0
    obtain ⟨cd0, cd1, cd2, fd0, fd1, fd2⟩ := Xd.out
    have hned : gd < v11.heap.size := World.block_lt_of_cell? v11 _ cd0
    obtain ⟨cl0, cl1, cl2, fl0, fl1, fl2⟩ := Xl.out
    have hnel : gl < v11.heap.size := World.block_lt_of_cell? v11 _ cl0
    have qad : gd ≠ gh := HDdh.out
    have qbd : gh ≠ gd := fun h => qad h.symm
    have qal : gl ≠ gh := HDlh.out
    have qbl : gh ≠ gl := fun h => qal h.symm
    go_wp2_with fail
    have Xh2 : Hid (B3q (((v11.setCell ⟨gh, 0, none⟩ (.bool false)).setCell ⟨gh, 1, none⟩ (.slice none 0 0)).setCell ⟨gh, 2, none⟩ (.int .i64 0)) gh (.bool false) (.slice none 0 0) (.int .i64 0)) := ⟨by go_simp, by go_simp, by go_simp, by go_simp, by go_simp, by go_simp⟩
    have Xd2 : Hid (B3q (((v11.setCell ⟨gh, 0, none⟩ (.bool false)).setCell ⟨gh, 1, none⟩ (.slice none 0 0)).setCell ⟨gh, 2, none⟩ (.int .i64 0)) gd (.bool s) (.slice p m c) (.int .i64 e)) := ⟨by go_simp, by go_simp, by go_simp, by go_simp, by go_simp, by go_simp⟩
    have Xl2 : Hid (B3q (((v11.setCell ⟨gh, 0, none⟩ (.bool false)).setCell ⟨gh, 1, none⟩ (.slice none 0 0)).setCell ⟨gh, 2, none⟩ (.int .i64 0)) gl (.bool false) (.slice none 0 0) (.int .i64 0)) := ⟨by go_simp, by go_simp, by go_simp, by go_simp, by go_simp, by go_simp⟩
    have hbw2 : Below w.heap.size w (((v11.setCell ⟨gh, 0, none⟩ (.bool false)).setCell ⟨gh, 1, none⟩ (.slice none 0 0)).setCell ⟨gh, 2, none⟩ (.int .i64 0)) := bSet (bSet (bSet hbw _ _ _ HGh.out) _ _ _ HGh.out) _ _ _ HGh.out
    clear ch0 ch1 ch2 fh0 fh1 fh2 hneh
    clear cd0 cd1 cd2 fd0 fd1 fd2 hned
    clear cl0 cl1 cl2 fl0 fl1 fl2 hnel
    clear qad qbd qal qbl hbw Xh Xd Xl 
    generalize (((v11.setCell ⟨gh, 0, none⟩ (.bool false)).setCell ⟨gh, 1, none⟩ (.slice none 0 0)).setCell ⟨gh, 2, none⟩ (.int .i64 0)) = Wh2 at *
    have Xh := Xh2
    have Xd := Xd2
    have Xl := Xl2
    have hbw := hbw2
    clear hbw2 Xh2 Xd2 Xl2 
    go_ret
    exact ⟨rfl, hbw⟩
  · by_cases hQ2 : 70000 < Q
    · have HQ2 : Hid (70000 < Q) := hQ2
      refine (bits_gd HQ2.out).mono ?_
      rintro e v10 ⟨rfl, hb10⟩
      replace Xd : Hid _ := Xd.out.below hb10
      replace Xl : Hid _ := Xl.out.below hb10
      replace Xh : Hid _ := Xh.out.below hb10
      replace hbw := Below.on hbw hb10
      clear hb10
      obtain ⟨cl0, cl1, cl2, fl0, fl1, fl2⟩ := Xl.out
      have hnel : gl < v10.heap.size := World.block_lt_of_cell? v10 _ cl0
      obtain ⟨cd0, cd1, cd2, fd0, fd1, fd2⟩ := Xd.out
      have hned : gd < v10.heap.size := World.block_lt_of_cell? v10 _ cd0
      obtain ⟨ch0, ch1, ch2, fh0, fh1, fh2⟩ := Xh.out
      have hneh : gh < v10.heap.size := World.block_lt_of_cell? v10 _ ch0
      have qad : gd ≠ gl := HDdl.out
      have qbd : gl ≠ gd := fun h => qad h.symm
      have qah : gh ≠ gl := fun h => HDlh.out h.symm
      have qbh : gl ≠ gh := fun h => qah h.symm
      go_wp2_with fail
      have Xl2 : Hid (B3q (((v10.setCell ⟨gl, 0, none⟩ (.bool false)).setCell ⟨gl, 1, none⟩ (.slice none 0 0)).setCell ⟨gl, 2, none⟩ (.int .i64 0)) gl (.bool false) (.slice none 0 0) (.int .i64 0)) := ⟨by go_simp, by go_simp, by go_simp, by go_simp, by go_simp, by go_simp⟩
      have Xd2 : Hid (B3q (((v10.setCell ⟨gl, 0, none⟩ (.bool false)).setCell ⟨gl, 1, none⟩ (.slice none 0 0)).setCell ⟨gl, 2, none⟩ (.int .i64 0)) gd (.bool s) (.slice p m c) (.int .i64 e)) := ⟨by go_simp, by go_simp, by go_simp, by go_simp, by go_simp, by go_simp⟩
      have Xh2 : Hid (B3q (((v10.setCell ⟨gl, 0, none⟩ (.bool false)).setCell ⟨gl, 1, none⟩ (.slice none 0 0)).setCell ⟨gl, 2, none⟩ (.int .i64 0)) gh (.bool s4) (.slice p4 m4 m4) (.int .i64 (3))) := ⟨by go_simp, by go_simp, by go_simp, by go_simp, by go_simp, by go_simp⟩
      have hbw2 : Below w.heap.size w (((v10.setCell ⟨gl, 0, none⟩ (.bool false)).setCell ⟨gl, 1, none⟩ (.slice none 0 0)).setCell ⟨gl, 2, none⟩ (.int .i64 0)) := bSet (bSet (bSet hbw _ _ _ HGl.out) _ _ _ HGl.out) _ _ _ HGl.out
      clear cl0 cl1 cl2 fl0 fl1 fl2 hnel
      clear cd0 cd1 cd2 fd0 fd1 fd2 hned
      clear ch0 ch1 ch2 fh0 fh1 fh2 hneh
      clear qad qbd qah qbh hbw Xl Xd Xh 
      generalize (((v10.setCell ⟨gl, 0, none⟩ (.bool false)).setCell ⟨gl, 1, none⟩ (.slice none 0 0)).setCell ⟨gl, 2, none⟩ (.int .i64 0)) = Wl2 at *
      have Xl := Xl2
      have Xd := Xd2
      have Xh := Xh2
      have hbw := hbw2
      clear hbw2 Xl2 Xd2 Xh2 
      refine (bits_gu HQ2.out).mono ?_
      rintro e v11 ⟨rfl, hb11⟩
      replace Xd : Hid _ := Xd.out.below hb11
      replace Xl : Hid _ := Xl.out.below hb11
      replace Xh : Hid _ := Xh.out.below hb11
      replace hbw := Below.on hbw hb11
      clear hb11
      obtain ⟨ch0, ch1, ch2, fh0, fh1, fh2⟩ := Xh.out
      have hneh : gh < v11.heap.size := World.block_lt_of_cell? v11 _ ch0
      obtain ⟨cd0, cd1, cd2, fd0, fd1, fd2⟩ := Xd.out
      have hned : gd < v11.heap.size := World.block_lt_of_cell? v11 _ cd0
      obtain ⟨cl0, cl1, cl2, fl0, fl1, fl2⟩ := Xl.out
      have hnel : gl < v11.heap.size := World.block_lt_of_cell? v11 _ cl0
      have qad : gd ≠ gh := HDdh.out
      have qbd : gh ≠ gd := fun h => qad h.symm
      have qal : gl ≠ gh := HDlh.out
      have qbl : gh ≠ gl := fun h => qal h.symm
      go_wp2_with fail
      have Xh2 : Hid (B3q (((v11.setCell ⟨gh, 0, none⟩ (.bool false)).setCell ⟨gh, 1, none⟩ (.slice none 0 0)).setCell ⟨gh, 2, none⟩ (.int .i64 0)) gh (.bool false) (.slice none 0 0) (.int .i64 0)) := ⟨by go_simp, by go_simp, by go_simp, by go_simp, by go_simp, by go_simp⟩
      have Xd2 : Hid (B3q (((v11.setCell ⟨gh, 0, none⟩ (.bool false)).setCell ⟨gh, 1, none⟩ (.slice none 0 0)).setCell ⟨gh, 2, none⟩ (.int .i64 0)) gd (.bool s) (.slice p m c) (.int .i64 e)) := ⟨by go_simp, by go_simp, by go_simp, by go_simp, by go_simp, by go_simp⟩
      have Xl2 : Hid (B3q (((v11.setCell ⟨gh, 0, none⟩ (.bool false)).setCell ⟨gh, 1, none⟩ (.slice none 0 0)).setCell ⟨gh, 2, none⟩ (.int .i64 0)) gl (.bool false) (.slice none 0 0) (.int .i64 0)) := ⟨by go_simp, by go_simp, by go_simp, by go_simp, by go_simp, by go_simp⟩
      have hbw2 : Below w.heap.size w (((v11.setCell ⟨gh, 0, none⟩ (.bool false)).setCell ⟨gh, 1, none⟩ (.slice none 0 0)).setCell ⟨gh, 2, none⟩ (.int .i64 0)) := bSet (bSet (bSet hbw _ _ _ HGh.out) _ _ _ HGh.out) _ _ _ HGh.out
      clear ch0 ch1 ch2 fh0 fh1 fh2 hneh
      clear cd0 cd1 cd2 fd0 fd1 fd2 hned
      clear cl0 cl1 cl2 fl0 fl1 fl2 hnel
      clear qad qbd qal qbl hbw Xh Xd Xl 
      generalize (((v11.setCell ⟨gh, 0, none⟩ (.bool false)).setCell ⟨gh, 1, none⟩ (.slice none 0 0)).setCell ⟨gh, 2, none⟩ (.int .i64 0)) = Wh2 at *
      have Xh := Xh2
      have Xd := Xd2
      have Xl := Xl2
      have hbw := hbw2
      clear hbw2 Xh2 Xd2 Xl2 
      go_ret
      exact ⟨rfl, hbw⟩
    · have HQ : Hid (1 ≤ Q ∧ Q ≤ 70000) := ⟨by omega, by omega⟩
      cases hf : formD s xs e
      · have HF : Hid (formD s xs e = false) := hf
        clear hf
        refine (bits_fd (H.out.below hbw) HF.out HQ.out).mono ?_
        rintro e v10 ⟨rfl, hb10⟩
        replace Xd : Hid _ := Xd.out.below hb10
        replace Xl : Hid _ := Xl.out.below hb10
        replace Xh : Hid _ := Xh.out.below hb10
        replace hbw := Below.on hbw hb10
        clear hb10
        obtain ⟨cl0, cl1, cl2, fl0, fl1, fl2⟩ := Xl.out
        have hnel : gl < v10.heap.size := World.block_lt_of_cell? v10 _ cl0
        obtain ⟨cd0, cd1, cd2, fd0, fd1, fd2⟩ := Xd.out
        have hned : gd < v10.heap.size := World.block_lt_of_cell? v10 _ cd0
        obtain ⟨ch0, ch1, ch2, fh0, fh1, fh2⟩ := Xh.out
        have hneh : gh < v10.heap.size := World.block_lt_of_cell? v10 _ ch0
        have qad : gd ≠ gl := HDdl.out
        have qbd : gl ≠ gd := fun h => qad h.symm
        have qah : gh ≠ gl := fun h => HDlh.out h.symm
        have qbh : gl ≠ gh := fun h => qah h.symm
        go_wp2_with fail
        have Xl2 : Hid (B3q (((v10.setCell ⟨gl, 0, none⟩ (.bool false)).setCell ⟨gl, 1, none⟩ (.slice none 0 0)).setCell ⟨gl, 2, none⟩ (.int .i64 0)) gl (.bool false) (.slice none 0 0) (.int .i64 0)) := ⟨by go_simp, by go_simp, by go_simp, by go_simp, by go_simp, by go_simp⟩
        have Xd2 : Hid (B3q (((v10.setCell ⟨gl, 0, none⟩ (.bool false)).setCell ⟨gl, 1, none⟩ (.slice none 0 0)).setCell ⟨gl, 2, none⟩ (.int .i64 0)) gd (.bool s) (.slice p m c) (.int .i64 e)) := ⟨by go_simp, by go_simp, by go_simp, by go_simp, by go_simp, by go_simp⟩
        have Xh2 : Hid (B3q (((v10.setCell ⟨gl, 0, none⟩ (.bool false)).setCell ⟨gl, 1, none⟩ (.slice none 0 0)).setCell ⟨gl, 2, none⟩ (.int .i64 0)) gh (.bool s4) (.slice p4 m4 m4) (.int .i64 (3))) := ⟨by go_simp, by go_simp, by go_simp, by go_simp, by go_simp, by go_simp⟩
        have hbw2 : Below w.heap.size w (((v10.setCell ⟨gl, 0, none⟩ (.bool false)).setCell ⟨gl, 1, none⟩ (.slice none 0 0)).setCell ⟨gl, 2, none⟩ (.int .i64 0)) := bSet (bSet (bSet hbw _ _ _ HGl.out) _ _ _ HGl.out) _ _ _ HGl.out
        clear cl0 cl1 cl2 fl0 fl1 fl2 hnel
        clear cd0 cd1 cd2 fd0 fd1 fd2 hned
        clear ch0 ch1 ch2 fh0 fh1 fh2 hneh
        clear qad qbd qah qbh hbw Xl Xd Xh 
        generalize (((v10.setCell ⟨gl, 0, none⟩ (.bool false)).setCell ⟨gl, 1, none⟩ (.slice none 0 0)).setCell ⟨gl, 2, none⟩ (.int .i64 0)) = Wl2 at *
        have Xl := Xl2
        have Xd := Xd2
        have Xh := Xh2
        have hbw := hbw2
        clear hbw2 Xl2 Xd2 Xh2 
        refine (bits_fu (H.out.below hbw) HF.out HQ.out).mono ?_
        rintro e v11 ⟨rfl, hb11⟩
        replace Xd : Hid _ := Xd.out.below hb11
        replace Xl : Hid _ := Xl.out.below hb11
        replace Xh : Hid _ := Xh.out.below hb11
        replace hbw := Below.on hbw hb11
        clear hb11
        obtain ⟨ch0, ch1, ch2, fh0, fh1, fh2⟩ := Xh.out
        have hneh : gh < v11.heap.size := World.block_lt_of_cell? v11 _ ch0
        obtain ⟨cd0, cd1, cd2, fd0, fd1, fd2⟩ := Xd.out
        have hned : gd < v11.heap.size := World.block_lt_of_cell? v11 _ cd0
        obtain ⟨cl0, cl1, cl2, fl0, fl1, fl2⟩ := Xl.out
        have hnel : gl < v11.heap.size := World.block_lt_of_cell? v11 _ cl0
        have qad : gd ≠ gh := HDdh.out
        have qbd : gh ≠ gd := fun h => qad h.symm
        have qal : gl ≠ gh := HDlh.out
        have qbl : gh ≠ gl := fun h => qal h.symm
        go_wp2_with fail
        have Xh2 : Hid (B3q (((v11.setCell ⟨gh, 0, none⟩ (.bool false)).setCell ⟨gh, 1, none⟩ (.slice none 0 0)).setCell ⟨gh, 2, none⟩ (.int .i64 0)) gh (.bool false) (.slice none 0 0) (.int .i64 0)) := ⟨by go_simp, by go_simp, by go_simp, by go_simp, by go_simp, by go_simp⟩
        have Xd2 : Hid (B3q (((v11.setCell ⟨gh, 0, none⟩ (.bool false)).setCell ⟨gh, 1, none⟩ (.slice none 0 0)).setCell ⟨gh, 2, none⟩ (.int .i64 0)) gd (.bool s) (.slice p m c) (.int .i64 e)) := ⟨by go_simp, by go_simp, by go_simp, by go_simp, by go_simp, by go_simp⟩
        have Xl2 : Hid (B3q (((v11.setCell ⟨gh, 0, none⟩ (.bool false)).setCell ⟨gh, 1, none⟩ (.slice none 0 0)).setCell ⟨gh, 2, none⟩ (.int .i64 0)) gl (.bool false) (.slice none 0 0) (.int .i64 0)) := ⟨by go_simp, by go_simp, by go_simp, by go_simp, by go_simp, by go_simp⟩
        have hbw2 : Below w.heap.size w (((v11.setCell ⟨gh, 0, none⟩ (.bool false)).setCell ⟨gh, 1, none⟩ (.slice none 0 0)).setCell ⟨gh, 2, none⟩ (.int .i64 0)) := bSet (bSet (bSet hbw _ _ _ HGh.out) _ _ _ HGh.out) _ _ _ HGh.out
        clear ch0 ch1 ch2 fh0 fh1 fh2 hneh
        clear cd0 cd1 cd2 fd0 fd1 fd2 hned
        clear cl0 cl1 cl2 fl0 fl1 fl2 hnel
        clear qad qbd qal qbl hbw Xh Xd Xl 
        generalize (((v11.setCell ⟨gh, 0, none⟩ (.bool false)).setCell ⟨gh, 1, none⟩ (.slice none 0 0)).setCell ⟨gh, 2, none⟩ (.int .i64 0)) = Wh2 at *
        have Xh := Xh2
        have Xd := Xd2
        have Xl := Xl2
        have hbw := hbw2
        clear hbw2 Xh2 Xd2 Xl2 
        refine (docformd s (H.out.below hbw)).mono ?_
        rintro e2 v12 ⟨rfl, hb12⟩
        rw [HF.out]
        replace Xd : Hid _ := Xd.out.below hb12
        replace Xl : Hid _ := Xl.out.below hb12
        replace Xh : Hid _ := Xh.out.below hb12
        replace hbw := Below.on hbw hb12
        clear hb12
        obtain ⟨cl0, cl1, cl2, fl0, fl1, fl2⟩ := Xl.out
        have hnel : gl < v12.heap.size := World.block_lt_of_cell? v12 _ cl0
        go_wp2_with fail
        clear cl0 cl1 cl2 fl0 fl1 fl2 hnel
        refine (nought_t).mono ?_
        rintro e v13 ⟨rfl, hb13⟩
        replace Xd : Hid _ := Xd.out.below hb13
        replace Xl : Hid _ := Xl.out.below hb13
        replace Xh : Hid _ := Xh.out.below hb13
        replace hbw := Below.on hbw hb13
        clear hb13
        obtain ⟨ch0, ch1, ch2, fh0, fh1, fh2⟩ := Xh.out
        have hneh : gh < v13.heap.size := World.block_lt_of_cell? v13 _ ch0
        go_wp2_with fail
        clear ch0 ch1 ch2 fh0 fh1 fh2 hneh
        refine (nought_t).mono ?_
        rintro e v14 ⟨rfl, hb14⟩
        replace Xd : Hid _ := Xd.out.below hb14
        replace Xl : Hid _ := Xl.out.below hb14
        replace Xh : Hid _ := Xh.out.below hb14
        replace hbw := Below.on hbw hb14
        clear hb14
        go_wp2_with fail
        go_ret
        exact ⟨rfl, hbw⟩
      · have HF : Hid (formD s xs e = true) := hf
        have HD0 := formD_dn H.out hf
        obtain ⟨z, hz⟩ : ∃ z, z = iv s (valB B64 xs) := ⟨_, rfl⟩
        rw [← hz] at HD0
        have H0 : Hid (DN w s p m c e z) := HD0
        obtain ⟨P, hP⟩ : ∃ P : Nat, Q = P := ⟨Q.toNat, by omega⟩
        subst hP
        have HP : Hid (1 ≤ P ∧ P ≤ 70000) := ⟨by have := HQ.out; omega, by have := HQ.out; omega⟩
        clear hf hz HD0 HQ
        obtain ⟨K, hK⟩ : ∃ K, K = bitsN z.natAbs - P := ⟨_, rfl⟩
        have HK : Hid (K = bitsN z.natAbs - P) := hK
        clear hK
        by_cases hz0 : z = 0
        · have HZ0 : Hid (z = 0 ∧ (∀ up, dv 0 0 = dv (rd up z (2 ^ K)) (e + K))) := ⟨hz0, fun up => by rw [hz0, rd_zero, dv_zero, dv_zero]⟩
          have hm0 : m = 0 := by
            obtain ⟨ys, hY⟩ := H0.out.zn.ex
            exact hY.zero.2 (by rw [hz0]; rfl)
          have HMZ : Hid (m = 0) := hm0
          clear hz0 hm0
          have HB1 : Hid (gl < v9.heap.size ∧ gh < v9.heap.size) := ⟨Xl.out.lt, Xh.out.lt⟩
          refine (bits_d (H0.out.below hbw) HP.out HK.out (TB.out.below hbw)).mono ?_
          rintro e2 v10 ⟨hv, hb10⟩
          obtain ⟨v, rfl, hv2⟩ := hv.form (.inl ⟨rfl, rfl⟩) (HZ0.out.2 false)
          clear hv
          obtain ⟨p10, m10, z10s, rfl, ho10, hn10, hm10⟩ := hv2
          replace Xd : Hid _ := Xd.out.below hb10
          replace Xl : Hid _ := Xl.out.below hb10
          replace Xh : Hid _ := Xh.out.below hb10
          replace hbw := Below.on hbw hb10
          clear hb10
          have O10 : Hid (Own v9.heap.size v10 p10 m10 z10s) := ho10
          have N10 : Hid (Nf B64 z10s ((0 : Int)).natAbs ∧ m10 ≤ 8192) := ⟨hn10, hm10⟩
          obtain ⟨s10, hs10⟩ : ∃ b, b = decide (((0 : Int)) < 0) := ⟨_, rfl⟩
          rw [← hs10]
          have HS10 : Hid (s10 = decide (((0 : Int)) < 0)) := hs10
          clear ho10 hn10 hm10 hs10
          have hm10 : m10 = 0 := (Num.of O10.out N10.out.1 N10.out.2).zero.2 rfl
          have M10 : Hid (m10 = 0) := hm10
          clear hm10
          clear O10
          clear N10 HS10
          obtain ⟨cl0, cl1, cl2, fl0, fl1, fl2⟩ := Xl.out
          have hnel : gl < v10.heap.size := World.block_lt_of_cell? v10 _ cl0
          obtain ⟨cd0, cd1, cd2, fd0, fd1, fd2⟩ := Xd.out
          have hned : gd < v10.heap.size := World.block_lt_of_cell? v10 _ cd0
          obtain ⟨ch0, ch1, ch2, fh0, fh1, fh2⟩ := Xh.out
          have hneh : gh < v10.heap.size := World.block_lt_of_cell? v10 _ ch0
          have qad : gd ≠ gl := HDdl.out
          have qbd : gl ≠ gd := fun h => qad h.symm
          have qah : gh ≠ gl := fun h => HDlh.out h.symm
          have qbh : gl ≠ gh := fun h => qah h.symm
          go_wp2_with fail
          have Xl2 : Hid (B3q (((v10.setCell ⟨gl, 0, none⟩ (.bool s10)).setCell ⟨gl, 1, none⟩ (.slice p10 m10 m10)).setCell ⟨gl, 2, none⟩ (.int .i64 (0))) gl (.bool s10) (.slice p10 m10 m10) (.int .i64 (0))) := ⟨by go_simp, by go_simp, by go_simp, by go_simp, by go_simp, by go_simp⟩
          have Xd2 : Hid (B3q (((v10.setCell ⟨gl, 0, none⟩ (.bool s10)).setCell ⟨gl, 1, none⟩ (.slice p10 m10 m10)).setCell ⟨gl, 2, none⟩ (.int .i64 (0))) gd (.bool s) (.slice p m c) (.int .i64 e)) := ⟨by go_simp, by go_simp, by go_simp, by go_simp, by go_simp, by go_simp⟩
          have Xh2 : Hid (B3q (((v10.setCell ⟨gl, 0, none⟩ (.bool s10)).setCell ⟨gl, 1, none⟩ (.slice p10 m10 m10)).setCell ⟨gl, 2, none⟩ (.int .i64 (0))) gh (.bool s4) (.slice p4 m4 m4) (.int .i64 (3))) := ⟨by go_simp, by go_simp, by go_simp, by go_simp, by go_simp, by go_simp⟩
          have hbw2 : Below w.heap.size w (((v10.setCell ⟨gl, 0, none⟩ (.bool s10)).setCell ⟨gl, 1, none⟩ (.slice p10 m10 m10)).setCell ⟨gl, 2, none⟩ (.int .i64 (0))) := bSet (bSet (bSet hbw _ _ _ HGl.out) _ _ _ HGl.out) _ _ _ HGl.out
          clear cl0 cl1 cl2 fl0 fl1 fl2 hnel
          clear cd0 cd1 cd2 fd0 fd1 fd2 hned
          clear ch0 ch1 ch2 fh0 fh1 fh2 hneh
          clear qad qbd qah qbh hbw Xl Xd Xh 
          generalize (((v10.setCell ⟨gl, 0, none⟩ (.bool s10)).setCell ⟨gl, 1, none⟩ (.slice p10 m10 m10)).setCell ⟨gl, 2, none⟩ (.int .i64 (0))) = Wl2 at *
          have Xl := Xl2
          have Xd := Xd2
          have Xh := Xh2
          have hbw := hbw2
          clear hbw2 Xl2 Xd2 Xh2 
          refine (bits_u (H0.out.below hbw) HP.out HK.out (TB.out.below hbw)).mono ?_
          rintro e2 v11 ⟨hv, hb11⟩
          obtain ⟨v, rfl, hv2⟩ := hv.form (.inl ⟨rfl, rfl⟩) (HZ0.out.2 true)
          clear hv
          obtain ⟨p11, m11, z11s, rfl, ho11, hn11, hm11⟩ := hv2
          replace Xd : Hid _ := Xd.out.below hb11
          replace Xl : Hid _ := Xl.out.below hb11
          replace Xh : Hid _ := Xh.out.below hb11
          replace hbw := Below.on hbw hb11
          clear hb11
          have O11 : Hid (Own Wl2.heap.size v11 p11 m11 z11s) := ho11
          have N11 : Hid (Nf B64 z11s ((0 : Int)).natAbs ∧ m11 ≤ 8192) := ⟨hn11, hm11⟩
          obtain ⟨s11, hs11⟩ : ∃ b, b = decide (((0 : Int)) < 0) := ⟨_, rfl⟩
          rw [← hs11]
          have HS11 : Hid (s11 = decide (((0 : Int)) < 0)) := hs11
          clear ho11 hn11 hm11 hs11
          have hm11 : m11 = 0 := (Num.of O11.out N11.out.1 N11.out.2).zero.2 rfl
          have M11 : Hid (m11 = 0) := hm11
          clear hm11
          clear O11
          clear N11 HS11
          obtain ⟨ch0, ch1, ch2, fh0, fh1, fh2⟩ := Xh.out
          have hneh : gh < v11.heap.size := World.block_lt_of_cell? v11 _ ch0
          obtain ⟨cd0, cd1, cd2, fd0, fd1, fd2⟩ := Xd.out
          have hned : gd < v11.heap.size := World.block_lt_of_cell? v11 _ cd0
          obtain ⟨cl0, cl1, cl2, fl0, fl1, fl2⟩ := Xl.out
          have hnel : gl < v11.heap.size := World.block_lt_of_cell? v11 _ cl0
          have qad : gd ≠ gh := HDdh.out
          have qbd : gh ≠ gd := fun h => qad h.symm
          have qal : gl ≠ gh := HDlh.out
          have qbl : gh ≠ gl := fun h => qal h.symm
          go_wp2_with fail
          have Xh2 : Hid (B3q (((v11.setCell ⟨gh, 0, none⟩ (.bool s11)).setCell ⟨gh, 1, none⟩ (.slice p11 m11 m11)).setCell ⟨gh, 2, none⟩ (.int .i64 (0))) gh (.bool s11) (.slice p11 m11 m11) (.int .i64 (0))) := ⟨by go_simp, by go_simp, by go_simp, by go_simp, by go_simp, by go_simp⟩
          have Xd2 : Hid (B3q (((v11.setCell ⟨gh, 0, none⟩ (.bool s11)).setCell ⟨gh, 1, none⟩ (.slice p11 m11 m11)).setCell ⟨gh, 2, none⟩ (.int .i64 (0))) gd (.bool s) (.slice p m c) (.int .i64 e)) := ⟨by go_simp, by go_simp, by go_simp, by go_simp, by go_simp, by go_simp⟩
          have Xl2 : Hid (B3q (((v11.setCell ⟨gh, 0, none⟩ (.bool s11)).setCell ⟨gh, 1, none⟩ (.slice p11 m11 m11)).setCell ⟨gh, 2, none⟩ (.int .i64 (0))) gl (.bool s10) (.slice p10 m10 m10) (.int .i64 (0))) := ⟨by go_simp, by go_simp, by go_simp, by go_simp, by go_simp, by go_simp⟩
          have hbw2 : Below w.heap.size w (((v11.setCell ⟨gh, 0, none⟩ (.bool s11)).setCell ⟨gh, 1, none⟩ (.slice p11 m11 m11)).setCell ⟨gh, 2, none⟩ (.int .i64 (0))) := bSet (bSet (bSet hbw _ _ _ HGh.out) _ _ _ HGh.out) _ _ _ HGh.out
          clear ch0 ch1 ch2 fh0 fh1 fh2 hneh
          clear cd0 cd1 cd2 fd0 fd1 fd2 hned
          clear cl0 cl1 cl2 fl0 fl1 fl2 hnel
          clear qad qbd qal qbl hbw Xh Xd Xl 
          generalize (((v11.setCell ⟨gh, 0, none⟩ (.bool s11)).setCell ⟨gh, 1, none⟩ (.slice p11 m11 m11)).setCell ⟨gh, 2, none⟩ (.int .i64 (0))) = Wh2 at *
          have Xh := Xh2
          have Xd := Xd2
          have Xl := Xl2
          have hbw := hbw2
          clear hbw2 Xh2 Xd2 Xl2 
          refine (docformd s (H.out.below hbw)).mono ?_
          rintro e2 v12 ⟨rfl, hb12⟩
          rw [HF.out]
          replace Xd : Hid _ := Xd.out.below hb12
          replace Xl : Hid _ := Xl.out.below hb12
          replace Xh : Hid _ := Xh.out.below hb12
          replace hbw := Below.on hbw hb12
          clear hb12
          obtain ⟨cd0, cd1, cd2, fd0, fd1, fd2⟩ := Xd.out
          have hned : gd < v12.heap.size := World.block_lt_of_cell? v12 _ cd0
          go_wp2_with fail
          clear cd0 cd1 cd2 fd0 fd1 fd2 hned
          refine (nought).mono ?_
          rintro e v13 ⟨rfl, hb13⟩
          rw [decide_eq_true HMZ.out]
          replace Xd : Hid _ := Xd.out.below hb13
          replace Xl : Hid _ := Xl.out.below hb13
          replace Xh : Hid _ := Xh.out.below hb13
          replace hbw := Below.on hbw hb13
          clear hb13
          obtain ⟨cl0, cl1, cl2, fl0, fl1, fl2⟩ := Xl.out
          have hnel : gl < v13.heap.size := World.block_lt_of_cell? v13 _ cl0
          go_wp2_with fail
          clear cl0 cl1 cl2 fl0 fl1 fl2 hnel
          refine (nought).mono ?_
          rintro e v14 ⟨rfl, hb14⟩
          rw [decide_eq_true M10.out]
          replace Xd : Hid _ := Xd.out.below hb14
          replace Xl : Hid _ := Xl.out.below hb14
          replace Xh : Hid _ := Xh.out.below hb14
          replace hbw := Below.on hbw hb14
          clear hb14
          obtain ⟨ch0, ch1, ch2, fh0, fh1, fh2⟩ := Xh.out
          have hneh : gh < v14.heap.size := World.block_lt_of_cell? v14 _ ch0
          go_wp2_with fail
          clear ch0 ch1 ch2 fh0 fh1 fh2 hneh
          refine (nought).mono ?_
          rintro e v15 ⟨rfl, hb15⟩
          rw [decide_eq_true M11.out]
          replace Xd : Hid _ := Xd.out.below hb15
          replace Xl : Hid _ := Xl.out.below hb15
          replace Xh : Hid _ := Xh.out.below hb15
          replace hbw := Below.on hbw hb15
          clear hb15
          go_wp2_with fail
          go_ret
          exact ⟨rfl, hbw⟩
        · have HZ : Hid (z ≠ 0) := hz0
          have hm0 : m ≠ 0 := by
            obtain ⟨ys, hY⟩ := H0.out.zn.ex
            intro h9
            exact hz0 (Int.natAbs_eq_zero.1 (hY.zero.1 h9))
          have HM0 : Hid (m ≠ 0) := hm0
          have hef : -1048576 ≤ e ∧ e ≤ 1048576 := by rcases H0.out.fm with ⟨h0, _⟩ | ⟨_, h5⟩; (exact absurd h0 hz0); exact h5
          have HE : Hid (-1048576 ≤ e ∧ e ≤ 1048576) := hef
          clear hz0 hm0 hef
          by_cases ht : 1048576 ≤ topI z e
          · have HT9 : Hid (1048576 ≤ topI z e) := ht
            clear ht
            refine (bits_d (H0.out.below hbw) HP.out HK.out (TB.out.below hbw)).mono ?_
            rintro e2 v10 ⟨hv, hb10⟩
            obtain ⟨s10, p10, m10, o10, er10, rfl, _⟩ := hv.open
            clear hv
            replace Xd : Hid _ := Xd.out.below hb10
            replace Xl : Hid _ := Xl.out.below hb10
            replace Xh : Hid _ := Xh.out.below hb10
            replace hbw := Below.on hbw hb10
            clear hb10
            obtain ⟨cl0, cl1, cl2, fl0, fl1, fl2⟩ := Xl.out
            have hnel : gl < v10.heap.size := World.block_lt_of_cell? v10 _ cl0
            obtain ⟨cd0, cd1, cd2, fd0, fd1, fd2⟩ := Xd.out
            have hned : gd < v10.heap.size := World.block_lt_of_cell? v10 _ cd0
            obtain ⟨ch0, ch1, ch2, fh0, fh1, fh2⟩ := Xh.out
            have hneh : gh < v10.heap.size := World.block_lt_of_cell? v10 _ ch0
            have qad : gd ≠ gl := HDdl.out
            have qbd : gl ≠ gd := fun h => qad h.symm
            have qah : gh ≠ gl := fun h => HDlh.out h.symm
            have qbh : gl ≠ gh := fun h => qah h.symm
            go_wp2_with fail
            have Xl2 : Hid (B3q (((v10.setCell ⟨gl, 0, none⟩ (.bool s10)).setCell ⟨gl, 1, none⟩ (.slice p10 m10 m10)).setCell ⟨gl, 2, none⟩ (.int .i64 (o10))) gl (.bool s10) (.slice p10 m10 m10) (.int .i64 (o10))) := ⟨by go_simp, by go_simp, by go_simp, by go_simp, by go_simp, by go_simp⟩
            have Xd2 : Hid (B3q (((v10.setCell ⟨gl, 0, none⟩ (.bool s10)).setCell ⟨gl, 1, none⟩ (.slice p10 m10 m10)).setCell ⟨gl, 2, none⟩ (.int .i64 (o10))) gd (.bool s) (.slice p m c) (.int .i64 e)) := ⟨by go_simp, by go_simp, by go_simp, by go_simp, by go_simp, by go_simp⟩
            have Xh2 : Hid (B3q (((v10.setCell ⟨gl, 0, none⟩ (.bool s10)).setCell ⟨gl, 1, none⟩ (.slice p10 m10 m10)).setCell ⟨gl, 2, none⟩ (.int .i64 (o10))) gh (.bool s4) (.slice p4 m4 m4) (.int .i64 (3))) := ⟨by go_simp, by go_simp, by go_simp, by go_simp, by go_simp, by go_simp⟩
            have hbw2 : Below w.heap.size w (((v10.setCell ⟨gl, 0, none⟩ (.bool s10)).setCell ⟨gl, 1, none⟩ (.slice p10 m10 m10)).setCell ⟨gl, 2, none⟩ (.int .i64 (o10))) := bSet (bSet (bSet hbw _ _ _ HGl.out) _ _ _ HGl.out) _ _ _ HGl.out
            clear cl0 cl1 cl2 fl0 fl1 fl2 hnel
            clear cd0 cd1 cd2 fd0 fd1 fd2 hned
            clear ch0 ch1 ch2 fh0 fh1 fh2 hneh
            clear qad qbd qah qbh hbw Xl Xd Xh 
            generalize (((v10.setCell ⟨gl, 0, none⟩ (.bool s10)).setCell ⟨gl, 1, none⟩ (.slice p10 m10 m10)).setCell ⟨gl, 2, none⟩ (.int .i64 (o10))) = Wl2 at *
            have Xl := Xl2
            have Xd := Xd2
            have Xh := Xh2
            have hbw := hbw2
            clear hbw2 Xl2 Xd2 Xh2 
            refine (bits_u (H0.out.below hbw) HP.out HK.out (TB.out.below hbw)).mono ?_
            rintro e2 v11 ⟨hv, hb11⟩
            obtain ⟨s11, p11, m11, o11, er11, rfl, _⟩ := hv.open
            clear hv
            replace Xd : Hid _ := Xd.out.below hb11
            replace Xl : Hid _ := Xl.out.below hb11
            replace Xh : Hid _ := Xh.out.below hb11
            replace hbw := Below.on hbw hb11
            clear hb11
            obtain ⟨ch0, ch1, ch2, fh0, fh1, fh2⟩ := Xh.out
            have hneh : gh < v11.heap.size := World.block_lt_of_cell? v11 _ ch0
            obtain ⟨cd0, cd1, cd2, fd0, fd1, fd2⟩ := Xd.out
            have hned : gd < v11.heap.size := World.block_lt_of_cell? v11 _ cd0
            obtain ⟨cl0, cl1, cl2, fl0, fl1, fl2⟩ := Xl.out
            have hnel : gl < v11.heap.size := World.block_lt_of_cell? v11 _ cl0
            have qad : gd ≠ gh := HDdh.out
            have qbd : gh ≠ gd := fun h => qad h.symm
            have qal : gl ≠ gh := HDlh.out
            have qbl : gh ≠ gl := fun h => qal h.symm
            go_wp2_with fail
            have Xh2 : Hid (B3q (((v11.setCell ⟨gh, 0, none⟩ (.bool s11)).setCell ⟨gh, 1, none⟩ (.slice p11 m11 m11)).setCell ⟨gh, 2, none⟩ (.int .i64 (o11))) gh (.bool s11) (.slice p11 m11 m11) (.int .i64 (o11))) := ⟨by go_simp, by go_simp, by go_simp, by go_simp, by go_simp, by go_simp⟩
            have Xd2 : Hid (B3q (((v11.setCell ⟨gh, 0, none⟩ (.bool s11)).setCell ⟨gh, 1, none⟩ (.slice p11 m11 m11)).setCell ⟨gh, 2, none⟩ (.int .i64 (o11))) gd (.bool s) (.slice p m c) (.int .i64 e)) := ⟨by go_simp, by go_simp, by go_simp, by go_simp, by go_simp, by go_simp⟩
            have Xl2 : Hid (B3q (((v11.setCell ⟨gh, 0, none⟩ (.bool s11)).setCell ⟨gh, 1, none⟩ (.slice p11 m11 m11)).setCell ⟨gh, 2, none⟩ (.int .i64 (o11))) gl (.bool s10) (.slice p10 m10 m10) (.int .i64 (o10))) := ⟨by go_simp, by go_simp, by go_simp, by go_simp, by go_simp, by go_simp⟩
            have hbw2 : Below w.heap.size w (((v11.setCell ⟨gh, 0, none⟩ (.bool s11)).setCell ⟨gh, 1, none⟩ (.slice p11 m11 m11)).setCell ⟨gh, 2, none⟩ (.int .i64 (o11))) := bSet (bSet (bSet hbw _ _ _ HGh.out) _ _ _ HGh.out) _ _ _ HGh.out
            clear ch0 ch1 ch2 fh0 fh1 fh2 hneh
            clear cd0 cd1 cd2 fd0 fd1 fd2 hned
            clear cl0 cl1 cl2 fl0 fl1 fl2 hnel
            clear qad qbd qal qbl hbw Xh Xd Xl 
            generalize (((v11.setCell ⟨gh, 0, none⟩ (.bool s11)).setCell ⟨gh, 1, none⟩ (.slice p11 m11 m11)).setCell ⟨gh, 2, none⟩ (.int .i64 (o11))) = Wh2 at *
            have Xh := Xh2
            have Xd := Xd2
            have Xl := Xl2
            have hbw := hbw2
            clear hbw2 Xh2 Xd2 Xl2 
            refine (docformd s (H.out.below hbw)).mono ?_
            rintro e2 v12 ⟨rfl, hb12⟩
            rw [HF.out]
            replace Xd : Hid _ := Xd.out.below hb12
            replace Xl : Hid _ := Xl.out.below hb12
            replace Xh : Hid _ := Xh.out.below hb12
            replace hbw := Below.on hbw hb12
            clear hb12
            obtain ⟨cd0, cd1, cd2, fd0, fd1, fd2⟩ := Xd.out
            have hned : gd < v12.heap.size := World.block_lt_of_cell? v12 _ cd0
            go_wp2_with fail
            clear cd0 cd1 cd2 fd0 fd1 fd2 hned
            refine (nought).mono ?_
            rintro e v13 ⟨rfl, hb13⟩
            rw [decide_eq_false HM0.out]
            replace Xd : Hid _ := Xd.out.below hb13
            replace Xl : Hid _ := Xl.out.below hb13
            replace Xh : Hid _ := Xh.out.below hb13
            replace hbw := Below.on hbw hb13
            clear hb13
            obtain ⟨cd0, cd1, cd2, fd0, fd1, fd2⟩ := Xd.out
            have hned : gd < v13.heap.size := World.block_lt_of_cell? v13 _ cd0
            go_wp2_with fail
            clear cd0 cd1 cd2 fd0 fd1 fd2 hned
            refine (dTop (H0.out.below hbw) HZ.out).mono ?_
            rintro e v14 ⟨rfl, hb14⟩
            replace Xd : Hid _ := Xd.out.below hb14
            replace Xl : Hid _ := Xl.out.below hb14
            replace Xh : Hid _ := Xh.out.below hb14
            replace hbw := Below.on hbw hb14
            clear hb14
            have ht := HT9.out
            go_wp2_with fail
            go_ret
            exact ⟨rfl, hbw⟩
          · have HT9 : Hid (topI z e < 1048576) := (by omega : topI z e < 1048576)
            clear ht
            obtain ⟨zl, el, zh, eh, hcu⟩ := cuts_ex H0.out.fm HZ.out HP.out.1 HK.out HT9.out
            have CU : Hid (Cuts z e P K zl el zh eh) := hcu
            clear hcu
            have HB1 : Hid (gl < v9.heap.size ∧ gh < v9.heap.size) := ⟨Xl.out.lt, Xh.out.lt⟩
            refine (bits_d (H0.out.below hbw) HP.out HK.out (TB.out.below hbw)).mono ?_
            rintro e2 v10 ⟨hv, hb10⟩
            obtain ⟨v, rfl, hv2⟩ := hv.form (CU.out.fl) (CU.out.vl)
            clear hv
            obtain ⟨p10, m10, z10s, rfl, ho10, hn10, hm10⟩ := hv2
            replace Xd : Hid _ := Xd.out.below hb10
            replace Xl : Hid _ := Xl.out.below hb10
            replace Xh : Hid _ := Xh.out.below hb10
            replace hbw := Below.on hbw hb10
            clear hb10
            have O10 : Hid (Own v9.heap.size v10 p10 m10 z10s) := ho10
            have N10 : Hid (Nf B64 z10s (zl).natAbs ∧ m10 ≤ 8192) := ⟨hn10, hm10⟩
            obtain ⟨s10, hs10⟩ : ∃ b, b = decide ((zl) < 0) := ⟨_, rfl⟩
            rw [← hs10]
            have HS10 : Hid (s10 = decide ((zl) < 0)) := hs10
            clear ho10 hn10 hm10 hs10
            obtain ⟨cl0, cl1, cl2, fl0, fl1, fl2⟩ := Xl.out
            have hnel : gl < v10.heap.size := World.block_lt_of_cell? v10 _ cl0
            obtain ⟨cd0, cd1, cd2, fd0, fd1, fd2⟩ := Xd.out
            have hned : gd < v10.heap.size := World.block_lt_of_cell? v10 _ cd0
            obtain ⟨ch0, ch1, ch2, fh0, fh1, fh2⟩ := Xh.out
            have hneh : gh < v10.heap.size := World.block_lt_of_cell? v10 _ ch0
            have qad : gd ≠ gl := HDdl.out
            have qbd : gl ≠ gd := fun h => qad h.symm
            have qah : gh ≠ gl := fun h => HDlh.out h.symm
            have qbh : gl ≠ gh := fun h => qah h.symm
            go_wp2_with fail
            have Xl2 : Hid (B3q (((v10.setCell ⟨gl, 0, none⟩ (.bool s10)).setCell ⟨gl, 1, none⟩ (.slice p10 m10 m10)).setCell ⟨gl, 2, none⟩ (.int .i64 (el))) gl (.bool s10) (.slice p10 m10 m10) (.int .i64 (el))) := ⟨by go_simp, by go_simp, by go_simp, by go_simp, by go_simp, by go_simp⟩
            have Xd2 : Hid (B3q (((v10.setCell ⟨gl, 0, none⟩ (.bool s10)).setCell ⟨gl, 1, none⟩ (.slice p10 m10 m10)).setCell ⟨gl, 2, none⟩ (.int .i64 (el))) gd (.bool s) (.slice p m c) (.int .i64 e)) := ⟨by go_simp, by go_simp, by go_simp, by go_simp, by go_simp, by go_simp⟩
            have Xh2 : Hid (B3q (((v10.setCell ⟨gl, 0, none⟩ (.bool s10)).setCell ⟨gl, 1, none⟩ (.slice p10 m10 m10)).setCell ⟨gl, 2, none⟩ (.int .i64 (el))) gh (.bool s4) (.slice p4 m4 m4) (.int .i64 (3))) := ⟨by go_simp, by go_simp, by go_simp, by go_simp, by go_simp, by go_simp⟩
            have O102 : Hid (Own v9.heap.size (((v10.setCell ⟨gl, 0, none⟩ (.bool s10)).setCell ⟨gl, 1, none⟩ (.slice p10 m10 m10)).setCell ⟨gl, 2, none⟩ (.int .i64 (el))) p10 m10 z10s) := own_set3 O10.out HB1.out.1 (Nat.le_refl _) _ _ _
            have hbw2 : Below w.heap.size w (((v10.setCell ⟨gl, 0, none⟩ (.bool s10)).setCell ⟨gl, 1, none⟩ (.slice p10 m10 m10)).setCell ⟨gl, 2, none⟩ (.int .i64 (el))) := bSet (bSet (bSet hbw _ _ _ HGl.out) _ _ _ HGl.out) _ _ _ HGl.out
            clear cl0 cl1 cl2 fl0 fl1 fl2 hnel
            clear cd0 cd1 cd2 fd0 fd1 fd2 hned
            clear ch0 ch1 ch2 fh0 fh1 fh2 hneh
            clear qad qbd qah qbh hbw Xl Xd Xh O10
            generalize (((v10.setCell ⟨gl, 0, none⟩ (.bool s10)).setCell ⟨gl, 1, none⟩ (.slice p10 m10 m10)).setCell ⟨gl, 2, none⟩ (.int .i64 (el))) = Wl2 at *
            have Xl := Xl2
            have Xd := Xd2
            have Xh := Xh2
            have O10 := O102
            have hbw := hbw2
            clear hbw2 Xl2 Xd2 Xh2 O102
            have HB2 : Hid (gh < Wl2.heap.size) := Xh.out.lt
            refine (bits_u (H0.out.below hbw) HP.out HK.out (TB.out.below hbw)).mono ?_
            rintro e2 v11 ⟨hv, hb11⟩
            obtain ⟨v, rfl, hv2⟩ := hv.form (CU.out.fh) (CU.out.vh)
            clear hv
            obtain ⟨p11, m11, z11s, rfl, ho11, hn11, hm11⟩ := hv2
            replace Xd : Hid _ := Xd.out.below hb11
            replace Xl : Hid _ := Xl.out.below hb11
            replace Xh : Hid _ := Xh.out.below hb11
            replace O10 : Hid (Own v9.heap.size v11 p10 m10 z10s) := O10.out.below hb11
            replace hbw := Below.on hbw hb11
            clear hb11
            have O11 : Hid (Own Wl2.heap.size v11 p11 m11 z11s) := ho11
            have N11 : Hid (Nf B64 z11s (zh).natAbs ∧ m11 ≤ 8192) := ⟨hn11, hm11⟩
            obtain ⟨s11, hs11⟩ : ∃ b, b = decide ((zh) < 0) := ⟨_, rfl⟩
            rw [← hs11]
            have HS11 : Hid (s11 = decide ((zh) < 0)) := hs11
            clear ho11 hn11 hm11 hs11
            obtain ⟨ch0, ch1, ch2, fh0, fh1, fh2⟩ := Xh.out
            have hneh : gh < v11.heap.size := World.block_lt_of_cell? v11 _ ch0
            obtain ⟨cd0, cd1, cd2, fd0, fd1, fd2⟩ := Xd.out
            have hned : gd < v11.heap.size := World.block_lt_of_cell? v11 _ cd0
            obtain ⟨cl0, cl1, cl2, fl0, fl1, fl2⟩ := Xl.out
            have hnel : gl < v11.heap.size := World.block_lt_of_cell? v11 _ cl0
            have qad : gd ≠ gh := HDdh.out
            have qbd : gh ≠ gd := fun h => qad h.symm
            have qal : gl ≠ gh := HDlh.out
            have qbl : gh ≠ gl := fun h => qal h.symm
            go_wp2_with fail
            have Xh2 : Hid (B3q (((v11.setCell ⟨gh, 0, none⟩ (.bool s11)).setCell ⟨gh, 1, none⟩ (.slice p11 m11 m11)).setCell ⟨gh, 2, none⟩ (.int .i64 (eh))) gh (.bool s11) (.slice p11 m11 m11) (.int .i64 (eh))) := ⟨by go_simp, by go_simp, by go_simp, by go_simp, by go_simp, by go_simp⟩
            have Xd2 : Hid (B3q (((v11.setCell ⟨gh, 0, none⟩ (.bool s11)).setCell ⟨gh, 1, none⟩ (.slice p11 m11 m11)).setCell ⟨gh, 2, none⟩ (.int .i64 (eh))) gd (.bool s) (.slice p m c) (.int .i64 e)) := ⟨by go_simp, by go_simp, by go_simp, by go_simp, by go_simp, by go_simp⟩
            have Xl2 : Hid (B3q (((v11.setCell ⟨gh, 0, none⟩ (.bool s11)).setCell ⟨gh, 1, none⟩ (.slice p11 m11 m11)).setCell ⟨gh, 2, none⟩ (.int .i64 (eh))) gl (.bool s10) (.slice p10 m10 m10) (.int .i64 (el))) := ⟨by go_simp, by go_simp, by go_simp, by go_simp, by go_simp, by go_simp⟩
            have O102 : Hid (Own v9.heap.size (((v11.setCell ⟨gh, 0, none⟩ (.bool s11)).setCell ⟨gh, 1, none⟩ (.slice p11 m11 m11)).setCell ⟨gh, 2, none⟩ (.int .i64 (eh))) p10 m10 z10s) := own_set3 O10.out HB1.out.2 (Nat.le_refl _) _ _ _
            have O112 : Hid (Own Wl2.heap.size (((v11.setCell ⟨gh, 0, none⟩ (.bool s11)).setCell ⟨gh, 1, none⟩ (.slice p11 m11 m11)).setCell ⟨gh, 2, none⟩ (.int .i64 (eh))) p11 m11 z11s) := own_set3 O11.out HB2.out (Nat.le_refl _) _ _ _
            have hbw2 : Below w.heap.size w (((v11.setCell ⟨gh, 0, none⟩ (.bool s11)).setCell ⟨gh, 1, none⟩ (.slice p11 m11 m11)).setCell ⟨gh, 2, none⟩ (.int .i64 (eh))) := bSet (bSet (bSet hbw _ _ _ HGh.out) _ _ _ HGh.out) _ _ _ HGh.out
            clear ch0 ch1 ch2 fh0 fh1 fh2 hneh
            clear cd0 cd1 cd2 fd0 fd1 fd2 hned
            clear cl0 cl1 cl2 fl0 fl1 fl2 hnel
            clear qad qbd qal qbl hbw Xh Xd Xl O10 O11
            generalize (((v11.setCell ⟨gh, 0, none⟩ (.bool s11)).setCell ⟨gh, 1, none⟩ (.slice p11 m11 m11)).setCell ⟨gh, 2, none⟩ (.int .i64 (eh))) = Wh2 at *
            have Xh := Xh2
            have Xd := Xd2
            have Xl := Xl2
            have O10 := O102
            have O11 := O112
            have hbw := hbw2
            clear hbw2 Xh2 Xd2 Xl2 O102 O112
            have D10 : Hid (DN Wh2 s10 p10 m10 m10 (el) (zl)) := ⟨⟨⟨z10s, Num.of O10.out N10.out.1 N10.out.2⟩, HS10.out⟩, CU.out.fl⟩
            clear O10
            clear N10 HS10
            have D11 : Hid (DN Wh2 s11 p11 m11 m11 (eh) (zh)) := ⟨⟨⟨z11s, Num.of O11.out N11.out.1 N11.out.2⟩, HS11.out⟩, CU.out.fh⟩
            clear O11
            clear N11 HS11
            refine (docformd s (H.out.below hbw)).mono ?_
            rintro e2 v12 ⟨rfl, hb12⟩
            rw [HF.out]
            replace Xd : Hid _ := Xd.out.below hb12
            replace Xl : Hid _ := Xl.out.below hb12
            replace Xh : Hid _ := Xh.out.below hb12
            replace D10 : Hid _ := D10.out.below hb12
            replace D11 : Hid _ := D11.out.below hb12
            replace hbw := Below.on hbw hb12
            clear hb12
            obtain ⟨cd0, cd1, cd2, fd0, fd1, fd2⟩ := Xd.out
            have hned : gd < v12.heap.size := World.block_lt_of_cell? v12 _ cd0
            go_wp2_with fail
            clear cd0 cd1 cd2 fd0 fd1 fd2 hned
            refine (nought).mono ?_
            rintro e v13 ⟨rfl, hb13⟩
            rw [decide_eq_false HM0.out]
            replace Xd : Hid _ := Xd.out.below hb13
            replace Xl : Hid _ := Xl.out.below hb13
            replace Xh : Hid _ := Xh.out.below hb13
            replace D10 : Hid _ := D10.out.below hb13
            replace D11 : Hid _ := D11.out.below hb13
            replace hbw := Below.on hbw hb13
            clear hb13
            obtain ⟨cd0, cd1, cd2, fd0, fd1, fd2⟩ := Xd.out
            have hned : gd < v13.heap.size := World.block_lt_of_cell? v13 _ cd0
            go_wp2_with fail
            clear cd0 cd1 cd2 fd0 fd1 fd2 hned
            refine (dTop (H0.out.below hbw) HZ.out).mono ?_
            rintro e v14 ⟨rfl, hb14⟩
            replace Xd : Hid _ := Xd.out.below hb14
            replace Xl : Hid _ := Xl.out.below hb14
            replace Xh : Hid _ := Xh.out.below hb14
            replace D10 : Hid _ := D10.out.below hb14
            replace D11 : Hid _ := D11.out.below hb14
            replace hbw := Below.on hbw hb14
            clear hb14
            have ht := HT9.out
            have ht2 : ¬ 1048576 ≤ topI z e := by omega
            obtain ⟨cl0, cl1, cl2, fl0, fl1, fl2⟩ := Xl.out
            have hnel : gl < v14.heap.size := World.block_lt_of_cell? v14 _ cl0
            obtain ⟨cd0, cd1, cd2, fd0, fd1, fd2⟩ := Xd.out
            have hned : gd < v14.heap.size := World.block_lt_of_cell? v14 _ cd0
            obtain ⟨ch0, ch1, ch2, fh0, fh1, fh2⟩ := Xh.out
            have hneh : gh < v14.heap.size := World.block_lt_of_cell? v14 _ ch0
            go_wp2_with fail
            clear cl0 cl1 cl2 fl0 fl1 fl2 hnel
            clear cd0 cd1 cd2 fd0 fd1 fd2 hned
            clear ch0 ch1 ch2 fh0 fh1 fh2 hneh
            clear ht ht2
            refine (between5 D10.out (H0.out.below hbw) D11.out (CU.out.lo (by have := HE.out; omega)) (CU.out.hi (by have := HE.out; omega))).mono ?_
            rintro e v15 ⟨rfl, hb15⟩
            replace Xd : Hid _ := Xd.out.below hb15
            replace Xl : Hid _ := Xl.out.below hb15
            replace Xh : Hid _ := Xh.out.below hb15
            replace D10 : Hid _ := D10.out.below hb15
            replace D11 : Hid _ := D11.out.below hb15
            replace hbw := Below.on hbw hb15
            clear hb15
            obtain ⟨cl0, cl1, cl2, fl0, fl1, fl2⟩ := Xl.out
            have hnel : gl < v15.heap.size := World.block_lt_of_cell? v15 _ cl0
            go_wp2_with fail
            clear cl0 cl1 cl2 fl0 fl1 fl2 hnel
            refine (short5 D10.out HP.out CU.out.bl (TB.out.below hbw)).mono ?_
            rintro e v16 ⟨rfl, hb16⟩
            replace Xd : Hid _ := Xd.out.below hb16
            replace Xl : Hid _ := Xl.out.below hb16
            replace Xh : Hid _ := Xh.out.below hb16
            replace D10 : Hid _ := D10.out.below hb16
            replace D11 : Hid _ := D11.out.below hb16
            replace hbw := Below.on hbw hb16
            clear hb16
            obtain ⟨ch0, ch1, ch2, fh0, fh1, fh2⟩ := Xh.out
            have hneh : gh < v16.heap.size := World.block_lt_of_cell? v16 _ ch0
            go_wp2_with fail
            clear ch0 ch1 ch2 fh0 fh1 fh2 hneh
            refine (short5 D11.out HP.out CU.out.bh (TB.out.below hbw)).mono ?_
            rintro e v17 ⟨rfl, hb17⟩
            replace Xd : Hid _ := Xd.out.below hb17
            replace Xl : Hid _ := Xl.out.below hb17
            replace Xh : Hid _ := Xh.out.below hb17
            replace D10 : Hid _ := D10.out.below hb17
            replace D11 : Hid _ := D11.out.below hb17
            replace hbw := Below.on hbw hb17
            clear hb17
            obtain ⟨cl0, cl1, cl2, fl0, fl1, fl2⟩ := Xl.out
            have hnel : gl < v17.heap.size := World.block_lt_of_cell? v17 _ cl0
            obtain ⟨ch0, ch1, ch2, fh0, fh1, fh2⟩ := Xh.out
            have hneh : gh < v17.heap.size := World.block_lt_of_cell? v17 _ ch0
            go_wp2_with fail
            clear cl0 cl1 cl2 fl0 fl1 fl2 hnel
            clear ch0 ch1 ch2 fh0 fh1 fh2 hneh
            refine (sameD D10.out D11.out).mono ?_
            rintro e v18 ⟨rfl, hb18⟩
            replace Xd : Hid _ := Xd.out.below hb18
            replace Xl : Hid _ := Xl.out.below hb18
            replace Xh : Hid _ := Xh.out.below hb18
            replace D10 : Hid _ := D10.out.below hb18
            replace D11 : Hid _ := D11.out.below hb18
            replace hbw := Below.on hbw hb18
            clear hb18
            by_cases hq : zl = zh ∧ el = eh
            · have HQ9 : Hid (zl = z ∧ el = e) := CU.out.same H0.out.fm (by have := HE.out; omega) hq
              rw [decide_eq_true hq]
              clear hq
              obtain ⟨cl0, cl1, cl2, fl0, fl1, fl2⟩ := Xl.out
              have hnel : gl < v18.heap.size := World.block_lt_of_cell? v18 _ cl0
              obtain ⟨cd0, cd1, cd2, fd0, fd1, fd2⟩ := Xd.out
              have hned : gd < v18.heap.size := World.block_lt_of_cell? v18 _ cd0
              go_wp2_with fail
              clear cl0 cl1 cl2 fl0 fl1 fl2 hnel
              clear cd0 cd1 cd2 fd0 fd1 fd2 hned
              refine (sameD D10.out (H0.out.below hbw)).mono ?_
              rintro e v19 ⟨rfl, hb19⟩
              rw [decide_eq_true HQ9.out]
              replace Xd : Hid _ := Xd.out.below hb19
              replace Xl : Hid _ := Xl.out.below hb19
              replace Xh : Hid _ := Xh.out.below hb19
              replace D10 : Hid _ := D10.out.below hb19
              replace D11 : Hid _ := D11.out.below hb19
              replace hbw := Below.on hbw hb19
              clear hb19
              go_wp2_with fail
              go_ret
              exact ⟨rfl, hbw⟩
            · obtain ⟨g1, g2, g3⟩ := CU.out.gap HZ.out HP.out HK.out HE.out.1 hq
              have GG : Hid (topI z e - P + 1 = e + K ∧ dv 1 (e + K) = dv zh eh - dv zl el ∧ (zh ≠ 0 → zl ≠ 0 → (zh * 2 ^ (eh - min eh el).toNat).natAbs < LIM ∧ (zl * 2 ^ (el - min eh el).toNat).natAbs < LIM ∧ (zh * 2 ^ (eh - min eh el).toNat - zl * 2 ^ (el - min eh el).toNat).natAbs < LIM)) := ⟨g1, g2, g3⟩
              have HEK : Hid (-1048576 ≤ e + K ∧ e + K ≤ 1048576) := ⟨by have := HE.out; omega, by have := HT9.out; have := HP.out; omega⟩
              rw [decide_eq_false hq]
              clear hq g1 g2 g3
              obtain ⟨cl0, cl1, cl2, fl0, fl1, fl2⟩ := Xl.out
              have hnel : gl < v18.heap.size := World.block_lt_of_cell? v18 _ cl0
              obtain ⟨ch0, ch1, ch2, fh0, fh1, fh2⟩ := Xh.out
              have hneh : gh < v18.heap.size := World.block_lt_of_cell? v18 _ ch0
              go_wp2_with fail
              clear cl0 cl1 cl2 fl0 fl1 fl2 hnel
              clear ch0 ch1 ch2 fh0 fh1 fh2 hneh
              refine (dsub_v D11.out D10.out (zt := 1) (et := e + K) (.inr ⟨by decide, HEK.out⟩) GG.out.2.1 GG.out.2.2 (TB.out.below hbw)).mono ?_
              rintro e2 v20 ⟨v, rfl, hv, hb20⟩
              obtain ⟨s20, p20, m20, rfl, hd20⟩ := hv.dn (.inr ⟨by decide, HEK.out⟩)
              clear hv
              replace Xd : Hid _ := Xd.out.below hb20
              replace Xl : Hid _ := Xl.out.below hb20
              replace Xh : Hid _ := Xh.out.below hb20
              replace D10 : Hid _ := D10.out.below hb20
              replace D11 : Hid _ := D11.out.below hb20
              replace hbw := Below.on hbw hb20
              clear hb20
              have D20 : Hid (DN v20 s20 p20 m20 m20 (e + K) (1)) := hd20
              clear hd20
              have f1 : wrap64 (topI z e - P) = topI z e - P := by have := GG.out.1; have := HEK.out; have := HP.out; simp only [wrap64]; omega
              have f2 : wrap64 (topI z e - P + 1) = e + K := by have := GG.out.1; have := HEK.out; simp only [wrap64]; omega
              go_wp2_with fail
              clear f1 f2
              have HDdg : Hid (gd ≠ v20.heap.size) := Nat.ne_of_lt Xd.out.lt
              have HDlg : Hid (gl ≠ v20.heap.size) := Nat.ne_of_lt Xl.out.lt
              have HDhg : Hid (gh ≠ v20.heap.size) := Nat.ne_of_lt Xh.out.lt
              have Xg0 : Hid (B3q (v20.alloc (.cells #[.bool s20, .slice p20 m20 m20, .int .i64 (e + K)] 26)) v20.heap.size (.bool s20) (.slice p20 m20 m20) (.int .i64 (e + K))) := B3q.new v20 _ _ _ _
              have hbn : Below v20.heap.size v20 (v20.alloc (.cells #[.bool s20, .slice p20 m20 m20, .int .i64 (e + K)] 26)) := below1 v20 _
              generalize v20.alloc (.cells #[.bool s20, .slice p20 m20 m20, .int .i64 (e + K)] 26) = Wg at *
              have HGg : Hid (w.heap.size ≤ v20.heap.size) := hbw.size
              replace Xd : Hid _ := Xd.out.below hbn
              replace Xl : Hid _ := Xl.out.below hbn
              replace Xh : Hid _ := Xh.out.below hbn
              replace D10 : Hid _ := D10.out.below hbn
              replace D11 : Hid _ := D11.out.below hbn
              replace D20 : Hid _ := D20.out.below hbn
              replace hbw := Below.on hbw hbn
              clear hbn
              generalize v20.heap.size = gg at *
              have Xg := Xg0
              clear Xg0
              refine (step5 HEK.out (TB.out.below hbw)).mono ?_
              rintro e2 v21 ⟨v, rfl, hv, hb21⟩
              obtain ⟨s21, p21, m21, rfl, hd21⟩ := hv.dn (.inr ⟨by decide, HEK.out⟩)
              clear hv
              replace Xd : Hid _ := Xd.out.below hb21
              replace Xl : Hid _ := Xl.out.below hb21
              replace Xh : Hid _ := Xh.out.below hb21
              replace Xg : Hid _ := Xg.out.below hb21
              replace D10 : Hid _ := D10.out.below hb21
              replace D11 : Hid _ := D11.out.below hb21
              replace D20 : Hid _ := D20.out.below hb21
              replace hbw := Below.on hbw hb21
              clear hb21
              have D21 : Hid (DN v21 s21 p21 m21 m21 (e + K) (1)) := hd21
              clear hd21
              obtain ⟨cg0, cg1, cg2, fg0, fg1, fg2⟩ := Xg.out
              have hneg : gg < v21.heap.size := World.block_lt_of_cell? v21 _ cg0
              go_wp2_with fail
              clear cg0 cg1 cg2 fg0 fg1 fg2 hneg
              have HDdo : Hid (gd ≠ v21.heap.size) := Nat.ne_of_lt Xd.out.lt
              have HDlo : Hid (gl ≠ v21.heap.size) := Nat.ne_of_lt Xl.out.lt
              have HDho : Hid (gh ≠ v21.heap.size) := Nat.ne_of_lt Xh.out.lt
              have HDgo : Hid (gg ≠ v21.heap.size) := Nat.ne_of_lt Xg.out.lt
              have Xo0 : Hid (B3q (v21.alloc (.cells #[.bool s21, .slice p21 m21 m21, .int .i64 (e + K)] 26)) v21.heap.size (.bool s21) (.slice p21 m21 m21) (.int .i64 (e + K))) := B3q.new v21 _ _ _ _
              have hbn : Below v21.heap.size v21 (v21.alloc (.cells #[.bool s21, .slice p21 m21 m21, .int .i64 (e + K)] 26)) := below1 v21 _
              generalize v21.alloc (.cells #[.bool s21, .slice p21 m21 m21, .int .i64 (e + K)] 26) = Wo at *
              have HGo : Hid (w.heap.size ≤ v21.heap.size) := hbw.size
              replace Xd : Hid _ := Xd.out.below hbn
              replace Xl : Hid _ := Xl.out.below hbn
              replace Xh : Hid _ := Xh.out.below hbn
              replace Xg : Hid _ := Xg.out.below hbn
              replace D10 : Hid _ := D10.out.below hbn
              replace D11 : Hid _ := D11.out.below hbn
              replace D20 : Hid _ := D20.out.below hbn
              replace D21 : Hid _ := D21.out.below hbn
              replace hbw := Below.on hbw hbn
              clear hbn
              generalize v21.heap.size = go at *
              have Xo := Xo0
              clear Xo0
              refine (same5 D20.out D21.out).mono ?_
              rintro e v22 ⟨rfl, hb22⟩
              replace Xd : Hid _ := Xd.out.below hb22
              replace Xl : Hid _ := Xl.out.below hb22
              replace Xh : Hid _ := Xh.out.below hb22
              replace Xg : Hid _ := Xg.out.below hb22
              replace Xo : Hid _ := Xo.out.below hb22
              replace D10 : Hid _ := D10.out.below hb22
              replace D11 : Hid _ := D11.out.below hb22
              replace D20 : Hid _ := D20.out.below hb22
              replace D21 : Hid _ := D21.out.below hb22
              replace hbw := Below.on hbw hb22
              clear hb22
              go_wp2_with fail
              go_ret
              exact ⟨rfl, hbw⟩
end Go.Proofs.YtkiacehilnghiaaGreatDoor

