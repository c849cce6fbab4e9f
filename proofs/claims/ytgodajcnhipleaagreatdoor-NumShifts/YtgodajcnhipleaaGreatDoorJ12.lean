import Derived.Test.YtgodajcnhipleaaGreatDoorJ11
import Derived.Test.YtgodajcnhipleaaGreatDoorJ10
import Derived.BigQuiet
import Derived.Test.YtgodajcnhipleaaGreatDoorJ9
namespace Go.Proofs.YtgodajcnhipleaaGreatDoor
open Go.RowKit Go.Shelf

set_option maxRecDepth 20000 in
set_option maxHeartbeats 4000000 in
theorem near_m {B : Nat} {p : Option Addr} {m : Nat} {zs : List Nat} {a d : Nat} {w : World} (s x : Bool) (h : FrIs B w s a d p m zs x (-1)) (hB : B ≤ w.heap.size) (hd : 0 < d) :
    Calls Tryz.prog 40 #[FR s p m m x (-1)] w fun e w' => ∃ v, e = .returned v ∧ AnsZ B w' v (ne s a d) ∧ Below w.heap.size w w' := by
  have H : Hid (FrIs B w s a d p m zs x (-1)) := h
  have HB : Hid (B ≤ w.heap.size) := hB
  obtain ⟨z, hz⟩ : ∃ z, z = ne s a d := ⟨_, rfl⟩
  rw [← hz]
  have HZ : Hid (z = ne s a d) := hz
  have HUP : Hid (neUp a d = (decide (0 < (-1 : Int)) || (decide ((-1 : Int) = 0) && decide (a / d % 2 = 1)))) := h.hf.up
  have HOF : Hid (∀ gg, w.heap.size ≤ gg → ∀ g, p = some ⟨g, 0, none⟩ → 0 < m → g ≠ gg) := fun gg hg => own_off H.out.own hg
  have HD : Hid (0 < d) := hd
  clear h hB hd hz
  go_enter Tryz.func40, Tryz.ntmps40
  go_wp2_with fail
  obtain ⟨W0, hW0⟩ : ∃ W0, W0 = ((w.alloc (.cells #[.bool s, .slice p m m, .bool x, .int .i64 (-1)] 59)).alloc (.cells #[.bool false, .slice none 0 0] 28)) := ⟨_, rfl⟩
  have Xf : Hid (B4q W0 (w.heap.size) (.bool s) (.slice p m m) (.bool x) (.int .i64 (-1))) := by rw [hW0]; exact ⟨by go_simp, by go_simp, by go_simp, by go_simp, by go_simp, by go_simp, by go_simp, by go_simp⟩
  have Xr : Hid (Box W0 (w.heap.size + 1) (.bool false) (.slice none 0 0)) := by rw [hW0]; exact ⟨by go_simp, by go_simp, by go_simp, by go_simp⟩
  have hb0 : Below w.heap.size w W0 := by rw [hW0]; exact below2 w _ _
  rw [← hW0]
  clear hW0
  have hbw : Below w.heap.size w w := Below.refl _ _
  obtain ⟨gr, hgr⟩ : ∃ g, g = w.heap.size + 1 := ⟨_, rfl⟩
  have HGr : Hid (w.heap.size ≤ gr) := by rw [hgr]; show _ ≤ _; omega
  rw [← hgr] at Xr
  try rw [← hgr]
  obtain ⟨gf, hgf⟩ : ∃ g, g = w.heap.size := ⟨_, rfl⟩
  have HGf : Hid (w.heap.size ≤ gf) := by rw [hgf]; show _ ≤ _; omega
  rw [← hgf] at Xf
  try rw [← hgf]
  have HGD : Hid (gf ≠ gr ∧ gr ≠ gf) := by rw [hgf, hgr]; exact ⟨by omega, by omega⟩
  clear hgf hgr
  replace H : Hid _ := H.out.below hb0
  replace hbw := Below.on hbw hb0
  clear hb0
  have HD1 : Hid (Below w.heap.size w W0.drew) := bDrew1 hbw
  have Xf2 : Hid (B4q W0.drew gf (.bool s) (.slice p m m) (.bool x) (.int .i64 (-1))) := ⟨Xf.out.c0, Xf.out.c1, Xf.out.c2, Xf.out.c3, Xf.out.f0, Xf.out.f1, Xf.out.f2, Xf.out.f3⟩
  have Xr2 : Hid (Box W0.drew gr (.bool false) (.slice none 0 0)) := ⟨Xr.out.c0, Xr.out.c1, Xr.out.f0, Xr.out.f1⟩
  have H2 : Hid (FrIs B W0.drew s a d p m zs x (-1)) := ⟨H.out.own.drewq, H.out.nf, H.out.le, H.out.ex, H.out.hf, H.out.lim⟩
  clear Xf Xr H hbw
  have Xf := Xf2
  have Xr := Xr2
  have H := H2
  have hbw := HD1.out
  clear Xf2 Xr2 H2 HD1
  have HJ : Hid ((fun W' : World => (W'.cell? ⟨gf, 0, none⟩ = some (.bool s) ∧ W'.cell? ⟨gf, 1, none⟩ = some (.slice p m m) ∧ W'.cell? ⟨gf, 2, none⟩ = some (.bool x) ∧ W'.cell? ⟨gf, 3, none⟩ = some (.int .i64 (-1)))) W0.drew) := ⟨Xf.out.c0, Xf.out.c1, Xf.out.c2, Xf.out.c3⟩
  refine wp_region_J (fun W' => (W'.cell? ⟨gf, 0, none⟩ = some (.bool s) ∧ W'.cell? ⟨gf, 1, none⟩ = some (.slice p m m) ∧ W'.cell? ⟨gf, 2, none⟩ = some (.bool x) ∧ W'.cell? ⟨gf, 3, none⟩ = some (.int .i64 (-1)))) (by kernel_rfl) ?_
  generalize W0.drew = W1 at *
  refine wpJ_take (i := 0) (v := ?v1x0) rfl (by kernel_rfl) (by kernel_rfl) (by kernel_rfl) (fun _ _ _ h => h) (by kernel_rfl) ?hy1x0 HJ.out ?rest1x0
  case hy1x0 => (intro W' hJ; obtain ⟨j0, j1, j2, j3⟩ := hJ; go_simp; first | done | with_reducible rfl)
  refine wpJ_take (i := 1) (v := ?v2x1) rfl (by kernel_rfl) (by kernel_rfl) (by kernel_rfl) (fun _ _ _ h => h) (by kernel_rfl) ?hy2x1 HJ.out ?rest2x1
  case hy2x1 => (intro W' hJ; obtain ⟨j0, j1, j2, j3⟩ := hJ; go_simp; first | done | with_reducible rfl)
  refine wpJ_take (i := 2) (v := ?v3x2) rfl (by kernel_rfl) (by kernel_rfl) (by kernel_rfl) (fun _ _ _ h => h) (by kernel_rfl) ?hy3x2 HJ.out ?rest3x2
  case hy3x2 => (intro W' hJ; obtain ⟨j0, j1, j2, j3⟩ := hJ; go_simp; first | done | with_reducible rfl)
  refine wpJ_take (i := 3) (v := ?v4x3) rfl (by kernel_rfl) (by kernel_rfl) (by kernel_rfl) (fun _ _ _ h => h) (by kernel_rfl) ?hy4x3 HJ.out ?rest4x3
  case hy4x3 => (intro W' hJ; obtain ⟨j0, j1, j2, j3⟩ := hJ; go_simp; first | done | with_reducible rfl)
  refine wpJ_take (i := 4) (v := ?v5x4) rfl (by kernel_rfl) (by kernel_rfl) (by kernel_rfl) (fun _ _ _ h => h) (by kernel_rfl) ?hy5x4 HJ.out ?rest5x4
  case hy5x4 => (intro W' hJ; obtain ⟨j0, j1, j2, j3⟩ := hJ; go_simp; first | done | with_reducible rfl)
  refine wpJ_take (i := 5) (v := ?v6x5) rfl (by kernel_rfl) (by kernel_rfl) (by kernel_rfl) (fun _ _ _ h => h) (by kernel_rfl) ?hy6x5 HJ.out ?rest6x5
  case hy6x5 => (intro W' hJ; obtain ⟨j0, j1, j2, j3⟩ := hJ; go_simp; first | done | with_reducible rfl)
  refine wpJ_take (i := 6) (v := ?v7x6) rfl (by kernel_rfl) (by kernel_rfl) (by kernel_rfl) (fun _ _ _ h => h) (by kernel_rfl) ?hy7x6 HJ.out ?rest7x6
  case hy7x6 => (intro W' hJ; obtain ⟨j0, j1, j2, j3⟩ := hJ; go_simp; first | done | with_reducible rfl)
  refine wpJ_take (i := 7) (v := ?v8x7) rfl (by kernel_rfl) (by kernel_rfl) (by kernel_rfl) (fun _ _ _ h => h) (by kernel_rfl) ?hy8x7 HJ.out ?rest8x7
  case hy8x7 => (intro W' hJ; obtain ⟨j0, j1, j2, j3⟩ := hJ; go_simp; first | done | with_reducible rfl)
  refine wpJ_take (i := 8) (v := ?v9x8) rfl (by kernel_rfl) (by kernel_rfl) (by kernel_rfl) (fun _ _ _ h => h) (by kernel_rfl) ?hy9x8 HJ.out ?rest9x8
  case hy9x8 => (intro W' hJ; obtain ⟨j0, j1, j2, j3⟩ := hJ; go_simp; first | done | with_reducible rfl)
  refine wpJ_skip (i := 9) rfl (by kernel_rfl) (by kernel_rfl) (by kernel_rfl) (fun _ _ _ h => h) (by kernel_rfl) HJ.out ?_
  refine wpJ_skip (i := 10) rfl (by kernel_rfl) (by kernel_rfl) (by kernel_rfl) (fun _ _ _ h => h) (by kernel_rfl) HJ.out ?_
  refine wpJ_skip (i := 11) rfl (by kernel_rfl) (by kernel_rfl) (by kernel_rfl) (fun _ _ _ h => h) (by kernel_rfl) HJ.out ?_
  refine wpJ_take (i := 12) (v := ?v10x12) rfl (by kernel_rfl) (by kernel_rfl) (by kernel_rfl) (fun _ _ _ h => h) (by kernel_rfl) ?hy10x12 HJ.out ?rest10x12
  case hy10x12 => (intro W' hJ; obtain ⟨j0, j1, j2, j3⟩ := hJ; go_simp; first | done | with_reducible rfl)
  refine wpJ_take (i := 13) (v := ?v11x13) rfl (by kernel_rfl) (by kernel_rfl) (by kernel_rfl) (fun _ _ _ h => h) (by kernel_rfl) ?hy11x13 HJ.out ?rest11x13
  case hy11x13 => (intro W' hJ; obtain ⟨j0, j1, j2, j3⟩ := hJ; go_simp; first | done | with_reducible rfl)
  have HVAL : Hid (z = iv s (a / d)) := by show _ = _; rw [HZ.out]; unfold ne; rw [HUP.out]; rfl
  skip
  refine wpJ_one (i := 14) (by kernel_rfl) rfl (by kernel_rfl) (fun K hK => ?_)
  go_simp
  have HRL : Hid (gr < W1.heap.size ∧ w.heap.size ≤ W1.heap.size) := ⟨Xr.out.lt, hbw.size⟩
  refine (rounded_f p m s x (-1) W1).mono ?_
  rintro e w9 ⟨rfl, hb9⟩
  replace Xf : Hid _ := Xf.out.below hb9
  replace Xr : Hid _ := Xr.out.below hb9
  replace H : Hid _ := H.out.below hb9
  replace hbw := Below.on hbw hb9
  clear hb9
  obtain ⟨b9, hb9⟩ : ∃ b, b = (s && decide (0 < m)) := ⟨_, rfl⟩
  rw [← hb9]
  have HB9 : Hid (b9 = (s && decide (0 < m))) := hb9
  clear hb9
  refine hK _ _ ⟨Xf.out.c0, Xf.out.c1, Xf.out.c2, Xf.out.c3⟩ ?_
  clear hK
  obtain ⟨cf0, cf1, cf2, cf3, ff0, ff1, ff2, ff3⟩ := Xf.out
  have hnef : gf < w9.heap.size := World.block_lt_of_cell? w9 _ cf0
  obtain ⟨cr0, cr1, fr0, fr1⟩ := Xr.out
  have hner := Xr.out.lt
  have hgd1 := HGD.out.1
  have hgd2 := HGD.out.2
  refine wpJ_one (i := 15) (by kernel_rfl) rfl (by kernel_rfl) (fun K hK => ?_)
  go_simp
  have HJ2 : Hid ((fun W' : World => (W'.cell? ⟨gf, 0, none⟩ = some (.bool s) ∧ W'.cell? ⟨gf, 1, none⟩ = some (.slice p m m) ∧ W'.cell? ⟨gf, 2, none⟩ = some (.bool x) ∧ W'.cell? ⟨gf, 3, none⟩ = some (.int .i64 (-1)))) ((w9.setCell ⟨gr, 0, none⟩ (.bool b9)).setCell ⟨gr, 1, none⟩ (.slice p m m))) := ⟨by go_simp, by go_simp, by go_simp, by go_simp⟩
  refine hK _ _ HJ2.out ?_
  clear hK
  refine wpJ_done (by kernel_rfl) ?_ _
  go_wp2_with fail
  refine bodyPost_ret (v := ZV b9 p m m) (by rw [results_cell1 rfl]; go_simp) rfl ⟨_, rfl, ?_, ?_⟩
  · rw [HB9.out, HVAL.out]
    exact AnsZ.mk _ ((H.out.own.setNot _ _ _ (HOF.out _ HGr.out)).setNot _ _ _ (HOF.out _ HGr.out)) H.out.nf H.out.le
  · exact bSet (bSet hbw _ _ _ HGr.out) _ _ _ HGr.out
set_option maxRecDepth 20000 in
set_option maxHeartbeats 4000000 in
theorem near_p {B : Nat} {p : Option Addr} {m : Nat} {zs : List Nat} {a d : Nat} {w : World} (s x : Bool) (h : FrIs B w s a d p m zs x (1)) (hB : B ≤ w.heap.size) (hd : 0 < d) :
    Calls Tryz.prog 40 #[FR s p m m x (1)] w fun e w' => ∃ v, e = .returned v ∧ AnsZ B w' v (ne s a d) ∧ Below w.heap.size w w' := by
  have H : Hid (FrIs B w s a d p m zs x (1)) := h
  have HB : Hid (B ≤ w.heap.size) := hB
  obtain ⟨z, hz⟩ : ∃ z, z = ne s a d := ⟨_, rfl⟩
  rw [← hz]
  have HZ : Hid (z = ne s a d) := hz
  have HUP : Hid (neUp a d = (decide (0 < (1 : Int)) || (decide ((1 : Int) = 0) && decide (a / d % 2 = 1)))) := h.hf.up
  have HOF : Hid (∀ gg, w.heap.size ≤ gg → ∀ g, p = some ⟨g, 0, none⟩ → 0 < m → g ≠ gg) := fun gg hg => own_off H.out.own hg
  have HD : Hid (0 < d) := hd
  clear h hB hd hz
  go_enter Tryz.func40, Tryz.ntmps40
  go_wp2_with fail
  obtain ⟨W0, hW0⟩ : ∃ W0, W0 = ((w.alloc (.cells #[.bool s, .slice p m m, .bool x, .int .i64 (1)] 59)).alloc (.cells #[.bool false, .slice none 0 0] 28)) := ⟨_, rfl⟩
  have Xf : Hid (B4q W0 (w.heap.size) (.bool s) (.slice p m m) (.bool x) (.int .i64 (1))) := by rw [hW0]; exact ⟨by go_simp, by go_simp, by go_simp, by go_simp, by go_simp, by go_simp, by go_simp, by go_simp⟩
  have Xr : Hid (Box W0 (w.heap.size + 1) (.bool false) (.slice none 0 0)) := by rw [hW0]; exact ⟨by go_simp, by go_simp, by go_simp, by go_simp⟩
  have hb0 : Below w.heap.size w W0 := by rw [hW0]; exact below2 w _ _
  rw [← hW0]
  clear hW0
  have hbw : Below w.heap.size w w := Below.refl _ _
  obtain ⟨gr, hgr⟩ : ∃ g, g = w.heap.size + 1 := ⟨_, rfl⟩
  have HGr : Hid (w.heap.size ≤ gr) := by rw [hgr]; show _ ≤ _; omega
  rw [← hgr] at Xr
  try rw [← hgr]
  obtain ⟨gf, hgf⟩ : ∃ g, g = w.heap.size := ⟨_, rfl⟩
  have HGf : Hid (w.heap.size ≤ gf) := by rw [hgf]; show _ ≤ _; omega
  rw [← hgf] at Xf
  try rw [← hgf]
  have HGD : Hid (gf ≠ gr ∧ gr ≠ gf) := by rw [hgf, hgr]; exact ⟨by omega, by omega⟩
  clear hgf hgr
  replace H : Hid _ := H.out.below hb0
  replace hbw := Below.on hbw hb0
  clear hb0
  have HD1 : Hid (Below w.heap.size w W0.drew) := bDrew1 hbw
  have Xf2 : Hid (B4q W0.drew gf (.bool s) (.slice p m m) (.bool x) (.int .i64 (1))) := ⟨Xf.out.c0, Xf.out.c1, Xf.out.c2, Xf.out.c3, Xf.out.f0, Xf.out.f1, Xf.out.f2, Xf.out.f3⟩
  have Xr2 : Hid (Box W0.drew gr (.bool false) (.slice none 0 0)) := ⟨Xr.out.c0, Xr.out.c1, Xr.out.f0, Xr.out.f1⟩
  have H2 : Hid (FrIs B W0.drew s a d p m zs x (1)) := ⟨H.out.own.drewq, H.out.nf, H.out.le, H.out.ex, H.out.hf, H.out.lim⟩
  clear Xf Xr H hbw
  have Xf := Xf2
  have Xr := Xr2
  have H := H2
  have hbw := HD1.out
  clear Xf2 Xr2 H2 HD1
  have HJ : Hid ((fun W' : World => (W'.cell? ⟨gf, 0, none⟩ = some (.bool s) ∧ W'.cell? ⟨gf, 1, none⟩ = some (.slice p m m) ∧ W'.cell? ⟨gf, 2, none⟩ = some (.bool x) ∧ W'.cell? ⟨gf, 3, none⟩ = some (.int .i64 (1)))) W0.drew) := ⟨Xf.out.c0, Xf.out.c1, Xf.out.c2, Xf.out.c3⟩
  refine wp_region_J (fun W' => (W'.cell? ⟨gf, 0, none⟩ = some (.bool s) ∧ W'.cell? ⟨gf, 1, none⟩ = some (.slice p m m) ∧ W'.cell? ⟨gf, 2, none⟩ = some (.bool x) ∧ W'.cell? ⟨gf, 3, none⟩ = some (.int .i64 (1)))) (by kernel_rfl) ?_
  generalize W0.drew = W1 at *
  refine wpJ_take (i := 0) (v := ?v12x0) rfl (by kernel_rfl) (by kernel_rfl) (by kernel_rfl) (fun _ _ _ h => h) (by kernel_rfl) ?hy12x0 HJ.out ?rest12x0
  case hy12x0 => (intro W' hJ; obtain ⟨j0, j1, j2, j3⟩ := hJ; go_simp; first | done | with_reducible rfl)
  refine wpJ_take (i := 1) (v := ?v13x1) rfl (by kernel_rfl) (by kernel_rfl) (by kernel_rfl) (fun _ _ _ h => h) (by kernel_rfl) ?hy13x1 HJ.out ?rest13x1
  case hy13x1 => (intro W' hJ; obtain ⟨j0, j1, j2, j3⟩ := hJ; go_simp; first | done | with_reducible rfl)
  refine wpJ_take (i := 2) (v := ?v14x2) rfl (by kernel_rfl) (by kernel_rfl) (by kernel_rfl) (fun _ _ _ h => h) (by kernel_rfl) ?hy14x2 HJ.out ?rest14x2
  case hy14x2 => (intro W' hJ; obtain ⟨j0, j1, j2, j3⟩ := hJ; go_simp; first | done | with_reducible rfl)
  refine wpJ_take (i := 3) (v := ?v15x3) rfl (by kernel_rfl) (by kernel_rfl) (by kernel_rfl) (fun _ _ _ h => h) (by kernel_rfl) ?hy15x3 HJ.out ?rest15x3
  case hy15x3 => (intro W' hJ; obtain ⟨j0, j1, j2, j3⟩ := hJ; go_simp; first | done | with_reducible rfl)
  refine wpJ_take (i := 4) (v := ?v16x4) rfl (by kernel_rfl) (by kernel_rfl) (by kernel_rfl) (fun _ _ _ h => h) (by kernel_rfl) ?hy16x4 HJ.out ?rest16x4
  case hy16x4 => (intro W' hJ; obtain ⟨j0, j1, j2, j3⟩ := hJ; go_simp; first | done | with_reducible rfl)
  refine wpJ_skip (i := 5) rfl (by kernel_rfl) (by kernel_rfl) (by kernel_rfl) (fun _ _ _ h => h) (by kernel_rfl) HJ.out ?_
  refine wpJ_skip (i := 6) rfl (by kernel_rfl) (by kernel_rfl) (by kernel_rfl) (fun _ _ _ h => h) (by kernel_rfl) HJ.out ?_
  refine wpJ_skip (i := 7) rfl (by kernel_rfl) (by kernel_rfl) (by kernel_rfl) (fun _ _ _ h => h) (by kernel_rfl) HJ.out ?_
  refine wpJ_skip (i := 8) rfl (by kernel_rfl) (by kernel_rfl) (by kernel_rfl) (fun _ _ _ h => h) (by kernel_rfl) HJ.out ?_
  refine wpJ_skip (i := 9) rfl (by kernel_rfl) (by kernel_rfl) (by kernel_rfl) (fun _ _ _ h => h) (by kernel_rfl) HJ.out ?_
  refine wpJ_skip (i := 10) rfl (by kernel_rfl) (by kernel_rfl) (by kernel_rfl) (fun _ _ _ h => h) (by kernel_rfl) HJ.out ?_
  refine wpJ_skip (i := 11) rfl (by kernel_rfl) (by kernel_rfl) (by kernel_rfl) (fun _ _ _ h => h) (by kernel_rfl) HJ.out ?_
  refine wpJ_skip (i := 12) rfl (by kernel_rfl) (by kernel_rfl) (by kernel_rfl) (fun _ _ _ h => h) (by kernel_rfl) HJ.out ?_
  refine wpJ_take (i := 13) (v := ?v17x13) rfl (by kernel_rfl) (by kernel_rfl) (by kernel_rfl) (fun _ _ _ h => h) (by kernel_rfl) ?hy17x13 HJ.out ?rest17x13
  case hy17x13 => (intro W' hJ; obtain ⟨j0, j1, j2, j3⟩ := hJ; go_simp; first | done | with_reducible rfl)
  have HVAL : Hid (z = iv s (a / d + 1)) := by show _ = _; rw [HZ.out]; unfold ne; rw [HUP.out]; rfl
  skip
  refine wpJ_one (i := 14) (by kernel_rfl) rfl (by kernel_rfl) (fun K hK => ?_)
  go_simp
  have HRL : Hid (gr < W1.heap.size ∧ w.heap.size ≤ W1.heap.size) := ⟨Xr.out.lt, hbw.size⟩
  have HXT : Hid (x = true) := H.out.half HD.out (by decide)
  have H4 : FrIs B W1 s a d p m zs true (1) := by have h5 := H.out; rw [HXT.out] at h5; exact h5
  refine (rounded_t _ _ _ H4.own H4.nf H4.le H4.up).mono ?_
  rintro e w9 ⟨v, rfl, hv, hb9⟩
  clear H4
  replace Xf : Hid _ := Xf.out.below hb9
  replace Xr : Hid _ := Xr.out.below hb9
  replace H : Hid _ := H.out.below hb9
  replace hbw := Below.on hbw hb9
  clear hb9
  rw [← HVAL.out] at hv
  obtain ⟨p9, m9, z9, rfl, ho, hn, hm⟩ := hv
  have HO9 : Hid (Own W1.heap.size w9 p9 m9 z9) := ho
  have HN9 : Hid (Nf B64 z9 z.natAbs ∧ m9 ≤ 8192) := ⟨hn, hm⟩
  clear ho hn hm
  obtain ⟨b9, hb9⟩ : ∃ b, b = decide (z < 0) := ⟨_, rfl⟩
  rw [← hb9]
  have HB9 : Hid (b9 = decide (z < 0)) := hb9
  clear hb9
  refine hK _ _ ⟨Xf.out.c0, Xf.out.c1, Xf.out.c2, Xf.out.c3⟩ ?_
  clear hK
  obtain ⟨cf0, cf1, cf2, cf3, ff0, ff1, ff2, ff3⟩ := Xf.out
  have hnef : gf < w9.heap.size := World.block_lt_of_cell? w9 _ cf0
  obtain ⟨cr0, cr1, fr0, fr1⟩ := Xr.out
  have hner := Xr.out.lt
  have hgd1 := HGD.out.1
  have hgd2 := HGD.out.2
  refine wpJ_one (i := 15) (by kernel_rfl) rfl (by kernel_rfl) (fun K hK => ?_)
  go_simp
  have HJ2 : Hid ((fun W' : World => (W'.cell? ⟨gf, 0, none⟩ = some (.bool s) ∧ W'.cell? ⟨gf, 1, none⟩ = some (.slice p m m) ∧ W'.cell? ⟨gf, 2, none⟩ = some (.bool x) ∧ W'.cell? ⟨gf, 3, none⟩ = some (.int .i64 (1)))) ((w9.setCell ⟨gr, 0, none⟩ (.bool b9)).setCell ⟨gr, 1, none⟩ (.slice p9 m9 m9))) := ⟨by go_simp, by go_simp, by go_simp, by go_simp⟩
  refine hK _ _ HJ2.out ?_
  clear hK
  refine wpJ_done (by kernel_rfl) ?_ _
  go_wp2_with fail
  refine bodyPost_ret (v := ZV b9 p9 m9 m9) (by rw [results_cell1 rfl]; go_simp) rfl ⟨_, rfl, ⟨p9, m9, z9, by rw [HB9.out], ?_, HN9.out.1, HN9.out.2⟩, ?_⟩
  · exact own_set2 HO9.out HRL.out.1 (Nat.le_trans HB.out HRL.out.2) _ _
  · exact bSet (bSet hbw _ _ _ HGr.out) _ _ _ HGr.out
set_option maxRecDepth 20000 in
set_option maxHeartbeats 4000000 in
theorem near_z {B : Nat} {p : Option Addr} {m : Nat} {zs : List Nat} {a d : Nat} {w : World} (s x : Bool) (h : FrIs B w s a d p m zs x (0)) (hB : B ≤ w.heap.size) (hd : 0 < d) :
    Calls Tryz.prog 40 #[FR s p m m x (0)] w fun e w' => ∃ v, e = .returned v ∧ AnsZ B w' v (ne s a d) ∧ Below w.heap.size w w' := by
  have H : Hid (FrIs B w s a d p m zs x (0)) := h
  have HB : Hid (B ≤ w.heap.size) := hB
  obtain ⟨z, hz⟩ : ∃ z, z = ne s a d := ⟨_, rfl⟩
  rw [← hz]
  have HZ : Hid (z = ne s a d) := hz
  have HUP : Hid (neUp a d = (decide (0 < (0 : Int)) || (decide ((0 : Int) = 0) && decide (a / d % 2 = 1)))) := h.hf.up
  have HOF : Hid (∀ gg, w.heap.size ≤ gg → ∀ g, p = some ⟨g, 0, none⟩ → 0 < m → g ≠ gg) := fun gg hg => own_off H.out.own hg
  have HD : Hid (0 < d) := hd
  clear h hB hd hz
  go_enter Tryz.func40, Tryz.ntmps40
  go_wp2_with fail
  obtain ⟨W0, hW0⟩ : ∃ W0, W0 = ((w.alloc (.cells #[.bool s, .slice p m m, .bool x, .int .i64 (0)] 59)).alloc (.cells #[.bool false, .slice none 0 0] 28)) := ⟨_, rfl⟩
  have Xf : Hid (B4q W0 (w.heap.size) (.bool s) (.slice p m m) (.bool x) (.int .i64 (0))) := by rw [hW0]; exact ⟨by go_simp, by go_simp, by go_simp, by go_simp, by go_simp, by go_simp, by go_simp, by go_simp⟩
  have Xr : Hid (Box W0 (w.heap.size + 1) (.bool false) (.slice none 0 0)) := by rw [hW0]; exact ⟨by go_simp, by go_simp, by go_simp, by go_simp⟩
  have hb0 : Below w.heap.size w W0 := by rw [hW0]; exact below2 w _ _
  rw [← hW0]
  clear hW0
  have hbw : Below w.heap.size w w := Below.refl _ _
  obtain ⟨gr, hgr⟩ : ∃ g, g = w.heap.size + 1 := ⟨_, rfl⟩
  have HGr : Hid (w.heap.size ≤ gr) := by rw [hgr]; show _ ≤ _; omega
  rw [← hgr] at Xr
  try rw [← hgr]
  obtain ⟨gf, hgf⟩ : ∃ g, g = w.heap.size := ⟨_, rfl⟩
  have HGf : Hid (w.heap.size ≤ gf) := by rw [hgf]; show _ ≤ _; omega
  rw [← hgf] at Xf
  try rw [← hgf]
  have HGD : Hid (gf ≠ gr ∧ gr ≠ gf) := by rw [hgf, hgr]; exact ⟨by omega, by omega⟩
  clear hgf hgr
  replace H : Hid _ := H.out.below hb0
  replace hbw := Below.on hbw hb0
  clear hb0
  have HD1 : Hid (Below w.heap.size w W0.drew) := bDrew1 hbw
  have Xf2 : Hid (B4q W0.drew gf (.bool s) (.slice p m m) (.bool x) (.int .i64 (0))) := ⟨Xf.out.c0, Xf.out.c1, Xf.out.c2, Xf.out.c3, Xf.out.f0, Xf.out.f1, Xf.out.f2, Xf.out.f3⟩
  have Xr2 : Hid (Box W0.drew gr (.bool false) (.slice none 0 0)) := ⟨Xr.out.c0, Xr.out.c1, Xr.out.f0, Xr.out.f1⟩
  have H2 : Hid (FrIs B W0.drew s a d p m zs x (0)) := ⟨H.out.own.drewq, H.out.nf, H.out.le, H.out.ex, H.out.hf, H.out.lim⟩
  clear Xf Xr H hbw
  have Xf := Xf2
  have Xr := Xr2
  have H := H2
  have hbw := HD1.out
  clear Xf2 Xr2 H2 HD1
  have HJ : Hid ((fun W' : World => (W'.cell? ⟨gf, 0, none⟩ = some (.bool s) ∧ W'.cell? ⟨gf, 1, none⟩ = some (.slice p m m) ∧ W'.cell? ⟨gf, 2, none⟩ = some (.bool x) ∧ W'.cell? ⟨gf, 3, none⟩ = some (.int .i64 (0)))) W0.drew) := ⟨Xf.out.c0, Xf.out.c1, Xf.out.c2, Xf.out.c3⟩
  refine wp_region_J (fun W' => (W'.cell? ⟨gf, 0, none⟩ = some (.bool s) ∧ W'.cell? ⟨gf, 1, none⟩ = some (.slice p m m) ∧ W'.cell? ⟨gf, 2, none⟩ = some (.bool x) ∧ W'.cell? ⟨gf, 3, none⟩ = some (.int .i64 (0)))) (by kernel_rfl) ?_
  generalize W0.drew = W1 at *
  refine wpJ_take (i := 0) (v := ?v18x0) rfl (by kernel_rfl) (by kernel_rfl) (by kernel_rfl) (fun _ _ _ h => h) (by kernel_rfl) ?hy18x0 HJ.out ?rest18x0
  case hy18x0 => (intro W' hJ; obtain ⟨j0, j1, j2, j3⟩ := hJ; go_simp; first | done | with_reducible rfl)
  refine wpJ_take (i := 1) (v := ?v19x1) rfl (by kernel_rfl) (by kernel_rfl) (by kernel_rfl) (fun _ _ _ h => h) (by kernel_rfl) ?hy19x1 HJ.out ?rest19x1
  case hy19x1 => (intro W' hJ; obtain ⟨j0, j1, j2, j3⟩ := hJ; go_simp; first | done | with_reducible rfl)
  refine wpJ_take (i := 2) (v := ?v20x2) rfl (by kernel_rfl) (by kernel_rfl) (by kernel_rfl) (fun _ _ _ h => h) (by kernel_rfl) ?hy20x2 HJ.out ?rest20x2
  case hy20x2 => (intro W' hJ; obtain ⟨j0, j1, j2, j3⟩ := hJ; go_simp; first | done | with_reducible rfl)
  refine wpJ_take (i := 3) (v := ?v21x3) rfl (by kernel_rfl) (by kernel_rfl) (by kernel_rfl) (fun _ _ _ h => h) (by kernel_rfl) ?hy21x3 HJ.out ?rest21x3
  case hy21x3 => (intro W' hJ; obtain ⟨j0, j1, j2, j3⟩ := hJ; go_simp; first | done | with_reducible rfl)
  refine wpJ_take (i := 4) (v := ?v22x4) rfl (by kernel_rfl) (by kernel_rfl) (by kernel_rfl) (fun _ _ _ h => h) (by kernel_rfl) ?hy22x4 HJ.out ?rest22x4
  case hy22x4 => (intro W' hJ; obtain ⟨j0, j1, j2, j3⟩ := hJ; go_simp; first | done | with_reducible rfl)
  refine wpJ_take (i := 5) (v := ?v23x5) rfl (by kernel_rfl) (by kernel_rfl) (by kernel_rfl) (fun _ _ _ h => h) (by kernel_rfl) ?hy23x5 HJ.out ?rest23x5
  case hy23x5 => (intro W' hJ; obtain ⟨j0, j1, j2, j3⟩ := hJ; go_simp; first | done | with_reducible rfl)
  refine wpJ_take (i := 6) (v := ?v24x6) rfl (by kernel_rfl) (by kernel_rfl) (by kernel_rfl) (fun _ _ _ h => h) (by kernel_rfl) ?hy24x6 HJ.out ?rest24x6
  case hy24x6 => (intro W' hJ; obtain ⟨j0, j1, j2, j3⟩ := hJ; go_simp; first | done | with_reducible rfl)
  refine wpJ_take (i := 7) (v := ?v25x7) rfl (by kernel_rfl) (by kernel_rfl) (by kernel_rfl) (fun _ _ _ h => h) (by kernel_rfl) ?hy25x7 HJ.out ?rest25x7
  case hy25x7 => (intro W' hJ; obtain ⟨j0, j1, j2, j3⟩ := hJ; go_simp; first | done | with_reducible rfl)
  refine wpJ_take (i := 8) (v := ?v26x8) rfl (by kernel_rfl) (by kernel_rfl) (by kernel_rfl) (fun _ _ _ h => h) (by kernel_rfl) ?hy26x8 HJ.out ?rest26x8
  case hy26x8 => (intro W' hJ; obtain ⟨j0, j1, j2, j3⟩ := hJ; go_simp; first | done | with_reducible rfl)
  refine wpJ_take (i := 9) (v := ?v27x9) rfl (by kernel_rfl) (by kernel_rfl) (by kernel_rfl) (fun _ _ _ h => h) (by kernel_rfl) ?hy27x9 HJ.out ?rest27x9
  case hy27x9 => (intro W' hJ; obtain ⟨j0, j1, j2, j3⟩ := hJ; go_simp; first | done | with_reducible rfl)
  refine wpJ_take (i := 10) (v := ?v28x10) rfl (by kernel_rfl) (by kernel_rfl) (by kernel_rfl) (fun _ _ _ h => h) (by kernel_rfl) ?hy28x10 HJ.out ?rest28x10
  case hy28x10 => (intro W' hJ; obtain ⟨j0, j1, j2, j3⟩ := hJ; go_simp; first | done | with_reducible rfl)
  refine wpJ_one (i := 11) (by kernel_rfl) rfl (by kernel_rfl) (fun K hK => ?_)
  go_simp
  refine (bit_int (i := 0) (H.out.own.at_ H.out.le) (by have := H.out.le; omega) (by decide)).mono ?_
  rintro e w2 ⟨rfl, hw⟩
  obtain rfl := hw.symm
  clear hw
  rw [show bitO (valB B64 zs) 0 = decide (a / d % 2 = 1) from by unfold bitO; rw [if_neg (by omega), H.out.nf.val]; simp]
  refine hK _ _ HJ.out ?_
  clear hK
  by_cases hbit : a / d % 2 = 1
  · rw [decide_eq_true hbit]
    have HBIT : Hid (decide (a / d % 2 = 1) = true) := decide_eq_true hbit
    clear hbit
    refine wpJ_take (i := 12) (v := ?v29x12) rfl (by kernel_rfl) (by kernel_rfl) (by kernel_rfl) (fun _ _ _ h => h) (by kernel_rfl) ?hy29x12 HJ.out ?rest29x12
    case hy29x12 => (intro W' hJ; obtain ⟨j0, j1, j2, j3⟩ := hJ; go_simp; first | done | with_reducible rfl)
    refine wpJ_take (i := 13) (v := ?v30x13) rfl (by kernel_rfl) (by kernel_rfl) (by kernel_rfl) (fun _ _ _ h => h) (by kernel_rfl) ?hy30x13 HJ.out ?rest30x13
    case hy30x13 => (intro W' hJ; obtain ⟨j0, j1, j2, j3⟩ := hJ; go_simp; first | done | with_reducible rfl)
    have HVAL : Hid (z = iv s (a / d + 1)) := by show _ = _; rw [HZ.out]; unfold ne; rw [HUP.out]; rw [HBIT.out]; rfl
    skip
    refine wpJ_one (i := 14) (by kernel_rfl) rfl (by kernel_rfl) (fun K hK => ?_)
    go_simp
    have HRL : Hid (gr < W1.heap.size ∧ w.heap.size ≤ W1.heap.size) := ⟨Xr.out.lt, hbw.size⟩
    have HXT : Hid (x = true) := H.out.half HD.out (by decide)
    have H4 : FrIs B W1 s a d p m zs true (0) := by have h5 := H.out; rw [HXT.out] at h5; exact h5
    refine (rounded_t _ _ _ H4.own H4.nf H4.le H4.up).mono ?_
    rintro e w9 ⟨v, rfl, hv, hb9⟩
    clear H4
    replace Xf : Hid _ := Xf.out.below hb9
    replace Xr : Hid _ := Xr.out.below hb9
    replace H : Hid _ := H.out.below hb9
    replace hbw := Below.on hbw hb9
    clear hb9
    rw [← HVAL.out] at hv
    obtain ⟨p9, m9, z9, rfl, ho, hn, hm⟩ := hv
    have HO9 : Hid (Own W1.heap.size w9 p9 m9 z9) := ho
    have HN9 : Hid (Nf B64 z9 z.natAbs ∧ m9 ≤ 8192) := ⟨hn, hm⟩
    clear ho hn hm
    obtain ⟨b9, hb9⟩ : ∃ b, b = decide (z < 0) := ⟨_, rfl⟩
    rw [← hb9]
    have HB9 : Hid (b9 = decide (z < 0)) := hb9
    clear hb9
    refine hK _ _ ⟨Xf.out.c0, Xf.out.c1, Xf.out.c2, Xf.out.c3⟩ ?_
    clear hK
    obtain ⟨cf0, cf1, cf2, cf3, ff0, ff1, ff2, ff3⟩ := Xf.out
    have hnef : gf < w9.heap.size := World.block_lt_of_cell? w9 _ cf0
    obtain ⟨cr0, cr1, fr0, fr1⟩ := Xr.out
    have hner := Xr.out.lt
    have hgd1 := HGD.out.1
    have hgd2 := HGD.out.2
    refine wpJ_one (i := 15) (by kernel_rfl) rfl (by kernel_rfl) (fun K hK => ?_)
    go_simp
    have HJ2 : Hid ((fun W' : World => (W'.cell? ⟨gf, 0, none⟩ = some (.bool s) ∧ W'.cell? ⟨gf, 1, none⟩ = some (.slice p m m) ∧ W'.cell? ⟨gf, 2, none⟩ = some (.bool x) ∧ W'.cell? ⟨gf, 3, none⟩ = some (.int .i64 (0)))) ((w9.setCell ⟨gr, 0, none⟩ (.bool b9)).setCell ⟨gr, 1, none⟩ (.slice p9 m9 m9))) := ⟨by go_simp, by go_simp, by go_simp, by go_simp⟩
    refine hK _ _ HJ2.out ?_
    clear hK
    refine wpJ_done (by kernel_rfl) ?_ _
    go_wp2_with fail
    refine bodyPost_ret (v := ZV b9 p9 m9 m9) (by rw [results_cell1 rfl]; go_simp) rfl ⟨_, rfl, ⟨p9, m9, z9, by rw [HB9.out], ?_, HN9.out.1, HN9.out.2⟩, ?_⟩
    · exact own_set2 HO9.out HRL.out.1 (Nat.le_trans HB.out HRL.out.2) _ _
    · exact bSet (bSet hbw _ _ _ HGr.out) _ _ _ HGr.out
  · rw [decide_eq_false hbit]
    have HBIT : Hid (decide (a / d % 2 = 1) = false) := decide_eq_false hbit
    clear hbit
    refine wpJ_take (i := 12) (v := ?v31x12) rfl (by kernel_rfl) (by kernel_rfl) (by kernel_rfl) (fun _ _ _ h => h) (by kernel_rfl) ?hy31x12 HJ.out ?rest31x12
    case hy31x12 => (intro W' hJ; obtain ⟨j0, j1, j2, j3⟩ := hJ; go_simp; first | done | with_reducible rfl)
    refine wpJ_take (i := 13) (v := ?v32x13) rfl (by kernel_rfl) (by kernel_rfl) (by kernel_rfl) (fun _ _ _ h => h) (by kernel_rfl) ?hy32x13 HJ.out ?rest32x13
    case hy32x13 => (intro W' hJ; obtain ⟨j0, j1, j2, j3⟩ := hJ; go_simp; first | done | with_reducible rfl)
    have HVAL : Hid (z = iv s (a / d)) := by show _ = _; rw [HZ.out]; unfold ne; rw [HUP.out]; rw [HBIT.out]; rfl
    skip
    refine wpJ_one (i := 14) (by kernel_rfl) rfl (by kernel_rfl) (fun K hK => ?_)
    go_simp
    have HRL : Hid (gr < W1.heap.size ∧ w.heap.size ≤ W1.heap.size) := ⟨Xr.out.lt, hbw.size⟩
    refine (rounded_f p m s x (0) W1).mono ?_
    rintro e w9 ⟨rfl, hb9⟩
    replace Xf : Hid _ := Xf.out.below hb9
    replace Xr : Hid _ := Xr.out.below hb9
    replace H : Hid _ := H.out.below hb9
    replace hbw := Below.on hbw hb9
    clear hb9
    obtain ⟨b9, hb9⟩ : ∃ b, b = (s && decide (0 < m)) := ⟨_, rfl⟩
    rw [← hb9]
    have HB9 : Hid (b9 = (s && decide (0 < m))) := hb9
    clear hb9
    refine hK _ _ ⟨Xf.out.c0, Xf.out.c1, Xf.out.c2, Xf.out.c3⟩ ?_
    clear hK
    obtain ⟨cf0, cf1, cf2, cf3, ff0, ff1, ff2, ff3⟩ := Xf.out
    have hnef : gf < w9.heap.size := World.block_lt_of_cell? w9 _ cf0
    obtain ⟨cr0, cr1, fr0, fr1⟩ := Xr.out
    have hner := Xr.out.lt
    have hgd1 := HGD.out.1
    have hgd2 := HGD.out.2
    refine wpJ_one (i := 15) (by kernel_rfl) rfl (by kernel_rfl) (fun K hK => ?_)
    go_simp
    have HJ2 : Hid ((fun W' : World => (W'.cell? ⟨gf, 0, none⟩ = some (.bool s) ∧ W'.cell? ⟨gf, 1, none⟩ = some (.slice p m m) ∧ W'.cell? ⟨gf, 2, none⟩ = some (.bool x) ∧ W'.cell? ⟨gf, 3, none⟩ = some (.int .i64 (0)))) ((w9.setCell ⟨gr, 0, none⟩ (.bool b9)).setCell ⟨gr, 1, none⟩ (.slice p m m))) := ⟨by go_simp, by go_simp, by go_simp, by go_simp⟩
    refine hK _ _ HJ2.out ?_
    clear hK
    refine wpJ_done (by kernel_rfl) ?_ _
    go_wp2_with fail
    refine bodyPost_ret (v := ZV b9 p m m) (by rw [results_cell1 rfl]; go_simp) rfl ⟨_, rfl, ?_, ?_⟩
    · rw [HB9.out, HVAL.out]
      exact AnsZ.mk _ ((H.out.own.setNot _ _ _ (HOF.out _ HGr.out)).setNot _ _ _ (HOF.out _ HGr.out)) H.out.nf H.out.le
    · exact bSet (bSet hbw _ _ _ HGr.out) _ _ _ HGr.out
theorem near_any {B : Nat} {p : Option Addr} {m : Nat} {zs : List Nat} {a d : Nat} {w : World} (s x : Bool) (hf : Int) (h : FrIs B w s a d p m zs x hf) (hB : B ≤ w.heap.size) (hd : 0 < d) :
    Calls Tryz.prog 40 #[FR s p m m x hf] w fun e w' => ∃ v, e = .returned v ∧ AnsZ B w' v (ne s a d) ∧ Below w.heap.size w w' := by
  have hh : hf = -1 ∨ hf = 0 ∨ hf = 1 := by rcases h.hf with ⟨_, e⟩ | ⟨_, e⟩ | ⟨_, e⟩ <;> simp [e]
  rcases hh with rfl | rfl | rfl
  · exact near_m s x h hB hd
  · exact near_z s x h hB hd
  · exact near_p s x h hB hd
end Go.Proofs.YtgodajcnhipleaaGreatDoor

namespace Go.Proofs.YtgodajcnhipleaaGreatDoor
open Go.RowKit

theorem div_pow_zero {a n : Nat} (h : bitsN a ≤ n) : a / 2 ^ n = 0 := Nat.div_eq_of_lt ((lt_pow_bits a n).2 h)
theorem len_bits {xs : List Nat} {a m : Nat} (hx : Nf B64 xs a) (hl : xs.length = m) : bitsN a ≤ 64 * m := by
  rw [← lt_pow_bits, ← B64_pow]; exact (hx.len_le B64_one).1 (by omega)
theorem drop_div {xs : List Nat} {a k : Nat} (hx : Nf B64 xs a) (hk : k ≤ xs.length) : valB B64 (xs.drop k) = a / B64 ^ k := by
  have h1 := valB_split B64 xs k hk
  have h2 := valB_lt B64_pos (hx.dig.take k)
  rw [List.length_take, Nat.min_eq_left hk] at h2
  rw [hx.val] at h1
  rw [h1, Nat.add_mul_div_left _ _ (Nat.pow_pos B64_pos), Nat.div_eq_of_lt h2, Nat.zero_add]
theorem shr_split (n a : Nat) : a / B64 ^ (n / 64) / 2 ^ (n % 64) = a / 2 ^ n := by
  rw [B64_pow, Nat.div_div_eq_div_mul, ← Nat.pow_add, Nat.div_add_mod]
theorem Own.empty (B : Nat) (w : World) (p : Option Addr) : Own B w p 0 [] := ⟨rfl, Dig.nil _, .inl rfl⟩
theorem At.drop {w : World} {g off n c : Nat} {xs : List Nat} (h : At w (some ⟨g, off, none⟩) n c xs) (k : Nat) (hk : k < n) : At w (some ⟨g, off + k, none⟩) (n - k) (n - k) (xs.drop k) := by
  have h1 := h.len; have h2 := h.cap; have h3 := h.big
  refine ⟨by rw [List.length_drop, h1], Nat.le_refl _, by omega, h.dig.drop k, .inr ⟨g, off + k, rfl, fun j hj => ?_⟩⟩
  obtain ⟨g', off', hp, hc⟩ := h.cells.resolve_left (by omega)
  simp only [Option.some.injEq, Addr.mk.injEq, and_true] at hp
  obtain ⟨rfl, rfl⟩ := hp
  have e : (xs.drop k).getD j 0 = xs.getD (k + j) 0 := by rw [List.getD_eq_getElem?_getD, List.getD_eq_getElem?_getD, List.getElem?_drop]
  rw [e, Nat.add_assoc]; exact hc (k + j) (by omega)

set_option maxRecDepth 20000 in
set_option maxHeartbeats 1000000 in
theorem shr_nf {p : Option Addr} {m c : Nat} {xs : List Nat} {a : Nat} {w : World} (h : At w p m c xs) (hx : Nf B64 xs a) (hm : m ≤ 8192) (n : Nat) (hn : n ≤ 9223372036854775807) :
    Calls Tryz.prog 68 #[.slice p m c, .int .i64 n] w fun e w' =>
      (∃ p' m' zs, e = .returned (.tuple #[.slice p' m' m', .int .i64 0]) ∧ Own w.heap.size w' p' m' zs ∧ Nf B64 zs (a / 2 ^ n) ∧ m' ≤ 8192) ∧ Below w.heap.size w w' := by
  have fx := hx.form (by rw [h.len]; exact hm)
  have hl := h.len
  have hcap := h.cap
  have HX : Hid (Nf B64 xs a) := hx
  have hbm := len_bits hx hl
  clear hx
  go_enter Tryz.func68, Tryz.ntmps68
  go_wp2_with fail
  refine (form_true h fx).mono ?_
  rintro e w' ⟨rfl, hw⟩
  obtain rfl := hw.symm
  clear hw fx
  go_wp2_with fail
  refine (bits_any h (by omega)).mono ?_
  rintro e w' ⟨rfl, hw⟩
  obtain rfl := hw.symm
  clear hw
  rw [HX.out.val]
  by_cases hbig : bitsN a ≤ n
  · have HZ : Hid (a / 2 ^ n = 0) := div_pow_zero hbig
    go_wp2_with fail
    go_ret2
    exact ⟨⟨none, 0, [], rfl, Own.empty _ _ _, by rw [HZ.out]; exact Nf.nil _, by omega⟩, Below.refl _ _⟩
  · obtain ⟨g, off, rfl, _⟩ := h.cells.resolve_left (by omega)
    have hkm : n / 64 < m := by omega
    go_wp2_with fail
    rw [show ((n : Int) / 64) = ((n / 64 : Nat) : Int) by omega]
    refine (cut_row g off m c (n / 64) _ hcap (by omega)).mono ?_
    rintro e w1 ⟨rfl, r, hw⟩
    obtain rfl := hw.symm
    clear hw
    rw [cutOff_lt hkm]
    have A1 := (h.drop (n / 64) hkm).drewN r
    go_wp2_with fail
    refine (copied_any A1 (m - n / 64) (Nat.le_refl _) (by omega)).mono ?_
    rintro e w2 ⟨g2, rfl, hg, hblk, hb⟩
    rw [Nat.sub_self, List.replicate_zero, List.append_nil] at hblk
    have hr := hblk.row A1.dig
    rw [A1.len] at hr
    go_wp2_with fail
    rw [show ((n : Int) % 64) = ((n % 64 : Nat) : Int) by omega]
    refine (sdn_any g2 (m - n / 64) (m - n / 64) (n % 64) _ _ hr (Nat.le_refl _) (by omega) (by omega)).mono ?_
    rintro e w3 ⟨zs, rfl, hwr, hrow, hval⟩
    rw [drop_div HX.out (by omega), shr_split] at hval
    have A3 := hrow.at_ (Nat.le_refl _) (by unfold maxLen; omega)
    have hN := Nf.trim hrow.dig
    rw [hval] at hN
    have HV : Hid (Nf B64 (trimL zs) (a / 2 ^ n)) := hN
    have hb3 : Below w.heap.size w w3 := (bDrewN (Below.refl _ _) r).trans (hb.trans (hwr.below hg))
    clear hval hN hblk hr hb A1
    go_wp2_with fail
    refine (trim_any A3).mono ?_
    rintro e w4 ⟨p', m', rfl, hm', hp', hw⟩
    obtain rfl := hw.symm
    have HM : Hid (m' = (trimL zs).length) := hm'
    clear hw hm'
    go_wp2_with fail
    go_ret2
    have e1 := HM.out
    have e2 := trimL_length_le zs
    have e3 := hrow.len
    exact ⟨⟨p', m', trimL zs, rfl, hrow.own hg e1 hp', HV.out, by omega⟩, hb3⟩

end Go.Proofs.YtgodajcnhipleaaGreatDoor

namespace Go.Proofs.YtgodajcnhipleaaGreatDoor
open Go.RowKit Go.Shelf

set_option maxRecDepth 20000 in
set_option maxHeartbeats 4000000 in
theorem shifted_any {p : Option Addr} {m c : Nat} {xs : List Nat} {a k : Nat} {w : World} (s : Bool) (h : Num w p m c xs a) (hs : s = true → 0 < a) (n : Nat) (hn : n ≤ 9223372036854775807) (hk : TzO a k) (hT : Tab w) :
    Calls Tryz.prog 39 #[ZV s p m c, .int .i64 n] w fun e w' => ∃ p' m' zs x hf, e = .returned (.tuple #[FR s p' m' m' x hf, .int .i64 0]) ∧ Own w.heap.size w' p' m' zs ∧ Nf B64 zs (a / 2 ^ n) ∧ m' ≤ 8192 ∧ x = decide (a % 2 ^ n ≠ 0) ∧ HfIs (a % 2 ^ n) (2 ^ n) hf ∧ Below w.heap.size w w' := by
  have H : Hid (Num w p m c xs a) := h
  have HW0 : Hid (Num w p m c xs a ∧ Tab w) := ⟨h, hT⟩
  have HS : Hid (s = true → 0 < a) := hs
  have HK : Hid (TzO a k) := hk
  have HT : Hid (Tab w) := hT
  have HN : Hid (n ≤ 9223372036854775807) := hn
  have c0 : decide ((n : Int) < 0) = false := decide_eq_false (by omega)
  clear h hs hk hT
  go_enter Tryz.func39, Tryz.ntmps39
  go_wp2_with fail
  have X0 : Box (w.alloc (.cells #[.bool s, .slice p m c] 28)) w.heap.size (.bool s) (.slice p m c) := ⟨by go_simp, by go_simp, by go_simp, by go_simp⟩
  have hb0 := below1 w (.cells #[.bool s, .slice p m c] 28)
  have hsz : (w.alloc (.cells #[.bool s, .slice p m c] 28)).heap.size = w.heap.size + 1 := by simp
  generalize w.alloc (.cells #[.bool s, .slice p m c] 28) = W1 at *
  have R0 := B4q.new W1 59 (.bool false) (.slice none 0 0) (.bool false) (.int .i64 0)
  have hb1 := below1 W1 (.cells #[.bool false, .slice none 0 0, .bool false, .int .i64 0] 59)
  generalize W1.alloc (.cells #[.bool false, .slice none 0 0, .bool false, .int .i64 0] 59) = W at *
  rw [hsz] at R0
  obtain ⟨g, hg⟩ : ∃ g, g = w.heap.size := ⟨_, rfl⟩
  obtain ⟨r, hr⟩ : ∃ r, r = g + 1 := ⟨_, rfl⟩
  have HGR : Hid (w.heap.size ≤ g ∧ w.heap.size ≤ r ∧ r ≠ g) := ⟨by omega, by omega, by omega⟩
  rw [← hg, ← hr] at R0 ⊢
  rw [← hg] at X0
  clear hg hr hsz
  have HBW : Hid (Below w.heap.size w W) := Below.on hb0 hb1
  have XR : Hid (Box W g (.bool s) (.slice p m c) ∧ B4q W r (.bool false) (.slice none 0 0) (.bool false) (.int .i64 0)) := ⟨X0.below hb1, R0⟩
  have H2 : Hid (Num W p m c xs a) := H.out.below HBW.out
  have HT2 : Hid (Tab W) := HT.out.below HBW.out
  clear hb0 hb1 X0 R0 H HT
  refine (numform_t s H2.out HS.out).mono ?_
  rintro e w3 ⟨rfl, hb3⟩
  have XR3 : Hid (Box w3 g (.bool s) (.slice p m c) ∧ B4q w3 r (.bool false) (.slice none 0 0) (.bool false) (.int .i64 0)) := ⟨XR.out.1.below hb3, XR.out.2.below hb3⟩
  have H3 : Hid (Num w3 p m c xs a) := H2.out.below hb3
  have HT3 : Hid (Tab w3) := HT2.out.below hb3
  have HB3 : Hid (Below w.heap.size w w3) := Below.on HBW.out hb3
  clear hb3 XR H2 HT2 HBW c0
  obtain ⟨⟨x0, x1, x2, x3⟩, ⟨r0, r1, r2, r3, r4, r5, r6, r7⟩⟩ := XR3.out
  go_wp2_with fail
  refine (shr_nf H3.out.at_ H3.out.nf H3.out.le n HN.out).mono ?_
  rintro e w4 ⟨⟨p4, m4, z4, rfl, hO4, hN4, hm4⟩, hb4⟩
  have XR4 : Hid (Box w4 g (.bool s) (.slice p m c) ∧ B4q w4 r (.bool false) (.slice none 0 0) (.bool false) (.int .i64 0)) := ⟨XR3.out.1.below hb4, XR3.out.2.below hb4⟩
  have H4 : Hid (Num w4 p m c xs a) := H3.out.below hb4
  have HT4 : Hid (Tab w4) := HT3.out.below hb4
  have HB4 : Hid (Below w.heap.size w w4) := Below.on HB3.out hb4
  have O4 : Hid (Own w.heap.size w4 p4 m4 z4) := hO4.mono HB3.out.size
  have N4 : Hid (Nf B64 z4 (a / 2 ^ n) ∧ m4 ≤ 8192) := ⟨hN4, hm4⟩
  have HP4 : Hid (∀ g2, p4 = some ⟨g2, 0, none⟩ → 0 < m4 → g2 ≠ r) := by
    intro g2 hp hm
    rcases hO4.mem with h0 | ⟨g3, hp3, hB3, hr3⟩
    · omega
    · rw [hp] at hp3
      simp only [Option.some.injEq, Addr.mk.injEq, and_true] at hp3
      have := XR3.out.2.lt
      omega
  clear hb4 hO4 hN4 hm4 XR3 H3 HT3 HB3 x0 x1 x2 x3 r0 r1 r2 r3 r4 r5 r6 r7
  obtain ⟨⟨x0, x1, x2, x3⟩, ⟨r0, r1, r2, r3, r4, r5, r6, r7⟩⟩ := XR4.out
  have hgl : g < w4.heap.size := World.block_lt_of_cell? _ _ XR4.out.1.c0
  have hrl : r < w4.heap.size := XR4.out.2.lt
  have hz := H4.out.zero
  by_cases hm0 : 0 < m
  · have ha0 : a ≠ 0 := fun e => by have := hz.2 e; omega
    have hmb : decide ((0 : Int) < (m : Int)) = true := decide_eq_true (by omega)
    have hmb' : decide (0 < m) = true := decide_eq_true hm0
    have HA0 : Hid (a ≠ 0) := ha0
    have hmp : (0 : Int) < (m : Int) := by omega
    obtain ⟨b1, hb1⟩ : ∃ b1, b1 = decide ((k : Int) < (n : Int)) := ⟨_, rfl⟩
    have HB1 : Hid (b1 = decide ((k : Int) < (n : Int))) := hb1
    clear hz ha0 hb1
    go_wp2_with fail
    have F5 := B4q.new w4 59 (.bool s) (.slice p4 m4 m4) (.bool false) (.int .i64 (-1))
    have hb5 := below1 w4 (.cells #[.bool s, .slice p4 m4 m4, .bool false, .int .i64 (-1)] 59)
    generalize w4.alloc (.cells #[.bool s, .slice p4 m4 m4, .bool false, .int .i64 (-1)] 59) = W5 at *
    obtain ⟨fb, hfb⟩ : ∃ fb, fb = w4.heap.size := ⟨_, rfl⟩
    have HFB : Hid (w.heap.size ≤ fb ∧ fb ≠ g ∧ fb ≠ r) := ⟨by rw [hfb]; exact HB4.out.size, by omega, by omega⟩
    have HPX : Hid (∀ g2, p4 = some ⟨g2, 0, none⟩ → 0 < m4 → g2 ≠ fb ∧ g2 ≠ r) := by
      intro g2 hp hm
      rcases O4.out.mem with h0 | ⟨g3, hp3, hB3, hr3⟩
      · omega
      · rw [hp] at hp3
        simp only [Option.some.injEq, Addr.mk.injEq, and_true] at hp3
        have hl3 : g3 < w4.heap.size := World.block_lt_of_cell? _ _ (hr3.cell 0 (by omega))
        exact ⟨by omega, by have := HP4.out g3 (by rw [hp, hp3]) hm; omega⟩
    rw [← hfb] at F5 ⊢
    clear hfb hgl hrl x0 x1 x2 x3 r0 r1 r2 r3 r4 r5 r6 r7
    have XF : Hid (Box W5 g (.bool s) (.slice p m c) ∧ B4q W5 r (.bool false) (.slice none 0 0) (.bool false) (.int .i64 0) ∧ B4q W5 fb (.bool s) (.slice p4 m4 m4) (.bool false) (.int .i64 (-1))) := ⟨XR4.out.1.below hb5, XR4.out.2.below hb5, F5⟩
    have H5 : Hid (Num W5 p m c xs a) := H4.out.below hb5
    have HT5 : Hid (Tab W5) := HT4.out.below hb5
    have HB5 : Hid (Below w.heap.size w W5) := Below.on HB4.out hb5
    have O5 : Hid (Own w.heap.size W5 p4 m4 z4) := O4.out.below hb5
    have HPN : Hid (∀ g2, p4 = some ⟨g2, 0, none⟩ → 0 < m4 → g2 ≠ fb ∧ g2 ≠ r) := HPX.out
    clear hb5 F5 XR4 H4 HT4 HB4 O4
    refine (trail_any H5.out.at_ (by have := H5.out.le; omega) (by rw [H5.out.nf.val]; exact HK.out) HT5.out).mono ?_
    rintro e w6 ⟨rfl, hw⟩
    obtain rfl := hw.symm
    clear hw
    obtain ⟨⟨x0, x1, x2, x3⟩, ⟨r0, r1, r2, r3, r4, r5, r6, r7⟩, ⟨f0, f1, f2, f3, f4, f5, f6, f7⟩⟩ := XF.out
    have hne1 : ¬ fb = g := HFB.out.2.1
    have hne2 : ¬ fb = r := HFB.out.2.2
    have hne3 : ¬ g = fb := fun e => hne1 e.symm
    have hne4 : ¬ r = fb := fun e => hne2 e.symm
    go_wp2_with fail
    obtain ⟨b2, hb2⟩ : ∃ b2, b2 = decide (k < n) := ⟨_, rfl⟩
    rw [← hb2]
    have HB2 : Hid (b2 = decide (k < n)) := hb2
    have XF6 : Hid (Box (W5.setCell ⟨fb, 2, none⟩ (.bool b2)) g (.bool s) (.slice p m c) ∧ B4q (W5.setCell ⟨fb, 2, none⟩ (.bool b2)) r (.bool false) (.slice none 0 0) (.bool false) (.int .i64 0) ∧ B4q (W5.setCell ⟨fb, 2, none⟩ (.bool b2)) fb (.bool s) (.slice p4 m4 m4) (.bool b2) (.int .i64 (-1))) :=
      ⟨⟨by go_simp, by go_simp, by go_simp, by go_simp⟩, ⟨by go_simp, by go_simp, by go_simp, by go_simp, by go_simp, by go_simp, by go_simp, by go_simp⟩, ⟨by go_simp, by go_simp, by go_simp, by go_simp, by go_simp, by go_simp, by go_simp, by go_simp⟩⟩
    have HB6 : Hid (Below w.heap.size w (W5.setCell ⟨fb, 2, none⟩ (.bool b2))) := bSet HB5.out _ _ _ HFB.out.1
    have O6 : Hid (Own w.heap.size (W5.setCell ⟨fb, 2, none⟩ (.bool b2)) p4 m4 z4) := O5.out.setNot fb 2 _ (fun g2 hp hm => (HPN.out g2 hp hm).1)
    generalize W5.setCell ⟨fb, 2, none⟩ (.bool b2) = W6 at *
    have H6 : Hid (Num W6 p m c xs a) := HW0.out.1.below HB6.out
    have HT6 : Hid (Tab W6) := HW0.out.2.below HB6.out
    clear hb2 x0 x1 x2 x3 r0 r1 r2 r3 r4 r5 r6 r7 f0 f1 f2 f3 f4 f5 f6 f7 XF H5 HT5 HB5 O5
    refine (bit_int H6.out.at_ (by have := H6.out.le; omega) ((n : Int) - 1) (by omega)).mono ?_
    rintro e w7 ⟨rfl, hw⟩
    obtain rfl := hw.symm
    clear hw
    obtain ⟨bb, hbb⟩ : ∃ bb, bb = bitO (valB B64 xs) ((n : Int) - 1) := ⟨_, rfl⟩
    rw [← hbb]
    have HBB : Hid (bb = bitO a ((n : Int) - 1)) := by rw [H6.out.nf.val] at hbb; exact hbb
    clear hbb
    obtain ⟨⟨x0, x1, x2, x3⟩, ⟨r0, r1, r2, r3, r4, r5, r6, r7⟩, ⟨f0, f1, f2, f3, f4, f5, f6, f7⟩⟩ := XF6.out
    have HX : Hid (b2 = decide (a % 2 ^ n ≠ 0)) := by
      show _ = _
      rw [HB2.out]
      rcases HK.out with ⟨e, _⟩ | ⟨_, e⟩
      · exact absurd e HA0.out
      · exact tz_lt e
    have HTZ : Hid (TzIs a k) := by
      rcases HK.out with ⟨e, _⟩ | ⟨_, e⟩
      · exact absurd e HA0.out
      · exact e
    have HPR : Hid (∀ g2, p4 = some ⟨g2, 0, none⟩ → 0 < m4 → g2 ≠ r) := HP4.out
    cases bb
    · go_wp2_with fail
      refine bodyPost_ret (v := .tuple #[FR s p4 m4 m4 b2 (-1), .int .i64 0]) (by rw [results_cell_tmp rfl]; go_simp) rfl ?_
      exact ⟨p4, m4, z4, b2, (-1), rfl, (((O6.out.setNot r 0 _ (fun g2 hp hm => HPR.out g2 hp hm)).setNot r 1 _ (fun g2 hp hm => HPR.out g2 hp hm)).setNot r 2 _ (fun g2 hp hm => HPR.out g2 hp hm)).setNot r 3 _ (fun g2 hp hm => HPR.out g2 hp hm), N4.out.1, N4.out.2, HX.out, half_lt HBB.out rfl, bSet (bSet (bSet (bSet HB6.out _ _ _ HGR.out.2.1) _ _ _ HGR.out.2.1) _ _ _ HGR.out.2.1) _ _ _ HGR.out.2.1⟩
    · have XF7 : Hid (Box (W6.setCell ⟨fb, 3, none⟩ (.int .i64 0)) g (.bool s) (.slice p m c) ∧ B4q (W6.setCell ⟨fb, 3, none⟩ (.int .i64 0)) r (.bool false) (.slice none 0 0) (.bool false) (.int .i64 0) ∧ B4q (W6.setCell ⟨fb, 3, none⟩ (.int .i64 0)) fb (.bool s) (.slice p4 m4 m4) (.bool b2) (.int .i64 0)) :=
        ⟨⟨by go_simp, by go_simp, by go_simp, by go_simp⟩, ⟨by go_simp, by go_simp, by go_simp, by go_simp, by go_simp, by go_simp, by go_simp, by go_simp⟩, ⟨by go_simp, by go_simp, by go_simp, by go_simp, by go_simp, by go_simp, by go_simp, by go_simp⟩⟩
      have HB7 : Hid (Below w.heap.size w (W6.setCell ⟨fb, 3, none⟩ (.int .i64 0))) := bSet HB6.out _ _ _ HFB.out.1
      have O7 : Hid (Own w.heap.size (W6.setCell ⟨fb, 3, none⟩ (.int .i64 0)) p4 m4 z4) := O6.out.setNot fb 3 _ (fun g2 hp hm => (HPN.out g2 hp hm).1)
      go_wp2_with fail
      generalize W6.setCell ⟨fb, 3, none⟩ (.int .i64 0) = W7 at *
      have H7 : Hid (Num W7 p m c xs a) := HW0.out.1.below HB7.out
      have HT7 : Hid (Tab W7) := HW0.out.2.below HB7.out
      clear x0 x1 x2 x3 r0 r1 r2 r3 r4 r5 r6 r7 f0 f1 f2 f3 f4 f5 f6 f7 XF6 H6 HT6 HB6 O6
      refine (trail_any H7.out.at_ (by have := H7.out.le; omega) (by rw [H7.out.nf.val]; exact HK.out) HT7.out).mono ?_
      rintro e w8 ⟨rfl, hw⟩
      obtain rfl := hw.symm
      clear hw
      obtain ⟨⟨x0, x1, x2, x3⟩, ⟨r0, r1, r2, r3, r4, r5, r6, r7⟩, ⟨f0, f1, f2, f3, f4, f5, f6, f7⟩⟩ := XF7.out
      by_cases hk1 : (k : Int) < (n : Int) - 1
      · have hk1b : decide ((k : Int) < (n : Int) - 1) = true := decide_eq_true hk1
        have O8 : Hid (Own w.heap.size (W7.setCell ⟨fb, 3, none⟩ (.int .i64 1)) p4 m4 z4) := O7.out.setNot fb 3 _ (fun g2 hp hm => (HPN.out g2 hp hm).1)
        have HB8 : Hid (Below w.heap.size w (W7.setCell ⟨fb, 3, none⟩ (.int .i64 1))) := bSet HB7.out _ _ _ HFB.out.1
        go_wp2_with fail
        refine bodyPost_ret (v := .tuple #[FR s p4 m4 m4 b2 1, .int .i64 0]) (by rw [results_cell_tmp rfl]; go_simp) rfl ?_
        exact ⟨p4, m4, z4, b2, 1, rfl, (((O8.out.setNot r 0 _ (fun g2 hp hm => HPR.out g2 hp hm)).setNot r 1 _ (fun g2 hp hm => HPR.out g2 hp hm)).setNot r 2 _ (fun g2 hp hm => HPR.out g2 hp hm)).setNot r 3 _ (fun g2 hp hm => HPR.out g2 hp hm), N4.out.1, N4.out.2, HX.out, half_ge HBB.out HTZ.out (by rw [if_pos hk1]), bSet (bSet (bSet (bSet HB8.out _ _ _ HGR.out.2.1) _ _ _ HGR.out.2.1) _ _ _ HGR.out.2.1) _ _ _ HGR.out.2.1⟩
      · have hk1b : decide ((k : Int) < (n : Int) - 1) = false := decide_eq_false hk1
        go_wp2_with fail
        refine bodyPost_ret (v := .tuple #[FR s p4 m4 m4 b2 0, .int .i64 0]) (by rw [results_cell_tmp rfl]; go_simp) rfl ?_
        exact ⟨p4, m4, z4, b2, 0, rfl, (((O7.out.setNot r 0 _ (fun g2 hp hm => HPR.out g2 hp hm)).setNot r 1 _ (fun g2 hp hm => HPR.out g2 hp hm)).setNot r 2 _ (fun g2 hp hm => HPR.out g2 hp hm)).setNot r 3 _ (fun g2 hp hm => HPR.out g2 hp hm), N4.out.1, N4.out.2, HX.out, half_ge HBB.out HTZ.out (by rw [if_neg (Int.not_lt.2 hk1)]), bSet (bSet (bSet (bSet HB7.out _ _ _ HGR.out.2.1) _ _ _ HGR.out.2.1) _ _ _ HGR.out.2.1) _ _ _ HGR.out.2.1⟩
  · have ha0 : a = 0 := hz.1 (by omega)
    have hmb : decide ((0 : Int) < (m : Int)) = false := decide_eq_false (by omega)
    have hmb' : decide (0 < m) = false := decide_eq_false hm0
    have hmp : ¬ (0 : Int) < (m : Int) := by omega
    have HA0 : Hid (a = 0) := ha0
    clear hz ha0
    obtain ⟨fb, hfb⟩ : ∃ fb, fb = w4.heap.size := ⟨_, rfl⟩
    have HFB : Hid (w.heap.size ≤ fb ∧ fb ≠ g ∧ fb ≠ r) := ⟨by rw [hfb]; exact HB4.out.size, by omega, by omega⟩
    have HPX : Hid (∀ g2, p4 = some ⟨g2, 0, none⟩ → 0 < m4 → g2 ≠ fb ∧ g2 ≠ r) := by
      intro g2 hp hm
      rcases O4.out.mem with h0 | ⟨g3, hp3, hB3, hr3⟩
      · omega
      · rw [hp] at hp3
        simp only [Option.some.injEq, Addr.mk.injEq, and_true] at hp3
        have hl3 : g3 < w4.heap.size := World.block_lt_of_cell? _ _ (hr3.cell 0 (by omega))
        exact ⟨by omega, by have := HP4.out g3 (by rw [hp, hp3]) hm; omega⟩
    go_wp2_with fail
    have F5 := B4q.new w4 59 (.bool s) (.slice p4 m4 m4) (.bool false) (.int .i64 (-1))
    have hb5 := below1 w4 (.cells #[.bool s, .slice p4 m4 m4, .bool false, .int .i64 (-1)] 59)
    generalize w4.alloc (.cells #[.bool s, .slice p4 m4 m4, .bool false, .int .i64 (-1)] 59) = W5 at *
    rw [← hfb] at F5 ⊢
    have XF : Hid (Box W5 g (.bool s) (.slice p m c) ∧ B4q W5 r (.bool false) (.slice none 0 0) (.bool false) (.int .i64 0) ∧ B4q W5 fb (.bool s) (.slice p4 m4 m4) (.bool false) (.int .i64 (-1))) := ⟨XR4.out.1.below hb5, XR4.out.2.below hb5, F5⟩
    have H5 : Hid (Num W5 p m c xs a) := H4.out.below hb5
    have HB5 : Hid (Below w.heap.size w W5) := Below.on HB4.out hb5
    have O5 : Hid (Own w.heap.size W5 p4 m4 z4) := O4.out.below hb5
    clear hfb hgl hrl x0 x1 x2 x3 r0 r1 r2 r3 r4 r5 r6 r7 hb5 F5 XR4 H4 HT4 HB4 O4
    have XF6 := XF
    have HB6 := HB5
    have O6 := O5
    have H6 := H5
    clear XF HB5 O5 H5
    refine (bit_int H6.out.at_ (by have := H6.out.le; omega) ((n : Int) - 1) (by omega)).mono ?_
    rintro e w7 ⟨rfl, hw⟩
    obtain rfl := hw.symm
    clear hw
    rw [show bitO (valB B64 xs) ((n : Int) - 1) = false from by rw [H6.out.nf.val, HA0.out, bitO_half]; exact decide_eq_false (by rw [Nat.zero_mod]; have : 0 < 2 ^ n := Nat.pow_pos (by omega); omega)]
    obtain ⟨⟨x0, x1, x2, x3⟩, ⟨r0, r1, r2, r3, r4, r5, r6, r7⟩, ⟨f0, f1, f2, f3, f4, f5, f6, f7⟩⟩ := XF6.out
    have hne1 : ¬ fb = g := HFB.out.2.1
    have hne2 : ¬ fb = r := HFB.out.2.2
    have hne3 : ¬ g = fb := fun e => hne1 e.symm
    have hne4 : ¬ r = fb := fun e => hne2 e.symm
    have HPR : Hid (∀ g2, p4 = some ⟨g2, 0, none⟩ → 0 < m4 → g2 ≠ r) := HP4.out
    go_wp2_with fail
    refine bodyPost_ret (v := .tuple #[FR s p4 m4 m4 false (-1), .int .i64 0]) (by rw [results_cell_tmp rfl]; go_simp) rfl ?_
    exact ⟨p4, m4, z4, false, (-1), rfl, (((O6.out.setNot r 0 _ (fun g2 hp hm => HPR.out g2 hp hm)).setNot r 1 _ (fun g2 hp hm => HPR.out g2 hp hm)).setNot r 2 _ (fun g2 hp hm => HPR.out g2 hp hm)).setNot r 3 _ (fun g2 hp hm => HPR.out g2 hp hm), N4.out.1, N4.out.2, by rw [HA0.out, Nat.zero_mod]; rfl, .inl ⟨by rw [HA0.out, Nat.zero_mod]; have : 0 < 2 ^ n := Nat.pow_pos (by omega); omega, rfl⟩, bSet (bSet (bSet (bSet HB6.out _ _ _ HGR.out.2.1) _ _ _ HGR.out.2.1) _ _ _ HGR.out.2.1) _ _ _ HGR.out.2.1⟩
end Go.Proofs.YtgodajcnhipleaaGreatDoor

namespace Go.Proofs.YtgodajcnhipleaaGreatDoor
open Go.RowKit Go.Shelf

def GeW (B : Nat) (w : World) : Prop := B ≤ w.heap.size
theorem GeW.below {B : Nat} {w w' : World} (h : GeW B w) (hb : Below w.heap.size w w') : GeW B w' := Nat.le_trans h hb.size
set_option maxRecDepth 20000 in
set_option maxHeartbeats 4000000 in
theorem fshr_any {p : Option Addr} {m c : Nat} {xs : List Nat} {a : Nat} {w : World} (s : Bool) (h : Num w p m c xs a) (hs : s = true → 0 < a) (n : Nat) (hn : n ≤ 9223372036854775807) (hT : Tab w) :
    Calls Tryz.prog 63 #[ZV s p m c, .int .i64 n] w fun e w' => ∃ v, e = .returned (.tuple #[v, .int .i64 0]) ∧ AnsZ w.heap.size w' v (fl s a (2 ^ n)) ∧ Below w.heap.size w w' := by
  have H : Hid (Num w p m c xs a) := h
  have HS : Hid (s = true → 0 < a) := hs
  have HT : Hid (Tab w) := hT
  have HN : Hid (n ≤ 9223372036854775807) := hn
  obtain ⟨z, hz⟩ : ∃ z, z = fl s a (2 ^ n) := ⟨_, rfl⟩
  rw [← hz]
  have HZ : Hid (z = fl s a (2 ^ n)) := hz
  obtain ⟨k, hk⟩ := TzO.ex a
  have HK : Hid (TzO a k) := hk
  clear h hs hT hn hz hk
  go_enter Tryz.func63, Tryz.ntmps63
  go_wp2_with fail
  obtain ⟨W0, hW0⟩ : ∃ W0, W0 = ((w.alloc (.cells #[.bool s, .slice p m c] 28)).alloc (.cells #[.bool false, .slice none 0 0] 28)) := ⟨_, rfl⟩
  have Xx : Hid (Box W0 (w.heap.size) (.bool s) (.slice p m c)) := by rw [hW0]; exact ⟨by go_simp, by go_simp, by go_simp, by go_simp⟩
  have Xr : Hid (Box W0 (w.heap.size + 1) (.bool false) (.slice none 0 0)) := by rw [hW0]; exact ⟨by go_simp, by go_simp, by go_simp, by go_simp⟩
  have hb0 : Below w.heap.size w W0 := by rw [hW0]; exact below2 w _ _
  rw [← hW0]
  clear hW0
  have hbw : Below w.heap.size w w := Below.refl _ _
  obtain ⟨gr, hgr⟩ : ∃ g, g = w.heap.size + 1 := ⟨_, rfl⟩
  have HGr : Hid (w.heap.size ≤ gr) := by rw [hgr]; show _ ≤ _; omega
  rw [← hgr] at Xr
  try rw [← hgr]
  obtain ⟨gx, hgx⟩ : ∃ g, g = w.heap.size := ⟨_, rfl⟩
  have HGx : Hid (w.heap.size ≤ gx) := by rw [hgx]; show _ ≤ _; omega
  rw [← hgx] at Xx
  try rw [← hgx]
  have HGD : Hid (gx ≠ gr ∧ gr ≠ gx) := by rw [hgx, hgr]; exact ⟨by omega, by omega⟩
  clear hgx hgr
  replace H : Hid _ := H.out.below hb0
  replace HT : Hid (Tab W0) := HT.out.below hb0
  replace hbw := Below.on hbw hb0
  clear hb0
  have HSZ : Hid (GeW W0.heap.size W0) := Nat.le_refl _
  have HRL : Hid (gr < W0.heap.size ∧ w.heap.size ≤ W0.heap.size) := ⟨Xr.out.lt, hbw.size⟩
  refine (shifted_any s H.out HS.out n HN.out HK.out HT.out).mono ?_
  rintro e w2 ⟨p2, m2, z2, x2, hf2, rfl, ho2, hn2, hm2, hx2, hh2, hb2⟩
  replace Xx : Hid _ := Xx.out.below hb2
  replace Xr : Hid _ := Xr.out.below hb2
  replace H : Hid _ := H.out.below hb2
  replace HT : Hid (Tab w2) := HT.out.below hb2
  replace HSZ : Hid (GeW W0.heap.size w2) := HSZ.out.below hb2
  replace hbw := Below.on hbw hb2
  clear hb2
  have HF : Hid (FrIs W0.heap.size w2 s a (2 ^ n) p2 m2 z2 x2 hf2) := ⟨ho2, hn2, hm2, hx2, hh2, H.out.lim⟩
  clear ho2 hn2 hm2 hx2 hh2
  obtain ⟨cr0, cr1, fr0, fr1⟩ := Xr.out
  have hner := Xr.out.lt
  go_wp2_with fail
  clear cr0 cr1 fr0 fr1 hner
  have Xf0 : Hid (B4q (w2.alloc (.cells #[.bool s, .slice p2 m2 m2, .bool x2, .int .i64 hf2] 59)) w2.heap.size (.bool s) (.slice p2 m2 m2) (.bool x2) (.int .i64 hf2)) := B4q.new w2 _ _ _ _ _
  have hbn : Below w2.heap.size w2 (w2.alloc (.cells #[.bool s, .slice p2 m2 m2, .bool x2, .int .i64 hf2] 59)) := below1 w2 _
  generalize w2.alloc (.cells #[.bool s, .slice p2 m2 m2, .bool x2, .int .i64 hf2] 59) = W3 at *
  have HGf : Hid (w.heap.size ≤ w2.heap.size) := hbw.size
  replace Xx : Hid _ := Xx.out.below hbn
  replace Xr : Hid _ := Xr.out.below hbn
  replace H : Hid _ := H.out.below hbn
  replace HT : Hid (Tab W3) := HT.out.below hbn
  replace HSZ : Hid (GeW W0.heap.size W3) := HSZ.out.below hbn
  replace HF : Hid _ := HF.out.below hbn
  replace hbw := Below.on hbw hbn
  clear hbn
  generalize w2.heap.size = gf at *
  have Xf := Xf0
  clear Xf0
  have hBs : W0.heap.size ≤ W3.heap.size := HSZ.out
  refine (floor_any s x2 hf2 HF.out hBs).mono ?_
  rintro e w4 ⟨v, rfl, hv, hb4⟩
  clear hBs
  rw [← HZ.out] at hv
  obtain ⟨p4, m4, z4, rfl, ho, hn, hm⟩ := hv
  replace Xx : Hid _ := Xx.out.below hb4
  replace Xr : Hid _ := Xr.out.below hb4
  replace Xf : Hid _ := Xf.out.below hb4
  replace H : Hid _ := H.out.below hb4
  replace HT : Hid (Tab w4) := HT.out.below hb4
  replace HSZ : Hid (GeW W0.heap.size w4) := HSZ.out.below hb4
  replace HF : Hid _ := HF.out.below hb4
  replace hbw := Below.on hbw hb4
  clear hb4
  have HO4 : Hid (Own W0.heap.size w4 p4 m4 z4) := ho
  have HN4 : Hid (Nf B64 z4 z.natAbs ∧ m4 ≤ 8192) := ⟨hn, hm⟩
  clear ho hn hm
  obtain ⟨b9, hb9⟩ : ∃ b, b = decide (z < 0) := ⟨_, rfl⟩
  rw [← hb9]
  have HB9 : Hid (b9 = decide (z < 0)) := hb9
  clear hb9
  obtain ⟨cr0, cr1, fr0, fr1⟩ := Xr.out
  have hner := Xr.out.lt
  go_wp2_with fail
  refine bodyPost_ret (v := .tuple #[ZV b9 p4 m4 m4, .int .i64 0]) (by rw [results_cell_tmp rfl]; go_simp) rfl ⟨_, rfl, ⟨p4, m4, z4, by rw [HB9.out], ?_, HN4.out.1, HN4.out.2⟩, ?_⟩
  · exact own_set2 HO4.out HRL.out.1 HRL.out.2 _ _
  · exact bSet (bSet hbw _ _ _ HGr.out) _ _ _ HGr.out
set_option maxRecDepth 20000 in
set_option maxHeartbeats 4000000 in
theorem cshr_any {p : Option Addr} {m c : Nat} {xs : List Nat} {a : Nat} {w : World} (s : Bool) (h : Num w p m c xs a) (hs : s = true → 0 < a) (n : Nat) (hn : n ≤ 9223372036854775807) (hT : Tab w) :
    Calls Tryz.prog 64 #[ZV s p m c, .int .i64 n] w fun e w' => ∃ v, e = .returned (.tuple #[v, .int .i64 0]) ∧ AnsZ w.heap.size w' v (ce s a (2 ^ n)) ∧ Below w.heap.size w w' := by
  have H : Hid (Num w p m c xs a) := h
  have HS : Hid (s = true → 0 < a) := hs
  have HT : Hid (Tab w) := hT
  have HN : Hid (n ≤ 9223372036854775807) := hn
  obtain ⟨z, hz⟩ : ∃ z, z = ce s a (2 ^ n) := ⟨_, rfl⟩
  rw [← hz]
  have HZ : Hid (z = ce s a (2 ^ n)) := hz
  obtain ⟨k, hk⟩ := TzO.ex a
  have HK : Hid (TzO a k) := hk
  clear h hs hT hn hz hk
  go_enter Tryz.func64, Tryz.ntmps64
  go_wp2_with fail
  obtain ⟨W0, hW0⟩ : ∃ W0, W0 = ((w.alloc (.cells #[.bool s, .slice p m c] 28)).alloc (.cells #[.bool false, .slice none 0 0] 28)) := ⟨_, rfl⟩
  have Xx : Hid (Box W0 (w.heap.size) (.bool s) (.slice p m c)) := by rw [hW0]; exact ⟨by go_simp, by go_simp, by go_simp, by go_simp⟩
  have Xr : Hid (Box W0 (w.heap.size + 1) (.bool false) (.slice none 0 0)) := by rw [hW0]; exact ⟨by go_simp, by go_simp, by go_simp, by go_simp⟩
  have hb0 : Below w.heap.size w W0 := by rw [hW0]; exact below2 w _ _
  rw [← hW0]
  clear hW0
  have hbw : Below w.heap.size w w := Below.refl _ _
  obtain ⟨gr, hgr⟩ : ∃ g, g = w.heap.size + 1 := ⟨_, rfl⟩
  have HGr : Hid (w.heap.size ≤ gr) := by rw [hgr]; show _ ≤ _; omega
  rw [← hgr] at Xr
  try rw [← hgr]
  obtain ⟨gx, hgx⟩ : ∃ g, g = w.heap.size := ⟨_, rfl⟩
  have HGx : Hid (w.heap.size ≤ gx) := by rw [hgx]; show _ ≤ _; omega
  rw [← hgx] at Xx
  try rw [← hgx]
  have HGD : Hid (gx ≠ gr ∧ gr ≠ gx) := by rw [hgx, hgr]; exact ⟨by omega, by omega⟩
  clear hgx hgr
  replace H : Hid _ := H.out.below hb0
  replace HT : Hid (Tab W0) := HT.out.below hb0
  replace hbw := Below.on hbw hb0
  clear hb0
  have HSZ : Hid (GeW W0.heap.size W0) := Nat.le_refl _
  have HRL : Hid (gr < W0.heap.size ∧ w.heap.size ≤ W0.heap.size) := ⟨Xr.out.lt, hbw.size⟩
  refine (shifted_any s H.out HS.out n HN.out HK.out HT.out).mono ?_
  rintro e w2 ⟨p2, m2, z2, x2, hf2, rfl, ho2, hn2, hm2, hx2, hh2, hb2⟩
  replace Xx : Hid _ := Xx.out.below hb2
  replace Xr : Hid _ := Xr.out.below hb2
  replace H : Hid _ := H.out.below hb2
  replace HT : Hid (Tab w2) := HT.out.below hb2
  replace HSZ : Hid (GeW W0.heap.size w2) := HSZ.out.below hb2
  replace hbw := Below.on hbw hb2
  clear hb2
  have HF : Hid (FrIs W0.heap.size w2 s a (2 ^ n) p2 m2 z2 x2 hf2) := ⟨ho2, hn2, hm2, hx2, hh2, H.out.lim⟩
  clear ho2 hn2 hm2 hx2 hh2
  obtain ⟨cr0, cr1, fr0, fr1⟩ := Xr.out
  have hner := Xr.out.lt
  go_wp2_with fail
  clear cr0 cr1 fr0 fr1 hner
  have Xf0 : Hid (B4q (w2.alloc (.cells #[.bool s, .slice p2 m2 m2, .bool x2, .int .i64 hf2] 59)) w2.heap.size (.bool s) (.slice p2 m2 m2) (.bool x2) (.int .i64 hf2)) := B4q.new w2 _ _ _ _ _
  have hbn : Below w2.heap.size w2 (w2.alloc (.cells #[.bool s, .slice p2 m2 m2, .bool x2, .int .i64 hf2] 59)) := below1 w2 _
  generalize w2.alloc (.cells #[.bool s, .slice p2 m2 m2, .bool x2, .int .i64 hf2] 59) = W3 at *
  have HGf : Hid (w.heap.size ≤ w2.heap.size) := hbw.size
  replace Xx : Hid _ := Xx.out.below hbn
  replace Xr : Hid _ := Xr.out.below hbn
  replace H : Hid _ := H.out.below hbn
  replace HT : Hid (Tab W3) := HT.out.below hbn
  replace HSZ : Hid (GeW W0.heap.size W3) := HSZ.out.below hbn
  replace HF : Hid _ := HF.out.below hbn
  replace hbw := Below.on hbw hbn
  clear hbn
  generalize w2.heap.size = gf at *
  have Xf := Xf0
  clear Xf0
  have hBs : W0.heap.size ≤ W3.heap.size := HSZ.out
  refine (ceil_any s x2 hf2 HF.out hBs).mono ?_
  rintro e w4 ⟨v, rfl, hv, hb4⟩
  clear hBs
  rw [← HZ.out] at hv
  obtain ⟨p4, m4, z4, rfl, ho, hn, hm⟩ := hv
  replace Xx : Hid _ := Xx.out.below hb4
  replace Xr : Hid _ := Xr.out.below hb4
  replace Xf : Hid _ := Xf.out.below hb4
  replace H : Hid _ := H.out.below hb4
  replace HT : Hid (Tab w4) := HT.out.below hb4
  replace HSZ : Hid (GeW W0.heap.size w4) := HSZ.out.below hb4
  replace HF : Hid _ := HF.out.below hb4
  replace hbw := Below.on hbw hb4
  clear hb4
  have HO4 : Hid (Own W0.heap.size w4 p4 m4 z4) := ho
  have HN4 : Hid (Nf B64 z4 z.natAbs ∧ m4 ≤ 8192) := ⟨hn, hm⟩
  clear ho hn hm
  obtain ⟨b9, hb9⟩ : ∃ b, b = decide (z < 0) := ⟨_, rfl⟩
  rw [← hb9]
  have HB9 : Hid (b9 = decide (z < 0)) := hb9
  clear hb9
  obtain ⟨cr0, cr1, fr0, fr1⟩ := Xr.out
  have hner := Xr.out.lt
  go_wp2_with fail
  refine bodyPost_ret (v := .tuple #[ZV b9 p4 m4 m4, .int .i64 0]) (by rw [results_cell_tmp rfl]; go_simp) rfl ⟨_, rfl, ⟨p4, m4, z4, by rw [HB9.out], ?_, HN4.out.1, HN4.out.2⟩, ?_⟩
  · exact own_set2 HO4.out HRL.out.1 HRL.out.2 _ _
  · exact bSet (bSet hbw _ _ _ HGr.out) _ _ _ HGr.out
set_option maxRecDepth 20000 in
set_option maxHeartbeats 4000000 in
theorem rshr_any {p : Option Addr} {m c : Nat} {xs : List Nat} {a : Nat} {w : World} (s : Bool) (h : Num w p m c xs a) (hs : s = true → 0 < a) (n : Nat) (hn : n ≤ 9223372036854775807) (hT : Tab w) :
    Calls Tryz.prog 18 #[ZV s p m c, .int .i64 n] w fun e w' => ∃ v, e = .returned (.tuple #[v, .int .i64 0]) ∧ AnsZ w.heap.size w' v (ne s a (2 ^ n)) ∧ Below w.heap.size w w' := by
  have H : Hid (Num w p m c xs a) := h
  have HS : Hid (s = true → 0 < a) := hs
  have HT : Hid (Tab w) := hT
  have HN : Hid (n ≤ 9223372036854775807) := hn
  obtain ⟨z, hz⟩ : ∃ z, z = ne s a (2 ^ n) := ⟨_, rfl⟩
  rw [← hz]
  have HZ : Hid (z = ne s a (2 ^ n)) := hz
  obtain ⟨k, hk⟩ := TzO.ex a
  have HK : Hid (TzO a k) := hk
  clear h hs hT hn hz hk
  go_enter Tryz.func18, Tryz.ntmps18
  go_wp2_with fail
  obtain ⟨W0, hW0⟩ : ∃ W0, W0 = ((w.alloc (.cells #[.bool s, .slice p m c] 28)).alloc (.cells #[.bool false, .slice none 0 0] 28)) := ⟨_, rfl⟩
  have Xx : Hid (Box W0 (w.heap.size) (.bool s) (.slice p m c)) := by rw [hW0]; exact ⟨by go_simp, by go_simp, by go_simp, by go_simp⟩
  have Xr : Hid (Box W0 (w.heap.size + 1) (.bool false) (.slice none 0 0)) := by rw [hW0]; exact ⟨by go_simp, by go_simp, by go_simp, by go_simp⟩
  have hb0 : Below w.heap.size w W0 := by rw [hW0]; exact below2 w _ _
  rw [← hW0]
  clear hW0
  have hbw : Below w.heap.size w w := Below.refl _ _
  obtain ⟨gr, hgr⟩ : ∃ g, g = w.heap.size + 1 := ⟨_, rfl⟩
  have HGr : Hid (w.heap.size ≤ gr) := by rw [hgr]; show _ ≤ _; omega
  rw [← hgr] at Xr
  try rw [← hgr]
  obtain ⟨gx, hgx⟩ : ∃ g, g = w.heap.size := ⟨_, rfl⟩
  have HGx : Hid (w.heap.size ≤ gx) := by rw [hgx]; show _ ≤ _; omega
  rw [← hgx] at Xx
  try rw [← hgx]
  have HGD : Hid (gx ≠ gr ∧ gr ≠ gx) := by rw [hgx, hgr]; exact ⟨by omega, by omega⟩
  clear hgx hgr
  replace H : Hid _ := H.out.below hb0
  replace HT : Hid (Tab W0) := HT.out.below hb0
  replace hbw := Below.on hbw hb0
  clear hb0
  have HSZ : Hid (GeW W0.heap.size W0) := Nat.le_refl _
  have HRL : Hid (gr < W0.heap.size ∧ w.heap.size ≤ W0.heap.size) := ⟨Xr.out.lt, hbw.size⟩
  refine (shifted_any s H.out HS.out n HN.out HK.out HT.out).mono ?_
  rintro e w2 ⟨p2, m2, z2, x2, hf2, rfl, ho2, hn2, hm2, hx2, hh2, hb2⟩
  replace Xx : Hid _ := Xx.out.below hb2
  replace Xr : Hid _ := Xr.out.below hb2
  replace H : Hid _ := H.out.below hb2
  replace HT : Hid (Tab w2) := HT.out.below hb2
  replace HSZ : Hid (GeW W0.heap.size w2) := HSZ.out.below hb2
  replace hbw := Below.on hbw hb2
  clear hb2
  have HF : Hid (FrIs W0.heap.size w2 s a (2 ^ n) p2 m2 z2 x2 hf2) := ⟨ho2, hn2, hm2, hx2, hh2, H.out.lim⟩
  clear ho2 hn2 hm2 hx2 hh2
  obtain ⟨cr0, cr1, fr0, fr1⟩ := Xr.out
  have hner := Xr.out.lt
  go_wp2_with fail
  clear cr0 cr1 fr0 fr1 hner
  have Xf0 : Hid (B4q (w2.alloc (.cells #[.bool s, .slice p2 m2 m2, .bool x2, .int .i64 hf2] 59)) w2.heap.size (.bool s) (.slice p2 m2 m2) (.bool x2) (.int .i64 hf2)) := B4q.new w2 _ _ _ _ _
  have hbn : Below w2.heap.size w2 (w2.alloc (.cells #[.bool s, .slice p2 m2 m2, .bool x2, .int .i64 hf2] 59)) := below1 w2 _
  generalize w2.alloc (.cells #[.bool s, .slice p2 m2 m2, .bool x2, .int .i64 hf2] 59) = W3 at *
  have HGf : Hid (w.heap.size ≤ w2.heap.size) := hbw.size
  replace Xx : Hid _ := Xx.out.below hbn
  replace Xr : Hid _ := Xr.out.below hbn
  replace H : Hid _ := H.out.below hbn
  replace HT : Hid (Tab W3) := HT.out.below hbn
  replace HSZ : Hid (GeW W0.heap.size W3) := HSZ.out.below hbn
  replace HF : Hid _ := HF.out.below hbn
  replace hbw := Below.on hbw hbn
  clear hbn
  generalize w2.heap.size = gf at *
  have Xf := Xf0
  clear Xf0
  have hBs : W0.heap.size ≤ W3.heap.size := HSZ.out
  refine (near_any s x2 hf2 HF.out hBs (Nat.pow_pos (by omega))).mono ?_
  rintro e w4 ⟨v, rfl, hv, hb4⟩
  clear hBs
  rw [← HZ.out] at hv
  obtain ⟨p4, m4, z4, rfl, ho, hn, hm⟩ := hv
  replace Xx : Hid _ := Xx.out.below hb4
  replace Xr : Hid _ := Xr.out.below hb4
  replace Xf : Hid _ := Xf.out.below hb4
  replace H : Hid _ := H.out.below hb4
  replace HT : Hid (Tab w4) := HT.out.below hb4
  replace HSZ : Hid (GeW W0.heap.size w4) := HSZ.out.below hb4
  replace HF : Hid _ := HF.out.below hb4
  replace hbw := Below.on hbw hb4
  clear hb4
  have HO4 : Hid (Own W0.heap.size w4 p4 m4 z4) := ho
  have HN4 : Hid (Nf B64 z4 z.natAbs ∧ m4 ≤ 8192) := ⟨hn, hm⟩
  clear ho hn hm
  obtain ⟨b9, hb9⟩ : ∃ b, b = decide (z < 0) := ⟨_, rfl⟩
  rw [← hb9]
  have HB9 : Hid (b9 = decide (z < 0)) := hb9
  clear hb9
  obtain ⟨cr0, cr1, fr0, fr1⟩ := Xr.out
  have hner := Xr.out.lt
  go_wp2_with fail
  refine bodyPost_ret (v := .tuple #[ZV b9 p4 m4 m4, .int .i64 0]) (by rw [results_cell_tmp rfl]; go_simp) rfl ⟨_, rfl, ⟨p4, m4, z4, by rw [HB9.out], ?_, HN4.out.1, HN4.out.2⟩, ?_⟩
  · exact own_set2 HO4.out HRL.out.1 HRL.out.2 _ _
  · exact bSet (bSet hbw _ _ _ HGr.out) _ _ _ HGr.out
end Go.Proofs.YtgodajcnhipleaaGreatDoor

namespace Go.Proofs.YtgodajcnhipleaaGreatDoor
open Go.RowKit Go.Shelf

theorem no_over {P X c Y : Nat} (h : X + P * c = Y) (hY : Y < P) : X = Y := by
  rcases Nat.eq_zero_or_pos c with e | e
  · subst e; omega
  · have : P * 1 ≤ P * c := Nat.mul_le_mul_left _ e
    omega
set_option maxRecDepth 20000 in
set_option maxHeartbeats 1000000 in
theorem moved_any {p : Option Addr} {m c : Nat} {xs : List Nat} {w : World} (h : At w p m c xs) (n s : Nat) (hmn : m ≤ n) (hn : n ≤ 10000) (hs : s < 64) (hfit : 2 ^ s * valB B64 xs < B64 ^ n) :
    Calls Tryz.prog 107 #[.slice p m c, .int .i64 n, .int .i64 s] w fun e w' =>
      ∃ g zs, e = .returned (.slice (some ⟨g, 0, none⟩) n n) ∧ w.heap.size ≤ g ∧ g < w'.heap.size ∧ Row w' g 0 n zs ∧ valB B64 zs = 2 ^ s * valB B64 xs ∧ Below w.heap.size w w' := by
  obtain ⟨i0, hi, hz0, hz1, hz2⟩ := info_parts Tryz.infoU64
  have hl := h.len
  have HF : Hid (2 ^ s * valB B64 xs < B64 ^ n) := hfit
  clear hfit
  go_enter Tryz.func107, Tryz.ntmps107
  go_wp2_with (first
    | (at_make; refine wpList_make_full _ rfl _ _ 26 rfl w.heap.size 43 i0 (.int .u64 0) 1 Tryz.underlying26 hi hz0 hz1 _ _ _ _ n rfl rfl (by omega) (by omega) (by rw [hz2]; omega) (by unfold maxLen; omega) (Nat.le_refl _) ?_; intro w1 hown hgrow; have hb := made_blk hown hgrow; clear hown hgrow)
    | (refine wpList_copy_splice rfl (.tmp 10) (.tmp 11) 26 26 rfl 43 Tryz.underlying26 Tryz.sizeU64 (some ⟨w.heap.size, 0, none⟩) p n n m c rfl rfl w.heap.size 0 (cellsU (List.replicate n 0)) 43 hb.1 (cellsU xs) (by rw [cellsU_length, hl]; exact (Nat.min_eq_left hmn).symm) (fun h0 => ⟨rfl, (h.below hb.2).src (by rw [cellsU_length] at h0; omega)⟩) (by simp [cellsU_length]; omega) (cellsU_one xs) w.heap.size w hb.2 (Nat.le_refl _) ?_; intro w2 hg2 hb2))
  have hg3 : Blk w2 w.heap.size (xs ++ List.replicate (n - m) 0) := by
    have := hg2
    rw [splice_cellsU, hl] at this; exact this
  clear hg2 hb
  have hdz : Dig B64 (xs ++ List.replicate (n - m) 0) := dig_pad h.dig _
  have hr := hg3.row hdz
  have hlz : (xs ++ List.replicate (n - m) 0).length = n := by simp; omega
  rw [hlz] at hr
  refine (sup_gen w.heap.size n n s _ _ hr (Nat.le_refl _) (by omega) hs).mono ?_
  rintro e w3 ⟨zs, rfl, hwr, hrow, hval⟩
  rw [valB_append_zeros] at hval
  have HV : Hid (valB B64 zs = 2 ^ s * valB B64 xs) := no_over hval HF.out
  have hb3 : Below w.heap.size w w3 := hb2.trans (hwr.below (Nat.le_refl _))
  have hlt3 : w.heap.size < w3.heap.size := by rw [hwr.size]; exact hg3.lt
  clear hval hg3 hdz hr hlz hb2 hwr
  go_wp2_with fail
  go_ret
  exact ⟨_, zs, rfl, Nat.le_refl _, hlt3, hrow, HV.out, hb3⟩

theorem top_ne {ys : List Nat} {b n : Nat} (hy : Nf B64 ys b) (hl : ys.length = n) (h0 : 0 < n) : ys.getD (n - 1) 0 ≠ 0 := by
  refine hy.top _ ?_
  rw [List.getLast?_eq_getElem?, hl, List.getD_eq_getElem?_getD, List.getElem?_eq_getElem (by omega)]; rfl
theorem div_fit {ys : List Nat} {b n s : Nat} (hy : Nf B64 ys b) (hl : ys.length = n) (h0 : 0 < n) (hs : s + bitsN (ys.getD (n - 1) 0) = 64) : 2 ^ s * b < B64 ^ n := by
  obtain ⟨k, rfl⟩ : ∃ k, n = k + 1 := ⟨n - 1, by omega⟩
  rw [Nat.add_sub_cancel] at hs
  have h1 := valB_top hl
  have h2 := take_len_lt hy.dig (n := k) (by omega)
  rw [hy.val] at h1
  have h3 := bitsN_lt (ys.getD k 0)
  have h4 : 2 ^ s * (ys.getD k 0 + 1) ≤ 2 ^ s * 2 ^ bitsN (ys.getD k 0) := Nat.mul_le_mul_left _ h3
  rw [← Nat.pow_add, hs, show (2:Nat) ^ 64 = B64 from rfl] at h4
  have h5 : b < B64 ^ k * (ys.getD k 0 + 1) := by rw [Nat.mul_add, Nat.mul_one]; omega
  have h6 : 2 ^ s * b < 2 ^ s * (B64 ^ k * (ys.getD k 0 + 1)) := Nat.mul_lt_mul_of_pos_left h5 (Nat.two_pow_pos s)
  have h7 : B64 ^ k * (2 ^ s * (ys.getD k 0 + 1)) ≤ B64 ^ k * B64 := Nat.mul_le_mul_left _ h4
  rw [Nat.pow_succ]
  rw [Nat.mul_left_comm] at h6
  omega
theorem div_room {xs : List Nat} {a m s : Nat} (hx : Nf B64 xs a) (hl : xs.length = m) (hs : s < 64) : 2 ^ s * a < B64 ^ (m + 1) := by
  have h1 := valB_lt B64_pos hx.dig
  rw [hx.val, hl] at h1
  have h2 : (2:Nat) ^ s ≤ B64 := by rw [show B64 = 2 ^ 64 from rfl]; exact Nat.pow_le_pow_right (by omega) (by omega)
  have h3 : 2 ^ s * a ≤ B64 * a := Nat.mul_le_mul_right _ h2
  have h4 : B64 * a < B64 * B64 ^ m := Nat.mul_lt_mul_of_pos_left h1 B64_pos
  rw [Nat.pow_succ, Nat.mul_comm (B64 ^ m)]
  omega
theorem div_start {xs ys rs : List Nat} {a b m n s L : Nat} (hx : Nf B64 xs a) (hy : Nf B64 ys b) (hl : xs.length = m) (hm : ys.length = n) (h0 : 0 < n) (hL : L + n = m + 1) (hr : rs.length = m + 1) (hv : valB B64 rs = 2 ^ s * a) : valB B64 (rs.drop L) < 2 ^ s * b := by
  have h1 := valB_lt B64_pos hx.dig
  rw [hx.val, hl] at h1
  have h2 := valB_pos B64_pos (show ys ≠ [] by intro e; subst e; simp at hm; omega) hy.top
  rw [hy.val, hm] at h2
  have h3 := valB_split B64 rs L (by omega)
  have h4 : B64 ^ L * B64 ^ (n - 1) ≤ B64 ^ L * b := Nat.mul_le_mul_left _ h2
  rw [← Nat.pow_add, show L + (n - 1) = m by omega] at h4
  have h5 : 2 ^ s * a < 2 ^ s * (B64 ^ L * b) := Nat.mul_lt_mul_of_pos_left (by omega) (Nat.two_pow_pos s)
  rw [Nat.mul_left_comm] at h5
  exact Nat.lt_of_mul_lt_mul_left (a := B64 ^ L) (by omega)
theorem div_end {a b s Q r : Nat} (h : r + Q * (2 ^ s * b) = 2 ^ s * a) (hr : r < 2 ^ s * b) : Q = a / b ∧ r / 2 ^ s = a % b := by
  have hp := Nat.two_pow_pos s
  have e1 : Q * (2 ^ s * b) = 2 ^ s * (Q * b) := by rw [Nat.mul_left_comm]
  rw [e1] at h
  obtain ⟨r', hr'⟩ : ∃ r', r = 2 ^ s * r' := by
    refine ⟨a - Q * b, ?_⟩
    rw [Nat.mul_sub]; omega
  subst hr'
  have h2 : r' + Q * b = a := by
    rw [← Nat.mul_add] at h
    exact Nat.eq_of_mul_eq_mul_left hp h
  have h3 : r' < b := Nat.lt_of_mul_lt_mul_left hr
  have h4 := quo_unique (n := a) (q := Q) (y := b) (r := r') (by omega) h3
  refine ⟨h4.1, ?_⟩
  rw [Nat.mul_div_cancel_left _ hp]; exact h4.2

structure DivTo (w : World) (a b : Nat) (v1 v2 : Value) (w' : World) : Prop where
  quo : ∃ p m zs, v1 = .slice p m m ∧ Own w.heap.size w' p m zs ∧ Nf B64 zs (a / b) ∧ m ≤ 8192
  rem : ∃ p m zs, v2 = .slice p m m ∧ Own w.heap.size w' p m zs ∧ Nf B64 zs (a % b) ∧ m ≤ 8192
  bel : Below w.heap.size w w'

set_option maxRecDepth 20000 in
set_option maxHeartbeats 2000000 in
theorem divide_any {gp op gq oq : Nat} {m n c d : Nat} {xs ys : List Nat} {a b : Nat} {w : World} (h : At w (some ⟨gp, op, none⟩) m c xs) (k : At w (some ⟨gq, oq, none⟩) n d ys) (hx : Nf B64 xs a) (hy : Nf B64 ys b) (hm : m ≤ 8192) (hn : 2 ≤ n) (hnm : n ≤ m) :
    Calls Tryz.prog 73 #[.slice (some ⟨gp, op, none⟩) m c, .slice (some ⟨gq, oq, none⟩) n d] w fun e w' => ∃ v1 v2, e = .returned (.tuple #[v1, v2]) ∧ DivTo w a b v1 v2 w' := by
  obtain ⟨y, hyy⟩ : ∃ y, y = ys.getD (n - 1) 0 := ⟨_, rfl⟩
  have hyb : y < B64 := by rw [hyy]; exact hy.dig.getD B64_pos _
  have hy0 : y ≠ 0 := by rw [hyy]; exact top_ne hy k.len (by omega)
  have hb64 := bits64 hyb
  have hbp : 0 < bitsN y := by
    rcases Nat.eq_zero_or_pos (bitsN y) with e | e
    · exfalso
      have := bitsN_lt y
      rw [e] at this; simp at this; omega
    · exact e
  obtain ⟨s, hs⟩ : ∃ s, s + bitsN y = 64 := ⟨64 - bitsN y, by omega⟩
  have hs64 : s < 64 := by omega
  have cy : w.cell? ⟨gq, oq + (n - 1), none⟩ = some (U y) := by rw [hyy]; exact k.cellAt (n - 1) (by omega)
  have F1 : Hid (2 ^ s * valB B64 ys < B64 ^ n) := by
    have := div_fit hy k.len (by omega) (by rw [← hyy]; exact hs)
    rw [← hy.val] at this; exact this
  have F2 : Hid (2 ^ s * valB B64 xs < B64 ^ (m + 1)) := by
    have := div_room hx h.len hs64
    rw [← hx.val] at this; exact this
  have HX : Hid (Nf B64 xs a) := hx
  have HY : Hid (Nf B64 ys b) := hy
  have HS : Hid (s + bitsN y = 64) := hs
  have hlx := h.len; have hly := k.len
  have HLX : Hid (xs.length = m) := hlx
  have HLY : Hid (ys.length = n) := hly
  have kcap := k.cap; have kbig := k.big
  unfold maxLen at kbig
  have hwn : IntKind.i64.wrap ((n : Int) - 1) = (n : Int) - 1 := wrap_sub n 1 (by omega) (by omega)
  clear hx hy hyy hs hbp hb64 hlx hly
  go_enter Tryz.func73, Tryz.ntmps73
  go_wp2_with fail
  refine (lz_any y s w hyb HS.out).mono ?_
  rintro e w' ⟨rfl, hw⟩
  obtain rfl := hw.symm
  clear hw
  go_wp2_with fail
  refine (moved_any k n s (Nat.le_refl _) (by omega) hs64 F1.out).mono ?_
  rintro e w1 ⟨g1, zs1, rfl, hg1, hgl1, hrow1, hv1, hb1⟩
  have h1 := h.below hb1
  have HV1 : Hid (valB B64 zs1 = 2 ^ s * valB B64 ys) := hv1
  clear hv1 h k
  go_wp2_with fail
  rw [show ((m : Int) + 1) = ((m + 1 : Nat) : Int) by omega]
  refine (moved_any h1 (m + 1) s (by omega) (by omega) hs64 F2.out).mono ?_
  rintro e w2 ⟨g2, zs2, rfl, hg2, hgl2, hrow2, hv2, hb2⟩
  have hr1 := hrow1.below hb2 hgl1
  have HV2 : Hid (valB B64 zs2 = 2 ^ s * valB B64 xs) := hv2
  have hw2 := Below.on hb1 hb2
  clear hv2 h1 hrow1 hb1 hb2
  obtain ⟨i0, hi, hz0, hz1, hz2⟩ := info_parts Tryz.infoU64
  obtain ⟨L, hL⟩ : ∃ L, L = m - n + 1 := ⟨_, rfl⟩
  have HL : Hid (L = m - n + 1) := hL
  have hLi : (m : Int) - (n : Int) + 1 = (L : Int) := by omega
  have hLb : L ≤ 8192 := by omega
  clear hL
  go_wp2_with (at_make; refine wpList_make_full _ rfl _ _ 26 rfl w2.heap.size 43 i0 (.int .u64 0) 1 Tryz.underlying26 hi hz0 hz1 _ _ _ _ L rfl rfl (by omega) (by omega) (by rw [hz2]; omega) (by unfold maxLen; omega) (Nat.le_refl _) ?_; intro w3 hown hgrow; have hb := made_blk hown hgrow; clear hown hgrow)
  have hq3 : Row w3 w2.heap.size 0 L (List.replicate L 0) := by
    have := hb.1.row (Dig.replicate B64 L B64_pos)
    rw [List.length_replicate] at this; exact this
  have hlt12 : g1 < w2.heap.size := Nat.lt_of_lt_of_le hgl1 (by have := hw2.size; omega)
  have hr13 := hr1.below hb.2 hlt12
  have hr23 := hrow2.below hb.2 hgl2
  have hw3 := Below.on hw2 hb.2
  have hne12 : g1 ≠ g2 := by omega
  have hLn : L + n = m + 1 := by have := HL.out; omega
  rw [← hLn] at hr23
  have TD := takedig_any hq3 hr23 (hr13.at_ (Nat.le_refl _) (by unfold maxLen; omega)) (by omega) (by omega) hne12 hn (by omega) (by omega) (by
    rw [HV1.out, HY.out.val]
    exact div_start HX.out HY.out HLX.out HLY.out (by omega) hLn (by rw [hrow2.len]) (by rw [HV2.out, HX.out.val]))
  rw [hLn] at TD
  have HLN : Hid (L + n = m + 1) := hLn
  clear hLn hq3 hr13 hr23 hr1 hrow2 hLi
  refine TD.mono ?_
  rintro e w4 ⟨qs, rs, rfl, hbel, hrq, hrr, hlt, hsum⟩
  rw [HV1.out, HY.out.val] at hlt
  rw [HV1.out, HV2.out, HY.out.val, HX.out.val] at hsum
  have hend := div_end hsum hlt
  have hsp := valB_split B64 rs n (by rw [hrr.len]; omega)
  have hfit : valB B64 (rs.take n) = valB B64 rs := no_over hsp.symm (Nat.lt_trans hlt (by have := F1.out; rw [HY.out.val] at this; exact this))
  have HQ : Hid (valB B64 qs = a / b) := hend.1
  have HREM : Hid (valB B64 (rs.take n) / 2 ^ s = a % b) := by rw [hfit]; exact hend.2
  have hrt := hrr.take n (by omega)
  have hw4 : Below w.heap.size w w4 := hw3.trans (hbel w.heap.size (by have := hw2.size; omega) (by omega))
  have hgq4 : w2.heap.size ≠ g2 := by omega
  have hgqb : w.heap.size ≤ w2.heap.size := hw2.size
  generalize w2.heap.size = gz at *
  clear hsum hlt hend hsp hfit hrr hbel TD hw3 hw2 hb hlt12 hne12
  go_wp2_with fail
  refine (cut_row g2 0 (m + 1) (m + 1) n w4 (Nat.le_refl _) (by omega)).mono ?_
  rintro e w5 ⟨rfl, r5, hw5⟩
  have hrt5 : Row w5 g2 0 n (rs.take n) := by rw [hw5]; exact hrt.drewN r5
  have hrq5 : Row w5 gz 0 L qs := by rw [hw5]; exact hrq.drewN r5
  have hbw5 : Below w.heap.size w w5 := by rw [hw5]; exact bDrewN hw4 r5
  clear hw5 hrt hrq hw4
  go_wp2_with fail
  refine (sdn_any g2 n n s (rs.take n) w5 hrt5 (Nat.le_refl _) (by omega) hs64).mono ?_
  rintro e w6 ⟨us, rfl, hwr6, hrow6, hval6⟩
  rw [HREM.out] at hval6
  have hrq6 := hrq5.wr hwr6 hgq4
  have hbw6 : Below w.heap.size w w6 := hbw5.trans (hwr6.below (by omega))
  have AQ := hrq6.at_ (Nat.le_refl _) (by unfold maxLen; omega)
  have AR := hrow6.at_ (Nat.le_refl _) (by unfold maxLen; omega)
  have NQ : Hid (Nf B64 (trimL qs) (a / b)) := by have := Nf.trim hrq6.dig; rw [HQ.out] at this; exact this
  have NR : Hid (Nf B64 (trimL us) (a % b)) := by have := Nf.trim hrow6.dig; rw [hval6] at this; exact this
  clear hval6 hrt5 hrq5 hbw5 hwr6
  go_wp2_with fail
  refine (trim_any AQ).mono ?_
  rintro e w' ⟨p1, m1, rfl, hm1, hp1, hw⟩
  obtain rfl := hw.symm
  have HM1 : Hid (m1 = (trimL qs).length) := hm1
  clear hw hm1
  go_wp2_with fail
  refine (trim_any AR).mono ?_
  rintro e w' ⟨p2, m2, rfl, hm2, hp2, hw⟩
  obtain rfl := hw.symm
  have HM2 : Hid (m2 = (trimL us).length) := hm2
  clear hw hm2
  go_wp2_with fail
  go_ret2
  have hl1 := trimL_length_le qs; have hl2 := trimL_length_le us
  have e1 := HM1.out; have e2 := HM2.out; have e3 := hrq6.len; have e4 := hrow6.len
  exact ⟨_, _, rfl, ⟨p1, m1, _, rfl, hrq6.own hgqb e1 hp1, NQ.out, by omega⟩, ⟨p2, m2, _, rfl, hrow6.own (by omega) e2 hp2, NR.out, by omega⟩, hbw6⟩
end Go.Proofs.YtgodajcnhipleaaGreatDoor

namespace Go.Proofs.YtgodajcnhipleaaGreatDoor
open Go.RowKit

structure DivRel (w : World) (g n : Nat) (zs : List Nat) (v k re : Nat) (dk : List Nat) (wr : World) : Prop where
  wrs : ∀ B, B ≤ g → Below B w wr
  row : Row wr g 0 n dk
  lo : dk.take (n - k) = zs.take (n - k)
  rlt : re < v
  sum : valB B64 (zs.drop (n - k)) = valB B64 (dk.drop (n - k)) * v + re
theorem DivRel.step {w : World} {g n : Nat} {zs : List Nat} {v k re : Nat} {dk : List Nat} {wr wr' : World} (h : DivRel w g n zs v k re dk wr) (hk : k < n) (hz : zs.length = n) {x q r : Nat}
    (hx : x = dk.getD (n - 1 - k) 0) (hq : re * B64 + x = q * v + r) (hr : r < v) (hw : ∀ B, B ≤ g → Below B w wr') (hrow : Row wr' g 0 n (dk.set (n - 1 - k) q)) : DivRel w g n zs v (k + 1) r (dk.set (n - 1 - k) q) wr' := by
  have hl := h.row.len
  have e : n - (k + 1) = n - 1 - k := by omega
  have e2 : n - 1 - k + 1 = n - k := by omega
  have hxz : x = zs.getD (n - 1 - k) 0 := hx.trans (getD_of_take h.lo (by omega))
  refine ⟨hw, hrow, ?_, hr, ?_⟩
  · rw [e, take_set_at]; exact take_of_take h.lo (by omega)
  · rw [e, drop_set_at dk _ q (by omega), valB_drop _ zs (n - 1 - k) (by omega), ← hxz, valB_cons, e2, h.sum, Nat.add_mul, Nat.mul_add]
    have e3 : B64 * (valB B64 (dk.drop (n - k)) * v) = B64 * valB B64 (dk.drop (n - k)) * v := by rw [Nat.mul_assoc]
    rw [e3, Nat.mul_comm B64 re]
    omega

set_option maxRecDepth 20000 in
set_option maxHeartbeats 2000000 in
theorem divw_nf {p : Option Addr} {m c : Nat} {xs : List Nat} {a : Nat} {w : World} (h : At w p m c xs) (hx : Nf B64 xs a) (hm : m ≤ 8192) (v : Nat) (hv : v < B64) (hv0 : v ≠ 0) :
    Calls Tryz.prog 71 #[.slice p m c, U v] w fun e w' =>
      (∃ p' m' zs, e = .returned (.tuple #[.slice p' m' m', U (a % v), .int .i64 0]) ∧ Own w.heap.size w' p' m' zs ∧ Nf B64 zs (a / v) ∧ m' ≤ 8192) ∧ Below w.heap.size w w' := by
  have fx := hx.form (by rw [h.len]; exact hm)
  have hl := h.len
  have HX : Hid (Nf B64 xs a) := hx
  have hv0' : ((v : Int) == 0) = false := by simp; omega
  clear hx
  go_enter Tryz.func71, Tryz.ntmps71
  go_wp2_with fail
  refine (form_true h fx).mono ?_
  rintro e w' ⟨rfl, hw⟩
  obtain rfl := hw.symm
  clear hw fx
  go_wp2_with fail
  refine (copied_any h m (Nat.le_refl _) (by omega)).mono ?_
  rintro e w1 ⟨g, rfl, hg, hblk, hb⟩
  rw [Nat.sub_self, List.replicate_zero, List.append_nil] at hblk
  have hr := hblk.row HX.out.dig
  rw [hl] at hr
  go_wp2_with fail
  go_loopw [8, 9, 10, 22] (fun rv _ _ i wr => ∃ (k re : Nat) (dk : List Nat), k ≤ m ∧ i = .int .i64 k ∧ rv = U re ∧ DivRel w1 g m xs v k re dk wr) (fun _ _ _ i _ => m - (intOf i).toNat)
  case atStart => exact ⟨0, 0, xs, Nat.zero_le _, rfl, rfl, ⟨fun B _ => Below.refl _ _, hr, rfl, by omega, by rw [Nat.sub_zero, List.drop_of_length_le (by omega)]; simp [valB]⟩⟩
  case round =>
    obtain ⟨k, re, dk, hk, rfl, rfl, hR⟩ := hrel
    by_cases hlt : k < m
    · obtain ⟨x, hxx⟩ : ∃ x, x = dk.getD (m - 1 - k) 0 := ⟨_, rfl⟩
      have hcx : wr.cell? ⟨g, m - 1 - k, none⟩ = some (U x) := by
        have := hR.row.cell (m - 1 - k) (by omega)
        rw [← hxx, Nat.zero_add] at this; exact this
      have hfx : wr.frozen? ⟨g, m - 1 - k, none⟩ = false := by
        have := hR.row.frozen (m - 1 - k) (by omega)
        rw [Nat.zero_add] at this; exact this
      have hxb : x < B64 := by rw [hxx]; exact hR.row.dig.getD B64_pos _
      have hrv := hR.rlt
      have HR : Hid (DivRel w1 g m xs v k re dk wr) := hR
      have HXX : Hid (x = dk.getD (m - 1 - k) 0) := hxx
      clear hR hxx hr
      go_wp2_with fail
      refine (div64_any re x v _ hrv hv hxb).mono ?_
      rintro e w2 ⟨rfl, r, hw⟩
      obtain rfl := hw.symm
      clear hw
      obtain ⟨q, hq⟩ : ∃ q, q = (re * B64 + x) / v := ⟨_, rfl⟩
      obtain ⟨r2, hr2⟩ : ∃ r2, r2 = (re * B64 + x) % v := ⟨_, rfl⟩
      rw [← hq, ← hr2]
      have hqr : re * B64 + x = q * v + r2 := by rw [hq, hr2, Nat.mul_comm ((re * B64 + x) / v)]; exact (Nat.div_add_mod _ _).symm
      have hr2v : r2 < v := by rw [hr2]; exact Nat.mod_lt _ (by omega)
      have hqb : q < B64 := by
        rw [hq]
        refine (Nat.div_lt_iff_lt_mul (by omega)).2 ?_
        have : (re + 1) * B64 ≤ v * B64 := Nat.mul_le_mul_right _ hrv
        rw [Nat.add_mul, Nat.one_mul, Nat.mul_comm v] at this
        omega
      have HQR : Hid (re * B64 + x = q * v + r2) := hqr
      clear hq hr2 hqr
      go_wp2_with fail
      go_roundw
      case rel =>
        refine ⟨k + 1, r2, dk.set (m - 1 - k) q, by omega, by go_num, rfl, HR.out.step hlt hl HXX.out HQR.out hr2v (fun B hB => ?_) ?_⟩
        · exact bDrewN ((HR.out.wrs B hB).setCell hB _) r
        · have h1 := HR.out.row.set (m - 1 - k) q (by omega) hqb
          rw [Nat.zero_add] at h1
          exact h1.drewN r
      case measure => simp [intOf]; omega
    · obtain rfl : k = m := by omega
      have HR : Hid (DivRel w1 g k xs v k re dk wr) := hR
      clear hR hr
      have hh := HR.out
      have A3 := hh.row.at_ (Nat.le_refl _) (by unfold maxLen; omega)
      have hs := hh.sum
      rw [Nat.sub_self, List.drop_zero, List.drop_zero, HX.out.val] at hs
      obtain ⟨hq, hre⟩ := quo_unique hs hh.rlt
      have hN := Nf.trim hh.row.dig
      rw [hq] at hN
      have HV : Hid (Nf B64 (trimL dk) (a / v)) := hN
      have HRE : Hid (re = a % v) := hre
      have hb3 : Below w.heap.size w wr := hb.trans (hh.wrs _ hg)
      have hrow := hh.row
      clear hs hq hre hN hh
      go_wp2_with fail
      refine (trim_any A3).mono ?_
      rintro e w4 ⟨p', m', rfl, hm', hp', hw⟩
      obtain rfl := hw.symm
      have HM : Hid (m' = (trimL dk).length) := hm'
      clear hw hm'
      go_wp2_with fail
      go_ret3
      have e1 := HM.out
      have e2 := trimL_length_le dk
      have e3 := hrow.len
      exact ⟨⟨p', m', trimL dk, by rw [HRE.out]; rfl, hrow.own hg e1 hp', HV.out, by omega⟩, hb3⟩
end Go.Proofs.YtgodajcnhipleaaGreatDoor

namespace Go.Proofs.YtgodajcnhipleaaGreatDoor
open Go.RowKit Go.Shelf

theorem Nf.one {ys : List Nat} {b : Nat} (hy : Nf B64 ys b) (hl : ys.length = 1) : ys = [b] := by
  match ys, hl with
  | [y], _ => have := hy.val; simp [valB] at this; rw [this]
theorem Nf.lt_of_len {xs ys : List Nat} {a b n m : Nat} (hx : Nf B64 xs a) (hy : Nf B64 ys b) (hl : xs.length = n) (hm : ys.length = m) (h : n < m) : a < b := by
  have := val_lt_len hx.dig hy.top (by omega)
  rw [hx.val, hy.val] at this; exact this

set_option maxRecDepth 20000 in
set_option maxHeartbeats 2000000 in
theorem quorem_any {p q : Option Addr} {n m c d : Nat} {xs ys : List Nat} {a b : Nat} {w : World} (h : At w p n c xs) (k : At w q m d ys) (hx : Nf B64 xs a) (hy : Nf B64 ys b) (hlx : n ≤ 8192) (hly : m ≤ 8192) (hb : b ≠ 0) :
    Calls Tryz.prog 41 #[.slice p n c, .slice q m d] w fun e w' => ∃ v1 v2, e = .returned (.tuple #[v1, v2, .int .i64 0]) ∧ DivTo w a b v1 v2 w' := by
  have fx := hx.form (by rw [h.len]; exact hlx)
  have fy := hy.form (by rw [k.len]; exact hly)
  have hm0 : 0 < m := by
    rcases Nat.eq_zero_or_pos m with e | e
    · exact absurd ((hy.zero_iff B64_one).1 (List.eq_nil_of_length_eq_zero (by rw [k.len]; exact e))) hb
    · exact e
  have HX : Hid (Nf B64 xs a) := hx
  have HY : Hid (Nf B64 ys b) := hy
  clear hx hy
  have hlenx := h.len; have hleny := k.len
  have HLX : Hid (xs.length = n) := hlenx
  have HLY : Hid (ys.length = m) := hleny
  clear hlenx hleny
  go_enter Tryz.func41, Tryz.ntmps41
  go_wp2_with fail
  refine (form_true h fx).mono ?_
  rintro e w' ⟨rfl, hw⟩
  obtain rfl := hw.symm
  clear hw
  go_wp2_with fail
  refine (form_true k fy).mono ?_
  rintro e w' ⟨rfl, hw⟩
  obtain rfl := hw.symm
  clear hw fx fy
  have hm0' : ((m : Int) == 0) = false := by simp; omega
  by_cases h1 : m = 1
  · subst h1
    obtain ⟨gq, oq, rfl, hcq⟩ := k.cells.resolve_left (by omega)
    have hc0 : w.cell? ⟨gq, oq, none⟩ = some (U b) := by
      have := hcq 0 (by omega)
      rw [HY.out.one HLY.out] at this; exact this
    have hbb : b < B64 := by
      have := HY.out.dig b (by rw [HY.out.one HLY.out]; simp)
      exact this
    clear hcq
    go_wp2_with fail
    refine (divw_nf h HX.out hlx b hbb hb).mono ?_
    rintro e w1 ⟨⟨p1, m1, zs1, rfl, ho1, n1, hm1⟩, hb1⟩
    have N1 : Hid (Nf B64 zs1 (a / b)) := n1
    obtain ⟨r, hr⟩ : ∃ r, r = a % b := ⟨_, rfl⟩
    rw [← hr]
    have HR : Hid (r = a % b) := hr
    have hrb : r < B64 := by rw [hr]; exact Nat.lt_trans (Nat.mod_lt _ (by omega)) hbb
    clear n1 hr
    go_wp2_with fail
    refine (word_any r w1 hrb).mono ?_
    rintro e w2 ⟨p2, m2, zs2, rfl, ho2, n2, hm2, hb2⟩
    have N2 : Hid (Nf B64 zs2 r) := n2
    clear n2
    go_wp2_with fail
    go_ret3
    refine ⟨_, _, rfl, ⟨p1, m1, zs1, rfl, ho1.below hb2, N1.out, hm1⟩, ⟨p2, m2, zs2, rfl, ho2.mono hb1.size, ?_, by omega⟩, Below.on hb1 hb2⟩
    rw [← HR.out]; exact N2.out
  · have h1' : ((m : Int) == 1) = false := by simp; omega
    by_cases hlt : n < m
    · have hab := HX.out.lt_of_len HY.out HLX.out HLY.out hlt
      have HQ : Hid (a / b = 0 ∧ a % b = a) := ⟨Nat.div_eq_of_lt hab, Nat.mod_eq_of_lt hab⟩
      clear hab
      go_wp2_with fail
      refine (norm_any h).mono ?_
      rintro e w1 ⟨ha1, hb1⟩
      rw [HX.out.val] at ha1
      have hal : a < LIM := HX.out.lim.1 (by rw [HLX.out]; exact hlx)
      rcases ha1 with ⟨_, p1, m1, zs, rfl, ho, hn1, hm1⟩ | ⟨hge, _⟩
      · have N1 : Hid (Nf B64 zs a) := hn1
        clear hn1 hal
        go_wp2_with fail
        go_ret3
        refine ⟨_, _, rfl, ⟨none, 0, [], rfl, ⟨rfl, Dig.nil _, .inl rfl⟩, ?_, by omega⟩, ⟨p1, m1, zs, rfl, ho, ?_, hm1⟩, hb1⟩
        · rw [HQ.out.1]; exact Nf.nil _
        · rw [HQ.out.2]; exact N1.out
      · omega
    · obtain ⟨gp, op, rfl, _⟩ := h.cells.resolve_left (by omega)
      obtain ⟨gq, oq, rfl, _⟩ := k.cells.resolve_left (by omega)
      go_wp2_with fail
      refine (divide_any h k HX.out HY.out hlx (by omega) (by omega)).mono ?_
      rintro e w1 ⟨v1, v2, rfl, hD⟩
      have HD : Hid (DivTo w a b v1 v2 w1) := hD
      clear hD
      go_wp2_with fail
      go_ret3
      exact ⟨_, _, rfl, HD.out⟩
end Go.Proofs.YtgodajcnhipleaaGreatDoor

namespace Go.Proofs.YtgodajcnhipleaaGreatDoor
open Go.RowKit Go.Shelf

theorem own_set4 {B b : Nat} {w' : World} {p : Option Addr} {m : Nat} {zs : List Nat} (h : Own B w' p m zs) {r : Nat} (hr : r < B) (hb : b ≤ B) (v0 v1 v2 v3 : Value) : Own b ((((w'.setCell ⟨r, 0, none⟩ v0).setCell ⟨r, 1, none⟩ v1).setCell ⟨r, 2, none⟩ v2).setCell ⟨r, 3, none⟩ v3) p m zs :=
  ((((h.setOld _ _ _ hr).setOld _ _ _ hr).setOld _ _ _ hr).setOld _ _ _ hr).mono hb
theorem bSet4 {B : Nat} {a w : World} (h : Below B a w) (g : Nat) (v0 v1 v2 v3 : Value) (hB : B ≤ g) : Below B a ((((w.setCell ⟨g, 0, none⟩ v0).setCell ⟨g, 1, none⟩ v1).setCell ⟨g, 2, none⟩ v2).setCell ⟨g, 3, none⟩ v3) :=
  bSet (bSet (bSet (bSet h _ _ _ hB) _ _ _ hB) _ _ _ hB) _ _ _ hB
set_option maxRecDepth 20000 in
set_option maxHeartbeats 4000000 in
theorem divided_any {p q : Option Addr} {m c n d : Nat} {xs ys : List Nat} {a b : Nat} {w : World} (s t : Bool) (h : Num w p m c xs a) (hs : s = true → 0 < a) (k : Num w q n d ys b) (ht : t = true → 0 < b) (hb : b ≠ 0) :
    Calls Tryz.prog 37 #[ZV s p m c, ZV t q n d] w fun e w' => ∃ p' m' zs x hf, e = .returned (.tuple #[FR (s != t) p' m' m' x hf, .int .i64 0]) ∧ FrIs w.heap.size w' (s != t) a b p' m' zs x hf ∧ Below w.heap.size w w' := by
  have H : Hid (Num w p m c xs a) := h
  have HS : Hid (s = true → 0 < a) := hs
  have K : Hid (Num w q n d ys b) := k
  have HT : Hid (t = true → 0 < b) := ht
  have HB0 : Hid (b ≠ 0) := hb
  have HAL : Hid (a < LIM) := h.lim
  clear h hs k ht hb
  go_enter Tryz.func37, Tryz.ntmps37
  go_wp2_with fail
  obtain ⟨W0, hW0⟩ : ∃ W0, W0 = (((w.alloc (.cells #[.bool s, .slice p m c] 28)).alloc (.cells #[.bool t, .slice q n d] 28)).alloc (.cells #[.bool false, .slice none 0 0, .bool false, .int .i64 0] 59)) := ⟨_, rfl⟩
  have Xx : Hid (Box W0 (w.heap.size) (.bool s) (.slice p m c)) := by rw [hW0]; exact ⟨by go_simp, by go_simp, by go_simp, by go_simp⟩
  have Xy : Hid (Box W0 (w.heap.size + 1) (.bool t) (.slice q n d)) := by rw [hW0]; exact ⟨by go_simp, by go_simp, by go_simp, by go_simp⟩
  have Xr : Hid (B4q W0 (w.heap.size + 1 + 1) (.bool false) (.slice none 0 0) (.bool false) (.int .i64 0)) := by rw [hW0]; exact ⟨by go_simp, by go_simp, by go_simp, by go_simp, by go_simp, by go_simp, by go_simp, by go_simp⟩
  have hb0 : Below w.heap.size w W0 := by rw [hW0]; exact below3 w _ _ _
  rw [← hW0]
  clear hW0
  have hbw : Below w.heap.size w w := Below.refl _ _
  obtain ⟨gr, hgr⟩ : ∃ g, g = w.heap.size + 1 + 1 := ⟨_, rfl⟩
  have HGr : Hid (w.heap.size ≤ gr) := by rw [hgr]; show _ ≤ _; omega
  rw [← hgr] at Xr
  try rw [← hgr]
  obtain ⟨gy, hgy⟩ : ∃ g, g = w.heap.size + 1 := ⟨_, rfl⟩
  have HGy : Hid (w.heap.size ≤ gy) := by rw [hgy]; show _ ≤ _; omega
  rw [← hgy] at Xy
  try rw [← hgy]
  obtain ⟨gx, hgx⟩ : ∃ g, g = w.heap.size := ⟨_, rfl⟩
  have HGx : Hid (w.heap.size ≤ gx) := by rw [hgx]; show _ ≤ _; omega
  rw [← hgx] at Xx
  try rw [← hgx]
  have HGD : Hid (gx ≠ gy ∧ gx ≠ gr ∧ gy ≠ gx ∧ gy ≠ gr ∧ gr ≠ gx ∧ gr ≠ gy) := by rw [hgx, hgy, hgr]; exact ⟨by omega, by omega, by omega, by omega, by omega, by omega⟩
  clear hgx hgy hgr
  replace H : Hid _ := H.out.below hb0
  replace K : Hid _ := K.out.below hb0
  replace hbw := Below.on hbw hb0
  clear hb0
  refine (numform_t s H.out HS.out).mono ?_
  rintro e w1 ⟨rfl, hb1⟩
  replace Xx : Hid _ := Xx.out.below hb1
  replace Xy : Hid _ := Xy.out.below hb1
  replace Xr : Hid _ := Xr.out.below hb1
  replace H : Hid _ := H.out.below hb1
  replace K : Hid _ := K.out.below hb1
  replace hbw := Below.on hbw hb1
  clear hb1
  obtain ⟨cy0, cy1, fy0, fy1⟩ := Xy.out
  have hney := Xy.out.lt
  go_wp2_with fail
  clear cy0 cy1 fy0 fy1 hney
  refine (numform_t t K.out HT.out).mono ?_
  rintro e w2 ⟨rfl, hb2⟩
  replace Xx : Hid _ := Xx.out.below hb2
  replace Xy : Hid _ := Xy.out.below hb2
  replace Xr : Hid _ := Xr.out.below hb2
  replace H : Hid _ := H.out.below hb2
  replace K : Hid _ := K.out.below hb2
  replace hbw := Below.on hbw hb2
  clear hb2
  obtain ⟨cx0, cx1, fx0, fx1⟩ := Xx.out
  have hnex := Xx.out.lt
  obtain ⟨cy0, cy1, fy0, fy1⟩ := Xy.out
  have hney := Xy.out.lt
  go_wp2_with fail
  clear cx0 cx1 fx0 fx1 hnex
  clear cy0 cy1 fy0 fy1 hney
  have HRL : Hid (gr < w2.heap.size ∧ w.heap.size ≤ w2.heap.size) := ⟨Xr.out.lt, hbw.size⟩
  refine (quorem_any H.out.at_ K.out.at_ H.out.nf K.out.nf H.out.le K.out.le HB0.out).mono ?_
  rintro e w3 ⟨v1, v2, rfl, ⟨p3, m3, z3, rfl, ho3, hn3, hm3⟩, ⟨p4, m4, z4, rfl, ho4, hn4, hm4⟩, hb3⟩
  replace Xx : Hid _ := Xx.out.below hb3
  replace Xy : Hid _ := Xy.out.below hb3
  replace Xr : Hid _ := Xr.out.below hb3
  replace H : Hid _ := H.out.below hb3
  replace K : Hid _ := K.out.below hb3
  replace hbw := Below.on hbw hb3
  clear hb3
  have HO3 : Hid (Own w2.heap.size w3 p3 m3 z3) := ho3
  have N3 : Hid (Nf B64 z3 (a / b) ∧ m3 ≤ 8192) := ⟨hn3, hm3⟩
  clear ho3 hn3 hm3
  obtain ⟨r, hrr⟩ : ∃ r, r = a % b := ⟨_, rfl⟩
  have HRR : Hid (r = a % b) := hrr
  rw [← hrr] at hn4
  clear hrr
  have M4 : Hid (Num w3 p4 m4 m4 z4 r) := Num.of ho4 hn4 hm4
  clear ho4 hn4 hm4
  have HRB : Hid (r < b) := by show _ < _; rw [HRR.out]; exact Nat.mod_lt _ (Nat.pos_of_ne_zero HB0.out)
  obtain ⟨cy0, cy1, fy0, fy1⟩ := Xy.out
  have hney := Xy.out.lt
  go_wp2_with fail
  clear cy0 cy1 fy0 fy1 hney
  refine (sub_okN K.out.at_ M4.out.at_ K.out.nf M4.out.nf K.out.le M4.out.le (Nat.le_of_lt HRB.out)).mono ?_
  rintro e w5 ⟨⟨p5, m5, z5, rfl, ho5, hn5, hm5⟩, hb5⟩
  replace Xx : Hid _ := Xx.out.below hb5
  replace Xy : Hid _ := Xy.out.below hb5
  replace Xr : Hid _ := Xr.out.below hb5
  replace H : Hid _ := H.out.below hb5
  replace K : Hid _ := K.out.below hb5
  replace HO3 : Hid (Own w2.heap.size w5 p3 m3 z3) := HO3.out.below hb5
  replace M4 : Hid _ := M4.out.below hb5
  replace hbw := Below.on hbw hb5
  clear hb5
  have M5 : Hid (Num w5 p5 m5 m5 z5 (b - r)) := Num.of ho5 hn5 hm5
  clear ho5 hn5 hm5
  go_wp2_with fail
  have HCMP : Hid (HfIs r b (cmpN r (b - r))) := HfIs.cmp (Nat.le_of_lt HRB.out) _ (by unfold cmpN; rfl)
  obtain ⟨W6, hW6⟩ : ∃ W1, W1 = w5.drew := ⟨_, rfl⟩
  have hbd : Below w5.heap.size w5 W6 := by rw [hW6]; exact bDrew1 (Below.refl _ _)
  replace Xx : Hid _ := Xx.out.below hbd
  replace Xy : Hid _ := Xy.out.below hbd
  replace Xr : Hid _ := Xr.out.below hbd
  replace H : Hid _ := H.out.below hbd
  replace K : Hid _ := K.out.below hbd
  replace HO3 : Hid (Own w2.heap.size W6 p3 m3 z3) := HO3.out.below hbd
  replace M4 : Hid _ := M4.out.below hbd
  replace M5 : Hid _ := M5.out.below hbd
  replace hbw := Below.on hbw hbd
  clear hbd
  have HJ : Hid ((fun W' : World => W'.cell? ⟨gx, 0, none⟩ = some (.bool s) ∧ W'.cell? ⟨gy, 0, none⟩ = some (.bool t)) W6) := ⟨Xx.out.c0, Xy.out.c0⟩
  refine wp_region_J (fun W' => W'.cell? ⟨gx, 0, none⟩ = some (.bool s) ∧ W'.cell? ⟨gy, 0, none⟩ = some (.bool t)) (by kernel_rfl) ?_
  rw [← hW6]
  clear hW6
  refine wpJ_take (i := 0) (v := ?v1x0) rfl (by kernel_rfl) (by kernel_rfl) (by kernel_rfl) (fun _ _ _ h => h) (by kernel_rfl) ?hy1x0 HJ.out ?rest1x0
  case hy1x0 => (intro W' hJ; obtain ⟨j0, j1⟩ := hJ; go_simp; first | done | with_reducible rfl)
  refine wpJ_take (i := 1) (v := ?v2x1) rfl (by kernel_rfl) (by kernel_rfl) (by kernel_rfl) (fun _ _ _ h => h) (by kernel_rfl) ?hy2x1 HJ.out ?rest2x1
  case hy2x1 => (intro W' hJ; obtain ⟨j0, j1⟩ := hJ; go_simp; first | done | with_reducible rfl)
  refine wpJ_take (i := 2) (v := ?v3x2) rfl (by kernel_rfl) (by kernel_rfl) (by kernel_rfl) (fun _ _ _ h => h) (by kernel_rfl) ?hy3x2 HJ.out ?rest3x2
  case hy3x2 => (intro W' hJ; obtain ⟨j0, j1⟩ := hJ; go_simp; first | done | with_reducible rfl)
  refine wpJ_take (i := 3) (v := ?v4x3) rfl (by kernel_rfl) (by kernel_rfl) (by kernel_rfl) (fun _ _ _ h => h) (by kernel_rfl) ?hy4x3 HJ.out ?rest4x3
  case hy4x3 => (intro W' hJ; obtain ⟨j0, j1⟩ := hJ; go_simp; first | done | with_reducible rfl)
  refine wpJ_take (i := 4) (v := ?v5x4) rfl (by kernel_rfl) (by kernel_rfl) (by kernel_rfl) (fun _ _ _ h => h) (by kernel_rfl) ?hy5x4 HJ.out ?rest5x4
  case hy5x4 => (intro W' hJ; obtain ⟨j0, j1⟩ := hJ; go_simp; first | done | with_reducible rfl)
  refine wpJ_take (i := 5) (v := ?v6x5) rfl (by kernel_rfl) (by kernel_rfl) (by kernel_rfl) (fun _ _ _ h => h) (by kernel_rfl) ?hy6x5 HJ.out ?rest6x5
  case hy6x5 => (intro W' hJ; obtain ⟨j0, j1⟩ := hJ; go_simp; first | done | with_reducible rfl)
  refine wpJ_take (i := 6) (v := ?v7x6) rfl (by kernel_rfl) (by kernel_rfl) (by kernel_rfl) (fun _ _ _ h => h) (by kernel_rfl) ?hy7x6 HJ.out ?rest7x6
  case hy7x6 => (intro W' hJ; obtain ⟨j0, j1⟩ := hJ; go_simp; first | done | with_reducible rfl)
  refine wpJ_take (i := 7) (v := ?v8x7) rfl (by kernel_rfl) (by kernel_rfl) (by kernel_rfl) (fun _ _ _ h => h) (by kernel_rfl) ?hy8x7 HJ.out ?rest8x7
  case hy8x7 => (intro W' hJ; obtain ⟨j0, j1⟩ := hJ; go_simp; first | done | with_reducible rfl)
  refine wpJ_take (i := 8) (v := ?v9x8) rfl (by kernel_rfl) (by kernel_rfl) (by kernel_rfl) (fun _ _ _ h => h) (by kernel_rfl) ?hy9x8 HJ.out ?rest9x8
  case hy9x8 => (intro W' hJ; obtain ⟨j0, j1⟩ := hJ; go_simp; first | done | with_reducible rfl)
  refine wpJ_take (i := 9) (v := ?v10x9) rfl (by kernel_rfl) (by kernel_rfl) (by kernel_rfl) (fun _ _ _ h => h) (by kernel_rfl) ?hy10x9 HJ.out ?rest10x9
  case hy10x9 => (intro W' hJ; obtain ⟨j0, j1⟩ := hJ; go_simp; first | done | with_reducible rfl)
  refine wpJ_take (i := 10) (v := ?v11x10) rfl (by kernel_rfl) (by kernel_rfl) (by kernel_rfl) (fun _ _ _ h => h) (by kernel_rfl) ?hy11x10 HJ.out ?rest11x10
  case hy11x10 => (intro W' hJ; obtain ⟨j0, j1⟩ := hJ; go_simp; first | done | with_reducible rfl)
  refine wpJ_take (i := 13) (v := ?v12x13) rfl (by kernel_rfl) (by kernel_rfl) (by kernel_rfl) (fun _ _ _ h => h) (by kernel_rfl) ?hy12x13 HJ.out ?rest12x13
  case hy12x13 => (intro W' hJ; obtain ⟨j0, j1⟩ := hJ; go_simp; first | done | with_reducible rfl)
  refine wpJ_one (i := 11) (by kernel_rfl) rfl (by kernel_rfl) (fun KJ hK => ?_)
  go_simp
  refine (cmp_wN M4.out.at_ M5.out.at_ M4.out.nf M5.out.nf).mono ?_
  rintro e w7 ⟨rfl, rd, rfl⟩
  obtain ⟨hf, hhf⟩ : ∃ hf, hf = cmpN r (b - r) := ⟨_, rfl⟩
  rw [← hhf]
  have HHF : Hid (HfIs r b hf) := by rw [hhf]; exact HCMP.out
  clear hhf HCMP
  have hbr := bDrewN (Below.refl W6.heap.size W6) rd
  generalize W6.drewN rd = W7 at *
  replace Xx : Hid _ := Xx.out.below hbr
  replace Xy : Hid _ := Xy.out.below hbr
  replace Xr : Hid _ := Xr.out.below hbr
  replace H : Hid _ := H.out.below hbr
  replace K : Hid _ := K.out.below hbr
  replace HO3 : Hid (Own w2.heap.size W7 p3 m3 z3) := HO3.out.below hbr
  replace M4 : Hid _ := M4.out.below hbr
  replace M5 : Hid _ := M5.out.below hbr
  replace hbw := Below.on hbw hbr
  clear hbr
  clear HJ
  have HJ : Hid ((fun W' : World => W'.cell? ⟨gx, 0, none⟩ = some (.bool s) ∧ W'.cell? ⟨gy, 0, none⟩ = some (.bool t)) W7) := ⟨Xx.out.c0, Xy.out.c0⟩
  refine hK _ _ HJ.out ?_
  clear hK
  refine wpJ_take (i := 12) (v := ?v13x12) rfl (by kernel_rfl) (by kernel_rfl) (by kernel_rfl) (fun _ _ _ h => h) (by kernel_rfl) ?hy13x12 HJ.out ?rest13x12
  case hy13x12 => (intro W' hJ; obtain ⟨j0, j1⟩ := hJ; go_simp; first | done | with_reducible rfl)
  obtain ⟨cr0, cr1, cr2, cr3, fr0, fr1, fr2, fr3⟩ := Xr.out
  have hner : gr < W7.heap.size := World.block_lt_of_cell? W7 _ cr0
  refine wpJ_one (i := 14) (by kernel_rfl) rfl (by kernel_rfl) (fun KJ hK => ?_)
  go_simp
  obtain ⟨cx0, cx1, fx0, fx1⟩ := Xx.out
  have hnex := Xx.out.lt
  obtain ⟨cy0, cy1, fy0, fy1⟩ := Xy.out
  have hney := Xy.out.lt
  have hd1 := HGD.out.1
  have hd2 := HGD.out.2.1
  have hd3 := HGD.out.2.2.1
  have hd4 := HGD.out.2.2.2.1
  have hd5 := HGD.out.2.2.2.2.1
  have hd6 := HGD.out.2.2.2.2.2
  have HJ2 : Hid ((fun W' : World => W'.cell? ⟨gx, 0, none⟩ = some (.bool s) ∧ W'.cell? ⟨gy, 0, none⟩ = some (.bool t)) ((((W7.setCell ⟨gr, 0, none⟩ (.bool (!(s == t)))).setCell ⟨gr, 1, none⟩ (.slice p3 m3 m3)).setCell ⟨gr, 2, none⟩ (.bool (decide (0 < m4)))).setCell ⟨gr, 3, none⟩ (.int .i64 hf))) := ⟨by go_simp, by go_simp⟩
  refine hK _ _ HJ2.out ?_
  clear hK
  clear HJ
  have HJ := HJ2
  clear HJ2
  refine wpJ_take (i := 15) (v := ?v14x15) rfl (by kernel_rfl) (by kernel_rfl) (by kernel_rfl) (fun _ _ _ h => h) (by kernel_rfl) ?hy14x15 HJ.out ?rest14x15
  case hy14x15 => (intro W' hJ; obtain ⟨j0, j1⟩ := hJ; go_simp; first | done | with_reducible rfl)
  refine wpJ_done (by kernel_rfl) ?_ _
  clear HJ
  go_wp2_with fail
  refine bodyPost_ret (v := .tuple #[FR (s != t) p3 m3 m3 (decide (0 < m4)) hf, .int .i64 0]) (by rw [results_cell_tmp rfl]; go_simp; cases s <;> cases t <;> rfl) rfl ⟨p3, m3, z3, decide (0 < m4), hf, rfl, ⟨?_, N3.out.1, N3.out.2, ?_, ?_, HAL.out⟩, ?_⟩
  · exact own_set4 HO3.out HRL.out.1 HRL.out.2 _ _ _ _
  · rw [M4.out.nf.lenpos M4.out.at_.len, HRR.out]; exact decide_eq_decide.2 (by omega)
  · rw [← HRR.out]; exact HHF.out
  · exact bSet4 hbw _ _ _ _ _ HGr.out
end Go.Proofs.YtgodajcnhipleaaGreatDoor

namespace Go.Proofs.YtgodajcnhipleaaGreatDoor
open Go.RowKit Go.Shelf

set_option maxRecDepth 20000 in
set_option maxHeartbeats 4000000 in
theorem fdiv_any {p q : Option Addr} {m c n d : Nat} {xs ys : List Nat} {a b : Nat} {w : World} (s t : Bool) (h : Num w p m c xs a) (hs : s = true → 0 < a) (k : Num w q n d ys b) (ht : t = true → 0 < b) (hb : b ≠ 0) :
    Calls Tryz.prog 17 #[ZV s p m c, ZV t q n d] w fun e w' => ∃ v, e = .returned (.tuple #[v, .int .i64 0]) ∧ AnsZ w.heap.size w' v (fl (s != t) a b) ∧ Below w.heap.size w w' := by
  have H : Hid (Num w p m c xs a) := h
  have HS : Hid (s = true → 0 < a) := hs
  have K : Hid (Num w q n d ys b) := k
  have HT : Hid (t = true → 0 < b) := ht
  have HB0 : Hid (b ≠ 0) := hb
  obtain ⟨z, hz⟩ : ∃ z, z = fl (s != t) a b := ⟨_, rfl⟩
  rw [← hz]
  have HZ : Hid (z = fl (s != t) a b) := hz
  clear h hs k ht hb hz
  go_enter Tryz.func17, Tryz.ntmps17
  go_wp2_with fail
  obtain ⟨W0, hW0⟩ : ∃ W0, W0 = (((w.alloc (.cells #[.bool s, .slice p m c] 28)).alloc (.cells #[.bool t, .slice q n d] 28)).alloc (.cells #[.bool false, .slice none 0 0] 28)) := ⟨_, rfl⟩
  have Xx : Hid (Box W0 (w.heap.size) (.bool s) (.slice p m c)) := by rw [hW0]; exact ⟨by go_simp, by go_simp, by go_simp, by go_simp⟩
  have Xy : Hid (Box W0 (w.heap.size + 1) (.bool t) (.slice q n d)) := by rw [hW0]; exact ⟨by go_simp, by go_simp, by go_simp, by go_simp⟩
  have Xr : Hid (Box W0 (w.heap.size + 1 + 1) (.bool false) (.slice none 0 0)) := by rw [hW0]; exact ⟨by go_simp, by go_simp, by go_simp, by go_simp⟩
  have hb0 : Below w.heap.size w W0 := by rw [hW0]; exact below3 w _ _ _
  rw [← hW0]
  clear hW0
  have hbw : Below w.heap.size w w := Below.refl _ _
  obtain ⟨gr, hgr⟩ : ∃ g, g = w.heap.size + 1 + 1 := ⟨_, rfl⟩
  have HGr : Hid (w.heap.size ≤ gr) := by rw [hgr]; show _ ≤ _; omega
  rw [← hgr] at Xr
  try rw [← hgr]
  obtain ⟨gy, hgy⟩ : ∃ g, g = w.heap.size + 1 := ⟨_, rfl⟩
  have HGy : Hid (w.heap.size ≤ gy) := by rw [hgy]; show _ ≤ _; omega
  rw [← hgy] at Xy
  try rw [← hgy]
  obtain ⟨gx, hgx⟩ : ∃ g, g = w.heap.size := ⟨_, rfl⟩
  have HGx : Hid (w.heap.size ≤ gx) := by rw [hgx]; show _ ≤ _; omega
  rw [← hgx] at Xx
  try rw [← hgx]
  have HGD : Hid (gx ≠ gy ∧ gx ≠ gr ∧ gy ≠ gx ∧ gy ≠ gr ∧ gr ≠ gx ∧ gr ≠ gy) := by rw [hgx, hgy, hgr]; exact ⟨by omega, by omega, by omega, by omega, by omega, by omega⟩
  clear hgx hgy hgr
  replace H : Hid _ := H.out.below hb0
  replace K : Hid _ := K.out.below hb0
  replace hbw := Below.on hbw hb0
  clear hb0
  have HSZ : Hid (GeW W0.heap.size W0) := Nat.le_refl _
  have HRL : Hid (gr < W0.heap.size ∧ w.heap.size ≤ W0.heap.size) := ⟨Xr.out.lt, hbw.size⟩
  refine (divided_any s t H.out HS.out K.out HT.out HB0.out).mono ?_
  rintro e w2 ⟨p2, m2, z2, x2, hf2, rfl, hfr, hb2⟩
  replace Xx : Hid _ := Xx.out.below hb2
  replace Xy : Hid _ := Xy.out.below hb2
  replace Xr : Hid _ := Xr.out.below hb2
  replace H : Hid _ := H.out.below hb2
  replace K : Hid _ := K.out.below hb2
  replace HSZ : Hid (GeW W0.heap.size w2) := HSZ.out.below hb2
  replace hbw := Below.on hbw hb2
  clear hb2
  have HF : Hid (FrIs W0.heap.size w2 (s != t) a b p2 m2 z2 x2 hf2) := hfr
  clear hfr
  obtain ⟨cr0, cr1, fr0, fr1⟩ := Xr.out
  have hner := Xr.out.lt
  go_wp2_with fail
  clear cr0 cr1 fr0 fr1 hner
  have Xf0 : Hid (B4q (w2.alloc (.cells #[.bool (s != t), .slice p2 m2 m2, .bool x2, .int .i64 hf2] 59)) w2.heap.size (.bool (s != t)) (.slice p2 m2 m2) (.bool x2) (.int .i64 hf2)) := B4q.new w2 _ _ _ _ _
  have hbn : Below w2.heap.size w2 (w2.alloc (.cells #[.bool (s != t), .slice p2 m2 m2, .bool x2, .int .i64 hf2] 59)) := below1 w2 _
  generalize w2.alloc (.cells #[.bool (s != t), .slice p2 m2 m2, .bool x2, .int .i64 hf2] 59) = W3 at *
  have HGf : Hid (w.heap.size ≤ w2.heap.size) := hbw.size
  replace Xx : Hid _ := Xx.out.below hbn
  replace Xy : Hid _ := Xy.out.below hbn
  replace Xr : Hid _ := Xr.out.below hbn
  replace H : Hid _ := H.out.below hbn
  replace K : Hid _ := K.out.below hbn
  replace HSZ : Hid (GeW W0.heap.size W3) := HSZ.out.below hbn
  replace HF : Hid _ := HF.out.below hbn
  replace hbw := Below.on hbw hbn
  clear hbn
  generalize w2.heap.size = gf at *
  have Xf := Xf0
  clear Xf0
  have hBs : W0.heap.size ≤ W3.heap.size := HSZ.out
  refine (floor_any (s != t) x2 hf2 HF.out hBs).mono ?_
  rintro e w4 ⟨v, rfl, hv, hb4⟩
  clear hBs
  rw [← HZ.out] at hv
  obtain ⟨p4, m4, z4, rfl, ho, hn, hm⟩ := hv
  replace Xx : Hid _ := Xx.out.below hb4
  replace Xy : Hid _ := Xy.out.below hb4
  replace Xr : Hid _ := Xr.out.below hb4
  replace Xf : Hid _ := Xf.out.below hb4
  replace H : Hid _ := H.out.below hb4
  replace K : Hid _ := K.out.below hb4
  replace HSZ : Hid (GeW W0.heap.size w4) := HSZ.out.below hb4
  replace HF : Hid _ := HF.out.below hb4
  replace hbw := Below.on hbw hb4
  clear hb4
  have HO4 : Hid (Own W0.heap.size w4 p4 m4 z4) := ho
  have HN4 : Hid (Nf B64 z4 z.natAbs ∧ m4 ≤ 8192) := ⟨hn, hm⟩
  clear ho hn hm
  obtain ⟨b9, hb9⟩ : ∃ b, b = decide (z < 0) := ⟨_, rfl⟩
  rw [← hb9]
  have HB9 : Hid (b9 = decide (z < 0)) := hb9
  clear hb9
  obtain ⟨cr0, cr1, fr0, fr1⟩ := Xr.out
  have hner := Xr.out.lt
  go_wp2_with fail
  refine bodyPost_ret (v := .tuple #[ZV b9 p4 m4 m4, .int .i64 0]) (by rw [results_cell_tmp rfl]; go_simp) rfl ⟨_, rfl, ⟨p4, m4, z4, by rw [HB9.out], ?_, HN4.out.1, HN4.out.2⟩, ?_⟩
  · exact own_set2 HO4.out HRL.out.1 HRL.out.2 _ _
  · exact bSet (bSet hbw _ _ _ HGr.out) _ _ _ HGr.out
end Go.Proofs.YtgodajcnhipleaaGreatDoor

