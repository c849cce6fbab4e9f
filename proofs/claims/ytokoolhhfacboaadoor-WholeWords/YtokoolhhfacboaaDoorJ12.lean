import Derived.Test.YtokoolhhfacboaaDoorJ11
import Derived.Test.YtokoolhhfacboaaDoorJ8
import Derived.Test.YtokoolhhfacboaaDoorJ10
import Derived.Deep.LoopGhost
import Derived.Laws.Bits64b
import Derived.Test.YtokoolhhfacboaaDoorJ9
namespace Go.Proofs.YtokoolhhfacboaaDoor
open Go.RowKit Go.Shelf
set_option maxRecDepth 100000
set_option maxHeartbeats 0
def PW : List Nat := [11743562013128004905, 18169587780923219392, 15808362127397457985, 18325537948574664033, 13196794004601950944, 452944820249399836, 18311050168422213438, 16754012890938950788, 16833452818741296705, 4148332274289687028, 11278244420634880059, 2303758334597371919, 17235013589178936607, 7869616827067468215, 5712322887342352941, 8441921394348257659, 4397547296490951402, 7780917995555872008, 6197850593633725355, 17352294737506481693]
def TabW (w : World) : Prop := ∀ j, j < 20 → w.cell? ⟨0, j, none⟩ = some (U (PW.getD j 0))
theorem TabW.below {w w' : World} (h : TabW w) (hb : Below w.heap.size w w') : TabW w' := by
  intro j hj
  have h1 := h j hj
  have hl : 0 < w.heap.size := World.block_lt_of_cell? w _ h1
  exact (hb.cell (p := ⟨0, j, none⟩) hl).trans h1
theorem kwf {f k : Nat} (h : k = f) (hb : k < 1000) : wrap64 (f : Int) = (k : Int) := by subst h; simp only [wrap64]; omega
theorem kwn {f k : Nat} (n : Nat) (h : k = f + n) (hb : k < 1000) : wrap64 ((f : Int) + (n : Int)) = (k : Int) := by subst h; simp only [wrap64]; omega
theorem jwf {f k : Nat} (h : k = f) (hb : k < 1000) : IntKind.i64.wrap (f : Int) = (k : Int) := by rw [IntKind.wrap_i64]; subst h; omega
theorem jwn {f k : Nat} (n : Nat) (h : k = f + n) (hb : k < 1000) : IntKind.i64.wrap ((f : Int) + (n : Int)) = (k : Int) := by rw [IntKind.wrap_i64]; subst h; omega
theorem jsub {s : Nat} (h : s < 64) : IntKind.i64.wrap (64 - (s : Int)) = ((64 - s : Nat) : Int) := by rw [IntKind.wrap_i64]; omega
theorem pw_lt (k : Nat) : PW.getD k 0 < B64 := by
  by_cases h : k < 20
  · have : ∀ k, k < 20 → PW.getD k 0 < B64 := by decide +kernel
    exact this k h
  · rw [List.getD_eq_getElem?_getD, List.getElem?_eq_none (by show 20 ≤ k; omega)]; decide
def wN (f s i : Nat) : Nat := shlW (PW.getD (f + i) 0) s + PW.getD (f + i + 1) 0 * 2 ^ s / B64
theorem wrapU {x : Nat} (h : x < 18446744073709551616) : IntKind.u64.wrap (x : Int) = (x : Int) := by rw [IntKind.wrap_u64]; omega
theorem word_ok (k : Nat) (hk : k < 20) (w : World) (hT : TabW w) : Calls Tryd.prog 9 #[.int .i64 k] w fun en w' => en = .returned (.tuple #[U (PW.getD k 0), .int .i64 0]) ∧ w' = w := by
  have hT0 := hT k hk
  have hi1 : (0 : Int) ≤ (k : Int) := by omega
  have hi2 : (k : Int) < 20 := by omega
  have hi3 : ¬ (k : Int) < 0 := by omega
  have hi4 : ¬ (20 : Int) ≤ (k : Int) := by omega
  generalize PW.getD k 0 = x at *
  go_enter Tryd.func9, Tryd.ntmps9
  go_wp2_with fail
  go_ret2
  exact ⟨rfl, rfl⟩
theorem window_s (a f s : Nat) (ha : a = 64 * f + s) (hf : f ≤ 15) (hs : s < 64) (hs0 : 0 < s) (w : World) (hT : TabW w) : Calls Tryd.prog 4 #[.int .i64 a] w fun en w' => en = .returned (.tuple #[.agg #[U (wN f s 0), U (wN f s 1), U (wN f s 2), U (wN f s 3)], .int .i64 0]) ∧ Below w.heap.size w w' := by
  have hi1 : (a : Int) / 64 = (f : Int) := by omega
  have hi2 : (a : Int) % 64 = (s : Int) := by omega
  have hi3 : decide ((a : Int) < 0) = false := decide_eq_false (by omega)
  have hi4 : decide ((1024 : Int) < (a : Int)) = false := decide_eq_false (by omega)
  have hi5 : (a : Int).tdiv 64 = (f : Int) := by rw [Int.tdiv_eq_ediv_of_nonneg (by omega)]; exact hi1
  have hi6 : (a : Int).tmod 64 = (s : Int) := by rw [Int.tmod_eq_emod_of_nonneg (by omega)]; exact hi2
  obtain ⟨k0, hk0⟩ : ∃ k, k = f + 0 := ⟨_, rfl⟩
  have ka0 : (0 : Int) ≤ (k0 : Int) := by omega
  have kb0 : (k0 : Int) < 20 := by omega
  obtain ⟨k1, hk1⟩ : ∃ k, k = f + 1 := ⟨_, rfl⟩
  have ka1 : (0 : Int) ≤ (k1 : Int) := by omega
  have kb1 : (k1 : Int) < 20 := by omega
  obtain ⟨k2, hk2⟩ : ∃ k, k = f + 2 := ⟨_, rfl⟩
  have ka2 : (0 : Int) ≤ (k2 : Int) := by omega
  have kb2 : (k2 : Int) < 20 := by omega
  obtain ⟨k3, hk3⟩ : ∃ k, k = f + 3 := ⟨_, rfl⟩
  have ka3 : (0 : Int) ≤ (k3 : Int) := by omega
  have kb3 : (k3 : Int) < 20 := by omega
  obtain ⟨k4, hk4⟩ : ∃ k, k = f + 4 := ⟨_, rfl⟩
  have ka4 : (0 : Int) ≤ (k4 : Int) := by omega
  have kb4 : (k4 : Int) < 20 := by omega
  have hs1 : (0 : Int) < (s : Int) := by omega
  have HA : Hid (a = 64 * f + s ∧ f ≤ 15 ∧ s < 64 ∧ 0 < s ∧ k0 < 20 ∧ k1 < 20 ∧ k2 < 20 ∧ k3 < 20 ∧ k4 < 20) := ⟨ha, hf, hs, hs0, by omega, by omega, by omega, by omega, by omega⟩
  have bd0 : k0 = f := by omega
  have bd1 : k1 = k0 + 1 := by omega
  have be1 : k1 < 1000 := by omega
  have bd2 : k2 = k0 + 2 := by omega
  have be2 : k2 < 1000 := by omega
  have bd3 : k3 = k0 + 3 := by omega
  have be3 : k3 < 1000 := by omega
  have bd4 : k4 = k0 + 4 := by omega
  have be4 : k4 < 1000 := by omega
  have bf1 : k2 = k1 + 1 := by omega
  have bf2 : k3 = k2 + 1 := by omega
  have bf3 : k4 = k3 + 1 := by omega
  have be0 : k0 < 1000 := by omega
  have bs : s < 64 := hs
  have kw0 : wrap64 (f : Int) = (k0 : Int) := kwf bd0 be0
  have KW0 : Hid (wrap64 (k0 : Int) = (k0 : Int) ∧ IntKind.i64.wrap (k0 : Int) = (k0 : Int) ∧ IntKind.i64.wrap ((k0 : Int) + 1) = (k1 : Int)) := ⟨kwf rfl be0, jwf rfl be0, jwn 1 bd1 be1⟩
  have KW1 : Hid (wrap64 ((k0 : Int) + 1) = (k1 : Int) ∧ IntKind.i64.wrap ((k0 : Int) + 1) = (k1 : Int) ∧ IntKind.i64.wrap ((k1 : Int) + 1) = (k2 : Int)) := ⟨kwn 1 bd1 be1, jwn 1 bd1 be1, jwn 1 bf1 be2⟩
  have KW2 : Hid (wrap64 ((k0 : Int) + 2) = (k2 : Int) ∧ IntKind.i64.wrap ((k0 : Int) + 2) = (k2 : Int) ∧ IntKind.i64.wrap ((k2 : Int) + 1) = (k3 : Int)) := ⟨kwn 2 bd2 be2, jwn 2 bd2 be2, jwn 1 bf2 be3⟩
  have KW3 : Hid (wrap64 ((k0 : Int) + 3) = (k3 : Int) ∧ IntKind.i64.wrap ((k0 : Int) + 3) = (k3 : Int) ∧ IntKind.i64.wrap ((k3 : Int) + 1) = (k4 : Int)) := ⟨kwn 3 bd3 be3, jwn 3 bd3 be3, jwn 1 bf3 be4⟩
  have KS : Hid (IntKind.i64.wrap (64 - (s : Int)) = ((64 - s : Nat) : Int)) := jsub bs
  have KB0 : Hid ((0 : Int) ≤ (k0 : Int) ∧ (k0 : Int) < 20) := ⟨ka0, kb0⟩
  clear ka0 kb0
  have KB1 : Hid ((0 : Int) ≤ (k1 : Int) ∧ (k1 : Int) < 20) := ⟨ka1, kb1⟩
  clear ka1 kb1
  have KB2 : Hid ((0 : Int) ≤ (k2 : Int) ∧ (k2 : Int) < 20) := ⟨ka2, kb2⟩
  clear ka2 kb2
  have KB3 : Hid ((0 : Int) ≤ (k3 : Int) ∧ (k3 : Int) < 20) := ⟨ka3, kb3⟩
  clear ka3 kb3
  have KB4 : Hid ((0 : Int) ≤ (k4 : Int) ∧ (k4 : Int) < 20) := ⟨ka4, kb4⟩
  clear ka4 kb4
  have HKK : Hid (k0 = f ∧ k1 = f + 1 ∧ k2 = f + 2 ∧ k3 = f + 3 ∧ k4 = f + 4) := ⟨hk0, hk1, hk2, hk3, hk4⟩
  clear hk0 hk1 hk2 hk3 hk4 bd0 bd1 bd2 bd3 bd4 be0 be1 be2 be3 be4 bf1 bf2 bf3 bs
  have TB : Hid (TabW w) := hT
  clear ha hf hs hs0 hT
  go_enter Tryd.func4, Tryd.ntmps4
  go_wp2_with fail
  obtain ⟨W0, hW0⟩ : ∃ W0, W0 = ((w.alloc (.cells #[.int .u64 0, .int .u64 0, .int .u64 0, .int .u64 0] 24)).alloc (.cells #[.int .u64 0, .int .u64 0, .int .u64 0, .int .u64 0] 24)) := ⟨_, rfl⟩
  have Xr : Hid (B4q W0 (w.heap.size) (.int .u64 0) (.int .u64 0) (.int .u64 0) (.int .u64 0)) := by rw [hW0]; exact ⟨by go_simp, by go_simp, by go_simp, by go_simp, by go_simp, by go_simp, by go_simp, by go_simp⟩
  have Xu : Hid (B4q W0 (w.heap.size + 1) (.int .u64 0) (.int .u64 0) (.int .u64 0) (.int .u64 0)) := by rw [hW0]; exact ⟨by go_simp, by go_simp, by go_simp, by go_simp, by go_simp, by go_simp, by go_simp, by go_simp⟩
  have hb0 : Below w.heap.size w W0 := by rw [hW0]; exact below2 w _ _
  rw [← hW0]
  clear hW0
  have hbw : Below w.heap.size w w := Below.refl _ _
  obtain ⟨gu, hgu⟩ : ∃ g, g = w.heap.size + 1 := ⟨_, rfl⟩
  have HGu : Hid (w.heap.size ≤ gu) := by rw [hgu]; show _ ≤ _; omega
  rw [← hgu] at Xu
  try rw [← hgu]
  obtain ⟨gr, hgr⟩ : ∃ g, g = w.heap.size := ⟨_, rfl⟩
  have HGr : Hid (w.heap.size ≤ gr) := by rw [hgr]; show _ ≤ _; omega
  rw [← hgr] at Xr
  try rw [← hgr]
  have HGD : Hid (gr ≠ gu ∧ gu ≠ gr) := by rw [hgr, hgu]; exact ⟨by omega, by omega⟩
  clear hgr hgu
  replace hbw := Below.on hbw hb0
  clear hb0
  obtain ⟨hgd0, hgd1⟩ := HGD.out
  refine wp_loop_rounds 5 ?_
  rw [rounds_succ]
  obtain ⟨x0, hx0⟩ : ∃ x, x = PW.getD k0 0 := ⟨_, rfl⟩
  have HX0 : Hid (x0 = PW.getD k0 0 ∧ x0 < B64) := ⟨hx0, by rw [hx0]; exact pw_lt _⟩
  clear hx0
  obtain ⟨x1, hx1⟩ : ∃ x, x = PW.getD k1 0 := ⟨_, rfl⟩
  have HX1 : Hid (x1 = PW.getD k1 0 ∧ x1 < B64) := ⟨hx1, by rw [hx1]; exact pw_lt _⟩
  clear hx1
  obtain ⟨x2, hx2⟩ : ∃ x, x = PW.getD k2 0 := ⟨_, rfl⟩
  have HX2 : Hid (x2 = PW.getD k2 0 ∧ x2 < B64) := ⟨hx2, by rw [hx2]; exact pw_lt _⟩
  clear hx2
  obtain ⟨x3, hx3⟩ : ∃ x, x = PW.getD k3 0 := ⟨_, rfl⟩
  have HX3 : Hid (x3 = PW.getD k3 0 ∧ x3 < B64) := ⟨hx3, by rw [hx3]; exact pw_lt _⟩
  clear hx3
  obtain ⟨x4, hx4⟩ : ∃ x, x = PW.getD k4 0 := ⟨_, rfl⟩
  have HX4 : Hid (x4 = PW.getD k4 0 ∧ x4 < B64) := ⟨hx4, by rw [hx4]; exact pw_lt _⟩
  clear hx4
  have t0 := (TB.out.below hbw) k0 HA.out.2.2.2.2.1
  rw [← HX0.out.1] at t0
  obtain ⟨p1, p2, p3⟩ := KW0.out
  obtain ⟨p4, p5⟩ := KB0.out
  obtain ⟨cu0, cu1, cu2, cu3, fu0, fu1, fu2, fu3⟩ := Xu.out
  have hneu : gu < W0.heap.size := World.block_lt_of_cell? W0 _ cu0
  go_wp2_with fail
  clear t0 p1 p2 p3 p4 p5
  obtain ⟨Vc0, hVc0⟩ : ∃ W9, W9 = (W0.setCell ⟨gu, 0, none⟩ (.int .u64 (IntKind.u64.wrap ((x0 : Int) * 2 ^ s)))) := ⟨_, rfl⟩
  have Yu : Hid (B4q Vc0 gu (.int .u64 (IntKind.u64.wrap ((x0 : Int) * 2 ^ s))) (.int .u64 0) (.int .u64 0) (.int .u64 0)) := by rw [hVc0]; exact ⟨by go_simp, by go_simp, by go_simp, by go_simp, by go_simp, by go_simp, by go_simp, by go_simp⟩
  obtain ⟨cr0, cr1, cr2, cr3, fr0, fr1, fr2, fr3⟩ := Xr.out
  have hner : gr < W0.heap.size := World.block_lt_of_cell? W0 _ cr0
  have Yr : Hid (B4q Vc0 gr (.int .u64 0) (.int .u64 0) (.int .u64 0) (.int .u64 0)) := by rw [hVc0]; exact ⟨by go_simp, by go_simp, by go_simp, by go_simp, by go_simp, by go_simp, by go_simp, by go_simp⟩
  clear cr0 cr1 cr2 cr3 fr0 fr1 fr2 fr3 hner
  have hbw2 : Below w.heap.size w Vc0 := by rw [hVc0]; exact bSet (hbw) _ _ _ HGu.out
  clear cu0 cu1 cu2 cu3 fu0 fu1 fu2 fu3 hneu
  rw [← hVc0]
  clear hVc0 hbw Xr Xu
  have hbw := hbw2
  clear hbw2
  have Xr := Yr
  clear Yr
  have Xu := Yu
  clear Yu
  have t1 := (TB.out.below hbw) k1 HA.out.2.2.2.2.2.1
  rw [← HX1.out.1] at t1
  obtain ⟨p1, p2, p3⟩ := KW0.out
  obtain ⟨p4, p5⟩ := KB1.out
  have p6 := KS.out
  obtain ⟨Vd0, hVd0⟩ : ∃ W9, W9 = Vc0.drew := ⟨_, rfl⟩
  have hbd : Below Vc0.heap.size Vc0 Vd0 := by rw [hVd0]; exact bDrew1 (Below.refl _ _)
  replace Xr : Hid _ := Xr.out.below hbd
  replace Xu : Hid _ := Xu.out.below hbd
  replace hbw := Below.on hbw hbd
  clear hbd
  have HJ : Hid ((fun W' : World => W'.cell? ⟨gu, 0, none⟩ = some (.int .u64 (IntKind.u64.wrap ((x0 : Int) * 2 ^ s))) ∧ W'.cell? ⟨0, k1, none⟩ = some (U x1)) Vd0) := ⟨Xu.out.c0, ((TB.out.below hbw) k1 HA.out.2.2.2.2.2.1).trans (by rw [HX1.out.1])⟩
  refine wp_region_L (fun W' => W'.cell? ⟨gu, 0, none⟩ = some (.int .u64 (IntKind.u64.wrap ((x0 : Int) * 2 ^ s))) ∧ W'.cell? ⟨0, k1, none⟩ = some (U x1)) 14 (by kernel_rfl) ?_
  rw [← hVd0]
  clear hVd0
  refine wpL_take (i := 0) (v := ?v1x0) rfl (by kernel_rfl) (by kernel_rfl) (by kernel_rfl) (fun _ _ _ h => h) (by kernel_rfl) ?hy1x0 HJ.out ?rest1x0
  case hy1x0 => (intro W' hJ; obtain ⟨j0, j1⟩ := hJ; go_simp; first | done | with_reducible rfl)
  refine wpL_take (i := 1) (v := ?v2x1) rfl (by kernel_rfl) (by kernel_rfl) (by kernel_rfl) (fun _ _ _ h => h) (by kernel_rfl) ?hy2x1 HJ.out ?rest2x1
  case hy2x1 => (intro W' hJ; obtain ⟨j0, j1⟩ := hJ; go_simp; first | done | with_reducible rfl)
  refine wpL_take (i := 2) (v := ?v3x2) rfl (by kernel_rfl) (by kernel_rfl) (by kernel_rfl) (fun _ _ _ h => h) (by kernel_rfl) ?hy3x2 HJ.out ?rest3x2
  case hy3x2 => (intro W' hJ; obtain ⟨j0, j1⟩ := hJ; go_simp; first | done | with_reducible rfl)
  refine wpL_take (i := 3) (v := ?v4x3) rfl (by kernel_rfl) (by kernel_rfl) (by kernel_rfl) (fun _ _ _ h => h) (by kernel_rfl) ?hy4x3 HJ.out ?rest4x3
  case hy4x3 => (intro W' hJ; obtain ⟨j0, j1⟩ := hJ; go_simp; first | done | with_reducible rfl)
  refine wpL_take (i := 4) (v := ?v5x4) rfl (by kernel_rfl) (by kernel_rfl) (by kernel_rfl) (fun _ _ _ h => h) (by kernel_rfl) ?hy5x4 HJ.out ?rest5x4
  case hy5x4 => (intro W' hJ; obtain ⟨j0, j1⟩ := hJ; go_simp; first | done | with_reducible rfl)
  go_simp
  refine wpL_take (i := 5) (v := ?v6x5) rfl (by kernel_rfl) (by kernel_rfl) (by kernel_rfl) (fun _ _ _ h => h) (by kernel_rfl) ?hy6x5 HJ.out ?rest6x5
  case hy6x5 => (intro W' hJ; obtain ⟨j0, j1⟩ := hJ; go_simp; first | done | with_reducible rfl)
  refine wpL_take (i := 6) (v := ?v7x6) rfl (by kernel_rfl) (by kernel_rfl) (by kernel_rfl) (fun _ _ _ h => h) (by kernel_rfl) ?hy7x6 HJ.out ?rest7x6
  case hy7x6 => (intro W' hJ; obtain ⟨j0, j1⟩ := hJ; go_simp; first | done | with_reducible rfl)
  refine wpL_take (i := 7) (v := ?v8x7) rfl (by kernel_rfl) (by kernel_rfl) (by kernel_rfl) (fun _ _ _ h => h) (by kernel_rfl) ?hy8x7 HJ.out ?rest8x7
  case hy8x7 => (intro W' hJ; obtain ⟨j0, j1⟩ := hJ; go_simp; first | done | with_reducible rfl)
  refine wpL_take (i := 8) (v := ?v9x8) rfl (by kernel_rfl) (by kernel_rfl) (by kernel_rfl) (fun _ _ _ h => h) (by kernel_rfl) ?hy9x8 HJ.out ?rest9x8
  case hy9x8 => (intro W' hJ; obtain ⟨j0, j1⟩ := hJ; go_simp; first | done | with_reducible rfl)
  refine wpL_take (i := 9) (v := ?v10x9) rfl (by kernel_rfl) (by kernel_rfl) (by kernel_rfl) (fun _ _ _ h => h) (by kernel_rfl) ?hy10x9 HJ.out ?rest10x9
  case hy10x9 => (intro W' hJ; obtain ⟨j0, j1⟩ := hJ; go_simp; first | done | with_reducible rfl)
  go_simp
  refine wpL_take (i := 10) (v := ?v11x10) rfl (by kernel_rfl) (by kernel_rfl) (by kernel_rfl) (fun _ _ _ h => h) (by kernel_rfl) ?hy11x10 HJ.out ?rest11x10
  case hy11x10 => (intro W' hJ; obtain ⟨j0, j1⟩ := hJ; go_simp; first | done | with_reducible rfl)
  refine wpL_take (i := 11) (v := ?v12x11) rfl (by kernel_rfl) (by kernel_rfl) (by kernel_rfl) (fun _ _ _ h => h) (by kernel_rfl) ?hy12x11 HJ.out ?rest12x11
  case hy12x11 => (intro W' hJ; obtain ⟨j0, j1⟩ := hJ; go_simp; first | done | with_reducible rfl)
  refine wpL_take (i := 12) (v := ?v13x12) rfl (by kernel_rfl) (by kernel_rfl) (by kernel_rfl) (fun _ _ _ h => h) (by kernel_rfl) ?hy13x12 HJ.out ?rest13x12
  case hy13x12 => (intro W' hJ; obtain ⟨j0, j1⟩ := hJ; go_simp; first | done | with_reducible rfl)
  refine wpL_take (i := 13) (v := ?v14x13) rfl (by kernel_rfl) (by kernel_rfl) (by kernel_rfl) (fun _ _ _ h => h) (by kernel_rfl) ?hy14x13 HJ.out ?rest14x13
  case hy14x13 => (intro W' hJ; obtain ⟨j0, j1⟩ := hJ; go_simp; first | done | with_reducible rfl)
  go_simp
  obtain ⟨cu0, cu1, cu2, cu3, fu0, fu1, fu2, fu3⟩ := Xu.out
  have hneu : gu < Vd0.heap.size := World.block_lt_of_cell? Vd0 _ cu0
  refine wpL_last (by kernel_rfl) rfl (by kernel_rfl) (fun KJ hK => ?_)
  go_simp
  refine hK _ _ ?_
  clear hK HJ
  refine wpL_done (by kernel_rfl) ?_ _
  clear t1 p1 p2 p3 p4 p5 p6
  obtain ⟨Ve0, hVe0⟩ : ∃ W9, W9 = (Vd0.setCell ⟨gu, 0, none⟩ (.int .u64 (bits .or .u64 (IntKind.u64.wrap ((x0 : Int) * 2 ^ s)) ((x1 : Int) / 2 ^ (64 - s))))) := ⟨_, rfl⟩
  have Yu : Hid (B4q Ve0 gu (.int .u64 (bits .or .u64 (IntKind.u64.wrap ((x0 : Int) * 2 ^ s)) ((x1 : Int) / 2 ^ (64 - s)))) (.int .u64 0) (.int .u64 0) (.int .u64 0)) := by rw [hVe0]; exact ⟨by go_simp, by go_simp, by go_simp, by go_simp, by go_simp, by go_simp, by go_simp, by go_simp⟩
  obtain ⟨cr0, cr1, cr2, cr3, fr0, fr1, fr2, fr3⟩ := Xr.out
  have hner : gr < Vd0.heap.size := World.block_lt_of_cell? Vd0 _ cr0
  have Yr : Hid (B4q Ve0 gr (.int .u64 0) (.int .u64 0) (.int .u64 0) (.int .u64 0)) := by rw [hVe0]; exact ⟨by go_simp, by go_simp, by go_simp, by go_simp, by go_simp, by go_simp, by go_simp, by go_simp⟩
  clear cr0 cr1 cr2 cr3 fr0 fr1 fr2 fr3 hner
  have hbw2 : Below w.heap.size w Ve0 := by rw [hVe0]; exact bSet (hbw) _ _ _ HGu.out
  clear cu0 cu1 cu2 cu3 fu0 fu1 fu2 fu3 hneu
  rw [← hVe0]
  clear hVe0 hbw Xr Xu
  have hbw := hbw2
  clear hbw2
  have Xr := Yr
  clear Yr
  have Xu := Yu
  clear Yu
  obtain ⟨cu0, cu1, cu2, cu3, fu0, fu1, fu2, fu3⟩ := Xu.out
  have hneu : gu < Ve0.heap.size := World.block_lt_of_cell? Ve0 _ cu0
  go_wp2_with fail
  clear cu0 cu1 cu2 cu3 fu0 fu1 fu2 fu3 hneu
  rw [rounds_succ]
  have t1 := (TB.out.below hbw) k1 HA.out.2.2.2.2.2.1
  rw [← HX1.out.1] at t1
  obtain ⟨p1, p2, p3⟩ := KW1.out
  obtain ⟨p4, p5⟩ := KB1.out
  obtain ⟨cu0, cu1, cu2, cu3, fu0, fu1, fu2, fu3⟩ := Xu.out
  have hneu : gu < Ve0.heap.size := World.block_lt_of_cell? Ve0 _ cu0
  go_wp2_with fail
  clear t1 p1 p2 p3 p4 p5
  obtain ⟨Vc1, hVc1⟩ : ∃ W9, W9 = (Ve0.setCell ⟨gu, 1, none⟩ (.int .u64 (IntKind.u64.wrap ((x1 : Int) * 2 ^ s)))) := ⟨_, rfl⟩
  have Yu : Hid (B4q Vc1 gu (.int .u64 (bits .or .u64 (IntKind.u64.wrap ((x0 : Int) * 2 ^ s)) ((x1 : Int) / 2 ^ (64 - s)))) (.int .u64 (IntKind.u64.wrap ((x1 : Int) * 2 ^ s))) (.int .u64 0) (.int .u64 0)) := by rw [hVc1]; exact ⟨by go_simp, by go_simp, by go_simp, by go_simp, by go_simp, by go_simp, by go_simp, by go_simp⟩
  obtain ⟨cr0, cr1, cr2, cr3, fr0, fr1, fr2, fr3⟩ := Xr.out
  have hner : gr < Ve0.heap.size := World.block_lt_of_cell? Ve0 _ cr0
  have Yr : Hid (B4q Vc1 gr (.int .u64 0) (.int .u64 0) (.int .u64 0) (.int .u64 0)) := by rw [hVc1]; exact ⟨by go_simp, by go_simp, by go_simp, by go_simp, by go_simp, by go_simp, by go_simp, by go_simp⟩
  clear cr0 cr1 cr2 cr3 fr0 fr1 fr2 fr3 hner
  have hbw2 : Below w.heap.size w Vc1 := by rw [hVc1]; exact bSet (hbw) _ _ _ HGu.out
  clear cu0 cu1 cu2 cu3 fu0 fu1 fu2 fu3 hneu
  rw [← hVc1]
  clear hVc1 hbw Xr Xu
  have hbw := hbw2
  clear hbw2
  have Xr := Yr
  clear Yr
  have Xu := Yu
  clear Yu
  have t2 := (TB.out.below hbw) k2 HA.out.2.2.2.2.2.2.1
  rw [← HX2.out.1] at t2
  obtain ⟨p1, p2, p3⟩ := KW1.out
  obtain ⟨p4, p5⟩ := KB2.out
  have p6 := KS.out
  obtain ⟨Vd1, hVd1⟩ : ∃ W9, W9 = Vc1.drew := ⟨_, rfl⟩
  have hbd : Below Vc1.heap.size Vc1 Vd1 := by rw [hVd1]; exact bDrew1 (Below.refl _ _)
  replace Xr : Hid _ := Xr.out.below hbd
  replace Xu : Hid _ := Xu.out.below hbd
  replace hbw := Below.on hbw hbd
  clear hbd
  have HJ : Hid ((fun W' : World => W'.cell? ⟨gu, 1, none⟩ = some (.int .u64 (IntKind.u64.wrap ((x1 : Int) * 2 ^ s))) ∧ W'.cell? ⟨0, k2, none⟩ = some (U x2)) Vd1) := ⟨Xu.out.c1, ((TB.out.below hbw) k2 HA.out.2.2.2.2.2.2.1).trans (by rw [HX2.out.1])⟩
  refine wp_region_L (fun W' => W'.cell? ⟨gu, 1, none⟩ = some (.int .u64 (IntKind.u64.wrap ((x1 : Int) * 2 ^ s))) ∧ W'.cell? ⟨0, k2, none⟩ = some (U x2)) 14 (by kernel_rfl) ?_
  rw [← hVd1]
  clear hVd1
  refine wpL_take (i := 0) (v := ?v15x0) rfl (by kernel_rfl) (by kernel_rfl) (by kernel_rfl) (fun _ _ _ h => h) (by kernel_rfl) ?hy15x0 HJ.out ?rest15x0
  case hy15x0 => (intro W' hJ; obtain ⟨j0, j1⟩ := hJ; go_simp; first | done | with_reducible rfl)
  refine wpL_take (i := 1) (v := ?v16x1) rfl (by kernel_rfl) (by kernel_rfl) (by kernel_rfl) (fun _ _ _ h => h) (by kernel_rfl) ?hy16x1 HJ.out ?rest16x1
  case hy16x1 => (intro W' hJ; obtain ⟨j0, j1⟩ := hJ; go_simp; first | done | with_reducible rfl)
  refine wpL_take (i := 2) (v := ?v17x2) rfl (by kernel_rfl) (by kernel_rfl) (by kernel_rfl) (fun _ _ _ h => h) (by kernel_rfl) ?hy17x2 HJ.out ?rest17x2
  case hy17x2 => (intro W' hJ; obtain ⟨j0, j1⟩ := hJ; go_simp; first | done | with_reducible rfl)
  refine wpL_take (i := 3) (v := ?v18x3) rfl (by kernel_rfl) (by kernel_rfl) (by kernel_rfl) (fun _ _ _ h => h) (by kernel_rfl) ?hy18x3 HJ.out ?rest18x3
  case hy18x3 => (intro W' hJ; obtain ⟨j0, j1⟩ := hJ; go_simp; first | done | with_reducible rfl)
  refine wpL_take (i := 4) (v := ?v19x4) rfl (by kernel_rfl) (by kernel_rfl) (by kernel_rfl) (fun _ _ _ h => h) (by kernel_rfl) ?hy19x4 HJ.out ?rest19x4
  case hy19x4 => (intro W' hJ; obtain ⟨j0, j1⟩ := hJ; go_simp; first | done | with_reducible rfl)
  go_simp
  refine wpL_take (i := 5) (v := ?v20x5) rfl (by kernel_rfl) (by kernel_rfl) (by kernel_rfl) (fun _ _ _ h => h) (by kernel_rfl) ?hy20x5 HJ.out ?rest20x5
  case hy20x5 => (intro W' hJ; obtain ⟨j0, j1⟩ := hJ; go_simp; first | done | with_reducible rfl)
  refine wpL_take (i := 6) (v := ?v21x6) rfl (by kernel_rfl) (by kernel_rfl) (by kernel_rfl) (fun _ _ _ h => h) (by kernel_rfl) ?hy21x6 HJ.out ?rest21x6
  case hy21x6 => (intro W' hJ; obtain ⟨j0, j1⟩ := hJ; go_simp; first | done | with_reducible rfl)
  refine wpL_take (i := 7) (v := ?v22x7) rfl (by kernel_rfl) (by kernel_rfl) (by kernel_rfl) (fun _ _ _ h => h) (by kernel_rfl) ?hy22x7 HJ.out ?rest22x7
  case hy22x7 => (intro W' hJ; obtain ⟨j0, j1⟩ := hJ; go_simp; first | done | with_reducible rfl)
  refine wpL_take (i := 8) (v := ?v23x8) rfl (by kernel_rfl) (by kernel_rfl) (by kernel_rfl) (fun _ _ _ h => h) (by kernel_rfl) ?hy23x8 HJ.out ?rest23x8
  case hy23x8 => (intro W' hJ; obtain ⟨j0, j1⟩ := hJ; go_simp; first | done | with_reducible rfl)
  refine wpL_take (i := 9) (v := ?v24x9) rfl (by kernel_rfl) (by kernel_rfl) (by kernel_rfl) (fun _ _ _ h => h) (by kernel_rfl) ?hy24x9 HJ.out ?rest24x9
  case hy24x9 => (intro W' hJ; obtain ⟨j0, j1⟩ := hJ; go_simp; first | done | with_reducible rfl)
  go_simp
  refine wpL_take (i := 10) (v := ?v25x10) rfl (by kernel_rfl) (by kernel_rfl) (by kernel_rfl) (fun _ _ _ h => h) (by kernel_rfl) ?hy25x10 HJ.out ?rest25x10
  case hy25x10 => (intro W' hJ; obtain ⟨j0, j1⟩ := hJ; go_simp; first | done | with_reducible rfl)
  refine wpL_take (i := 11) (v := ?v26x11) rfl (by kernel_rfl) (by kernel_rfl) (by kernel_rfl) (fun _ _ _ h => h) (by kernel_rfl) ?hy26x11 HJ.out ?rest26x11
  case hy26x11 => (intro W' hJ; obtain ⟨j0, j1⟩ := hJ; go_simp; first | done | with_reducible rfl)
  refine wpL_take (i := 12) (v := ?v27x12) rfl (by kernel_rfl) (by kernel_rfl) (by kernel_rfl) (fun _ _ _ h => h) (by kernel_rfl) ?hy27x12 HJ.out ?rest27x12
  case hy27x12 => (intro W' hJ; obtain ⟨j0, j1⟩ := hJ; go_simp; first | done | with_reducible rfl)
  refine wpL_take (i := 13) (v := ?v28x13) rfl (by kernel_rfl) (by kernel_rfl) (by kernel_rfl) (fun _ _ _ h => h) (by kernel_rfl) ?hy28x13 HJ.out ?rest28x13
  case hy28x13 => (intro W' hJ; obtain ⟨j0, j1⟩ := hJ; go_simp; first | done | with_reducible rfl)
  go_simp
  obtain ⟨cu0, cu1, cu2, cu3, fu0, fu1, fu2, fu3⟩ := Xu.out
  have hneu : gu < Vd1.heap.size := World.block_lt_of_cell? Vd1 _ cu0
  refine wpL_last (by kernel_rfl) rfl (by kernel_rfl) (fun KJ hK => ?_)
  go_simp
  refine hK _ _ ?_
  clear hK HJ
  refine wpL_done (by kernel_rfl) ?_ _
  clear t2 p1 p2 p3 p4 p5 p6
  obtain ⟨Ve1, hVe1⟩ : ∃ W9, W9 = (Vd1.setCell ⟨gu, 1, none⟩ (.int .u64 (bits .or .u64 (IntKind.u64.wrap ((x1 : Int) * 2 ^ s)) ((x2 : Int) / 2 ^ (64 - s))))) := ⟨_, rfl⟩
  have Yu : Hid (B4q Ve1 gu (.int .u64 (bits .or .u64 (IntKind.u64.wrap ((x0 : Int) * 2 ^ s)) ((x1 : Int) / 2 ^ (64 - s)))) (.int .u64 (bits .or .u64 (IntKind.u64.wrap ((x1 : Int) * 2 ^ s)) ((x2 : Int) / 2 ^ (64 - s)))) (.int .u64 0) (.int .u64 0)) := by rw [hVe1]; exact ⟨by go_simp, by go_simp, by go_simp, by go_simp, by go_simp, by go_simp, by go_simp, by go_simp⟩
  obtain ⟨cr0, cr1, cr2, cr3, fr0, fr1, fr2, fr3⟩ := Xr.out
  have hner : gr < Vd1.heap.size := World.block_lt_of_cell? Vd1 _ cr0
  have Yr : Hid (B4q Ve1 gr (.int .u64 0) (.int .u64 0) (.int .u64 0) (.int .u64 0)) := by rw [hVe1]; exact ⟨by go_simp, by go_simp, by go_simp, by go_simp, by go_simp, by go_simp, by go_simp, by go_simp⟩
  clear cr0 cr1 cr2 cr3 fr0 fr1 fr2 fr3 hner
  have hbw2 : Below w.heap.size w Ve1 := by rw [hVe1]; exact bSet (hbw) _ _ _ HGu.out
  clear cu0 cu1 cu2 cu3 fu0 fu1 fu2 fu3 hneu
  rw [← hVe1]
  clear hVe1 hbw Xr Xu
  have hbw := hbw2
  clear hbw2
  have Xr := Yr
  clear Yr
  have Xu := Yu
  clear Yu
  obtain ⟨cu0, cu1, cu2, cu3, fu0, fu1, fu2, fu3⟩ := Xu.out
  have hneu : gu < Ve1.heap.size := World.block_lt_of_cell? Ve1 _ cu0
  go_wp2_with fail
  clear cu0 cu1 cu2 cu3 fu0 fu1 fu2 fu3 hneu
  rw [rounds_succ]
  have t2 := (TB.out.below hbw) k2 HA.out.2.2.2.2.2.2.1
  rw [← HX2.out.1] at t2
  obtain ⟨p1, p2, p3⟩ := KW2.out
  obtain ⟨p4, p5⟩ := KB2.out
  obtain ⟨cu0, cu1, cu2, cu3, fu0, fu1, fu2, fu3⟩ := Xu.out
  have hneu : gu < Ve1.heap.size := World.block_lt_of_cell? Ve1 _ cu0
  go_wp2_with fail
  clear t2 p1 p2 p3 p4 p5
  obtain ⟨Vc2, hVc2⟩ : ∃ W9, W9 = (Ve1.setCell ⟨gu, 2, none⟩ (.int .u64 (IntKind.u64.wrap ((x2 : Int) * 2 ^ s)))) := ⟨_, rfl⟩
  have Yu : Hid (B4q Vc2 gu (.int .u64 (bits .or .u64 (IntKind.u64.wrap ((x0 : Int) * 2 ^ s)) ((x1 : Int) / 2 ^ (64 - s)))) (.int .u64 (bits .or .u64 (IntKind.u64.wrap ((x1 : Int) * 2 ^ s)) ((x2 : Int) / 2 ^ (64 - s)))) (.int .u64 (IntKind.u64.wrap ((x2 : Int) * 2 ^ s))) (.int .u64 0)) := by rw [hVc2]; exact ⟨by go_simp, by go_simp, by go_simp, by go_simp, by go_simp, by go_simp, by go_simp, by go_simp⟩
  obtain ⟨cr0, cr1, cr2, cr3, fr0, fr1, fr2, fr3⟩ := Xr.out
  have hner : gr < Ve1.heap.size := World.block_lt_of_cell? Ve1 _ cr0
  have Yr : Hid (B4q Vc2 gr (.int .u64 0) (.int .u64 0) (.int .u64 0) (.int .u64 0)) := by rw [hVc2]; exact ⟨by go_simp, by go_simp, by go_simp, by go_simp, by go_simp, by go_simp, by go_simp, by go_simp⟩
  clear cr0 cr1 cr2 cr3 fr0 fr1 fr2 fr3 hner
  have hbw2 : Below w.heap.size w Vc2 := by rw [hVc2]; exact bSet (hbw) _ _ _ HGu.out
  clear cu0 cu1 cu2 cu3 fu0 fu1 fu2 fu3 hneu
  rw [← hVc2]
  clear hVc2 hbw Xr Xu
  have hbw := hbw2
  clear hbw2
  have Xr := Yr
  clear Yr
  have Xu := Yu
  clear Yu
  have t3 := (TB.out.below hbw) k3 HA.out.2.2.2.2.2.2.2.1
  rw [← HX3.out.1] at t3
  obtain ⟨p1, p2, p3⟩ := KW2.out
  obtain ⟨p4, p5⟩ := KB3.out
  have p6 := KS.out
  obtain ⟨Vd2, hVd2⟩ : ∃ W9, W9 = Vc2.drew := ⟨_, rfl⟩
  have hbd : Below Vc2.heap.size Vc2 Vd2 := by rw [hVd2]; exact bDrew1 (Below.refl _ _)
  replace Xr : Hid _ := Xr.out.below hbd
  replace Xu : Hid _ := Xu.out.below hbd
  replace hbw := Below.on hbw hbd
  clear hbd
  have HJ : Hid ((fun W' : World => W'.cell? ⟨gu, 2, none⟩ = some (.int .u64 (IntKind.u64.wrap ((x2 : Int) * 2 ^ s))) ∧ W'.cell? ⟨0, k3, none⟩ = some (U x3)) Vd2) := ⟨Xu.out.c2, ((TB.out.below hbw) k3 HA.out.2.2.2.2.2.2.2.1).trans (by rw [HX3.out.1])⟩
  refine wp_region_L (fun W' => W'.cell? ⟨gu, 2, none⟩ = some (.int .u64 (IntKind.u64.wrap ((x2 : Int) * 2 ^ s))) ∧ W'.cell? ⟨0, k3, none⟩ = some (U x3)) 14 (by kernel_rfl) ?_
  rw [← hVd2]
  clear hVd2
  refine wpL_take (i := 0) (v := ?v29x0) rfl (by kernel_rfl) (by kernel_rfl) (by kernel_rfl) (fun _ _ _ h => h) (by kernel_rfl) ?hy29x0 HJ.out ?rest29x0
  case hy29x0 => (intro W' hJ; obtain ⟨j0, j1⟩ := hJ; go_simp; first | done | with_reducible rfl)
  refine wpL_take (i := 1) (v := ?v30x1) rfl (by kernel_rfl) (by kernel_rfl) (by kernel_rfl) (fun _ _ _ h => h) (by kernel_rfl) ?hy30x1 HJ.out ?rest30x1
  case hy30x1 => (intro W' hJ; obtain ⟨j0, j1⟩ := hJ; go_simp; first | done | with_reducible rfl)
  refine wpL_take (i := 2) (v := ?v31x2) rfl (by kernel_rfl) (by kernel_rfl) (by kernel_rfl) (fun _ _ _ h => h) (by kernel_rfl) ?hy31x2 HJ.out ?rest31x2
  case hy31x2 => (intro W' hJ; obtain ⟨j0, j1⟩ := hJ; go_simp; first | done | with_reducible rfl)
  refine wpL_take (i := 3) (v := ?v32x3) rfl (by kernel_rfl) (by kernel_rfl) (by kernel_rfl) (fun _ _ _ h => h) (by kernel_rfl) ?hy32x3 HJ.out ?rest32x3
  case hy32x3 => (intro W' hJ; obtain ⟨j0, j1⟩ := hJ; go_simp; first | done | with_reducible rfl)
  refine wpL_take (i := 4) (v := ?v33x4) rfl (by kernel_rfl) (by kernel_rfl) (by kernel_rfl) (fun _ _ _ h => h) (by kernel_rfl) ?hy33x4 HJ.out ?rest33x4
  case hy33x4 => (intro W' hJ; obtain ⟨j0, j1⟩ := hJ; go_simp; first | done | with_reducible rfl)
  go_simp
  refine wpL_take (i := 5) (v := ?v34x5) rfl (by kernel_rfl) (by kernel_rfl) (by kernel_rfl) (fun _ _ _ h => h) (by kernel_rfl) ?hy34x5 HJ.out ?rest34x5
  case hy34x5 => (intro W' hJ; obtain ⟨j0, j1⟩ := hJ; go_simp; first | done | with_reducible rfl)
  refine wpL_take (i := 6) (v := ?v35x6) rfl (by kernel_rfl) (by kernel_rfl) (by kernel_rfl) (fun _ _ _ h => h) (by kernel_rfl) ?hy35x6 HJ.out ?rest35x6
  case hy35x6 => (intro W' hJ; obtain ⟨j0, j1⟩ := hJ; go_simp; first | done | with_reducible rfl)
  refine wpL_take (i := 7) (v := ?v36x7) rfl (by kernel_rfl) (by kernel_rfl) (by kernel_rfl) (fun _ _ _ h => h) (by kernel_rfl) ?hy36x7 HJ.out ?rest36x7
  case hy36x7 => (intro W' hJ; obtain ⟨j0, j1⟩ := hJ; go_simp; first | done | with_reducible rfl)
  refine wpL_take (i := 8) (v := ?v37x8) rfl (by kernel_rfl) (by kernel_rfl) (by kernel_rfl) (fun _ _ _ h => h) (by kernel_rfl) ?hy37x8 HJ.out ?rest37x8
  case hy37x8 => (intro W' hJ; obtain ⟨j0, j1⟩ := hJ; go_simp; first | done | with_reducible rfl)
  refine wpL_take (i := 9) (v := ?v38x9) rfl (by kernel_rfl) (by kernel_rfl) (by kernel_rfl) (fun _ _ _ h => h) (by kernel_rfl) ?hy38x9 HJ.out ?rest38x9
  case hy38x9 => (intro W' hJ; obtain ⟨j0, j1⟩ := hJ; go_simp; first | done | with_reducible rfl)
  go_simp
  refine wpL_take (i := 10) (v := ?v39x10) rfl (by kernel_rfl) (by kernel_rfl) (by kernel_rfl) (fun _ _ _ h => h) (by kernel_rfl) ?hy39x10 HJ.out ?rest39x10
  case hy39x10 => (intro W' hJ; obtain ⟨j0, j1⟩ := hJ; go_simp; first | done | with_reducible rfl)
  refine wpL_take (i := 11) (v := ?v40x11) rfl (by kernel_rfl) (by kernel_rfl) (by kernel_rfl) (fun _ _ _ h => h) (by kernel_rfl) ?hy40x11 HJ.out ?rest40x11
  case hy40x11 => (intro W' hJ; obtain ⟨j0, j1⟩ := hJ; go_simp; first | done | with_reducible rfl)
  refine wpL_take (i := 12) (v := ?v41x12) rfl (by kernel_rfl) (by kernel_rfl) (by kernel_rfl) (fun _ _ _ h => h) (by kernel_rfl) ?hy41x12 HJ.out ?rest41x12
  case hy41x12 => (intro W' hJ; obtain ⟨j0, j1⟩ := hJ; go_simp; first | done | with_reducible rfl)
  refine wpL_take (i := 13) (v := ?v42x13) rfl (by kernel_rfl) (by kernel_rfl) (by kernel_rfl) (fun _ _ _ h => h) (by kernel_rfl) ?hy42x13 HJ.out ?rest42x13
  case hy42x13 => (intro W' hJ; obtain ⟨j0, j1⟩ := hJ; go_simp; first | done | with_reducible rfl)
  go_simp
  obtain ⟨cu0, cu1, cu2, cu3, fu0, fu1, fu2, fu3⟩ := Xu.out
  have hneu : gu < Vd2.heap.size := World.block_lt_of_cell? Vd2 _ cu0
  refine wpL_last (by kernel_rfl) rfl (by kernel_rfl) (fun KJ hK => ?_)
  go_simp
  refine hK _ _ ?_
  clear hK HJ
  refine wpL_done (by kernel_rfl) ?_ _
  clear t3 p1 p2 p3 p4 p5 p6
  obtain ⟨Ve2, hVe2⟩ : ∃ W9, W9 = (Vd2.setCell ⟨gu, 2, none⟩ (.int .u64 (bits .or .u64 (IntKind.u64.wrap ((x2 : Int) * 2 ^ s)) ((x3 : Int) / 2 ^ (64 - s))))) := ⟨_, rfl⟩
  have Yu : Hid (B4q Ve2 gu (.int .u64 (bits .or .u64 (IntKind.u64.wrap ((x0 : Int) * 2 ^ s)) ((x1 : Int) / 2 ^ (64 - s)))) (.int .u64 (bits .or .u64 (IntKind.u64.wrap ((x1 : Int) * 2 ^ s)) ((x2 : Int) / 2 ^ (64 - s)))) (.int .u64 (bits .or .u64 (IntKind.u64.wrap ((x2 : Int) * 2 ^ s)) ((x3 : Int) / 2 ^ (64 - s)))) (.int .u64 0)) := by rw [hVe2]; exact ⟨by go_simp, by go_simp, by go_simp, by go_simp, by go_simp, by go_simp, by go_simp, by go_simp⟩
  obtain ⟨cr0, cr1, cr2, cr3, fr0, fr1, fr2, fr3⟩ := Xr.out
  have hner : gr < Vd2.heap.size := World.block_lt_of_cell? Vd2 _ cr0
  have Yr : Hid (B4q Ve2 gr (.int .u64 0) (.int .u64 0) (.int .u64 0) (.int .u64 0)) := by rw [hVe2]; exact ⟨by go_simp, by go_simp, by go_simp, by go_simp, by go_simp, by go_simp, by go_simp, by go_simp⟩
  clear cr0 cr1 cr2 cr3 fr0 fr1 fr2 fr3 hner
  have hbw2 : Below w.heap.size w Ve2 := by rw [hVe2]; exact bSet (hbw) _ _ _ HGu.out
  clear cu0 cu1 cu2 cu3 fu0 fu1 fu2 fu3 hneu
  rw [← hVe2]
  clear hVe2 hbw Xr Xu
  have hbw := hbw2
  clear hbw2
  have Xr := Yr
  clear Yr
  have Xu := Yu
  clear Yu
  obtain ⟨cu0, cu1, cu2, cu3, fu0, fu1, fu2, fu3⟩ := Xu.out
  have hneu : gu < Ve2.heap.size := World.block_lt_of_cell? Ve2 _ cu0
  go_wp2_with fail
  clear cu0 cu1 cu2 cu3 fu0 fu1 fu2 fu3 hneu
  rw [rounds_succ]
  have t3 := (TB.out.below hbw) k3 HA.out.2.2.2.2.2.2.2.1
  rw [← HX3.out.1] at t3
  obtain ⟨p1, p2, p3⟩ := KW3.out
  obtain ⟨p4, p5⟩ := KB3.out
  obtain ⟨cu0, cu1, cu2, cu3, fu0, fu1, fu2, fu3⟩ := Xu.out
  have hneu : gu < Ve2.heap.size := World.block_lt_of_cell? Ve2 _ cu0
  go_wp2_with fail
  clear t3 p1 p2 p3 p4 p5
  obtain ⟨Vc3, hVc3⟩ : ∃ W9, W9 = (Ve2.setCell ⟨gu, 3, none⟩ (.int .u64 (IntKind.u64.wrap ((x3 : Int) * 2 ^ s)))) := ⟨_, rfl⟩
  have Yu : Hid (B4q Vc3 gu (.int .u64 (bits .or .u64 (IntKind.u64.wrap ((x0 : Int) * 2 ^ s)) ((x1 : Int) / 2 ^ (64 - s)))) (.int .u64 (bits .or .u64 (IntKind.u64.wrap ((x1 : Int) * 2 ^ s)) ((x2 : Int) / 2 ^ (64 - s)))) (.int .u64 (bits .or .u64 (IntKind.u64.wrap ((x2 : Int) * 2 ^ s)) ((x3 : Int) / 2 ^ (64 - s)))) (.int .u64 (IntKind.u64.wrap ((x3 : Int) * 2 ^ s)))) := by rw [hVc3]; exact ⟨by go_simp, by go_simp, by go_simp, by go_simp, by go_simp, by go_simp, by go_simp, by go_simp⟩
  obtain ⟨cr0, cr1, cr2, cr3, fr0, fr1, fr2, fr3⟩ := Xr.out
  have hner : gr < Ve2.heap.size := World.block_lt_of_cell? Ve2 _ cr0
  have Yr : Hid (B4q Vc3 gr (.int .u64 0) (.int .u64 0) (.int .u64 0) (.int .u64 0)) := by rw [hVc3]; exact ⟨by go_simp, by go_simp, by go_simp, by go_simp, by go_simp, by go_simp, by go_simp, by go_simp⟩
  clear cr0 cr1 cr2 cr3 fr0 fr1 fr2 fr3 hner
  have hbw2 : Below w.heap.size w Vc3 := by rw [hVc3]; exact bSet (hbw) _ _ _ HGu.out
  clear cu0 cu1 cu2 cu3 fu0 fu1 fu2 fu3 hneu
  rw [← hVc3]
  clear hVc3 hbw Xr Xu
  have hbw := hbw2
  clear hbw2
  have Xr := Yr
  clear Yr
  have Xu := Yu
  clear Yu
  have t4 := (TB.out.below hbw) k4 HA.out.2.2.2.2.2.2.2.2
  rw [← HX4.out.1] at t4
  obtain ⟨p1, p2, p3⟩ := KW3.out
  obtain ⟨p4, p5⟩ := KB4.out
  have p6 := KS.out
  obtain ⟨Vd3, hVd3⟩ : ∃ W9, W9 = Vc3.drew := ⟨_, rfl⟩
  have hbd : Below Vc3.heap.size Vc3 Vd3 := by rw [hVd3]; exact bDrew1 (Below.refl _ _)
  replace Xr : Hid _ := Xr.out.below hbd
  replace Xu : Hid _ := Xu.out.below hbd
  replace hbw := Below.on hbw hbd
  clear hbd
  have HJ : Hid ((fun W' : World => W'.cell? ⟨gu, 3, none⟩ = some (.int .u64 (IntKind.u64.wrap ((x3 : Int) * 2 ^ s))) ∧ W'.cell? ⟨0, k4, none⟩ = some (U x4)) Vd3) := ⟨Xu.out.c3, ((TB.out.below hbw) k4 HA.out.2.2.2.2.2.2.2.2).trans (by rw [HX4.out.1])⟩
  refine wp_region_L (fun W' => W'.cell? ⟨gu, 3, none⟩ = some (.int .u64 (IntKind.u64.wrap ((x3 : Int) * 2 ^ s))) ∧ W'.cell? ⟨0, k4, none⟩ = some (U x4)) 14 (by kernel_rfl) ?_
  rw [← hVd3]
  clear hVd3
  refine wpL_take (i := 0) (v := ?v43x0) rfl (by kernel_rfl) (by kernel_rfl) (by kernel_rfl) (fun _ _ _ h => h) (by kernel_rfl) ?hy43x0 HJ.out ?rest43x0
  case hy43x0 => (intro W' hJ; obtain ⟨j0, j1⟩ := hJ; go_simp; first | done | with_reducible rfl)
  refine wpL_take (i := 1) (v := ?v44x1) rfl (by kernel_rfl) (by kernel_rfl) (by kernel_rfl) (fun _ _ _ h => h) (by kernel_rfl) ?hy44x1 HJ.out ?rest44x1
  case hy44x1 => (intro W' hJ; obtain ⟨j0, j1⟩ := hJ; go_simp; first | done | with_reducible rfl)
  refine wpL_take (i := 2) (v := ?v45x2) rfl (by kernel_rfl) (by kernel_rfl) (by kernel_rfl) (fun _ _ _ h => h) (by kernel_rfl) ?hy45x2 HJ.out ?rest45x2
  case hy45x2 => (intro W' hJ; obtain ⟨j0, j1⟩ := hJ; go_simp; first | done | with_reducible rfl)
  refine wpL_take (i := 3) (v := ?v46x3) rfl (by kernel_rfl) (by kernel_rfl) (by kernel_rfl) (fun _ _ _ h => h) (by kernel_rfl) ?hy46x3 HJ.out ?rest46x3
  case hy46x3 => (intro W' hJ; obtain ⟨j0, j1⟩ := hJ; go_simp; first | done | with_reducible rfl)
  refine wpL_take (i := 4) (v := ?v47x4) rfl (by kernel_rfl) (by kernel_rfl) (by kernel_rfl) (fun _ _ _ h => h) (by kernel_rfl) ?hy47x4 HJ.out ?rest47x4
  case hy47x4 => (intro W' hJ; obtain ⟨j0, j1⟩ := hJ; go_simp; first | done | with_reducible rfl)
  go_simp
  refine wpL_take (i := 5) (v := ?v48x5) rfl (by kernel_rfl) (by kernel_rfl) (by kernel_rfl) (fun _ _ _ h => h) (by kernel_rfl) ?hy48x5 HJ.out ?rest48x5
  case hy48x5 => (intro W' hJ; obtain ⟨j0, j1⟩ := hJ; go_simp; first | done | with_reducible rfl)
  refine wpL_take (i := 6) (v := ?v49x6) rfl (by kernel_rfl) (by kernel_rfl) (by kernel_rfl) (fun _ _ _ h => h) (by kernel_rfl) ?hy49x6 HJ.out ?rest49x6
  case hy49x6 => (intro W' hJ; obtain ⟨j0, j1⟩ := hJ; go_simp; first | done | with_reducible rfl)
  refine wpL_take (i := 7) (v := ?v50x7) rfl (by kernel_rfl) (by kernel_rfl) (by kernel_rfl) (fun _ _ _ h => h) (by kernel_rfl) ?hy50x7 HJ.out ?rest50x7
  case hy50x7 => (intro W' hJ; obtain ⟨j0, j1⟩ := hJ; go_simp; first | done | with_reducible rfl)
  refine wpL_take (i := 8) (v := ?v51x8) rfl (by kernel_rfl) (by kernel_rfl) (by kernel_rfl) (fun _ _ _ h => h) (by kernel_rfl) ?hy51x8 HJ.out ?rest51x8
  case hy51x8 => (intro W' hJ; obtain ⟨j0, j1⟩ := hJ; go_simp; first | done | with_reducible rfl)
  refine wpL_take (i := 9) (v := ?v52x9) rfl (by kernel_rfl) (by kernel_rfl) (by kernel_rfl) (fun _ _ _ h => h) (by kernel_rfl) ?hy52x9 HJ.out ?rest52x9
  case hy52x9 => (intro W' hJ; obtain ⟨j0, j1⟩ := hJ; go_simp; first | done | with_reducible rfl)
  go_simp
  refine wpL_take (i := 10) (v := ?v53x10) rfl (by kernel_rfl) (by kernel_rfl) (by kernel_rfl) (fun _ _ _ h => h) (by kernel_rfl) ?hy53x10 HJ.out ?rest53x10
  case hy53x10 => (intro W' hJ; obtain ⟨j0, j1⟩ := hJ; go_simp; first | done | with_reducible rfl)
  refine wpL_take (i := 11) (v := ?v54x11) rfl (by kernel_rfl) (by kernel_rfl) (by kernel_rfl) (fun _ _ _ h => h) (by kernel_rfl) ?hy54x11 HJ.out ?rest54x11
  case hy54x11 => (intro W' hJ; obtain ⟨j0, j1⟩ := hJ; go_simp; first | done | with_reducible rfl)
  refine wpL_take (i := 12) (v := ?v55x12) rfl (by kernel_rfl) (by kernel_rfl) (by kernel_rfl) (fun _ _ _ h => h) (by kernel_rfl) ?hy55x12 HJ.out ?rest55x12
  case hy55x12 => (intro W' hJ; obtain ⟨j0, j1⟩ := hJ; go_simp; first | done | with_reducible rfl)
  refine wpL_take (i := 13) (v := ?v56x13) rfl (by kernel_rfl) (by kernel_rfl) (by kernel_rfl) (fun _ _ _ h => h) (by kernel_rfl) ?hy56x13 HJ.out ?rest56x13
  case hy56x13 => (intro W' hJ; obtain ⟨j0, j1⟩ := hJ; go_simp; first | done | with_reducible rfl)
  go_simp
  obtain ⟨cu0, cu1, cu2, cu3, fu0, fu1, fu2, fu3⟩ := Xu.out
  have hneu : gu < Vd3.heap.size := World.block_lt_of_cell? Vd3 _ cu0
  refine wpL_last (by kernel_rfl) rfl (by kernel_rfl) (fun KJ hK => ?_)
  go_simp
  refine hK _ _ ?_
  clear hK HJ
  refine wpL_done (by kernel_rfl) ?_ _
  clear t4 p1 p2 p3 p4 p5 p6
  obtain ⟨Ve3, hVe3⟩ : ∃ W9, W9 = (Vd3.setCell ⟨gu, 3, none⟩ (.int .u64 (bits .or .u64 (IntKind.u64.wrap ((x3 : Int) * 2 ^ s)) ((x4 : Int) / 2 ^ (64 - s))))) := ⟨_, rfl⟩
  have Yu : Hid (B4q Ve3 gu (.int .u64 (bits .or .u64 (IntKind.u64.wrap ((x0 : Int) * 2 ^ s)) ((x1 : Int) / 2 ^ (64 - s)))) (.int .u64 (bits .or .u64 (IntKind.u64.wrap ((x1 : Int) * 2 ^ s)) ((x2 : Int) / 2 ^ (64 - s)))) (.int .u64 (bits .or .u64 (IntKind.u64.wrap ((x2 : Int) * 2 ^ s)) ((x3 : Int) / 2 ^ (64 - s)))) (.int .u64 (bits .or .u64 (IntKind.u64.wrap ((x3 : Int) * 2 ^ s)) ((x4 : Int) / 2 ^ (64 - s))))) := by rw [hVe3]; exact ⟨by go_simp, by go_simp, by go_simp, by go_simp, by go_simp, by go_simp, by go_simp, by go_simp⟩
  obtain ⟨cr0, cr1, cr2, cr3, fr0, fr1, fr2, fr3⟩ := Xr.out
  have hner : gr < Vd3.heap.size := World.block_lt_of_cell? Vd3 _ cr0
  have Yr : Hid (B4q Ve3 gr (.int .u64 0) (.int .u64 0) (.int .u64 0) (.int .u64 0)) := by rw [hVe3]; exact ⟨by go_simp, by go_simp, by go_simp, by go_simp, by go_simp, by go_simp, by go_simp, by go_simp⟩
  clear cr0 cr1 cr2 cr3 fr0 fr1 fr2 fr3 hner
  have hbw2 : Below w.heap.size w Ve3 := by rw [hVe3]; exact bSet (hbw) _ _ _ HGu.out
  clear cu0 cu1 cu2 cu3 fu0 fu1 fu2 fu3 hneu
  rw [← hVe3]
  clear hVe3 hbw Xr Xu
  have hbw := hbw2
  clear hbw2
  have Xr := Yr
  clear Yr
  have Xu := Yu
  clear Yu
  obtain ⟨cu0, cu1, cu2, cu3, fu0, fu1, fu2, fu3⟩ := Xu.out
  have hneu : gu < Ve3.heap.size := World.block_lt_of_cell? Ve3 _ cu0
  go_wp2_with fail
  clear cu0 cu1 cu2 cu3 fu0 fu1 fu2 fu3 hneu
  rw [rounds_succ]
  obtain ⟨cu0, cu1, cu2, cu3, fu0, fu1, fu2, fu3⟩ := Xu.out
  have hneu : gu < Ve3.heap.size := World.block_lt_of_cell? Ve3 _ cu0
  obtain ⟨cr0, cr1, cr2, cr3, fr0, fr1, fr2, fr3⟩ := Xr.out
  have hner : gr < Ve3.heap.size := World.block_lt_of_cell? Ve3 _ cr0
  go_wp2_with fail
  refine bodyPost_ret (v := .tuple #[.agg #[.int .u64 (bits .or .u64 (IntKind.u64.wrap ((x0 : Int) * 2 ^ s)) ((x1 : Int) / 2 ^ (64 - s))), .int .u64 (bits .or .u64 (IntKind.u64.wrap ((x1 : Int) * 2 ^ s)) ((x2 : Int) / 2 ^ (64 - s))), .int .u64 (bits .or .u64 (IntKind.u64.wrap ((x2 : Int) * 2 ^ s)) ((x3 : Int) / 2 ^ (64 - s))), .int .u64 (bits .or .u64 (IntKind.u64.wrap ((x3 : Int) * 2 ^ s)) ((x4 : Int) / 2 ^ (64 - s)))], .int .i64 0]) (by rw [results_ct rfl]; go_simp) rfl ⟨?_, ?_⟩
  · rw [walk_up x0 x1 s (Nat.le_of_lt HA.out.2.2.1) HX1.out.2, walk_up x1 x2 s (Nat.le_of_lt HA.out.2.2.1) HX2.out.2, walk_up x2 x3 s (Nat.le_of_lt HA.out.2.2.1) HX3.out.2, walk_up x3 x4 s (Nat.le_of_lt HA.out.2.2.1) HX4.out.2]
    obtain ⟨e0, e1, e2, e3, e4⟩ := HKK.out
    unfold wN
    rw [HX0.out.1, HX1.out.1, HX2.out.1, HX3.out.1, HX4.out.1, e0, e1, e2, e3, e4]
    first | done | rfl
  · exact bSet (bSet (bSet (bSet (hbw) _ _ _ HGr.out) _ _ _ HGr.out) _ _ _ HGr.out) _ _ _ HGr.out
theorem window_0 (a f : Nat) (ha : a = 64 * f) (hf : f ≤ 16) (w : World) (hT : TabW w) : Calls Tryd.prog 4 #[.int .i64 a] w fun en w' => en = .returned (.tuple #[.agg #[U (PW.getD f 0), U (PW.getD (f + 1) 0), U (PW.getD (f + 2) 0), U (PW.getD (f + 3) 0)], .int .i64 0]) ∧ Below w.heap.size w w' := by
  have hi1 : (a : Int) / 64 = (f : Int) := by omega
  have hi2 : (a : Int) % 64 = 0 := by omega
  have hi3 : decide ((a : Int) < 0) = false := decide_eq_false (by omega)
  have hi4 : decide ((1024 : Int) < (a : Int)) = false := decide_eq_false (by omega)
  have hi5 : (a : Int).tdiv 64 = (f : Int) := by rw [Int.tdiv_eq_ediv_of_nonneg (by omega)]; exact hi1
  have hi6 : (a : Int).tmod 64 = 0 := by rw [Int.tmod_eq_emod_of_nonneg (by omega)]; exact hi2
  obtain ⟨k0, hk0⟩ : ∃ k, k = f + 0 := ⟨_, rfl⟩
  have KB0 : Hid ((0 : Int) ≤ (k0 : Int) ∧ (k0 : Int) < 20) := ⟨by omega, by omega⟩
  have bd0 : k0 = k0 + 0 := by omega
  have be0 : k0 < 1000 := by omega
  obtain ⟨k1, hk1⟩ : ∃ k, k = f + 1 := ⟨_, rfl⟩
  have KB1 : Hid ((0 : Int) ≤ (k1 : Int) ∧ (k1 : Int) < 20) := ⟨by omega, by omega⟩
  have bd1 : k1 = k0 + 1 := by omega
  have be1 : k1 < 1000 := by omega
  obtain ⟨k2, hk2⟩ : ∃ k, k = f + 2 := ⟨_, rfl⟩
  have KB2 : Hid ((0 : Int) ≤ (k2 : Int) ∧ (k2 : Int) < 20) := ⟨by omega, by omega⟩
  have bd2 : k2 = k0 + 2 := by omega
  have be2 : k2 < 1000 := by omega
  obtain ⟨k3, hk3⟩ : ∃ k, k = f + 3 := ⟨_, rfl⟩
  have KB3 : Hid ((0 : Int) ≤ (k3 : Int) ∧ (k3 : Int) < 20) := ⟨by omega, by omega⟩
  have bd3 : k3 = k0 + 3 := by omega
  have be3 : k3 < 1000 := by omega
  have bdf : k0 = f := by omega
  have HA : Hid (a = 64 * f ∧ f ≤ 16 ∧ True ∧ True ∧ k0 < 20 ∧ k1 < 20 ∧ k2 < 20 ∧ k3 < 20 ∧ True) := ⟨ha, hf, trivial, trivial, by omega, by omega, by omega, by omega, trivial⟩
  have kw0 : wrap64 (f : Int) = (k0 : Int) := kwf bdf be0
  have KW0 : Hid (wrap64 (k0 : Int) = (k0 : Int) ∧ IntKind.i64.wrap (k0 : Int) = (k0 : Int)) := ⟨kwf rfl be0, jwf rfl be0⟩
  have KW1 : Hid (wrap64 ((k0 : Int) + 1) = (k1 : Int) ∧ IntKind.i64.wrap ((k0 : Int) + 1) = (k1 : Int)) := ⟨kwn 1 bd1 be1, jwn 1 bd1 be1⟩
  have KW2 : Hid (wrap64 ((k0 : Int) + 2) = (k2 : Int) ∧ IntKind.i64.wrap ((k0 : Int) + 2) = (k2 : Int)) := ⟨kwn 2 bd2 be2, jwn 2 bd2 be2⟩
  have KW3 : Hid (wrap64 ((k0 : Int) + 3) = (k3 : Int) ∧ IntKind.i64.wrap ((k0 : Int) + 3) = (k3 : Int)) := ⟨kwn 3 bd3 be3, jwn 3 bd3 be3⟩
  have HKK : Hid (k0 = f ∧ k1 = f + 1 ∧ k2 = f + 2 ∧ k3 = f + 3) := ⟨hk0, hk1, hk2, hk3⟩
  have TB : Hid (TabW w) := hT
  clear ha hf hT hk0 hk1 hk2 hk3 bd0 bd1 bd2 bd3 be0 be1 be2 be3 bdf
  go_enter Tryd.func4, Tryd.ntmps4
  go_wp2_with fail
  obtain ⟨W0, hW0⟩ : ∃ W0, W0 = ((w.alloc (.cells #[.int .u64 0, .int .u64 0, .int .u64 0, .int .u64 0] 24)).alloc (.cells #[.int .u64 0, .int .u64 0, .int .u64 0, .int .u64 0] 24)) := ⟨_, rfl⟩
  have Xr : Hid (B4q W0 (w.heap.size) (.int .u64 0) (.int .u64 0) (.int .u64 0) (.int .u64 0)) := by rw [hW0]; exact ⟨by go_simp, by go_simp, by go_simp, by go_simp, by go_simp, by go_simp, by go_simp, by go_simp⟩
  have Xu : Hid (B4q W0 (w.heap.size + 1) (.int .u64 0) (.int .u64 0) (.int .u64 0) (.int .u64 0)) := by rw [hW0]; exact ⟨by go_simp, by go_simp, by go_simp, by go_simp, by go_simp, by go_simp, by go_simp, by go_simp⟩
  have hb0 : Below w.heap.size w W0 := by rw [hW0]; exact below2 w _ _
  rw [← hW0]
  clear hW0
  have hbw : Below w.heap.size w w := Below.refl _ _
  obtain ⟨gu, hgu⟩ : ∃ g, g = w.heap.size + 1 := ⟨_, rfl⟩
  have HGu : Hid (w.heap.size ≤ gu) := by rw [hgu]; show _ ≤ _; omega
  rw [← hgu] at Xu
  try rw [← hgu]
  obtain ⟨gr, hgr⟩ : ∃ g, g = w.heap.size := ⟨_, rfl⟩
  have HGr : Hid (w.heap.size ≤ gr) := by rw [hgr]; show _ ≤ _; omega
  rw [← hgr] at Xr
  try rw [← hgr]
  have HGD : Hid (gr ≠ gu ∧ gu ≠ gr) := by rw [hgr, hgu]; exact ⟨by omega, by omega⟩
  clear hgr hgu
  replace hbw := Below.on hbw hb0
  clear hb0
  obtain ⟨hgd0, hgd1⟩ := HGD.out
  refine wp_loop_rounds 5 ?_
  rw [rounds_succ]
  obtain ⟨x0, hx0⟩ : ∃ x, x = PW.getD k0 0 := ⟨_, rfl⟩
  have HX0 : Hid (x0 = PW.getD k0 0 ∧ x0 < B64) := ⟨hx0, by rw [hx0]; exact pw_lt _⟩
  have HU0 : Hid (IntKind.u64.wrap (x0 : Int) = (x0 : Int)) := wrapU (by have := HX0.out.2; rw [B64_eq] at this; exact this)
  clear hx0
  obtain ⟨x1, hx1⟩ : ∃ x, x = PW.getD k1 0 := ⟨_, rfl⟩
  have HX1 : Hid (x1 = PW.getD k1 0 ∧ x1 < B64) := ⟨hx1, by rw [hx1]; exact pw_lt _⟩
  have HU1 : Hid (IntKind.u64.wrap (x1 : Int) = (x1 : Int)) := wrapU (by have := HX1.out.2; rw [B64_eq] at this; exact this)
  clear hx1
  obtain ⟨x2, hx2⟩ : ∃ x, x = PW.getD k2 0 := ⟨_, rfl⟩
  have HX2 : Hid (x2 = PW.getD k2 0 ∧ x2 < B64) := ⟨hx2, by rw [hx2]; exact pw_lt _⟩
  have HU2 : Hid (IntKind.u64.wrap (x2 : Int) = (x2 : Int)) := wrapU (by have := HX2.out.2; rw [B64_eq] at this; exact this)
  clear hx2
  obtain ⟨x3, hx3⟩ : ∃ x, x = PW.getD k3 0 := ⟨_, rfl⟩
  have HX3 : Hid (x3 = PW.getD k3 0 ∧ x3 < B64) := ⟨hx3, by rw [hx3]; exact pw_lt _⟩
  have HU3 : Hid (IntKind.u64.wrap (x3 : Int) = (x3 : Int)) := wrapU (by have := HX3.out.2; rw [B64_eq] at this; exact this)
  clear hx3
  have t0 := (TB.out.below hbw) k0 HA.out.2.2.2.2.1
  rw [← HX0.out.1] at t0
  have hU0 := HU0.out
  obtain ⟨p1, p2⟩ := KW0.out
  obtain ⟨p4, p5⟩ := KB0.out
  obtain ⟨cu0, cu1, cu2, cu3, fu0, fu1, fu2, fu3⟩ := Xu.out
  have hneu : gu < W0.heap.size := World.block_lt_of_cell? W0 _ cu0
  go_wp2_with fail
  clear t0 p1 p2 p4 p5
  obtain ⟨Vc0, hVc0⟩ : ∃ W9, W9 = (W0.setCell ⟨gu, 0, none⟩ (U x0)) := ⟨_, rfl⟩
  have Yu : Hid (B4q Vc0 gu (U x0) (.int .u64 0) (.int .u64 0) (.int .u64 0)) := by rw [hVc0]; exact ⟨by go_simp, by go_simp, by go_simp, by go_simp, by go_simp, by go_simp, by go_simp, by go_simp⟩
  obtain ⟨cr0, cr1, cr2, cr3, fr0, fr1, fr2, fr3⟩ := Xr.out
  have hner : gr < W0.heap.size := World.block_lt_of_cell? W0 _ cr0
  have Yr : Hid (B4q Vc0 gr (.int .u64 0) (.int .u64 0) (.int .u64 0) (.int .u64 0)) := by rw [hVc0]; exact ⟨by go_simp, by go_simp, by go_simp, by go_simp, by go_simp, by go_simp, by go_simp, by go_simp⟩
  clear cr0 cr1 cr2 cr3 fr0 fr1 fr2 fr3 hner
  have hbw2 : Below w.heap.size w Vc0 := by rw [hVc0]; exact bSet (hbw) _ _ _ HGu.out
  clear cu0 cu1 cu2 cu3 fu0 fu1 fu2 fu3 hneu
  rw [← hVc0]
  clear hVc0 hbw Xr Xu
  have hbw := hbw2
  clear hbw2
  have Xr := Yr
  clear Yr
  have Xu := Yu
  clear Yu
  rw [rounds_succ]
  have t1 := (TB.out.below hbw) k1 HA.out.2.2.2.2.2.1
  rw [← HX1.out.1] at t1
  have hU1 := HU1.out
  obtain ⟨p1, p2⟩ := KW1.out
  obtain ⟨p4, p5⟩ := KB1.out
  obtain ⟨cu0, cu1, cu2, cu3, fu0, fu1, fu2, fu3⟩ := Xu.out
  have hneu : gu < Vc0.heap.size := World.block_lt_of_cell? Vc0 _ cu0
  go_wp2_with fail
  clear t1 p1 p2 p4 p5
  obtain ⟨Vc1, hVc1⟩ : ∃ W9, W9 = (Vc0.setCell ⟨gu, 1, none⟩ (U x1)) := ⟨_, rfl⟩
  have Yu : Hid (B4q Vc1 gu (U x0) (U x1) (.int .u64 0) (.int .u64 0)) := by rw [hVc1]; exact ⟨by go_simp, by go_simp, by go_simp, by go_simp, by go_simp, by go_simp, by go_simp, by go_simp⟩
  obtain ⟨cr0, cr1, cr2, cr3, fr0, fr1, fr2, fr3⟩ := Xr.out
  have hner : gr < Vc0.heap.size := World.block_lt_of_cell? Vc0 _ cr0
  have Yr : Hid (B4q Vc1 gr (.int .u64 0) (.int .u64 0) (.int .u64 0) (.int .u64 0)) := by rw [hVc1]; exact ⟨by go_simp, by go_simp, by go_simp, by go_simp, by go_simp, by go_simp, by go_simp, by go_simp⟩
  clear cr0 cr1 cr2 cr3 fr0 fr1 fr2 fr3 hner
  have hbw2 : Below w.heap.size w Vc1 := by rw [hVc1]; exact bSet (hbw) _ _ _ HGu.out
  clear cu0 cu1 cu2 cu3 fu0 fu1 fu2 fu3 hneu
  rw [← hVc1]
  clear hVc1 hbw Xr Xu
  have hbw := hbw2
  clear hbw2
  have Xr := Yr
  clear Yr
  have Xu := Yu
  clear Yu
  rw [rounds_succ]
  have t2 := (TB.out.below hbw) k2 HA.out.2.2.2.2.2.2.1
  rw [← HX2.out.1] at t2
  have hU2 := HU2.out
  obtain ⟨p1, p2⟩ := KW2.out
  obtain ⟨p4, p5⟩ := KB2.out
  obtain ⟨cu0, cu1, cu2, cu3, fu0, fu1, fu2, fu3⟩ := Xu.out
  have hneu : gu < Vc1.heap.size := World.block_lt_of_cell? Vc1 _ cu0
  go_wp2_with fail
  clear t2 p1 p2 p4 p5
  obtain ⟨Vc2, hVc2⟩ : ∃ W9, W9 = (Vc1.setCell ⟨gu, 2, none⟩ (U x2)) := ⟨_, rfl⟩
  have Yu : Hid (B4q Vc2 gu (U x0) (U x1) (U x2) (.int .u64 0)) := by rw [hVc2]; exact ⟨by go_simp, by go_simp, by go_simp, by go_simp, by go_simp, by go_simp, by go_simp, by go_simp⟩
  obtain ⟨cr0, cr1, cr2, cr3, fr0, fr1, fr2, fr3⟩ := Xr.out
  have hner : gr < Vc1.heap.size := World.block_lt_of_cell? Vc1 _ cr0
  have Yr : Hid (B4q Vc2 gr (.int .u64 0) (.int .u64 0) (.int .u64 0) (.int .u64 0)) := by rw [hVc2]; exact ⟨by go_simp, by go_simp, by go_simp, by go_simp, by go_simp, by go_simp, by go_simp, by go_simp⟩
  clear cr0 cr1 cr2 cr3 fr0 fr1 fr2 fr3 hner
  have hbw2 : Below w.heap.size w Vc2 := by rw [hVc2]; exact bSet (hbw) _ _ _ HGu.out
  clear cu0 cu1 cu2 cu3 fu0 fu1 fu2 fu3 hneu
  rw [← hVc2]
  clear hVc2 hbw Xr Xu
  have hbw := hbw2
  clear hbw2
  have Xr := Yr
  clear Yr
  have Xu := Yu
  clear Yu
  rw [rounds_succ]
  have t3 := (TB.out.below hbw) k3 HA.out.2.2.2.2.2.2.2.1
  rw [← HX3.out.1] at t3
  have hU3 := HU3.out
  obtain ⟨p1, p2⟩ := KW3.out
  obtain ⟨p4, p5⟩ := KB3.out
  obtain ⟨cu0, cu1, cu2, cu3, fu0, fu1, fu2, fu3⟩ := Xu.out
  have hneu : gu < Vc2.heap.size := World.block_lt_of_cell? Vc2 _ cu0
  go_wp2_with fail
  clear t3 p1 p2 p4 p5
  obtain ⟨Vc3, hVc3⟩ : ∃ W9, W9 = (Vc2.setCell ⟨gu, 3, none⟩ (U x3)) := ⟨_, rfl⟩
  have Yu : Hid (B4q Vc3 gu (U x0) (U x1) (U x2) (U x3)) := by rw [hVc3]; exact ⟨by go_simp, by go_simp, by go_simp, by go_simp, by go_simp, by go_simp, by go_simp, by go_simp⟩
  obtain ⟨cr0, cr1, cr2, cr3, fr0, fr1, fr2, fr3⟩ := Xr.out
  have hner : gr < Vc2.heap.size := World.block_lt_of_cell? Vc2 _ cr0
  have Yr : Hid (B4q Vc3 gr (.int .u64 0) (.int .u64 0) (.int .u64 0) (.int .u64 0)) := by rw [hVc3]; exact ⟨by go_simp, by go_simp, by go_simp, by go_simp, by go_simp, by go_simp, by go_simp, by go_simp⟩
  clear cr0 cr1 cr2 cr3 fr0 fr1 fr2 fr3 hner
  have hbw2 : Below w.heap.size w Vc3 := by rw [hVc3]; exact bSet (hbw) _ _ _ HGu.out
  clear cu0 cu1 cu2 cu3 fu0 fu1 fu2 fu3 hneu
  rw [← hVc3]
  clear hVc3 hbw Xr Xu
  have hbw := hbw2
  clear hbw2
  have Xr := Yr
  clear Yr
  have Xu := Yu
  clear Yu
  rw [rounds_succ]
  obtain ⟨cu0, cu1, cu2, cu3, fu0, fu1, fu2, fu3⟩ := Xu.out
  have hneu : gu < Vc3.heap.size := World.block_lt_of_cell? Vc3 _ cu0
  obtain ⟨cr0, cr1, cr2, cr3, fr0, fr1, fr2, fr3⟩ := Xr.out
  have hner : gr < Vc3.heap.size := World.block_lt_of_cell? Vc3 _ cr0
  go_wp2_with fail
  refine bodyPost_ret (v := .tuple #[.agg #[U x0, U x1, U x2, U x3], .int .i64 0]) (by rw [results_ct rfl]; go_simp) rfl ⟨?_, ?_⟩
  · obtain ⟨e0, e1, e2, e3⟩ := HKK.out
    rw [HX0.out.1, HX1.out.1, HX2.out.1, HX3.out.1, e0, e1, e2, e3]
  · exact bSet (bSet (bSet (bSet (hbw) _ _ _ HGr.out) _ _ _ HGr.out) _ _ _ HGr.out) _ _ _ HGr.out
def PN : Nat := 13251790849168942109612193564237285510574518571617059678496723384145870806859859435686276441620781402849332694742024761255273538807538682593506644434241105882616071464297529494277474383182443908304918445910366742700125653237641914110187843538649843155020586987044906594964439354304862046326799620084390378707649808410401539323558882109796595731766708511136152951336230699275587719280157
def wordT (k : Nat) : Bool := PW.getD k 0 == PN / 2 ^ (64 * (19 - k)) % 18446744073709551616
def winT (a i : Nat) : Bool := wN (a / 64) (a % 64) i == PN / 2 ^ (1280 - a - 64 * (i + 1)) % 18446744073709551616
theorem word_all : ∀ k, k < 20 → wordT k = true := by decide +kernel
def winR : Nat → Bool
  | 0 => true
  | a + 1 => (winT a 0 && winT a 1 && winT a 2 && winT a 3) && winR a
theorem winR_spec : ∀ {n : Nat}, winR n = true → ∀ a, a < n → ∀ i, i < 4 → winT a i = true
  | 0, _, a, ha, _, _ => by omega
  | n + 1, h, a, ha, i, hi => by
    have h2 : ((winT n 0 && winT n 1 && winT n 2 && winT n 3) && winR n) = true := h
    simp only [Bool.and_eq_true] at h2
    by_cases e : a = n
    · subst e
      obtain ⟨⟨⟨⟨h3, h4⟩, h5⟩, h6⟩, _⟩ := h2
      rcases (by omega : i = 0 ∨ i = 1 ∨ i = 2 ∨ i = 3) with rfl | rfl | rfl | rfl <;> assumption
    · exact winR_spec h2.2 a (by omega) i hi
theorem win_all : winR 1025 = true := by decide +kernel
theorem word_pn {k : Nat} (hk : k < 20) : PW.getD k 0 = PN / 2 ^ (64 * (19 - k)) % 18446744073709551616 := eq_of_beq (word_all k hk)
theorem win_pn {a i : Nat} (ha : a ≤ 1024) (hi : i < 4) : wN (a / 64) (a % 64) i = PN / 2 ^ (1280 - a - 64 * (i + 1)) % 18446744073709551616 := eq_of_beq (winR_spec win_all a (by omega) i hi)
def kinvB (S i Q j T V : Nat) : Bool := Nat.ble (2 * i + 1) S && Nat.ble (2 * j + 1) Q && Nat.ble ((Q + (2 * j + 1)) * 4) ((S - (2 * i + 1)) * 16) && Nat.ble ((Q - (2 * j + 1)) * 4) ((S + (2 * i + 1)) * 16) && !Nat.beq ((S - (2 * i + 1)) * 16 - (Q + (2 * j + 1)) * 4) 0 && !Nat.beq ((S + (2 * i + 1)) * 16 - (Q - (2 * j + 1)) * 4) 0 && Nat.beq (T / ((S + (2 * i + 1)) * 16 - (Q - (2 * j + 1)) * 4) / 18446744073709551616) V && Nat.beq ((T / ((S - (2 * i + 1)) * 16 - (Q + (2 * j + 1)) * 4) + 1) / 18446744073709551616) V
def kinvQ (a c : Nat × Nat) (p : Nat) : Bool := kinvB a.1 a.2 c.1 c.2 (2 ^ (2 * (p + 64) + 1)) (PN / 2 ^ (1280 - p))
def kinvT (p : Nat) : Bool := kinvQ (ark0 5 (p + 64)) (ark0 239 (p + 64)) p
theorem kinvT_spec {p : Nat} (h : kinvT p = true) : KInv p (PN / 2 ^ (1280 - p)) := by
  have h1 : kinvB (ark0 5 (p + 64)).1 (ark0 5 (p + 64)).2 (ark0 239 (p + 64)).1 (ark0 239 (p + 64)).2 (2 ^ (2 * (p + 64) + 1)) (PN / 2 ^ (1280 - p)) = true := h
  unfold kinvB at h1
  simp only [Bool.and_eq_true, Bool.not_eq_true'] at h1
  obtain ⟨⟨⟨⟨⟨⟨⟨h2, h3⟩, h4⟩, h5⟩, h6⟩, h7⟩, h8⟩, h9⟩ := h1
  exact ⟨⟨Nat.le_of_ble_eq_true h2, Nat.le_of_ble_eq_true h3, Nat.le_of_ble_eq_true h4, Nat.le_of_ble_eq_true h5⟩, Nat.ne_of_beq_eq_false h6, Nat.ne_of_beq_eq_false h7, Nat.eq_of_beq_eq_true h8, Nat.eq_of_beq_eq_true h9⟩
def kinvR (b : Nat) : Nat → Bool
  | 0 => true
  | n + 1 => kinvT (b + n) && kinvR b n
theorem kinvR_spec {b : Nat} : ∀ {n : Nat}, kinvR b n = true → ∀ p, b ≤ p → p < b + n → kinvT p = true
  | 0, _, p, h1, h2 => by omega
  | n + 1, h, p, h1, h2 => by
    have h3 : (kinvT (b + n) && kinvR b n) = true := h
    rw [Bool.and_eq_true] at h3
    by_cases e : p = b + n
    · rw [e]; exact h3.1
    · exact kinvR_spec h3.2 p h1 (by omega)
theorem kinv_c0 : kinvR 64 200 = true := by decide +kernel
theorem kinv_c1 : kinvR 264 130 = true := by decide +kernel
theorem kinv_c2 : kinvR 394 120 = true := by decide +kernel
theorem kinv_c3 : kinvR 514 110 = true := by decide +kernel
theorem kinv_c4 : kinvR 624 100 = true := by decide +kernel
theorem kinv_c5 : kinvR 724 95 = true := by decide +kernel
theorem kinv_c6 : kinvR 819 90 = true := by decide +kernel
theorem kinv_c7 : kinvR 909 85 = true := by decide +kernel
theorem kinv_c8 : kinvR 994 80 = true := by decide +kernel
theorem kinv_c9 : kinvR 1074 75 = true := by decide +kernel
theorem kinv_c10 : kinvR 1149 70 = true := by decide +kernel
theorem kinv_c11 : kinvR 1219 62 = true := by decide +kernel
theorem kinv_all {p : Nat} (h1 : 64 ≤ p) (h2 : p ≤ 1280) : KInv p (PN / 2 ^ (1280 - p)) := by
  refine kinvT_spec ?_
  by_cases c0 : p < 264
  · exact kinvR_spec kinv_c0 p (by omega) (by omega)
  by_cases c1 : p < 394
  · exact kinvR_spec kinv_c1 p (by omega) (by omega)
  by_cases c2 : p < 514
  · exact kinvR_spec kinv_c2 p (by omega) (by omega)
  by_cases c3 : p < 624
  · exact kinvR_spec kinv_c3 p (by omega) (by omega)
  by_cases c4 : p < 724
  · exact kinvR_spec kinv_c4 p (by omega) (by omega)
  by_cases c5 : p < 819
  · exact kinvR_spec kinv_c5 p (by omega) (by omega)
  by_cases c6 : p < 909
  · exact kinvR_spec kinv_c6 p (by omega) (by omega)
  by_cases c7 : p < 994
  · exact kinvR_spec kinv_c7 p (by omega) (by omega)
  by_cases c8 : p < 1074
  · exact kinvR_spec kinv_c8 p (by omega) (by omega)
  by_cases c9 : p < 1149
  · exact kinvR_spec kinv_c9 p (by omega) (by omega)
  by_cases c10 : p < 1219
  · exact kinvR_spec kinv_c10 p (by omega) (by omega)
  exact kinvR_spec kinv_c11 p (by omega) (by omega)
structure It where
  p : Option Addr
  n : Nat
  c : Nat
  xs : List Nat
  a : Nat
structure Lists (w : World) (P : Option Addr) (N C : Nat) (its : List It) : Prop where
  len : its.length = N
  cap : N ≤ C
  big : C ≤ maxLen
  cells : N = 0 ∨ ∃ g off, P = some ⟨g, off, none⟩ ∧ ∀ j (h : j < its.length), w.cell? ⟨g, off + j, none⟩ = some (.slice its[j].p its[j].n its[j].c)
  nums : ∀ t ∈ its, Num w t.p t.n t.c t.xs t.a
theorem Lists.below {w w' : World} {P : Option Addr} {N C : Nat} {its : List It} (h : Lists w P N C its) (hb : Below w.heap.size w w') : Lists w' P N C its := by
  refine ⟨h.len, h.cap, h.big, ?_, fun t ht => (h.nums t ht).below hb⟩
  rcases h.cells with h0 | ⟨g, off, rfl, hc⟩
  · exact .inl h0
  · exact .inr ⟨g, off, rfl, fun j hj => (hb.cell (p := ⟨g, off + j, none⟩) (World.block_lt_of_cell? w _ (hc j hj))).trans (hc j hj)⟩
theorem Lists.take {w : World} {g off N C : Nat} {its : List It} (h : Lists w (some ⟨g, off, none⟩) N C its) (k : Nat) (hk : k ≤ N) : Lists w (some ⟨g, off, none⟩) k k (its.take k) := by
  have hl := h.len; have hc := h.cap; have hb := h.big
  refine ⟨by rw [List.length_take]; omega, Nat.le_refl _, by omega, ?_, fun t ht => h.nums t (List.mem_of_mem_take ht)⟩
  rcases h.cells with h0 | ⟨g', off', he, hcl⟩
  · exact .inl (by omega)
  · refine .inr ⟨g', off', he, fun j hj => ?_⟩
    have hj2 : j < its.length := by rw [List.length_take] at hj; omega
    rw [hcl j hj2]; simp
theorem Lists.drop {w : World} {g off N C : Nat} {its : List It} (h : Lists w (some ⟨g, off, none⟩) N C its) (k : Nat) (hk : k < N) : Lists w (some ⟨g, off + k, none⟩) (N - k) (C - k) (its.drop k) := by
  have hl := h.len; have hc := h.cap; have hb := h.big
  refine ⟨by rw [List.length_drop]; omega, by omega, by omega, ?_, fun t ht => h.nums t (List.mem_of_mem_drop ht)⟩
  rcases h.cells with h0 | ⟨g', off', he, hcl⟩
  · omega
  · simp only [Option.some.injEq, Addr.mk.injEq, and_true] at he
    obtain ⟨rfl, rfl⟩ := he
    refine .inr ⟨g, off + k, rfl, fun j hj => ?_⟩
    have hj2 : k + j < its.length := by rw [List.length_drop] at hj; omega
    have := hcl (k + j) hj2
    rw [← Nat.add_assoc] at this
    rw [this]; simp
end Go.Proofs.YtokoolhhfacboaaDoor
namespace Go.Proofs.YtokoolhhfacboaaDoor
open Go.RowKit
set_option maxRecDepth 100000
set_option maxHeartbeats 0
theorem Nf.drop {xs : List Nat} {a k : Nat} (hx : Nf B64 xs a) (hk : k ≤ xs.length) : Nf B64 (xs.drop k) (a / B64 ^ k) := by
  refine ⟨hx.dig.drop k, ?_, drop_div hx hk⟩
  intro x h
  refine hx.top x ?_
  by_cases hkl : k < xs.length
  · rw [List.getLast?_drop, if_neg (by omega)] at h; exact h
  · rw [List.drop_of_length_le (by omega)] at h; simp at h
theorem Nf.low {xs : List Nat} {a k : Nat} (hx : Nf B64 xs a) (hk : k ≤ xs.length) : Nf B64 (trimL (xs.take k)) (a % B64 ^ k) := by
  have h := Nf.trim (hx.dig.take k)
  rw [take_mod hx hk] at h; exact h
end Go.Proofs.YtokoolhhfacboaaDoor
namespace Go.Proofs.YtokoolhhfacboaaDoor
open Go.RowKit Go.Shelf
set_option maxRecDepth 100000
set_option maxHeartbeats 0
theorem tsame_any {p q : Option Addr} {n m c d : Nat} {xs ys : List Nat} {w : World} (h : At w p n c xs) (k : At w q m d ys) :
    Calls Tryd.prog 8 #[.slice p n c, .slice q m d] w fun e w' => e = .returned (.bool (decide (xs = ys))) ∧ ∃ r, w' = w.drewN r := by
  have hl := h.len; have hcap := h.cap; have hbig := h.big
  have kl := k.len; have kcap := k.cap; have kbig := k.big
  unfold maxLen at hbig kbig
  by_cases hne : n = m
  · subst hne
    have hnn : ((n : Int) != (n : Int)) = false := by simp
    obtain ⟨b, hb⟩ : ∃ b, b = decide (xs = ys) := ⟨_, rfl⟩
    rw [← hb]
    by_cases h0 : n = 0
    · subst h0
      have hx : xs = [] := List.eq_nil_of_length_eq_zero hl
      have hy : ys = [] := List.eq_nil_of_length_eq_zero kl
      have hb' : b = true := by rw [hx, hy] at hb; simpa using hb
      have HB : Hid (b = true) := hb'
      clear hb hb' hl kl hx hy
      go_enter Tryd.func8, Tryd.ntmps8
      go_wp2
      go_loop [5] (fun i => i = .int .i64 0) (fun _ => 0)
      case atStart => rfl
      case round =>
        subst hrel
        go_wp2
        go_ret
        exact ⟨ret_bool HB.out.symm, 0, rfl⟩
    · obtain ⟨g, off, rfl, hc⟩ := h.cells.resolve_left h0
      obtain ⟨g2, off2, rfl, hc2⟩ := k.cells.resolve_left h0
      have HB : Hid (b = decide (xs = ys)) := hb
      clear hb
      go_enter Tryd.func8, Tryd.ntmps8
      go_wp2
      go_loopw [5] (fun i wr => ∃ k r : Nat, k ≤ n ∧ i = .int .i64 k ∧ wr = w.drewN r ∧ ∀ j, j < k → xs.getD j 0 = ys.getD j 0) (fun i _ => n - (intOf i).toNat)
      case atStart => exact ⟨0, 0, Nat.zero_le _, rfl, rfl, fun j hj => by omega⟩
      case round =>
        obtain ⟨k, r, hk, rfl, rfl, hz⟩ := hrel
        have HZ : Hid (∀ j, j < k → xs.getD j 0 = ys.getD j 0) := hz
        clear hz
        by_cases hlt : k < n
        · obtain ⟨x, hx⟩ : ∃ x, x = xs.getD k 0 := ⟨_, rfl⟩
          obtain ⟨y, hy⟩ : ∃ y, y = ys.getD k 0 := ⟨_, rfl⟩
          have hcx : w.cell? ⟨g, off + k, none⟩ = some (U x) := by rw [hx]; exact hc _ (by omega)
          have hcy : w.cell? ⟨g2, off2 + k, none⟩ = some (U y) := by rw [hy]; exact hc2 _ (by omega)
          have HX : Hid (x = xs.getD k 0) := hx
          have HY : Hid (y = ys.getD k 0) := hy
          clear hx hy hc hc2
          go_wp2
          go_quiet (fail)
          go_wp2
          · have h0 : ((x : Int) != (y : Int)) = true := by assumption
            go_ret
            exact ⟨ret_bool (by rw [HB.out, same_not xs ys k x y HX.out HY.out h0]), r + nq, by simp⟩
          · have h0 : ((x : Int) != (y : Int)) = false := by assumption
            go_roundw
            case rel => exact ⟨k + 1, r + nq, by omega, by go_num, by simp, fun j hj => if e : j = k then by rw [e, ← HX.out, ← HY.out]; simp at h0; omega else HZ.out j (by omega)⟩
            case measure => simp [intOf]; omega
        · have hkn : k = n := by omega
          subst hkn
          have hy := same_yes xs ys _ hl kl HZ.out
          have HY : Hid (decide (xs = ys) = true) := hy
          clear hy
          go_wp2
          go_ret
          exact ⟨ret_bool (by rw [HB.out, HY.out]), r, rfl⟩
  · have hnn : ((n : Int) != (m : Int)) = true := by simp; omega
    have hf : decide (xs = ys) = false := by rw [decide_eq_false_iff_not]; intro e; subst e; omega
    rw [hf]
    clear hf
    go_enter Tryd.func8, Tryd.ntmps8
    go_wp2
    go_ret
    exact ⟨rfl, 0, rfl⟩
theorem tsame_t {p q : Option Addr} {n m c d : Nat} {xs : List Nat} {w : World} (h : At w p n c xs) (k : At w q m d xs) :
    Calls Tryd.prog 8 #[.slice p n c, .slice q m d] w fun e w' => e = .returned (.bool true) ∧ Below w.heap.size w w' := by
  refine (tsame_any h k).mono ?_
  rintro e w' ⟨rfl, r, rfl⟩
  exact ⟨ret_bool (by simp), bDrewN (Below.refl _ _) r⟩
theorem pw_s0 (f i : Nat) : wN f 0 i = PW.getD (f + i) 0 := by
  unfold wN shlW
  have h1 := pw_lt (f + i)
  have h2 := pw_lt (f + i + 1)
  rw [Nat.pow_zero, Nat.mul_one, Nat.mul_one, Nat.mod_eq_of_lt h1, Nat.div_eq_of_lt h2]; rfl
theorem window_ok (a f s : Nat) (ha : a = 64 * f + s) (ha2 : a ≤ 1024) (hs : s < 64) (w : World) (hT : TabW w) : Calls Tryd.prog 4 #[.int .i64 a] w fun en w' => en = .returned (.tuple #[.agg #[U (wN f s 0), U (wN f s 1), U (wN f s 2), U (wN f s 3)], .int .i64 0]) ∧ Below w.heap.size w w' := by
  by_cases h : s = 0
  · subst h
    rw [pw_s0, pw_s0, pw_s0, pw_s0]
    exact window_0 a f ha (by omega) w hT
  · exact window_s a f s ha (by omega) hs (by omega) w hT
theorem wn_lt (f s i : Nat) (hs : s ≤ 64) : wN f s i < B64 := up_lt _ _ s hs (pw_lt _)
def winZ : Nat → Bool
  | 0 => true
  | a + 1 => !Nat.beq (wN (a / 64) (a % 64) 0) 0 && winZ a
theorem winZ_spec : ∀ {n : Nat}, winZ n = true → ∀ a, a < n → wN (a / 64) (a % 64) 0 ≠ 0
  | 0, _, a, ha => by omega
  | n + 1, h, a, ha => by
    have h2 : (!Nat.beq (wN (n / 64) (n % 64) 0) 0 && winZ n) = true := h
    simp only [Bool.and_eq_true, Bool.not_eq_true'] at h2
    by_cases e : a = n
    · subst e
      intro e2
      rw [e2] at h2
      exact absurd h2.1 (by decide)
    · exact winZ_spec h2.2 a (by omega)
theorem win_z : winZ 1025 = true := by decide +kernel
theorem mod4 (X : Nat) : X % 2 ^ 256 = X % 18446744073709551616 + 18446744073709551616 * (X / 18446744073709551616 % 18446744073709551616 + 18446744073709551616 * (X / 18446744073709551616 / 18446744073709551616 % 18446744073709551616 + 18446744073709551616 * (X / 18446744073709551616 / 18446744073709551616 / 18446744073709551616 % 18446744073709551616))) := by
  rw [show (2 : Nat) ^ 256 = 18446744073709551616 * (18446744073709551616 * (18446744073709551616 * 18446744073709551616)) by decide, Nat.mod_mul, Nat.mod_mul, Nat.mod_mul]
theorem win_nf {a p : Nat} (ha : a ≤ 1024) (hp : p = a + 256) : Nf B64 [wN (a / 64) (a % 64) 3, wN (a / 64) (a % 64) 2, wN (a / 64) (a % 64) 1, wN (a / 64) (a % 64) 0] (PN / 2 ^ (1280 - p) % 2 ^ 256) := by
  have hs : a % 64 ≤ 64 := by omega
  refine ⟨?_, ?_, ?_⟩
  · intro x hx
    simp only [List.mem_cons, List.not_mem_nil, or_false] at hx
    rcases hx with rfl | rfl | rfl | rfl <;> exact wn_lt _ _ _ hs
  · intro x hx
    simp at hx
    subst hx
    exact winZ_spec win_z a (by omega)
  · have e : ∀ i, i < 4 → wN (a / 64) (a % 64) i = PN / 2 ^ (1280 - a - 64 * (i + 1)) % 18446744073709551616 := fun i hi => win_pn ha hi
    rw [e 0 (by omega), e 1 (by omega), e 2 (by omega), e 3 (by omega), mod4]
    rw [show 1280 - a - 64 * (3 + 1) = 1280 - p by omega, show 1280 - a - 64 * (2 + 1) = 1280 - p + 64 by omega, show 1280 - a - 64 * (1 + 1) = 1280 - p + 64 + 64 by omega, show 1280 - a - 64 * (0 + 1) = 1280 - p + 64 + 64 + 64 by omega]
    have d : ∀ q, PN / 2 ^ (q + 64) = PN / 2 ^ q / 18446744073709551616 := fun q => by rw [Nat.pow_add, ← Nat.div_div_eq_div_mul]
    simp only [d]
    generalize PN / 2 ^ (1280 - p) = X
    simp only [valB, B64_eq, Nat.mul_zero, Nat.add_zero]
theorem floorInvx (p V : Nat) (z : Int) (hz : z = (p : Int)) (h1 : 1 ≤ p) (hp : p ≤ 1300) (hK : KInv p V) {w : World} : Calls Tryd.prog 5 #[.int .i64 z] w fun en w' => ∃ q m, en = .returned (.tuple #[.slice q m m, .int .i64 0]) ∧ GN w' q m V ∧ Below w.heap.size w w' := by subst hz; exact floorInv_ok p V h1 hp hK
theorem gsame {w : World} {p q : Option Addr} {m n a : Nat} (h : GN w p m a) (k : GN w q n a) : Calls Tryd.prog 8 #[.slice p m m, .slice q n n] w fun e w' => e = .returned (.bool true) ∧ Below w.heap.size w w' := by
  obtain ⟨⟨zs, h1, h2⟩, h3⟩ := h
  obtain ⟨⟨ys, k1, k2⟩, k3⟩ := k
  obtain rfl := h2.inj B64_one k2
  exact tsame_t h1 k1
theorem at4 {W : World} {g y0 y1 y2 y3 : Nat} (hc : B4q W g (U y3) (U y2) (U y1) (U y0)) (hd : Dig B64 [y3, y2, y1, y0]) : At W (some ⟨g, 0, none⟩) 4 4 [y3, y2, y1, y0] := by
  refine ⟨rfl, Nat.le_refl _, by unfold maxLen; omega, hd, .inr ⟨g, 0, rfl, fun j hj => ?_⟩⟩
  rcases (by omega : j = 0 ∨ j = 1 ∨ j = 2 ∨ j = 3) with rfl | rfl | rfl | rfl
  · exact hc.c0
  · exact hc.c1
  · exact hc.c2
  · exact hc.c3
theorem gn_head {w : World} {p : Option Addr} {m a : Nat} (h : GN w p m a) (h0 : a ≠ 0) : ∃ g o, p = some ⟨g, o, none⟩ ∧ w.cell? ⟨g, o, none⟩ = some (U (a % B64)) ∧ 0 < m := by
  have hz := h.zero
  obtain ⟨⟨zs, h1, h2⟩, h3⟩ := h
  obtain ⟨g, off, rfl, hc⟩ := h1.cells.resolve_left (by omega)
  have hm : 0 < m := by omega
  have h5 := hc 0 hm
  rw [Nat.add_zero] at h5
  refine ⟨g, off, rfl, ?_, hm⟩
  rw [h5]
  have hl := h1.len
  have hv := h2.val
  match zs, hl with
  | [], hl => simp at hl; omega
  | x :: xs, _ =>
    have hx : x < B64 := h2.dig x (List.mem_cons_self ..)
    rw [show (x :: xs).getD 0 0 = x from rfl, ← hv, show valB B64 (x :: xs) = x + B64 * valB B64 xs from rfl, Nat.add_mul_mod_self_left, Nat.mod_eq_of_lt hx]
theorem word_okx (k : Nat) (z : Int) (hz : z = (k : Int)) (hk : k < 20) (w : World) (hT : TabW w) : Calls Tryd.prog 9 #[.int .i64 z] w fun en w' => en = .returned (.tuple #[U (PW.getD k 0), .int .i64 0]) ∧ w' = w := by subst hz; exact word_ok k hk w hT
theorem pw_pos {k : Nat} (hk : k < 20) : PW.getD k 0 ≠ 0 := by
  have : ∀ k, k < 20 → PW.getD k 0 ≠ 0 := by decide +kernel
  exact this k hk
theorem wholeWords_w (x : Nat) (hx : x < 65536) {w : World} (hT : TabW w) : Calls Tryd.prog 3 #[.int .u16 x] w fun en w' => en = .returned (.bool true) ∧ Below w.heap.size w w' := by
  have TB : Hid (TabW w) := hT
  obtain ⟨a, ha⟩ : ∃ a, a = x % 1025 := ⟨_, rfl⟩
  have ha2 : a ≤ 1024 := by omega
  have h1 : (x : Int) % 1025 = (a : Int) := by omega
  have h1' : (x : Int).tmod 1025 = (a : Int) := by rw [Int.tmod_eq_emod_of_nonneg (by omega)]; exact h1
  have h2 : IntKind.i64.wrap (x : Int) = (x : Int) := by rw [IntKind.wrap_i64]; omega
  have HA : Hid (a ≤ 1024) := ha2
  clear hT ha hx ha2
  go_enter Tryd.func3, Tryd.ntmps3
  go_wp2_with fail
  have hbw : Below w.heap.size w w := Below.refl _ _
  obtain ⟨y0, hy0⟩ : ∃ y, y = wN (a / 64) (a % 64) 0 := ⟨_, rfl⟩
  obtain ⟨y1, hy1⟩ : ∃ y, y = wN (a / 64) (a % 64) 1 := ⟨_, rfl⟩
  obtain ⟨y2, hy2⟩ : ∃ y, y = wN (a / 64) (a % 64) 2 := ⟨_, rfl⟩
  obtain ⟨y3, hy3⟩ : ∃ y, y = wN (a / 64) (a % 64) 3 := ⟨_, rfl⟩
  have HY : Hid (y0 = wN (a / 64) (a % 64) 0 ∧ y1 = wN (a / 64) (a % 64) 1 ∧ y2 = wN (a / 64) (a % 64) 2 ∧ y3 = wN (a / 64) (a % 64) 3) := ⟨hy0, hy1, hy2, hy3⟩
  clear hy0 hy1 hy2 hy3
  refine (window_ok a (a / 64) (a % 64) (by omega) HA.out (by omega) _ (TB.out.below hbw)).mono ?_
  rintro e v1 ⟨rfl, hb1⟩
  rw [← HY.out.1, ← HY.out.2.1, ← HY.out.2.2.1, ← HY.out.2.2.2]
  replace hbw := Below.on hbw hb1
  clear hb1
  go_wp2_with fail
  have Xu0 : Hid (B4q (v1.alloc (.cells #[U y0, U y1, U y2, U y3] 24)) v1.heap.size (U y0) (U y1) (U y2) (U y3)) := B4q.new v1 _ _ _ _ _
  have hbn : Below v1.heap.size v1 (v1.alloc (.cells #[U y0, U y1, U y2, U y3] 24)) := below1 v1 _
  generalize v1.alloc (.cells #[U y0, U y1, U y2, U y3] 24) = Wu at *
  have HGu : Hid (w.heap.size ≤ v1.heap.size) := hbw.size
  replace hbw := Below.on hbw hbn
  clear hbn
  generalize v1.heap.size = gu at *
  have Xu := Xu0
  clear Xu0
  obtain ⟨p, hp⟩ : ∃ p, p = a + 256 := ⟨_, rfl⟩
  have HP : Hid ((a : Int) + 256 = (p : Int) ∧ 64 ≤ p ∧ p ≤ 1280 ∧ p = a + 256) := ⟨by omega, by omega, by have := HA.out; omega, hp⟩
  clear hp
  obtain ⟨V, hV⟩ : ∃ V, V = PN / 2 ^ (1280 - p) := ⟨_, rfl⟩
  have HV : Hid (V = PN / 2 ^ (1280 - p)) := hV
  clear hV
  refine (floorInvx p V _ HP.out.1 (by have := HP.out; omega) (by have := HP.out; omega) (HV.out ▸ kinv_all HP.out.2.1 HP.out.2.2.1)).mono ?_
  rintro e v2 ⟨p2, m2, rfl, hR, hb2⟩
  have GN2 : Hid (GN v2 p2 m2 (V)) := hR
  clear hR
  replace Xu : Hid _ := Xu.out.below hb2
  replace hbw := Below.on hbw hb2
  clear hb2
  obtain ⟨cu0, cu1, cu2, cu3, fu0, fu1, fu2, fu3⟩ := Xu.out
  have hneu : gu < v2.heap.size := World.block_lt_of_cell? v2 _ cu0
  go_wp2_with fail
  clear cu0 cu1 cu2 cu3 fu0 fu1 fu2 fu3 hneu
  refine (gn_low GN2.out 256 (by decide)).mono ?_
  rintro e v3 ⟨p3, m3, rfl, hR, hb3⟩
  have GN3 : Hid (GN v3 p3 m3 (V % 2 ^ 256)) := hR.gn
  clear hR
  replace Xu : Hid _ := Xu.out.below hb3
  replace GN2 : Hid (GN v3 p2 m2 (V)) := GN2.out.below hb3
  replace hbw := Below.on hbw hb3
  clear hb3
  obtain ⟨cu0, cu1, cu2, cu3, fu0, fu1, fu2, fu3⟩ := Xu.out
  have hneu : gu < v3.heap.size := World.block_lt_of_cell? v3 _ cu0
  go_wp2_with fail
  clear cu0 cu1 cu2 cu3 fu0 fu1 fu2 fu3 hneu
  have NF : Hid (Nf B64 [y3, y2, y1, y0] (V % 2 ^ 256)) := by obtain ⟨e0, e1, e2, e3⟩ := HY.out; rw [e0, e1, e2, e3, HV.out]; exact win_nf HA.out HP.out.2.2.2
  have HV0 : Hid (V % 2 ^ 256 ≠ 0) := fun e => by have := (NF.out.zero_iff B64_one).2 e; cases this
  have HL : Hid (V % 2 ^ 256 < 2 ^ 256) := Nat.mod_lt _ (Nat.two_pow_pos _)
  obtain ⟨R, hR⟩ : ∃ R, R = V % 2 ^ 256 := ⟨_, rfl⟩
  rw [← hR] at NF HV0 HL GN3
  clear hR
  have Xd0 : Hid (B4q (v3.alloc (.cells #[U y3, U y2, U y1, U y0] 23)) v3.heap.size (U y3) (U y2) (U y1) (U y0)) := B4q.new v3 _ _ _ _ _
  have hbn : Below v3.heap.size v3 (v3.alloc (.cells #[U y3, U y2, U y1, U y0] 23)) := below1 v3 _
  generalize v3.alloc (.cells #[U y3, U y2, U y1, U y0] 23) = Wd at *
  have HGd : Hid (w.heap.size ≤ v3.heap.size) := hbw.size
  replace Xu : Hid _ := Xu.out.below hbn
  replace GN2 : Hid (GN Wd p2 m2 (V)) := GN2.out.below hbn
  replace GN3 : Hid (GN Wd p3 m3 R) := GN3.out.below hbn
  replace hbw := Below.on hbw hbn
  clear hbn
  generalize v3.heap.size = gd at *
  have Xd := Xd0
  clear Xd0
  have CN : Hid (∀ e w', Ans Wd.heap.size w' e (valB B64 [y3, y2, y1, y0]) ∧ Below Wd.heap.size Wd w' → GNs Wd w' e R) := fun e w' h => by have h1 := h.1; rw [NF.out.val] at h1; exact h1.gn h.2 (K := 256) (by decide) HL.out
  refine (norm_any (at4 Xd.out NF.out.dig)).mono ?_
  intro e v4 hq
  obtain ⟨p4, m4, rfl, hR, hb4⟩ := CN.out _ _ hq
  have GN4 : Hid (GN v4 p4 m4 R) := hR.gn
  clear hR hq CN
  clear Xd
  replace Xu : Hid _ := Xu.out.below hb4
  replace GN2 : Hid (GN v4 p2 m2 (V)) := GN2.out.below hb4
  replace GN3 : Hid (GN v4 p3 m3 R) := GN3.out.below hb4
  replace hbw := Below.on hbw hb4
  clear hb4
  obtain ⟨cu0, cu1, cu2, cu3, fu0, fu1, fu2, fu3⟩ := Xu.out
  have hneu : gu < v4.heap.size := World.block_lt_of_cell? v4 _ cu0
  go_wp2_with fail
  clear cu0 cu1 cu2 cu3 fu0 fu1 fu2 fu3 hneu
  refine (gsame GN4.out GN3.out).mono ?_
  rintro e v5 ⟨rfl, hb5⟩
  replace Xu : Hid _ := Xu.out.below hb5
  replace GN2 : Hid (GN v5 p2 m2 (V)) := GN2.out.below hb5
  replace GN3 : Hid (GN v5 p3 m3 R) := GN3.out.below hb5
  replace GN4 : Hid (GN v5 p4 m4 R) := GN4.out.below hb5
  replace hbw := Below.on hbw hb5
  clear hb5
  have hm3 : m3 ≠ 0 := fun e => HV0.out (GN3.out.zero.1 e)
  have hm3' : ((m3 : Int) == 0) = false := by simp; omega
  obtain ⟨i, hi⟩ : ∃ i, i = a % 20 := ⟨_, rfl⟩
  have HI : Hid (i < 20) := by show i < 20; omega
  have h20 : (a : Int) % 20 = (i : Int) := by omega
  have h20' : (a : Int).tmod 20 = (i : Int) := by rw [Int.tmod_eq_emod_of_nonneg (by omega)]; exact h20
  clear hi
  obtain ⟨cu0, cu1, cu2, cu3, fu0, fu1, fu2, fu3⟩ := Xu.out
  have hneu : gu < v5.heap.size := World.block_lt_of_cell? v5 _ cu0
  go_wp2_with fail
  clear cu0 cu1 cu2 cu3 fu0 fu1 fu2 fu3 hneu
  refine (word_okx i _ rfl HI.out _ (TB.out.below hbw)).mono ?_
  rintro e v9 ⟨rfl, hw⟩
  obtain rfl := hw.symm
  clear hw
  obtain ⟨xi, hxi⟩ : ∃ y, y = PW.getD i 0 := ⟨_, rfl⟩
  rw [← hxi]
  have HXI : Hid (xi = PW.getD i 0) := hxi
  clear hxi
  obtain ⟨cu0, cu1, cu2, cu3, fu0, fu1, fu2, fu3⟩ := Xu.out
  have hneu : gu < v5.heap.size := World.block_lt_of_cell? v5 _ cu0
  go_wp2_with fail
  clear cu0 cu1 cu2 cu3 fu0 fu1 fu2 fu3 hneu
  obtain ⟨pz, hp7⟩ : ∃ p, p = 64 * (i + 1) := ⟨_, rfl⟩
  have HP7 : Hid (64 * ((i : Int) + 1) = (pz : Int) ∧ 64 ≤ pz ∧ pz ≤ 1280 ∧ pz = 64 * (i + 1)) := ⟨by omega, by omega, by have := HI.out; omega, hp7⟩
  clear hp7
  obtain ⟨V7, hV7⟩ : ∃ V, V = PN / 2 ^ (1280 - pz) := ⟨_, rfl⟩
  have HV7 : Hid (V7 = PN / 2 ^ (1280 - pz)) := hV7
  clear hV7
  refine (floorInvx pz V7 _ HP7.out.1 (by have := HP7.out; omega) (by have := HP7.out; omega) (HV7.out ▸ kinv_all HP7.out.2.1 HP7.out.2.2.1)).mono ?_
  rintro e v7 ⟨p7, m7, rfl, hR, hb7⟩
  have GN7 : Hid (GN v7 p7 m7 (V7)) := hR
  clear hR
  replace Xu : Hid _ := Xu.out.below hb7
  replace GN2 : Hid (GN v7 p2 m2 (V)) := GN2.out.below hb7
  replace GN3 : Hid (GN v7 p3 m3 R) := GN3.out.below hb7
  replace GN4 : Hid (GN v7 p4 m4 R) := GN4.out.below hb7
  replace hbw := Below.on hbw hb7
  clear hb7
  have HX7 : Hid (V7 % B64 = PW.getD i 0) := by rw [HV7.out]; show _ % 18446744073709551616 = _; rw [word_pn HI.out, show 1280 - pz = 64 * (19 - i) by have := HP7.out; omega]
  have HV70 : V7 ≠ 0 := fun e => pw_pos HI.out (by rw [← HX7.out, e]; rfl)
  obtain ⟨g7, o7, rfl, hc7, hm7⟩ := gn_head GN7.out HV70
  rw [HX7.out, ← HXI.out] at hc7
  clear HV70
  have hm7' : ((m7 : Int) == 0) = false := by simp; omega
  have hm7b : (0 : Int) < (m7 : Int) := by omega
  have hm7c : m7 ≠ 0 := by omega
  by_cases h64 : a % 64 = 0
  · have r1 : (a : Int) % 64 = 0 := by omega
    have r2 : (a : Int).tmod 64 = 0 := by rw [Int.tmod_eq_emod_of_nonneg (by omega)]; exact r1
    obtain ⟨f, hf⟩ : ∃ f, f = a / 64 := ⟨_, rfl⟩
    have HF : Hid (f ≤ 16) := by have := HA.out; show f ≤ 16; omega
    have f1 : (a : Int) / 64 = (f : Int) := by omega
    have f2 : (a : Int).tdiv 64 = (f : Int) := by rw [Int.tdiv_eq_ediv_of_nonneg (by omega)]; exact f1
    have HYF : Hid (PW.getD (f + 0) 0 = y0 ∧ PW.getD (f + 1) 0 = y1 ∧ PW.getD (f + 2) 0 = y2 ∧ PW.getD (f + 3) 0 = y3) := by obtain ⟨e0, e1, e2, e3⟩ := HY.out; rw [h64, ← hf] at e0 e1 e2 e3; rw [e0, e1, e2, e3, pw_s0, pw_s0, pw_s0, pw_s0]; exact ⟨rfl, rfl, rfl, rfl⟩
    clear hf h64
    obtain ⟨cu0, cu1, cu2, cu3, fu0, fu1, fu2, fu3⟩ := Xu.out
    have hneu : gu < v7.heap.size := World.block_lt_of_cell? v7 _ cu0
    go_wp2_with fail
    clear cu0 cu1 cu2 cu3 fu0 fu1 fu2 fu3 hneu
    refine wp_loop_rounds 5 ?_
    rw [rounds_succ]
    go_wp2_with fail
    refine (word_okx (f + 0) _ (by first | rfl | omega | (have := HF.out; simp only [wrap64]; omega)) (by have := HF.out; omega) _ (TB.out.below hbw)).mono ?_
    rintro e v9 ⟨rfl, hw⟩
    obtain rfl := hw.symm
    clear hw
    rw [HYF.out.1]
    obtain ⟨cu0, cu1, cu2, cu3, fu0, fu1, fu2, fu3⟩ := Xu.out
    have hneu : gu < v7.heap.size := World.block_lt_of_cell? v7 _ cu0
    go_wp2_with fail
    clear cu0 cu1 cu2 cu3 fu0 fu1 fu2 fu3 hneu
    rw [rounds_succ]
    go_wp2_with fail
    refine (word_okx (f + 1) _ (by first | rfl | omega | (have := HF.out; simp only [wrap64]; omega)) (by have := HF.out; omega) _ (TB.out.below hbw)).mono ?_
    rintro e v9 ⟨rfl, hw⟩
    obtain rfl := hw.symm
    clear hw
    rw [HYF.out.2.1]
    obtain ⟨cu0, cu1, cu2, cu3, fu0, fu1, fu2, fu3⟩ := Xu.out
    have hneu : gu < v7.heap.size := World.block_lt_of_cell? v7 _ cu0
    go_wp2_with fail
    clear cu0 cu1 cu2 cu3 fu0 fu1 fu2 fu3 hneu
    rw [rounds_succ]
    go_wp2_with fail
    refine (word_okx (f + 2) _ (by first | rfl | omega | (have := HF.out; simp only [wrap64]; omega)) (by have := HF.out; omega) _ (TB.out.below hbw)).mono ?_
    rintro e v9 ⟨rfl, hw⟩
    obtain rfl := hw.symm
    clear hw
    rw [HYF.out.2.2.1]
    obtain ⟨cu0, cu1, cu2, cu3, fu0, fu1, fu2, fu3⟩ := Xu.out
    have hneu : gu < v7.heap.size := World.block_lt_of_cell? v7 _ cu0
    go_wp2_with fail
    clear cu0 cu1 cu2 cu3 fu0 fu1 fu2 fu3 hneu
    rw [rounds_succ]
    go_wp2_with fail
    refine (word_okx (f + 3) _ (by first | rfl | omega | (have := HF.out; simp only [wrap64]; omega)) (by have := HF.out; omega) _ (TB.out.below hbw)).mono ?_
    rintro e v9 ⟨rfl, hw⟩
    obtain rfl := hw.symm
    clear hw
    rw [HYF.out.2.2.2]
    obtain ⟨cu0, cu1, cu2, cu3, fu0, fu1, fu2, fu3⟩ := Xu.out
    have hneu : gu < v7.heap.size := World.block_lt_of_cell? v7 _ cu0
    go_wp2_with fail
    clear cu0 cu1 cu2 cu3 fu0 fu1 fu2 fu3 hneu
    rw [rounds_succ]
    go_wp2_with fail
    go_ret
    exact ⟨rfl, hbw⟩
  · have r2 : ¬ (a : Int) % 64 = 0 := by omega
    have r1 : ((a : Int) % 64 == 0) = false := beq_eq_false_iff_ne.mpr r2
    have r3 : ¬ (a : Int).tmod 64 = 0 := by rw [Int.tmod_eq_emod_of_nonneg (by omega)]; exact r2
    obtain ⟨cu0, cu1, cu2, cu3, fu0, fu1, fu2, fu3⟩ := Xu.out
    have hneu : gu < v7.heap.size := World.block_lt_of_cell? v7 _ cu0
    go_wp2_with fail
    clear cu0 cu1 cu2 cu3 fu0 fu1 fu2 fu3 hneu
    go_ret
    exact ⟨rfl, hbw⟩
end Go.Proofs.YtokoolhhfacboaaDoor
