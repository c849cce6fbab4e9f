import Derived.Test.YtionkfnapodhbaaDoorJ19
import Derived.Test.YtionkfnapodhbaaDoorOpen
namespace Go.Proofs.YtionkfnapodhbaaDoor
open Go.RowKit Go.Shelf
set_option maxRecDepth 20000
set_option maxHeartbeats 0
def hvB (E q a b : Nat) (lo hi : Int) : Bool :=
  let sc := scQ q a
  decide (q ≤ 400) && decide (1074 ≤ a % 9223372036854775808 / 4503599627370496 - 1 + q)
  && (decide (toldN lo (lo.natAbs * 2 ^ (1074 - q)) = a) && decide (lo ≠ 0) && decide (bitsN lo.natAbs ≤ 2200) && decide (lo.natAbs < 2 ^ E))
  && (decide (toldN hi (hi.natAbs * 2 ^ (1074 - q)) = a) && decide (hi ≠ 0) && decide (bitsN hi.natAbs ≤ 2200) && decide (hi.natAbs < 2 ^ E))
  && (decide (toldN (lo - sc) ((lo - sc).natAbs * 2 ^ (1074 - q)) = b) && decide (lo - sc ≠ 0) && decide (bitsN (lo - sc).natAbs ≤ 2200) && decide ((lo - sc).natAbs < 2 ^ E))
  && (decide (toldN (hi - sc) ((hi - sc).natAbs * 2 ^ (1074 - q)) = b) && decide (hi - sc ≠ 0) && decide (bitsN (hi - sc).natAbs ≤ 2200) && decide ((hi - sc).natAbs < 2 ^ E))
theorem hv_all {E : Nat} (hE : E = 32 * 60) : ∀ j, j < 53 → 1 ≤ j → hvB E (eQ j) (SN.getD (2 * j) 0) (SN.getD (2 * j + 1) 0) (eX 1 j - 8) (eX 1 j + 8) = true ∧ hvB E (eQ j) (CN.getD (2 * j) 0) (CN.getD (2 * j + 1) 0) (eX 2 j - 8) (eX 2 j + 8) = true := by subst hE; decide +kernel
theorem halvesS {w : World} {j a b : Nat} (hj1 : 1 ≤ j) (hj2 : j < 53) (ha : a = SN.getD (2 * j) 0) (hb : b = SN.getD (2 * j + 1) 0) :
    Calls Tryd.prog 10 #[.int .i64 1, .int .i64 j] w fun en w' => en = .returned (.tuple #[U a, U b]) ∧ Below w.heap.size w w' := by
  obtain ⟨E, hE⟩ : ∃ E, E = 32 * 60 := ⟨_, rfl⟩
  have h := (hv_all hE j hj2 hj1).1
  rw [← ha, ← hb] at h
  simp only [hvB, Bool.and_eq_true, decide_eq_true_eq] at h
  obtain ⟨⟨⟨⟨⟨h1, h2⟩, h3⟩, h4⟩, h5⟩, h6⟩ := h
  exact halves_1 hj1 hj2 rfl h1 rfl rfl rfl h2 hE h3.1.1.1 h3.1.1.2 h3.1.2 h3.2 h4.1.1.1 h4.1.1.2 h4.1.2 h4.2 h5.1.1.1 h5.1.1.2 h5.1.2 h5.2 h6.1.1.1 h6.1.1.2 h6.1.2 h6.2
theorem halvesC {w : World} {j a b : Nat} (hj1 : 1 ≤ j) (hj2 : j < 53) (ha : a = CN.getD (2 * j) 0) (hb : b = CN.getD (2 * j + 1) 0) :
    Calls Tryd.prog 10 #[.int .i64 2, .int .i64 j] w fun en w' => en = .returned (.tuple #[U a, U b]) ∧ Below w.heap.size w w' := by
  obtain ⟨E, hE⟩ : ∃ E, E = 32 * 60 := ⟨_, rfl⟩
  have h := (hv_all hE j hj2 hj1).2
  rw [← ha, ← hb] at h
  simp only [hvB, Bool.and_eq_true, decide_eq_true_eq] at h
  obtain ⟨⟨⟨⟨⟨h1, h2⟩, h3⟩, h4⟩, h5⟩, h6⟩ := h
  exact halves_2 hj1 hj2 rfl h1 rfl rfl rfl h2 hE h3.1.1.1 h3.1.1.2 h3.1.2 h3.2 h4.1.1.1 h4.1.1.2 h4.1.2 h4.2 h5.1.1.1 h5.1.1.2 h5.1.2 h5.2 h6.1.1.1 h6.1.1.2 h6.1.2 h6.2
theorem lbits23 (a b c d : Nat) (w : World) :
    Calls Tryd.prog 7 #[.agg #[Fv a, Fv b], .agg #[Fv c, Fv d]] w fun en w' => en = .returned (.agg #[.int .u64 (a : Int), .int .u64 (b : Int), .int .u64 (c : Int), .int .u64 (d : Int)]) ∧ Below w.heap.size w w' := by
  have hSF : ∀ (w : World) (a : Addr) (b : Nat), (store a (Fv b)).run Tryd.prog w = stored Tryd.prog w a (Fv b) .plain := stFs
  have boa : ∀ w, (callFunc 11 #[Fv a]).run Tryd.prog w = .ok (.value (.int .u64 (a : Int))) w := fun w => bitsOf a w
  have bob : ∀ w, (callFunc 11 #[Fv b]).run Tryd.prog w = .ok (.value (.int .u64 (b : Int))) w := fun w => bitsOf b w
  have boc : ∀ w, (callFunc 11 #[Fv c]).run Tryd.prog w = .ok (.value (.int .u64 (c : Int))) w := fun w => bitsOf c w
  have bod : ∀ w, (callFunc 11 #[Fv d]).run Tryd.prog w = .ok (.value (.int .u64 (d : Int))) w := fun w => bitsOf d w
  go_enter Tryd.func7, Tryd.ntmps7
  go_wp2_with fail
  obtain ⟨W0, hW0⟩ : ∃ W0, W0 = (((w.alloc (.cells #[Fv a, Fv b] 26)).alloc (.cells #[Fv c, Fv d] 26)).alloc (.cells #[.int .u64 0, .int .u64 0, .int .u64 0, .int .u64 0] 32)) := ⟨_, rfl⟩
  have Xs : Hid (Box W0 (w.heap.size) (Fv a) (Fv b)) := by rw [hW0]; exact ⟨by go_simp, by go_simp, by go_simp, by go_simp⟩
  have Xc : Hid (Box W0 (w.heap.size + 1) (Fv c) (Fv d)) := by rw [hW0]; exact ⟨by go_simp, by go_simp, by go_simp, by go_simp⟩
  have Xr : Hid (B4q W0 (w.heap.size + 1 + 1) (.int .u64 0) (.int .u64 0) (.int .u64 0) (.int .u64 0)) := by rw [hW0]; exact ⟨by go_simp, by go_simp, by go_simp, by go_simp, by go_simp, by go_simp, by go_simp, by go_simp⟩
  have hb0 : Below w.heap.size w W0 := by rw [hW0]; exact below3 w _ _ _
  rw [← hW0]
  clear hW0
  have hbw : Below w.heap.size w w := Below.refl _ _
  obtain ⟨gr, hgr⟩ : ∃ g, g = w.heap.size + 1 + 1 := ⟨_, rfl⟩
  have HGr : Hid (w.heap.size ≤ gr) := by rw [hgr]; show _ ≤ _; omega
  rw [← hgr] at Xr
  try rw [← hgr]
  obtain ⟨gc, hgc⟩ : ∃ g, g = w.heap.size + 1 := ⟨_, rfl⟩
  have HGc : Hid (w.heap.size ≤ gc) := by rw [hgc]; show _ ≤ _; omega
  rw [← hgc] at Xc
  try rw [← hgc]
  obtain ⟨gs, hgs⟩ : ∃ g, g = w.heap.size := ⟨_, rfl⟩
  have HGs : Hid (w.heap.size ≤ gs) := by rw [hgs]; show _ ≤ _; omega
  rw [← hgs] at Xs
  try rw [← hgs]
  have HGD : Hid (gs ≠ gc ∧ gs ≠ gr ∧ gc ≠ gs ∧ gc ≠ gr ∧ gr ≠ gs ∧ gr ≠ gc) := by rw [hgs, hgc, hgr]; exact ⟨by omega, by omega, by omega, by omega, by omega, by omega⟩
  clear hgs hgc hgr
  replace hbw := Below.on hbw hb0
  clear hb0
  obtain ⟨V1, hV1⟩ : ∃ W1, W1 = W0.drew := ⟨_, rfl⟩
  have hbd : Below W0.heap.size W0 V1 := by rw [hV1]; exact bDrew1 (Below.refl _ _)
  replace Xs : Hid _ := Xs.out.below hbd
  replace Xc : Hid _ := Xc.out.below hbd
  replace Xr : Hid _ := Xr.out.below hbd
  replace hbw := Below.on hbw hbd
  clear hbd
  have HJ : Hid ((fun W' : World => W'.cell? ⟨gs, 0, none⟩ = some (Fv a) ∧ W'.cell? ⟨gs, 1, none⟩ = some (Fv b) ∧ W'.cell? ⟨gc, 0, none⟩ = some (Fv c) ∧ W'.cell? ⟨gc, 1, none⟩ = some (Fv d)) V1) := ⟨Xs.out.c0, Xs.out.c1, Xc.out.c0, Xc.out.c1⟩
  refine wp_region_J (fun W' => W'.cell? ⟨gs, 0, none⟩ = some (Fv a) ∧ W'.cell? ⟨gs, 1, none⟩ = some (Fv b) ∧ W'.cell? ⟨gc, 0, none⟩ = some (Fv c) ∧ W'.cell? ⟨gc, 1, none⟩ = some (Fv d)) (by kernel_rfl) ?_
  rw [← hV1]
  clear hV1
  refine wpJ_tq 0 rfl HJ.out ?_
  refine wpJ_tq 1 rfl HJ.out ?_
  refine wpJ_tq 3 rfl HJ.out ?_
  refine wpJ_tq 4 rfl HJ.out ?_
  refine wpJ_tq 6 rfl HJ.out ?_
  go_simp
  refine wpJ_tq 7 rfl HJ.out ?_
  refine wpJ_tq 9 rfl HJ.out ?_
  refine wpJ_tq 10 rfl HJ.out ?_
  refine wpJ_on 2 rfl fun KJ hK => ?_
  go_simp
  refine hK _ _ ⟨Xs.out.c0, Xs.out.c1, Xc.out.c0, Xc.out.c1⟩ ?_
  clear hK
  refine wpJ_on 5 rfl fun KJ hK => ?_
  go_simp
  refine hK _ _ ⟨Xs.out.c0, Xs.out.c1, Xc.out.c0, Xc.out.c1⟩ ?_
  clear hK
  refine wpJ_on 8 rfl fun KJ hK => ?_
  go_simp
  refine hK _ _ ⟨Xs.out.c0, Xs.out.c1, Xc.out.c0, Xc.out.c1⟩ ?_
  clear hK
  refine wpJ_on 11 rfl fun KJ hK => ?_
  go_simp
  clear HJ
  have HJ : Hid ((fun W' : World => W'.cell? ⟨gs, 0, none⟩ = some (Fv a) ∧ W'.cell? ⟨gs, 1, none⟩ = some (Fv b) ∧ W'.cell? ⟨gc, 0, none⟩ = some (Fv c) ∧ W'.cell? ⟨gc, 1, none⟩ = some (Fv d)) V1) := ⟨Xs.out.c0, Xs.out.c1, Xc.out.c0, Xc.out.c1⟩
  refine hK _ _ HJ.out ?_
  clear hK
  refine wpJ_tq 12 rfl HJ.out ?_
  obtain ⟨cr0, cr1, cr2, cr3, fr0, fr1, fr2, fr3⟩ := Xr.out
  have hner : gr < V1.heap.size := World.block_lt_of_cell? V1 _ cr0
  obtain ⟨cs0, cs1, fs0, fs1⟩ := Xs.out
  have hnes := Xs.out.lt
  obtain ⟨cc0, cc1, fc0, fc1⟩ := Xc.out
  have hnec := Xc.out.lt
  obtain ⟨hgd0, hgd1, hgd2, hgd3, hgd4, hgd5⟩ := HGD.out
  refine wpJ_on 13 rfl fun KJ hK => ?_
  go_simp
  have HJ2 : Hid ((fun W' : World => W'.cell? ⟨gs, 0, none⟩ = some (Fv a) ∧ W'.cell? ⟨gs, 1, none⟩ = some (Fv b) ∧ W'.cell? ⟨gc, 0, none⟩ = some (Fv c) ∧ W'.cell? ⟨gc, 1, none⟩ = some (Fv d)) ((((V1.setCell ⟨gr, 0, none⟩ (.int .u64 (a : Int))).setCell ⟨gr, 1, none⟩ (.int .u64 (b : Int))).setCell ⟨gr, 2, none⟩ (.int .u64 (c : Int))).setCell ⟨gr, 3, none⟩ (.int .u64 (d : Int)))) := ⟨by go_simp, by go_simp, by go_simp, by go_simp⟩
  refine hK _ _ HJ2.out ?_
  clear hK HJ
  have HJ := HJ2
  clear HJ2
  refine wpJ_done (by kernel_rfl) ?_ _
  clear HJ
  go_wp2_with fail
  refine bodyPost_ret (v := .agg #[.int .u64 (a : Int), .int .u64 (b : Int), .int .u64 (c : Int), .int .u64 (d : Int)]) (by rw [results_cell1 rfl]; go_simp) rfl ⟨rfl, ?_⟩
  exact bSet (bSet (bSet (bSet (hbw) _ _ _ HGr.out) _ _ _ HGr.out) _ _ _ HGr.out) _ _ _ HGr.out
theorem plc_half {K : Nat} (hK : K = 1074) : plcN K 4602678819172646912 = 32 := by
  have h := plc_at K 1021 6 0 (by omega) (by omega) rfl hK
  rw [show (1016 + 6) * 4503599627370496 + 0 = 4602678819172646912 by decide] at h
  rw [h]
theorem awake23 (w : World) (hT : TabT w) :
    Calls Tryd.prog 4 #[] w fun en w' => en = .returned (.bool true) ∧ Below w.heap.size w w' := by
  have hSF : ∀ (w : World) (a : Addr) (b : Nat), (store a (Fv b)).run Tryd.prog w = stored Tryd.prog w a (Fv b) .plain := stFs
  have TB : Hid (TabT w) := hT
  obtain ⟨K, hK⟩ : ∃ K, K = 1074 := ⟨_, rfl⟩
  have HP := place_ok hK 13826050856027422720 (by decide) (by decide)
  rw [show 13826050856027422720 % 9223372036854775808 = 4602678819172646912 by decide, plc_half hK, show ((32 : Nat) : Int) = 32 from rfl] at HP
  have HR := row_ok 32 (by omega) (a := 4602308182625945072) (b := 13571467409308189309) (c := 4606079780542709072) (d := 13585268877995206696) (by decide +kernel) (by decide +kernel) (by decide +kernel) (by decide +kernel)
  rw [show ((32 : Nat) : Int) = 32 from rfl] at HR
  have hbw : Below w.heap.size w w := Below.refl _ _
  clear hT hK
  go_enter Tryd.func4, Tryd.ntmps4
  go_wp2_with fail
  refine (HR _ TB.out).mono ?_
  rintro e v1 ⟨rfl, hb1⟩
  replace hbw := Below.on hbw hb1
  clear hb1
  go_wp2_with fail
  obtain ⟨Ws, hWs⟩ : ∃ W9, W9 = ((v1.alloc (.cells #[Fv 4602308182625945072, Fv 13571467409308189309] 26)).alloc (.cells #[Fv 4606079780542709072, Fv 13585268877995206696] 26)) := ⟨_, rfl⟩
  have Xs0 : Hid (Box Ws (v1.heap.size) (Fv 4602308182625945072) (Fv 13571467409308189309)) := by rw [hWs]; exact ⟨by go_simp, by go_simp, by go_simp, by go_simp⟩
  have Xc0 : Hid (Box Ws (v1.heap.size + 1) (Fv 4606079780542709072) (Fv 13585268877995206696)) := by rw [hWs]; exact ⟨by go_simp, by go_simp, by go_simp, by go_simp⟩
  have hbn : Below v1.heap.size v1 Ws := by rw [hWs]; exact below2 v1 _ _
  rw [← hWs]
  clear hWs
  obtain ⟨gc, hgc⟩ : ∃ g, g = v1.heap.size + 1 := ⟨_, rfl⟩
  have HGc : Hid (w.heap.size ≤ gc) := by rw [hgc]; have := hbw.size; show _ ≤ _; omega
  rw [← hgc] at Xc0
  try rw [← hgc]
  obtain ⟨gs, hgs⟩ : ∃ g, g = v1.heap.size := ⟨_, rfl⟩
  have HGs : Hid (w.heap.size ≤ gs) := by rw [hgs]; have := hbw.size; show _ ≤ _; omega
  rw [← hgs] at Xs0
  try rw [← hgs]
  clear hgs hgc
  replace hbw := Below.on hbw hbn
  clear hbn
  have Xs := Xs0
  clear Xs0
  have Xc := Xc0
  clear Xc0
  obtain ⟨cs0, cs1, fs0, fs1⟩ := Xs.out
  have hnes := Xs.out.lt
  obtain ⟨cc0, cc1, fc0, fc1⟩ := Xc.out
  have hnec := Xc.out.lt
  go_wp2_with fail
  clear cs0 cs1 fs0 fs1 hnes
  clear cc0 cc1 fc0 fc1 hnec
  refine (lbits23 4602308182625945072 13571467409308189309 4606079780542709072 13585268877995206696 _).mono ?_
  rintro e v2 ⟨rfl, hb2⟩
  replace Xs : Hid _ := Xs.out.below hb2
  replace Xc : Hid _ := Xc.out.below hb2
  replace hbw := Below.on hbw hb2
  clear hb2
  go_wp2_with fail
  have Xw0 : Hid (B4q (v2.alloc (.cells #[.int .u64 ((4602308182625945072 : Nat) : Int), .int .u64 ((13571467409308189309 : Nat) : Int), .int .u64 ((4606079780542709072 : Nat) : Int), .int .u64 ((13585268877995206696 : Nat) : Int)] 32)) v2.heap.size (.int .u64 ((4602308182625945072 : Nat) : Int)) (.int .u64 ((13571467409308189309 : Nat) : Int)) (.int .u64 ((4606079780542709072 : Nat) : Int)) (.int .u64 ((13585268877995206696 : Nat) : Int))) := B4q.new v2 _ _ _ _ _
  have hbn : Below v2.heap.size v2 (v2.alloc (.cells #[.int .u64 ((4602308182625945072 : Nat) : Int), .int .u64 ((13571467409308189309 : Nat) : Int), .int .u64 ((4606079780542709072 : Nat) : Int), .int .u64 ((13585268877995206696 : Nat) : Int)] 32)) := below1 v2 _
  generalize v2.alloc (.cells #[.int .u64 ((4602308182625945072 : Nat) : Int), .int .u64 ((13571467409308189309 : Nat) : Int), .int .u64 ((4606079780542709072 : Nat) : Int), .int .u64 ((13585268877995206696 : Nat) : Int)] 32) = Ww at *
  have HGw : Hid (w.heap.size ≤ v2.heap.size) := hbw.size
  replace Xs : Hid _ := Xs.out.below hbn
  replace Xc : Hid _ := Xc.out.below hbn
  replace hbw := Below.on hbw hbn
  clear hbn
  generalize v2.heap.size = gw at *
  have Xw := Xw0
  clear Xw0
  go_wp2_with fail
  refine (HP _).mono ?_
  rintro e v3 ⟨rfl, hb3⟩
  replace Xs : Hid _ := Xs.out.below hb3
  replace Xc : Hid _ := Xc.out.below hb3
  replace Xw : Hid _ := Xw.out.below hb3
  replace hbw := Below.on hbw hb3
  clear hb3
  obtain ⟨cw0, cw1, cw2, cw3, fw0, fw1, fw2, fw3⟩ := Xw.out
  have hnew : gw < v3.heap.size := World.block_lt_of_cell? v3 _ cw0
  go_wp2_with fail
  clear cw0 cw1 cw2 cw3 fw0 fw1 fw2 fw3 hnew
  go_ret
  exact ⟨by kernel_rfl, hbw⟩
theorem row_e1 (x : Int) (hx : x < 0) (w : World) :
    Calls Tryd.prog 5 #[.int .i64 x] w fun en w' => en = .returned (.tuple #[.agg #[Fv 0, Fv 0], .agg #[Fv 0, Fv 0], .int .i64 1]) ∧ Below w.heap.size w w' := by
  have hSF : ∀ (w : World) (a : Addr) (b : Nat), (store a (Fv b)).run Tryd.prog w = stored Tryd.prog w a (Fv b) .plain := stFs
  have e1 : decide (x < 0) = true := decide_eq_true hx
  go_enter Tryd.func5, Tryd.ntmps5
  go_wp2_with fail
  refine bodyPost_ret (v := .tuple #[.agg #[Fv 0, Fv 0], .agg #[Fv 0, Fv 0], .int .i64 1]) (by rw [results_cct rfl]; go_simp) rfl ⟨rfl, ?_⟩
  exact below2 w _ _
theorem row_e2 (x : Int) (hx : 52 < x) (w : World) :
    Calls Tryd.prog 5 #[.int .i64 x] w fun en w' => en = .returned (.tuple #[.agg #[Fv 0, Fv 0], .agg #[Fv 0, Fv 0], .int .i64 1]) ∧ Below w.heap.size w w' := by
  have hSF : ∀ (w : World) (a : Addr) (b : Nat), (store a (Fv b)).run Tryd.prog w = stored Tryd.prog w a (Fv b) .plain := stFs
  have e1 : decide (x < 0) = false := decide_eq_false (by omega)
  have e2 : decide (52 < x) = true := decide_eq_true hx
  have e3 : ¬ x < 0 := by omega
  go_enter Tryd.func5, Tryd.ntmps5
  go_wp2_with fail
  refine bodyPost_ret (v := .tuple #[.agg #[Fv 0, Fv 0], .agg #[Fv 0, Fv 0], .int .i64 1]) (by rw [results_cct rfl]; go_simp) rfl ⟨rfl, ?_⟩
  exact below2 w _ _
theorem docrow_e1 (x : Int) (hx : x < 0) (w : World) :
    Calls Tryd.prog 6 #[.int .i64 x] w fun en w' => en = .returned (.tuple #[.agg #[.int .u64 0, .int .u64 0, .int .u64 0, .int .u64 0], .int .i64 1]) ∧ Below w.heap.size w w' := by
  have e1 : decide (x < 0) = true := decide_eq_true hx
  go_enter Tryd.func6, Tryd.ntmps6
  go_wp2_with fail
  refine bodyPost_ret (v := .tuple #[.agg #[.int .u64 0, .int .u64 0, .int .u64 0, .int .u64 0], .int .i64 1]) (by rw [results_ct rfl]; go_simp) rfl ⟨rfl, ?_⟩
  exact below1 w _
theorem docrow_e2 (x : Int) (hx : 52 < x) (w : World) :
    Calls Tryd.prog 6 #[.int .i64 x] w fun en w' => en = .returned (.tuple #[.agg #[.int .u64 0, .int .u64 0, .int .u64 0, .int .u64 0], .int .i64 1]) ∧ Below w.heap.size w w' := by
  have e1 : decide (x < 0) = false := decide_eq_false (by omega)
  have e2 : decide (52 < x) = true := decide_eq_true hx
  have e3 : ¬ x < 0 := by omega
  go_enter Tryd.func6, Tryd.ntmps6
  go_wp2_with fail
  refine bodyPost_ret (v := .tuple #[.agg #[.int .u64 0, .int .u64 0, .int .u64 0, .int .u64 0], .int .i64 1]) (by rw [results_ct rfl]; go_simp) rfl ⟨rfl, ?_⟩
  exact below1 w _
theorem docrow_0  (w : World) :
    Calls Tryd.prog 6 #[.int .i64 0] w fun en w' => en = .returned (.tuple #[.agg #[.int .u64 0, .int .u64 0, .int .u64 4607182418800017408, .int .u64 0], .int .i64 0]) ∧ Below w.heap.size w w' := by
  go_enter Tryd.func6, Tryd.ntmps6
  go_wp2_with fail
  refine bodyPost_ret (v := .tuple #[.agg #[.int .u64 0, .int .u64 0, .int .u64 4607182418800017408, .int .u64 0], .int .i64 0]) (by rw [results_ct rfl]; go_simp) rfl ⟨rfl, ?_⟩
  first | exact below1 w _ | exact below2 w _ _ | exact bSet (bSet (bSet (bSet (below1 w _) _ _ _ (Nat.le_refl _)) _ _ _ (Nat.le_refl _)) _ _ _ (Nat.le_refl _)) _ _ _ (Nat.le_refl _)
theorem docrow_ok (j : Nat) (hj : j < 53) (hj1 : 1 ≤ j) {a b c d : Nat} (ha : a = SN.getD (2 * j) 0) (hb : b = SN.getD (2 * j + 1) 0) (hc : c = CN.getD (2 * j) 0) (hd : d = CN.getD (2 * j + 1) 0) (w : World) :
    Calls Tryd.prog 6 #[.int .i64 (j : Int)] w fun en w' => en = .returned (.tuple #[.agg #[U a, U b, U c, U d], .int .i64 0]) ∧ Below w.heap.size w w' := by
  have e1 : decide ((j : Int) < 0) = false := decide_eq_false (by omega)
  have e2 : decide (52 < (j : Int)) = false := decide_eq_false (by omega)
  have e3 : ¬ (j : Int) < 0 := by omega
  have e4 : ¬ 52 < (j : Int) := by omega
  have e5 : ¬ (j : Int) = 0 := by omega
  have e6 : ((j : Int) == 0) = false := by simp; omega
  have HH9 : Hid (1 ≤ j ∧ j < 53 ∧ a = SN.getD (2 * j) 0 ∧ b = SN.getD (2 * j + 1) 0 ∧ c = CN.getD (2 * j) 0 ∧ d = CN.getD (2 * j + 1) 0) := ⟨hj1, hj, ha, hb, hc, hd⟩
  clear hj hj1 ha hb hc hd
  go_enter Tryd.func6, Tryd.ntmps6
  go_wp2_with fail
  obtain ⟨W0, hW0⟩ : ∃ W0, W0 = (w.alloc (.cells #[.int .u64 0, .int .u64 0, .int .u64 0, .int .u64 0] 32)) := ⟨_, rfl⟩
  have Xr : Hid (B4q W0 (w.heap.size) (.int .u64 0) (.int .u64 0) (.int .u64 0) (.int .u64 0)) := by rw [hW0]; exact ⟨by go_simp, by go_simp, by go_simp, by go_simp, by go_simp, by go_simp, by go_simp, by go_simp⟩
  have hb0 : Below w.heap.size w W0 := by rw [hW0]; exact below1 w _
  rw [← hW0]
  clear hW0
  have hbw : Below w.heap.size w w := Below.refl _ _
  obtain ⟨gr, hgr⟩ : ∃ g, g = w.heap.size := ⟨_, rfl⟩
  have HGr : Hid (w.heap.size ≤ gr) := by rw [hgr]; show _ ≤ _; omega
  rw [← hgr] at Xr
  try rw [← hgr]
  clear hgr
  replace hbw := Below.on hbw hb0
  clear hb0
  go_wp2_with fail
  refine (halvesS HH9.out.1 HH9.out.2.1 HH9.out.2.2.1 HH9.out.2.2.2.1).mono ?_
  rintro e v1 ⟨rfl, hb1⟩
  replace Xr : Hid _ := Xr.out.below hb1
  replace hbw := Below.on hbw hb1
  clear hb1
  go_wp2_with fail
  refine (halvesC HH9.out.1 HH9.out.2.1 HH9.out.2.2.2.2.1 HH9.out.2.2.2.2.2).mono ?_
  rintro e v2 ⟨rfl, hb2⟩
  replace Xr : Hid _ := Xr.out.below hb2
  replace hbw := Below.on hbw hb2
  clear hb2
  obtain ⟨cr0, cr1, cr2, cr3, fr0, fr1, fr2, fr3⟩ := Xr.out
  have hner : gr < v2.heap.size := World.block_lt_of_cell? v2 _ cr0
  go_wp2_with fail
  refine bodyPost_ret (v := .tuple #[.agg #[U a, U b, U c, U d], .int .i64 0]) (by rw [results_ct rfl]; go_simp) rfl ⟨rfl, ?_⟩
  exact bSet (bSet (bSet (bSet (hbw) _ _ _ HGr.out) _ _ _ HGr.out) _ _ _ HGr.out) _ _ _ HGr.out
structure AtI (w : World) (p : Option Addr) (n c : Nat) (xs : List Int) : Prop where
  len : xs.length = n
  cap : n ≤ c
  big : c ≤ maxLen
  cells : n = 0 ∨ ∃ g off, p = some ⟨g, off, none⟩ ∧ ∀ j, j < n → w.cell? ⟨g, off + j, none⟩ = some (.int .i64 (xs.getD j 0))
theorem rows_both (x : Int) : ∃ (a b c9 d : Nat) (f : Int), (∀ w, TabT w → Calls Tryd.prog 5 #[.int .i64 x] w fun en w' => en = .returned (.tuple #[.agg #[Fv a, Fv b], .agg #[Fv c9, Fv d], .int .i64 f]) ∧ Below w.heap.size w w') ∧ (∀ w, Calls Tryd.prog 6 #[.int .i64 x] w fun en w' => en = .returned (.tuple #[.agg #[U a, U b, U c9, U d], .int .i64 f]) ∧ Below w.heap.size w w') := by
  by_cases h1 : x < 0
  · exact ⟨0, 0, 0, 0, 1, fun w _ => row_e1 x h1 w, fun w => docrow_e1 x h1 w⟩
  by_cases h2 : 52 < x
  · exact ⟨0, 0, 0, 0, 1, fun w _ => row_e2 x h2 w, fun w => docrow_e2 x h2 w⟩
  obtain ⟨j, rfl⟩ : ∃ j : Nat, x = (j : Int) := ⟨x.toNat, by omega⟩
  by_cases h3 : j = 0
  · subst h3
    exact ⟨0, 0, 4607182418800017408, 0, 0, fun w hT => row_ok 0 (by decide) (by decide) (by decide) (by decide) (by decide) w hT, fun w => docrow_0 w⟩
  · exact ⟨_, _, _, _, 0, fun w hT => row_ok j (by omega) rfl rfl rfl rfl w hT, fun w => docrow_ok j (by omega) (by omega) rfl rfl rfl rfl w⟩
theorem sintableRows_w {p : Option Addr} {n c : Nat} {xs : List Int} {w : World} (h : AtI w p n c xs) (hn : n ≤ 17592186044416) (hT : TabT w) :
    Calls Tryd.prog 3 #[.slice p n c] w fun en w' => en = .returned (.bool true) ∧ Below w.heap.size w w' := by
  have hSF : ∀ (w : World) (a : Addr) (b : Nat), (store a (Fv b)).run Tryd.prog w = stored Tryd.prog w a (Fv b) .plain := stFs
  have H : Hid (AtI w p n c xs ∧ n ≤ 17592186044416) := ⟨h, hn⟩
  have TB : Hid (TabT w) := hT
  have hbw : Below w.heap.size w w := Below.refl _ _
  have cap := h.cap; have big := h.big
  unfold maxLen at big
  clear h hn hT
  go_enter Tryd.func3, Tryd.ntmps3
  go_wp2_with fail
  refine (awake23 _ TB.out).mono ?_
  rintro e v1 ⟨rfl, hb1⟩
  replace hbw := Below.on hbw hb1
  clear hb1
  go_wp2_with fail
  go_loopg [14] n (fun gk iv wr => ∃ k : Nat, k + gk = n ∧ iv = .int .i64 k ∧ Below w.heap.size w wr)
  case atStart => exact ⟨0, by omega, rfl, hbw⟩
  case round =>
    clear hbw
    obtain ⟨k, hkg, rfl, hbw⟩ := hrel
    cases gk with
    | zero =>
      obtain rfl : k = n := by omega
      have hnk : ¬ (k : Int) < (k : Int) := by omega
      go_wp2_with fail
      go_ret
      exact ⟨rfl, hbw⟩
    | succ gg =>
      obtain ⟨gp, off, rfl, hc⟩ := H.out.1.cells.resolve_left (by omega)
      obtain ⟨x, hx⟩ : ∃ x, x = xs.getD k 0 := ⟨_, rfl⟩
      have hcx0 : w.cell? ⟨gp, off + k, none⟩ = some (.int .i64 x) := by rw [hx]; exact hc k (by omega)
      have hcx : wr.cell? ⟨gp, off + k, none⟩ = some (.int .i64 x) := (hbw.cell (p := ⟨gp, off + k, none⟩) (World.block_lt_of_cell? w _ hcx0)).trans hcx0
      have HXB : Hid (k < 17592186044416) := by have := H.out.2; show _ < _; omega
      have hkk : (k : Int) < (n : Int) := by omega
      clear hc hx hcx0
      obtain ⟨a, b, c9, d, f, HP, HD⟩ := rows_both x
      have HPP := Hid.mk9 HP
      have HDD := Hid.mk9 HD
      clear HP HD
      go_wp2_with fail
      refine (HPP.out _ (TB.out.below hbw)).mono ?_
      rintro e v2 ⟨rfl, hb2⟩
      replace hbw := Below.on hbw hb2
      clear hb2
      go_wp2_with fail
      obtain ⟨Wc, hWc⟩ : ∃ W9, W9 = ((v2.alloc (.cells #[Fv a, Fv b] 26)).alloc (.cells #[Fv c9, Fv d] 26)) := ⟨_, rfl⟩
      have Xs0 : Hid (Box Wc (v2.heap.size) (Fv a) (Fv b)) := by rw [hWc]; exact ⟨by go_simp, by go_simp, by go_simp, by go_simp⟩
      have Xc0 : Hid (Box Wc (v2.heap.size + 1) (Fv c9) (Fv d)) := by rw [hWc]; exact ⟨by go_simp, by go_simp, by go_simp, by go_simp⟩
      have hbn : Below v2.heap.size v2 Wc := by rw [hWc]; exact below2 v2 _ _
      rw [← hWc]
      clear hWc
      obtain ⟨gc, hgc⟩ : ∃ g, g = v2.heap.size + 1 := ⟨_, rfl⟩
      have HGc : Hid (w.heap.size ≤ gc) := by rw [hgc]; have := hbw.size; show _ ≤ _; omega
      rw [← hgc] at Xc0
      try rw [← hgc]
      obtain ⟨gs, hgs⟩ : ∃ g, g = v2.heap.size := ⟨_, rfl⟩
      have HGs : Hid (w.heap.size ≤ gs) := by rw [hgs]; have := hbw.size; show _ ≤ _; omega
      rw [← hgs] at Xs0
      try rw [← hgs]
      clear hgs hgc
      replace hbw := Below.on hbw hbn
      clear hbn
      have Xs := Xs0
      clear Xs0
      have Xc := Xc0
      clear Xc0
      refine (HDD.out _).mono ?_
      rintro e v3 ⟨rfl, hb3⟩
      replace Xs : Hid _ := Xs.out.below hb3
      replace Xc : Hid _ := Xc.out.below hb3
      replace hbw := Below.on hbw hb3
      clear hb3
      go_wp2_with fail
      have Xw0 : Hid (B4q (v3.alloc (.cells #[U a, U b, U c9, U d] 32)) v3.heap.size (U a) (U b) (U c9) (U d)) := B4q.new v3 _ _ _ _ _
      have hbn : Below v3.heap.size v3 (v3.alloc (.cells #[U a, U b, U c9, U d] 32)) := below1 v3 _
      generalize v3.alloc (.cells #[U a, U b, U c9, U d] 32) = Ww at *
      have HGw : Hid (w.heap.size ≤ v3.heap.size) := hbw.size
      replace Xs : Hid _ := Xs.out.below hbn
      replace Xc : Hid _ := Xc.out.below hbn
      replace hbw := Below.on hbw hbn
      clear hbn
      generalize v3.heap.size = gw at *
      have Xw := Xw0
      clear Xw0
      obtain ⟨cs0, cs1, fs0, fs1⟩ := Xs.out
      have hnes := Xs.out.lt
      obtain ⟨cc0, cc1, fc0, fc1⟩ := Xc.out
      have hnec := Xc.out.lt
      obtain ⟨cw0, cw1, cw2, cw3, fw0, fw1, fw2, fw3⟩ := Xw.out
      have hnew : gw < Ww.heap.size := World.block_lt_of_cell? Ww _ cw0
      go_wp2_with fail
      clear cs0 cs1 fs0 fs1 hnes
      clear cc0 cc1 fc0 fc1 hnec
      clear cw0 cw1 cw2 cw3 fw0 fw1 fw2 fw3 hnew
      obtain ⟨V1, hV1⟩ : ∃ W1, W1 = Ww.drew := ⟨_, rfl⟩
      have hbd : Below Ww.heap.size Ww V1 := by rw [hV1]; exact bDrew1 (Below.refl _ _)
      replace Xs : Hid _ := Xs.out.below hbd
      replace Xc : Hid _ := Xc.out.below hbd
      replace Xw : Hid _ := Xw.out.below hbd
      replace hbw := Below.on hbw hbd
      clear hbd
      have HJ : Hid ((fun W' : World => W'.cell? ⟨gs, 0, none⟩ = some (Fv a) ∧ W'.cell? ⟨gs, 1, none⟩ = some (Fv b) ∧ W'.cell? ⟨gc, 0, none⟩ = some (Fv c9) ∧ W'.cell? ⟨gc, 1, none⟩ = some (Fv d) ∧ W'.cell? ⟨gw, 0, none⟩ = some (U a) ∧ W'.cell? ⟨gw, 1, none⟩ = some (U b) ∧ W'.cell? ⟨gw, 2, none⟩ = some (U c9) ∧ W'.cell? ⟨gw, 3, none⟩ = some (U d)) V1) := ⟨Xs.out.c0, Xs.out.c1, Xc.out.c0, Xc.out.c1, Xw.out.c0, Xw.out.c1, Xw.out.c2, Xw.out.c3⟩
      refine wp_region_J (fun W' => W'.cell? ⟨gs, 0, none⟩ = some (Fv a) ∧ W'.cell? ⟨gs, 1, none⟩ = some (Fv b) ∧ W'.cell? ⟨gc, 0, none⟩ = some (Fv c9) ∧ W'.cell? ⟨gc, 1, none⟩ = some (Fv d) ∧ W'.cell? ⟨gw, 0, none⟩ = some (U a) ∧ W'.cell? ⟨gw, 1, none⟩ = some (U b) ∧ W'.cell? ⟨gw, 2, none⟩ = some (U c9) ∧ W'.cell? ⟨gw, 3, none⟩ = some (U d)) (by kernel_rfl) ?_
      rw [← hV1]
      clear hV1
      refine wpJ_tq 0 rfl HJ.out ?_
      refine wpJ_tq 1 rfl HJ.out ?_
      refine wpJ_tq 3 rfl HJ.out ?_
      refine wpJ_on 2 rfl fun KJ hK => ?_
      go_simp
      refine (lbits23 a b c9 d _).mono ?_
      rintro e v4 ⟨rfl, hb4⟩
      replace Xs : Hid _ := Xs.out.below hb4
      replace Xc : Hid _ := Xc.out.below hb4
      replace Xw : Hid _ := Xw.out.below hb4
      replace hbw := Below.on hbw hb4
      clear hb4
      clear HJ
      have HJ : Hid ((fun W' : World => W'.cell? ⟨gs, 0, none⟩ = some (Fv a) ∧ W'.cell? ⟨gs, 1, none⟩ = some (Fv b) ∧ W'.cell? ⟨gc, 0, none⟩ = some (Fv c9) ∧ W'.cell? ⟨gc, 1, none⟩ = some (Fv d) ∧ W'.cell? ⟨gw, 0, none⟩ = some (U a) ∧ W'.cell? ⟨gw, 1, none⟩ = some (U b) ∧ W'.cell? ⟨gw, 2, none⟩ = some (U c9) ∧ W'.cell? ⟨gw, 3, none⟩ = some (U d)) v4) := ⟨Xs.out.c0, Xs.out.c1, Xc.out.c0, Xc.out.c1, Xw.out.c0, Xw.out.c1, Xw.out.c2, Xw.out.c3⟩
      refine hK _ _ HJ.out ?_
      clear hK
      go_simp
      refine wpJ_tq 4 rfl HJ.out ?_
      go_simp
      refine wpJ_tq 5 rfl HJ.out ?_
      refine wpJ_tq 6 rfl HJ.out ?_
      refine wpJ_tq 7 rfl HJ.out ?_
      refine wpJ_tq 8 rfl HJ.out ?_
      refine wpJ_tq 9 rfl HJ.out ?_
      go_simp
      refine wpJ_done (by kernel_rfl) ?_ _
      clear HJ
      go_wp2_with fail
      go_roundg gg
      case measure => omega
      case rel => exact ⟨k + 1, by omega, by go_num, hbw⟩
theorem sintableRows_walk {p : Option Addr} {n c : Nat} {xs : List Int} {w : World} (h : AtI w p n c xs) (hn : n ≤ 17592186044416) (hT : TabT w) : Calls Tryd.prog 3 #[.slice p n c] w fun e w' => e = .returned (.bool true) ∧ Below w.heap.size w w' := sintableRows_w h hn hT
end Go.Proofs.YtionkfnapodhbaaDoor
namespace Go.Proofs.YtionkfnapodhbaaDoor
open Go.ChangeShapes Go.WideShapes Go.ChangeAt Go.RowKit
set_option maxRecDepth 20000
set_option maxHeartbeats 0
theorem bytesI64 : Tryd.prog.bytesOf 3 = 8 := by kernel_rfl
theorem cellsOfI64 : Tryd.prog.cellsOf 3 = 1 := by kernel_rfl
theorem open_ati {H : Type} {enc : TypeId × Value → H} {W : World} {a : Option Addr} {len cap : Nat} {d : DataW H} {ps : List MemPlace} {ts : List TypeId} {ds : List (DataW H)} {j : Nat}
    (h : DataW.Trod enc Tryd.prog W 0 (fun _ => true) true 22 (.slice a len cap) d ps) (hsz : (DataW.weightsEach Tryd.prog ts ds).all (· ≤ reachBytes) = true) (ht : ts[j]? = some 22) (hd : ds[j]? = some d) :
    ∃ xs, AtI W a len cap xs ∧ len ≤ 17592186044416 := by
  obtain ⟨fuel, hf⟩ := h
  rcases open_ints Tryd.underlying22 Tryd.underlying3 cellsOfI64 hf with ⟨hcs, _⟩ | ⟨x, l, c, zs, hcs, _, hl, hm, hz, hx, hcell, hwz⟩
  · simp [Value.cells] at hcs
    obtain ⟨rfl, rfl, rfl⟩ := hcs
    exact ⟨[], ⟨rfl, by omega, by decide, .inl rfl⟩, by omega⟩
  · simp [Value.cells] at hcs
    obtain ⟨rfl, rfl, rfl⟩ := hcs
    simp only [if_true] at hz
    simp only [Prod.mk.injEq] at hx
    obtain ⟨rfl, rfl⟩ := hx
    have hs := sized_slice hsz ht hd Tryd.underlying22
    rw [bytesI64] at hs
    simp only [lits, List.length_map, List.length_take, List.length_drop, reachBytes] at hs
    have hlen : (zs.take len).length = len := by simp; omega
    have hget : ∀ i, i < len → (zs.take len).getD i 0 = zs.getD i 0 := by
      intro i hi
      have h1 : i < zs.length := by omega
      simp only [List.getD_eq_getElem?_getD, List.getElem?_take, hi, if_true]
    refine ⟨zs.take len, ⟨hlen, hl, hm, ?_⟩, by omega⟩
    by_cases h0 : len = 0
    · exact .inl h0
    · obtain ⟨b, off, spot⟩ := x
      have hc := hcell 0 (by omega)
      have hspot : spot = none := by simpa [Addr.add] using World.cell?_spot hc
      subst hspot
      refine .inr ⟨b, off, rfl, fun i hi => ?_⟩
      have hadd : (⟨b, off, none⟩ : Addr).add i = ⟨b, off + i, none⟩ := by unfold Addr.add; split <;> simp_all
      have := hcell i (by omega)
      rw [hadd] at this
      rw [this, hget i hi]
end Go.Proofs.YtionkfnapodhbaaDoor
