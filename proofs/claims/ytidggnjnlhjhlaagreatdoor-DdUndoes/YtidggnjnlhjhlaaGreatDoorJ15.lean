import Derived.Test.YtidggnjnlhjhlaaGreatDoorJ14
import Derived.Test.YtidggnjnlhjhlaaGreatDoorJ8
import Derived.Test.YtidggnjnlhjhlaaGreatDoorJ13
import Derived.Deep.DeepCutAuto
import Derived.Test.YtidggnjnlhjhlaaGreatDoorJ11
import Derived.BigQuiet
import Derived.Test.YtidggnjnlhjhlaaGreatDoorJ10
namespace Go.Proofs.YtidggnjnlhjhlaaGreatDoor
open Go.RowKit Go.Shelf
set_option maxRecDepth 20000
set_option maxHeartbeats 0
theorem lfloat (b : Nat) (w : World) :
    Calls Tryz.prog 28 #[.int .u64 (b : Int)] w fun en w' => en = .returned (Fv b) ∧ w' = w := by
  have fb : ∀ w, (callFunc 58 #[.int .u64 (b : Int)]).run Tryz.prog w = .ok (.value (Fv b)) w := fun w => frombits _ w
  go_enter Tryz.func28, Tryz.ntmps28
  go_wp2_with fail
  go_ret
  exact ⟨rfl, rfl⟩
theorem lbits (h l : Nat) (w : World) :
    Calls Tryz.prog 26 #[.agg #[Fv h, Fv l]] w fun en w' => en = .returned (.agg #[.int .u64 (h : Int), .int .u64 (l : Int)]) ∧ Below w.heap.size w w' := by
  have hSF : ∀ (w : World) (a : Addr) (b : Nat), (store a (Fv b)).run Tryz.prog w = stored Tryz.prog w a (Fv b) .plain := stF
  have b1 : ∀ w, (callFunc 57 #[Fv h]).run Tryz.prog w = .ok (.value (.int .u64 (h : Int))) w := fun w => bitsOf _ w
  have b2 : ∀ w, (callFunc 57 #[Fv l]).run Tryz.prog w = .ok (.value (.int .u64 (l : Int))) w := fun w => bitsOf _ w
  go_enter Tryz.func26, Tryz.ntmps26
  go_wp2_with fail
  obtain ⟨W0, hW0⟩ : ∃ W0, W0 = ((w.alloc (.cells #[Fv h, Fv l] 32)).alloc (.cells #[.int .u64 0, .int .u64 0] 28)) := ⟨_, rfl⟩
  have Xa : Hid (Box W0 (w.heap.size) (Fv h) (Fv l)) := by rw [hW0]; exact ⟨by go_simp, by go_simp, by go_simp, by go_simp⟩
  have Xr : Hid (Box W0 (w.heap.size + 1) (.int .u64 0) (.int .u64 0)) := by rw [hW0]; exact ⟨by go_simp, by go_simp, by go_simp, by go_simp⟩
  have hb0 : Below w.heap.size w W0 := by rw [hW0]; exact below2 w _ _
  rw [← hW0]
  clear hW0
  have hbw : Below w.heap.size w w := Below.refl _ _
  obtain ⟨gr, hgr⟩ : ∃ g, g = w.heap.size + 1 := ⟨_, rfl⟩
  have HGr : Hid (w.heap.size ≤ gr) := by rw [hgr]; show _ ≤ _; omega
  rw [← hgr] at Xr
  try rw [← hgr]
  obtain ⟨ga, hga⟩ : ∃ g, g = w.heap.size := ⟨_, rfl⟩
  have HGa : Hid (w.heap.size ≤ ga) := by rw [hga]; show _ ≤ _; omega
  rw [← hga] at Xa
  try rw [← hga]
  have HGD : Hid (ga ≠ gr ∧ gr ≠ ga) := by rw [hga, hgr]; exact ⟨by omega, by omega⟩
  clear hga hgr
  replace hbw := Below.on hbw hb0
  clear hb0
  obtain ⟨V1, hV1⟩ : ∃ W1, W1 = W0.drew := ⟨_, rfl⟩
  have hbd : Below W0.heap.size W0 V1 := by rw [hV1]; exact bDrew1 (Below.refl _ _)
  replace Xa : Hid _ := Xa.out.below hbd
  replace Xr : Hid _ := Xr.out.below hbd
  replace hbw := Below.on hbw hbd
  clear hbd
  have HJ : Hid ((fun W' : World => W'.cell? ⟨ga, 0, none⟩ = some (Fv h) ∧ W'.cell? ⟨ga, 1, none⟩ = some (Fv l)) V1) := ⟨Xa.out.c0, Xa.out.c1⟩
  refine wp_region_J (fun W' => W'.cell? ⟨ga, 0, none⟩ = some (Fv h) ∧ W'.cell? ⟨ga, 1, none⟩ = some (Fv l)) (by kernel_rfl) ?_
  rw [← hV1]
  clear hV1
  refine wpJ_tq 0 rfl HJ.out ?_
  refine wpJ_tq 1 rfl HJ.out ?_
  refine wpJ_tq 3 rfl HJ.out ?_
  refine wpJ_tq 4 rfl HJ.out ?_
  refine wpJ_on 2 rfl fun KJ hK => ?_
  go_simp
  refine hK _ _ ⟨Xa.out.c0, Xa.out.c1⟩ ?_
  clear hK
  refine wpJ_on 5 rfl fun KJ hK => ?_
  go_simp
  clear HJ
  have HJ : Hid ((fun W' : World => W'.cell? ⟨ga, 0, none⟩ = some (Fv h) ∧ W'.cell? ⟨ga, 1, none⟩ = some (Fv l)) V1) := ⟨Xa.out.c0, Xa.out.c1⟩
  refine hK _ _ HJ.out ?_
  clear hK
  refine wpJ_tq 6 rfl HJ.out ?_
  obtain ⟨cr0, cr1, fr0, fr1⟩ := Xr.out
  have hner := Xr.out.lt
  obtain ⟨ca0, ca1, fa0, fa1⟩ := Xa.out
  have hnea := Xa.out.lt
  obtain ⟨hgd0, hgd1⟩ := HGD.out
  refine wpJ_on 7 rfl fun KJ hK => ?_
  go_simp
  have HJ2 : Hid ((fun W' : World => W'.cell? ⟨ga, 0, none⟩ = some (Fv h) ∧ W'.cell? ⟨ga, 1, none⟩ = some (Fv l)) ((V1.setCell ⟨gr, 0, none⟩ (.int .u64 (h : Int))).setCell ⟨gr, 1, none⟩ (.int .u64 (l : Int)))) := ⟨by go_simp, by go_simp⟩
  refine hK _ _ HJ2.out ?_
  clear hK HJ
  have HJ := HJ2
  clear HJ2
  refine wpJ_done (by kernel_rfl) ?_ _
  clear HJ
  go_wp2_with fail
  refine bodyPost_ret (v := .agg #[.int .u64 (h : Int), .int .u64 (l : Int)]) (by rw [results_cell1 rfl]; go_simp) rfl ⟨rfl, ?_⟩
  exact bSet (bSet (hbw) _ _ _ HGr.out) _ _ _ HGr.out
theorem lpair (h l : Nat) (w : World) :
    Calls Tryz.prog 12 #[.agg #[.int .u64 (h : Int), .int .u64 (l : Int)]] w fun en w' => en = .returned (.agg #[Fv h, Fv l]) ∧ Below w.heap.size w w' := by
  have hSF : ∀ (w : World) (a : Addr) (b : Nat), (store a (Fv b)).run Tryz.prog w = stored Tryz.prog w a (Fv b) .plain := stF
  have b1 := lfloat h
  have b2 := lfloat l
  go_enter Tryz.func12, Tryz.ntmps12
  go_wp2_with fail
  obtain ⟨W0, hW0⟩ : ∃ W0, W0 = ((w.alloc (.cells #[.int .u64 (h : Int), .int .u64 (l : Int)] 28)).alloc (.cells #[Fv 0, Fv 0] 32)) := ⟨_, rfl⟩
  have Xa : Hid (Box W0 (w.heap.size) (.int .u64 (h : Int)) (.int .u64 (l : Int))) := by rw [hW0]; exact ⟨by go_simp, by go_simp, by go_simp, by go_simp⟩
  have Xr : Hid (Box W0 (w.heap.size + 1) (Fv 0) (Fv 0)) := by rw [hW0]; exact ⟨by go_simp, by go_simp, by go_simp, by go_simp⟩
  have hb0 : Below w.heap.size w W0 := by rw [hW0]; exact below2 w _ _
  rw [← hW0]
  clear hW0
  have hbw : Below w.heap.size w w := Below.refl _ _
  obtain ⟨gr, hgr⟩ : ∃ g, g = w.heap.size + 1 := ⟨_, rfl⟩
  have HGr : Hid (w.heap.size ≤ gr) := by rw [hgr]; show _ ≤ _; omega
  rw [← hgr] at Xr
  try rw [← hgr]
  obtain ⟨ga, hga⟩ : ∃ g, g = w.heap.size := ⟨_, rfl⟩
  have HGa : Hid (w.heap.size ≤ ga) := by rw [hga]; show _ ≤ _; omega
  rw [← hga] at Xa
  try rw [← hga]
  have HGD : Hid (ga ≠ gr ∧ gr ≠ ga) := by rw [hga, hgr]; exact ⟨by omega, by omega⟩
  clear hga hgr
  replace hbw := Below.on hbw hb0
  clear hb0
  obtain ⟨V1, hV1⟩ : ∃ W1, W1 = W0.drew := ⟨_, rfl⟩
  have hbd : Below W0.heap.size W0 V1 := by rw [hV1]; exact bDrew1 (Below.refl _ _)
  replace Xa : Hid _ := Xa.out.below hbd
  replace Xr : Hid _ := Xr.out.below hbd
  replace hbw := Below.on hbw hbd
  clear hbd
  have HJ : Hid ((fun W' : World => W'.cell? ⟨ga, 0, none⟩ = some (.int .u64 (h : Int)) ∧ W'.cell? ⟨ga, 1, none⟩ = some (.int .u64 (l : Int))) V1) := ⟨Xa.out.c0, Xa.out.c1⟩
  refine wp_region_J (fun W' => W'.cell? ⟨ga, 0, none⟩ = some (.int .u64 (h : Int)) ∧ W'.cell? ⟨ga, 1, none⟩ = some (.int .u64 (l : Int))) (by kernel_rfl) ?_
  rw [← hV1]
  clear hV1
  refine wpJ_tq 0 rfl HJ.out ?_
  refine wpJ_tq 1 rfl HJ.out ?_
  refine wpJ_tq 3 rfl HJ.out ?_
  refine wpJ_tq 4 rfl HJ.out ?_
  refine wpJ_on 2 rfl fun KJ hK => ?_
  go_simp
  refine (b1 _).mono ?_
  rintro e v9 ⟨rfl, hw⟩
  obtain rfl := hw.symm
  clear hw
  refine hK _ _ ⟨Xa.out.c0, Xa.out.c1⟩ ?_
  clear hK
  refine wpJ_on 5 rfl fun KJ hK => ?_
  go_simp
  refine (b2 _).mono ?_
  rintro e v9 ⟨rfl, hw⟩
  obtain rfl := hw.symm
  clear hw
  clear HJ
  have HJ : Hid ((fun W' : World => W'.cell? ⟨ga, 0, none⟩ = some (.int .u64 (h : Int)) ∧ W'.cell? ⟨ga, 1, none⟩ = some (.int .u64 (l : Int))) V1) := ⟨Xa.out.c0, Xa.out.c1⟩
  refine hK _ _ HJ.out ?_
  clear hK
  refine wpJ_tq 6 rfl HJ.out ?_
  obtain ⟨cr0, cr1, fr0, fr1⟩ := Xr.out
  have hner := Xr.out.lt
  obtain ⟨ca0, ca1, fa0, fa1⟩ := Xa.out
  have hnea := Xa.out.lt
  obtain ⟨hgd0, hgd1⟩ := HGD.out
  refine wpJ_on 7 rfl fun KJ hK => ?_
  go_simp
  have HJ2 : Hid ((fun W' : World => W'.cell? ⟨ga, 0, none⟩ = some (.int .u64 (h : Int)) ∧ W'.cell? ⟨ga, 1, none⟩ = some (.int .u64 (l : Int))) ((V1.setCell ⟨gr, 0, none⟩ (Fv h)).setCell ⟨gr, 1, none⟩ (Fv l))) := ⟨by go_simp, by go_simp⟩
  refine hK _ _ HJ2.out ?_
  clear hK HJ
  have HJ := HJ2
  clear HJ2
  refine wpJ_done (by kernel_rfl) ?_ _
  clear HJ
  go_wp2_with fail
  refine bodyPost_ret (v := .agg #[Fv h, Fv l]) (by rw [results_cell1 rfl]; go_simp) rfl ⟨rfl, ?_⟩
  exact bSet (bSet (hbw) _ _ _ HGr.out) _ _ _ HGr.out
theorem ddOf {x : Nat} (hx : Fin64 x) (w : World) :
    Calls Tryz.prog 29 #[Fv x] w fun en w' => en = .returned (.agg #[Fv x, Fv 0]) ∧ Below w.heap.size w w' := by
  have hSF : ∀ (w : World) (a : Addr) (b : Nat), (store a (Fv b)).run Tryz.prog w = stored Tryz.prog w a (Fv b) .plain := stF
  have H1 := ddfinite x hx.lt
  rw [(finB_iff hx.lt).2 hx] at H1
  clear hx
  go_enter Tryz.func29, Tryz.ntmps29
  go_wp2_with fail
  obtain ⟨W0, hW0⟩ : ∃ W0, W0 = (w.alloc (.cells #[Fv 0, Fv 0] 32)) := ⟨_, rfl⟩
  have Xr : Hid (Box W0 (w.heap.size) (Fv 0) (Fv 0)) := by rw [hW0]; exact ⟨by go_simp, by go_simp, by go_simp, by go_simp⟩
  have hb0 : Below w.heap.size w W0 := by rw [hW0]; exact below1 w _
  rw [← hW0]
  clear hW0
  have hbw : Below w.heap.size w w := Below.refl _ _
  obtain ⟨gr, hgr⟩ : ∃ g, g = w.heap.size := ⟨_, rfl⟩
  have HGr : Hid (w.heap.size ≤ gr) := by rw [hgr]; show _ ≤ _; omega
  rw [← hgr] at Xr
  try rw [← hgr]
  clear hgr
  replace hbw := Below.on hbw hb0
  clear hb0
  refine (H1 _).mono ?_
  rintro e v9 ⟨rfl, hw⟩
  obtain rfl := hw.symm
  clear hw
  obtain ⟨cr0, cr1, fr0, fr1⟩ := Xr.out
  have hner := Xr.out.lt
  go_wp2_with fail
  refine bodyPost_ret (v := .agg #[Fv x, Fv 0]) (by rw [results_cell1 rfl]; go_simp) rfl ⟨rfl, ?_⟩
  exact bSet (bSet (hbw) _ _ _ HGr.out) _ _ _ HGr.out
theorem ddpair (x y : Nat) (w : World) :
    Calls Tryz.prog 52 #[Fv x, Fv y] w fun en w' => en = .returned (.agg #[Fv x, Fv y]) ∧ Below w.heap.size w w' := by
  have hSF : ∀ (w : World) (a : Addr) (b : Nat), (store a (Fv b)).run Tryz.prog w = stored Tryz.prog w a (Fv b) .plain := stF
  go_enter Tryz.func52, Tryz.ntmps52
  go_wp2_with fail
  refine bodyPost_ret (v := .agg #[Fv x, Fv y]) (by rw [results_cell1 rfl]; go_simp) rfl ⟨rfl, below1 w _⟩
theorem ts_s {s r : Nat} (h : TSR 4607182418800017408 4359484439294640128 s r) : s = 4607182418800017408 ∧ r = 4359484439294640128 := by
  obtain ⟨ob, oa, da, db, F1, F2, F3, F4, F5, F6⟩ := h
  obtain rfl : s = 4607182418800017408 := F1.some _ (by decide +kernel)
  obtain rfl : ob = 0 := F2.some _ (by decide +kernel)
  obtain rfl : oa = 4607182418800017408 := F3.some _ (by decide +kernel)
  obtain rfl : da = 0 := F4.some _ (by decide +kernel)
  obtain rfl : db = 4359484439294640128 := F5.some _ (by decide +kernel)
  obtain rfl : r = 4359484439294640128 := F6.some _ (by decide +kernel)
  exact ⟨rfl, rfl⟩
theorem ddSum_s (w : World) :
    Calls Tryz.prog 32 #[Fv 4607182418800017408, Fv 4359484439294640128] w fun en w' => en = .returned (.agg #[Fv 4607182418800017408, Fv 4359484439294640128]) ∧ Below w.heap.size w w' := by
  have hSF : ∀ (w : World) (a : Addr) (b : Nat), (store a (Fv b)).run Tryz.prog w = stored Tryz.prog w a (Fv b) .plain := stF
  go_enter Tryz.func32, Tryz.ntmps32
  go_wp2_with fail
  obtain ⟨W0, hW0⟩ : ∃ W0, W0 = (w.alloc (.cells #[Fv 0, Fv 0] 32)) := ⟨_, rfl⟩
  have Xr : Hid (Box W0 (w.heap.size) (Fv 0) (Fv 0)) := by rw [hW0]; exact ⟨by go_simp, by go_simp, by go_simp, by go_simp⟩
  have hb0 : Below w.heap.size w W0 := by rw [hW0]; exact below1 w _
  rw [← hW0]
  clear hW0
  have hbw : Below w.heap.size w w := Below.refl _ _
  obtain ⟨gr, hgr⟩ : ∃ g, g = w.heap.size := ⟨_, rfl⟩
  have HGr : Hid (w.heap.size ≤ gr) := by rw [hgr]; show _ ≤ _; omega
  rw [← hgr] at Xr
  try rw [← hgr]
  clear hgr
  replace hbw := Below.on hbw hb0
  clear hb0
  refine (twoSum 4607182418800017408 4359484439294640128 _).mono ?_
  rintro e9 v9 ⟨s9, r9, n9, rfl, rfl, hR⟩
  obtain ⟨rfl, rfl⟩ := ts_s hR
  clear hR
  have hbr := bDrewN (Below.refl W0.heap.size W0) n9
  generalize W0.drewN n9 = V1 at *
  replace Xr : Hid _ := Xr.out.below hbr
  replace hbw := Below.on hbw hbr
  clear hbr
  go_wp2_with fail
  refine (ddpair 4607182418800017408 4359484439294640128 _).mono ?_
  rintro e v2 ⟨rfl, hb2⟩
  replace Xr : Hid _ := Xr.out.below hb2
  replace hbw := Below.on hbw hb2
  clear hb2
  obtain ⟨cr0, cr1, fr0, fr1⟩ := Xr.out
  have hner := Xr.out.lt
  go_wp2_with fail
  refine bodyPost_ret (v := .agg #[Fv 4607182418800017408, Fv 4359484439294640128]) (by rw [results_cell1 rfl]; go_simp) rfl ⟨rfl, ?_⟩
  exact bSet (bSet (hbw) _ _ _ HGr.out) _ _ _ HGr.out
theorem tp_m_a {h l : Nat} (k : SPR 4613937818241073152 h l) : h = 4613937818241073152 ∧ l = 0 := by
  obtain ⟨c, d, F1, F2, F3, F4⟩ := k
  obtain rfl : c = 4735535008230408192 := F1.some _ (by decide +kernel)
  obtain rfl : d = 4735535008180076544 := F2.some _ (by decide +kernel)
  obtain rfl : h = 4613937818241073152 := F3.some _ (by decide +kernel)
  obtain rfl : l = 0 := F4.some _ (by decide +kernel)
  exact ⟨rfl, rfl⟩
theorem tp_m_b {h l : Nat} (k : SPR 4599676419421066581 h l) : h = 4599676419465805824 ∧ l = 13701451266381578240 := by
  obtain ⟨c, d, F1, F2, F3, F4⟩ := k
  obtain rfl : c = 4721273609404809216 := F1.some _ (by decide +kernel)
  obtain rfl : d = 4721273609360069973 := F2.some _ (by decide +kernel)
  obtain rfl : h = 4599676419465805824 := F3.some _ (by decide +kernel)
  obtain rfl : l = 13701451266381578240 := F4.some _ (by decide +kernel)
  exact ⟨rfl, rfl⟩
theorem tp_m {p e : Nat} (k : TPR 4613937818241073152 4599676419421066581 p e) : p = 4607182418800017408 ∧ e = 13587360075776786432 := by
  obtain ⟨ah, al, bh, bl, x1, e1, x2, e2, x3, e3, x4, F1, S1, S2, F2, F3, F4, F5, F6, F7, F8, F9⟩ := k
  obtain ⟨rfl, rfl⟩ := tp_m_a S1
  obtain ⟨rfl, rfl⟩ := tp_m_b S2
  obtain rfl : p = 4607182418800017408 := F1.some _ (by decide +kernel)
  obtain rfl : x1 = 4607182418833571840 := F2.some _ (by decide +kernel)
  obtain rfl : e1 = 4485585228861014016 := F3.some _ (by decide +kernel)
  obtain rfl : x2 = 13708957265749344256 := F4.some _ (by decide +kernel)
  obtain rfl : e2 = 13587360075776786432 := F5.some _ (by decide +kernel)
  obtain rfl : x3 = 0 := F6.some _ (by decide +kernel)
  obtain rfl : e3 = 13587360075776786432 := F7.some _ (by decide +kernel)
  obtain rfl : x4 = 9223372036854775808 := F8.some _ (by decide +kernel)
  obtain rfl : e = 13587360075776786432 := F9.some _ (by decide +kernel)
  exact ⟨rfl, rfl⟩
theorem fs_m {s r : Nat} (h : FSR 4607182418800017408 13587360075776786432 s r) : s = 4607182418800017408 ∧ r = 13587360075776786432 := by
  obtain ⟨t, F1, F2, F3⟩ := h
  obtain rfl : s = 4607182418800017408 := F1.some _ (by decide +kernel)
  obtain rfl : t = 0 := F2.some _ (by decide +kernel)
  obtain rfl : r = 13587360075776786432 := F3.some _ (by decide +kernel)
  exact ⟨rfl, rfl⟩
theorem ddMulF_m (w : World) :
    Calls Tryz.prog 30 #[.agg #[Fv 4613937818241073152, Fv 0], Fv 4599676419421066581] w fun en w' => en = .returned (.agg #[Fv 4607182418800017408, Fv 13587360075776786432]) ∧ Below w.heap.size w w' := by
  have hSF : ∀ (w : World) (a : Addr) (b : Nat), (store a (Fv b)).run Tryz.prog w = stored Tryz.prog w a (Fv b) .plain := stF
  have fl1 : ∀ w, (binOp .mul 30 (Fv 0) (Fv 4599676419421066581)).run Tryz.prog w = .ok (Fv 0) w := fun w => run_float_arith w .mul 30 .f64 0 4599676419421066581 0 (by decide +kernel)
  have fl2 : ∀ w, (binOp .add 30 (Fv 13587360075776786432) (Fv 0)).run Tryz.prog w = .ok (Fv 13587360075776786432) w := fun w => run_float_arith w .add 30 .f64 13587360075776786432 0 13587360075776786432 (by decide +kernel)
  go_enter Tryz.func30, Tryz.ntmps30
  go_wp2_with fail
  obtain ⟨W0, hW0⟩ : ∃ W0, W0 = ((w.alloc (.cells #[Fv 4613937818241073152, Fv 0] 32)).alloc (.cells #[Fv 0, Fv 0] 32)) := ⟨_, rfl⟩
  have Xa : Hid (Box W0 (w.heap.size) (Fv 4613937818241073152) (Fv 0)) := by rw [hW0]; exact ⟨by go_simp, by go_simp, by go_simp, by go_simp⟩
  have Xr : Hid (Box W0 (w.heap.size + 1) (Fv 0) (Fv 0)) := by rw [hW0]; exact ⟨by go_simp, by go_simp, by go_simp, by go_simp⟩
  have hb0 : Below w.heap.size w W0 := by rw [hW0]; exact below2 w _ _
  rw [← hW0]
  clear hW0
  have hbw : Below w.heap.size w w := Below.refl _ _
  obtain ⟨gr, hgr⟩ : ∃ g, g = w.heap.size + 1 := ⟨_, rfl⟩
  have HGr : Hid (w.heap.size ≤ gr) := by rw [hgr]; show _ ≤ _; omega
  rw [← hgr] at Xr
  try rw [← hgr]
  obtain ⟨ga, hga⟩ : ∃ g, g = w.heap.size := ⟨_, rfl⟩
  have HGa : Hid (w.heap.size ≤ ga) := by rw [hga]; show _ ≤ _; omega
  rw [← hga] at Xa
  try rw [← hga]
  have HGD : Hid (ga ≠ gr ∧ gr ≠ ga) := by rw [hga, hgr]; exact ⟨by omega, by omega⟩
  clear hga hgr
  replace hbw := Below.on hbw hb0
  clear hb0
  obtain ⟨hgd0, hgd1⟩ := HGD.out
  refine (twoProd 4613937818241073152 4599676419421066581 _).mono ?_
  rintro e9 v9 ⟨s9, r9, n9, rfl, rfl, hR⟩
  obtain ⟨rfl, rfl⟩ := tp_m hR
  clear hR
  have hbr := bDrewN (Below.refl W0.heap.size W0) n9
  generalize W0.drewN n9 = V1 at *
  replace Xa : Hid _ := Xa.out.below hbr
  replace Xr : Hid _ := Xr.out.below hbr
  replace hbw := Below.on hbw hbr
  clear hbr
  obtain ⟨ca0, ca1, fa0, fa1⟩ := Xa.out
  have hnea := Xa.out.lt
  go_wp2_with fail
  clear ca0 ca1 fa0 fa1 hnea
  refine (fastTwoSum 4607182418800017408 13587360075776786432 _).mono ?_
  rintro e9 v9 ⟨s9, r9, n9, rfl, rfl, hR⟩
  obtain ⟨rfl, rfl⟩ := fs_m hR
  clear hR
  have hbr := bDrewN (Below.refl V1.heap.size V1) n9
  generalize V1.drewN n9 = V2 at *
  replace Xa : Hid _ := Xa.out.below hbr
  replace Xr : Hid _ := Xr.out.below hbr
  replace hbw := Below.on hbw hbr
  clear hbr
  go_wp2_with fail
  refine (ddpair 4607182418800017408 13587360075776786432 _).mono ?_
  rintro e v3 ⟨rfl, hb3⟩
  replace Xa : Hid _ := Xa.out.below hb3
  replace Xr : Hid _ := Xr.out.below hb3
  replace hbw := Below.on hbw hb3
  clear hb3
  obtain ⟨cr0, cr1, fr0, fr1⟩ := Xr.out
  have hner := Xr.out.lt
  go_wp2_with fail
  refine bodyPost_ret (v := .agg #[Fv 4607182418800017408, Fv 13587360075776786432]) (by rw [results_cell1 rfl]; go_simp) rfl ⟨rfl, ?_⟩
  exact bSet (bSet (hbw) _ _ _ HGr.out) _ _ _ HGr.out
theorem fs_d {s r : Nat} (h : FSR 4599676419421066581 4356482039543059797 s r) : s = 4599676419421066581 ∧ r = 4356482039543059797 := by
  obtain ⟨t, F1, F2, F3⟩ := h
  obtain rfl : s = 4599676419421066581 := F1.some _ (by decide +kernel)
  obtain rfl : t = 0 := F2.some _ (by decide +kernel)
  obtain rfl : r = 4356482039543059797 := F3.some _ (by decide +kernel)
  exact ⟨rfl, rfl⟩
theorem ddDiv_d (w : World) :
    Calls Tryz.prog 24 #[.agg #[Fv 4607182418800017408, Fv 0], .agg #[Fv 4613937818241073152, Fv 0]] w fun en w' => en = .returned (.agg #[Fv 4599676419421066581, Fv 4356482039543059797]) ∧ Below w.heap.size w w' := by
  have hSF : ∀ (w : World) (a : Addr) (b : Nat), (store a (Fv b)).run Tryz.prog w = stored Tryz.prog w a (Fv b) .plain := stF
  have fl3 : ∀ w, (binOp .quo 30 (Fv 4607182418800017408) (Fv 4613937818241073152)).run Tryz.prog w = .ok (Fv 4599676419421066581) w := fun w => run_float_arith w .quo 30 .f64 4607182418800017408 4613937818241073152 4599676419421066581 (by decide +kernel)
  have fl4 : ∀ w, (binOp .sub 30 (Fv 4607182418800017408) (Fv 4607182418800017408)).run Tryz.prog w = .ok (Fv 0) w := fun w => run_float_arith w .sub 30 .f64 4607182418800017408 4607182418800017408 0 (by decide +kernel)
  have fl5 : ∀ w, (binOp .sub 30 (Fv 0) (Fv 13587360075776786432)).run Tryz.prog w = .ok (Fv 4363988038922010624) w := fun w => run_float_arith w .sub 30 .f64 0 13587360075776786432 4363988038922010624 (by decide +kernel)
  have fl6 : ∀ w, (binOp .add 30 (Fv 0) (Fv 4363988038922010624)).run Tryz.prog w = .ok (Fv 4363988038922010624) w := fun w => run_float_arith w .add 30 .f64 0 4363988038922010624 4363988038922010624 (by decide +kernel)
  have fl7 : ∀ w, (binOp .quo 30 (Fv 4363988038922010624) (Fv 4613937818241073152)).run Tryz.prog w = .ok (Fv 4356482039543059797) w := fun w => run_float_arith w .quo 30 .f64 4363988038922010624 4613937818241073152 4356482039543059797 (by decide +kernel)
  go_enter Tryz.func24, Tryz.ntmps24
  go_wp2_with fail
  obtain ⟨W0, hW0⟩ : ∃ W0, W0 = (((w.alloc (.cells #[Fv 4607182418800017408, Fv 0] 32)).alloc (.cells #[Fv 4613937818241073152, Fv 0] 32)).alloc (.cells #[Fv 0, Fv 0] 32)) := ⟨_, rfl⟩
  have Xa : Hid (Box W0 (w.heap.size) (Fv 4607182418800017408) (Fv 0)) := by rw [hW0]; exact ⟨by go_simp, by go_simp, by go_simp, by go_simp⟩
  have Xb : Hid (Box W0 (w.heap.size + 1) (Fv 4613937818241073152) (Fv 0)) := by rw [hW0]; exact ⟨by go_simp, by go_simp, by go_simp, by go_simp⟩
  have Xr : Hid (Box W0 (w.heap.size + 1 + 1) (Fv 0) (Fv 0)) := by rw [hW0]; exact ⟨by go_simp, by go_simp, by go_simp, by go_simp⟩
  have hb0 : Below w.heap.size w W0 := by rw [hW0]; exact below3 w _ _ _
  rw [← hW0]
  clear hW0
  have hbw : Below w.heap.size w w := Below.refl _ _
  obtain ⟨gr, hgr⟩ : ∃ g, g = w.heap.size + 1 + 1 := ⟨_, rfl⟩
  have HGr : Hid (w.heap.size ≤ gr) := by rw [hgr]; show _ ≤ _; omega
  rw [← hgr] at Xr
  try rw [← hgr]
  obtain ⟨gb, hgb⟩ : ∃ g, g = w.heap.size + 1 := ⟨_, rfl⟩
  have HGb : Hid (w.heap.size ≤ gb) := by rw [hgb]; show _ ≤ _; omega
  rw [← hgb] at Xb
  try rw [← hgb]
  obtain ⟨ga, hga⟩ : ∃ g, g = w.heap.size := ⟨_, rfl⟩
  have HGa : Hid (w.heap.size ≤ ga) := by rw [hga]; show _ ≤ _; omega
  rw [← hga] at Xa
  try rw [← hga]
  have HGD : Hid (ga ≠ gb ∧ ga ≠ gr ∧ gb ≠ ga ∧ gb ≠ gr ∧ gr ≠ ga ∧ gr ≠ gb) := by rw [hga, hgb, hgr]; exact ⟨by omega, by omega, by omega, by omega, by omega, by omega⟩
  clear hga hgb hgr
  replace hbw := Below.on hbw hb0
  clear hb0
  obtain ⟨hgd0, hgd1, hgd2, hgd3, hgd4, hgd5⟩ := HGD.out
  obtain ⟨ca0, ca1, fa0, fa1⟩ := Xa.out
  have hnea := Xa.out.lt
  obtain ⟨cb0, cb1, fb0, fb1⟩ := Xb.out
  have hneb := Xb.out.lt
  go_wp2_with fail
  clear ca0 ca1 fa0 fa1 hnea
  clear cb0 cb1 fb0 fb1 hneb
  refine (ddMulF_m _).mono ?_
  rintro e v1 ⟨rfl, hb1⟩
  replace Xa : Hid _ := Xa.out.below hb1
  replace Xb : Hid _ := Xb.out.below hb1
  replace Xr : Hid _ := Xr.out.below hb1
  replace hbw := Below.on hbw hb1
  clear hb1
  obtain ⟨ca0, ca1, fa0, fa1⟩ := Xa.out
  have hnea := Xa.out.lt
  obtain ⟨cb0, cb1, fb0, fb1⟩ := Xb.out
  have hneb := Xb.out.lt
  go_wp2_with fail
  clear ca0 ca1 fa0 fa1 hnea
  clear cb0 cb1 fb0 fb1 hneb
  have Xk0 : Hid (Box (v1.alloc (.cells #[Fv 4607182418800017408, Fv 13587360075776786432] 32)) v1.heap.size (Fv 4607182418800017408) (Fv 13587360075776786432)) := Box.new v1 _ _ _
  have hbn : Below v1.heap.size v1 (v1.alloc (.cells #[Fv 4607182418800017408, Fv 13587360075776786432] 32)) := below1 v1 _
  generalize v1.alloc (.cells #[Fv 4607182418800017408, Fv 13587360075776786432] 32) = Wk at *
  have HGk : Hid (w.heap.size ≤ v1.heap.size) := hbw.size
  replace Xa : Hid _ := Xa.out.below hbn
  replace Xb : Hid _ := Xb.out.below hbn
  replace Xr : Hid _ := Xr.out.below hbn
  replace hbw := Below.on hbw hbn
  clear hbn
  generalize v1.heap.size = gk at *
  have Xk := Xk0
  clear Xk0
  obtain ⟨ca0, ca1, fa0, fa1⟩ := Xa.out
  have hnea := Xa.out.lt
  obtain ⟨cb0, cb1, fb0, fb1⟩ := Xb.out
  have hneb := Xb.out.lt
  obtain ⟨ck0, ck1, fk0, fk1⟩ := Xk.out
  have hnek := Xk.out.lt
  go_wp2_with fail
  clear ca0 ca1 fa0 fa1 hnea
  clear cb0 cb1 fb0 fb1 hneb
  clear ck0 ck1 fk0 fk1 hnek
  refine (fastTwoSum 4599676419421066581 4356482039543059797 _).mono ?_
  rintro e9 v9 ⟨s9, r9, n9, rfl, rfl, hR⟩
  obtain ⟨rfl, rfl⟩ := fs_d hR
  clear hR
  have hbr := bDrewN (Below.refl Wk.heap.size Wk) n9
  generalize Wk.drewN n9 = V2 at *
  replace Xa : Hid _ := Xa.out.below hbr
  replace Xb : Hid _ := Xb.out.below hbr
  replace Xr : Hid _ := Xr.out.below hbr
  replace Xk : Hid _ := Xk.out.below hbr
  replace hbw := Below.on hbw hbr
  clear hbr
  go_wp2_with fail
  refine (ddpair 4599676419421066581 4356482039543059797 _).mono ?_
  rintro e v3 ⟨rfl, hb3⟩
  replace Xa : Hid _ := Xa.out.below hb3
  replace Xb : Hid _ := Xb.out.below hb3
  replace Xr : Hid _ := Xr.out.below hb3
  replace Xk : Hid _ := Xk.out.below hb3
  replace hbw := Below.on hbw hb3
  clear hb3
  obtain ⟨cr0, cr1, fr0, fr1⟩ := Xr.out
  have hner := Xr.out.lt
  go_wp2_with fail
  refine bodyPost_ret (v := .agg #[Fv 4599676419421066581, Fv 4356482039543059797]) (by rw [results_cell1 rfl]; go_simp) rfl ⟨rfl, ?_⟩
  exact bSet (bSet (hbw) _ _ _ HGr.out) _ _ _ HGr.out
theorem ddf_s : DdF 4607182418800017408 4359484439294640128 := ⟨⟨by decide, by decide⟩, ⟨by decide, by decide⟩, by decide +kernel, by decide +kernel⟩
theorem ddf_1 : DdF 4607182418800017408 0 := ⟨⟨by decide, by decide⟩, ⟨by decide, by decide⟩, by decide +kernel, by decide +kernel⟩
theorem cmp_s : cmpD 4607182418800017408 4359484439294640128 4607182418800017408 0 = 1 := by rw [cmpD_eq ddf_s ddf_1]; decide +kernel
theorem awake20 (w : World) :
    Calls Tryz.prog 9 #[] w fun en w' => en = .returned (.bool true) ∧ Below w.heap.size w w' := by
  have hSF : ∀ (w : World) (a : Addr) (b : Nat), (store a (Fv b)).run Tryz.prog w = stored Tryz.prog w a (Fv b) .plain := stF
  have F1 := lfloat 4607182418800017408
  have F2 := lfloat 4359484439294640128
  have F3 := lfloat 4613937818241073152
  have O1 := ddOf (x := 4607182418800017408) ⟨by decide, by decide⟩
  have O3 := ddOf (x := 4613937818241073152) ⟨by decide, by decide⟩
  have P1 := lpair 4607182418800017408 4359484439294640128
  have G1 := ddform 4607182418800017408 4359484439294640128 (by decide) (by decide)
  rw [ddB_iff.2 ddf_s] at G1
  have C1 := ddcmp 4607182418800017408 4359484439294640128 4607182418800017408 0 (by decide) (by decide) (by decide) (by decide)
  rw [cmp_s] at C1
  have hbw : Below w.heap.size w w := Below.refl _ _
  go_enter Tryz.func9, Tryz.ntmps9
  go_wp2_with fail
  refine (F1 _).mono ?_
  rintro e v9 ⟨rfl, hw⟩
  obtain rfl := hw.symm
  clear hw
  go_wp2_with fail
  refine (F2 _).mono ?_
  rintro e v9 ⟨rfl, hw⟩
  obtain rfl := hw.symm
  clear hw
  go_wp2_with fail
  refine (ddSum_s _).mono ?_
  rintro e v1 ⟨rfl, hb1⟩
  replace hbw := Below.on hbw hb1
  clear hb1
  go_wp2_with fail
  refine (lbits 4607182418800017408 4359484439294640128 _).mono ?_
  rintro e v2 ⟨rfl, hb2⟩
  replace hbw := Below.on hbw hb2
  clear hb2
  go_wp2_with fail
  have Xs0 : Hid (Box (v2.alloc (.cells #[.int .u64 ((4607182418800017408 : Nat) : Int), .int .u64 ((4359484439294640128 : Nat) : Int)] 28)) v2.heap.size (.int .u64 ((4607182418800017408 : Nat) : Int)) (.int .u64 ((4359484439294640128 : Nat) : Int))) := Box.new v2 _ _ _
  have hbn : Below v2.heap.size v2 (v2.alloc (.cells #[.int .u64 ((4607182418800017408 : Nat) : Int), .int .u64 ((4359484439294640128 : Nat) : Int)] 28)) := below1 v2 _
  generalize v2.alloc (.cells #[.int .u64 ((4607182418800017408 : Nat) : Int), .int .u64 ((4359484439294640128 : Nat) : Int)] 28) = Ws at *
  have HGs : Hid (w.heap.size ≤ v2.heap.size) := hbw.size
  replace hbw := Below.on hbw hbn
  clear hbn
  generalize v2.heap.size = gs at *
  have Xs := Xs0
  clear Xs0
  refine (F1 _).mono ?_
  rintro e v9 ⟨rfl, hw⟩
  obtain rfl := hw.symm
  clear hw
  go_wp2_with fail
  refine (O1 _).mono ?_
  rintro e v3 ⟨rfl, hb3⟩
  replace Xs : Hid _ := Xs.out.below hb3
  replace hbw := Below.on hbw hb3
  clear hb3
  go_wp2_with fail
  refine (F3 _).mono ?_
  rintro e v9 ⟨rfl, hw⟩
  obtain rfl := hw.symm
  clear hw
  go_wp2_with fail
  refine (O3 _).mono ?_
  rintro e v4 ⟨rfl, hb4⟩
  replace Xs : Hid _ := Xs.out.below hb4
  replace hbw := Below.on hbw hb4
  clear hb4
  go_wp2_with fail
  refine (ddDiv_d _).mono ?_
  rintro e v5 ⟨rfl, hb5⟩
  replace Xs : Hid _ := Xs.out.below hb5
  replace hbw := Below.on hbw hb5
  clear hb5
  go_wp2_with fail
  refine (lbits 4599676419421066581 4356482039543059797 _).mono ?_
  rintro e v6 ⟨rfl, hb6⟩
  replace Xs : Hid _ := Xs.out.below hb6
  replace hbw := Below.on hbw hb6
  clear hb6
  obtain ⟨cs0, cs1, fs0, fs1⟩ := Xs.out
  have hnes := Xs.out.lt
  go_wp2_with fail
  clear cs0 cs1 fs0 fs1 hnes
  have Xq0 : Hid (Box (v6.alloc (.cells #[.int .u64 ((4599676419421066581 : Nat) : Int), .int .u64 ((4356482039543059797 : Nat) : Int)] 28)) v6.heap.size (.int .u64 ((4599676419421066581 : Nat) : Int)) (.int .u64 ((4356482039543059797 : Nat) : Int))) := Box.new v6 _ _ _
  have hbn : Below v6.heap.size v6 (v6.alloc (.cells #[.int .u64 ((4599676419421066581 : Nat) : Int), .int .u64 ((4356482039543059797 : Nat) : Int)] 28)) := below1 v6 _
  generalize v6.alloc (.cells #[.int .u64 ((4599676419421066581 : Nat) : Int), .int .u64 ((4356482039543059797 : Nat) : Int)] 28) = Wq at *
  have HGq : Hid (w.heap.size ≤ v6.heap.size) := hbw.size
  replace Xs : Hid _ := Xs.out.below hbn
  replace hbw := Below.on hbw hbn
  clear hbn
  generalize v6.heap.size = gq at *
  have Xq := Xq0
  clear Xq0
  refine (P1 _).mono ?_
  rintro e v7 ⟨rfl, hb7⟩
  replace Xs : Hid _ := Xs.out.below hb7
  replace Xq : Hid _ := Xq.out.below hb7
  replace hbw := Below.on hbw hb7
  clear hb7
  obtain ⟨cs0, cs1, fs0, fs1⟩ := Xs.out
  have hnes := Xs.out.lt
  go_wp2_with fail
  clear cs0 cs1 fs0 fs1 hnes
  refine (G1 _).mono ?_
  rintro e v8 ⟨rfl, hb8⟩
  replace Xs : Hid _ := Xs.out.below hb8
  replace Xq : Hid _ := Xq.out.below hb8
  replace hbw := Below.on hbw hb8
  clear hb8
  obtain ⟨cs0, cs1, fs0, fs1⟩ := Xs.out
  have hnes := Xs.out.lt
  go_wp2_with fail
  clear cs0 cs1 fs0 fs1 hnes
  refine (P1 _).mono ?_
  rintro e v9 ⟨rfl, hb9⟩
  replace Xs : Hid _ := Xs.out.below hb9
  replace Xq : Hid _ := Xq.out.below hb9
  replace hbw := Below.on hbw hb9
  clear hb9
  go_wp2_with fail
  refine (F1 _).mono ?_
  rintro e v9 ⟨rfl, hw⟩
  obtain rfl := hw.symm
  clear hw
  go_wp2_with fail
  refine (O1 _).mono ?_
  rintro e v10 ⟨rfl, hb10⟩
  replace Xs : Hid _ := Xs.out.below hb10
  replace Xq : Hid _ := Xq.out.below hb10
  replace hbw := Below.on hbw hb10
  clear hb10
  go_wp2_with fail
  refine (C1 _).mono ?_
  rintro e v11 ⟨rfl, hb11⟩
  replace Xs : Hid _ := Xs.out.below hb11
  replace Xq : Hid _ := Xq.out.below hb11
  replace hbw := Below.on hbw hb11
  clear hb11
  go_wp2_with fail
  go_ret
  exact ⟨by kernel_rfl, hbw⟩
theorem DdF.of_sm {X : Int} {s r : Nat} (h : Sm64 X s) (hr : Fin64 r) (hx : ux s + ux r = X) : DdF s r := by
  have h1 : rg 0 X.natAbs < 9218868437227405312 := by rw [← h.size]; exact h.fin.fin
  refine ⟨h.fin, hr, by rw [hx]; exact h1, ?_⟩
  rw [hx]
  unfold rv
  rw [← h.size, ux_eq]
  by_cases h0 : X = 0
  · have h2 : s % 9223372036854775808 = 0 := by rw [h.size, h0]; rfl
    rw [h2, vs_zero, if_neg (by omega)]
    split <;> rfl
  · have h3 := h.sign h0
    by_cases h4 : X < 0
    · rw [if_pos h4, if_pos (h3.2 h4)]
    · rw [if_neg h4, if_neg (fun h5 => h4 (h3.1 h5))]
theorem ddSum_g (a b : Nat) (w : World) :
    Calls Tryz.prog 32 #[Fv a, Fv b] w fun en w' => ∃ s r, en = .returned (.agg #[Fv s, Fv r]) ∧ TSR a b s r ∧ Below w.heap.size w w' := by
  have hSF : ∀ (w : World) (a : Addr) (b : Nat), (store a (Fv b)).run Tryz.prog w = stored Tryz.prog w a (Fv b) .plain := stF
  go_enter Tryz.func32, Tryz.ntmps32
  go_wp2_with fail
  obtain ⟨W0, hW0⟩ : ∃ W0, W0 = (w.alloc (.cells #[Fv 0, Fv 0] 32)) := ⟨_, rfl⟩
  have Xr : Hid (Box W0 (w.heap.size) (Fv 0) (Fv 0)) := by rw [hW0]; exact ⟨by go_simp, by go_simp, by go_simp, by go_simp⟩
  have hb0 : Below w.heap.size w W0 := by rw [hW0]; exact below1 w _
  rw [← hW0]
  clear hW0
  have hbw : Below w.heap.size w w := Below.refl _ _
  obtain ⟨gr, hgr⟩ : ∃ g, g = w.heap.size := ⟨_, rfl⟩
  have HGr : Hid (w.heap.size ≤ gr) := by rw [hgr]; show _ ≤ _; omega
  rw [← hgr] at Xr
  try rw [← hgr]
  clear hgr
  replace hbw := Below.on hbw hb0
  clear hb0
  refine (twoSum a b _).mono ?_
  rintro e9 v9 ⟨s9, r9, n9, rfl, rfl, hR⟩
  have HR := Hid.mk9 hR
  clear hR
  have hbr := bDrewN (Below.refl W0.heap.size W0) n9
  generalize W0.drewN n9 = V1 at *
  replace Xr : Hid _ := Xr.out.below hbr
  replace hbw := Below.on hbw hbr
  clear hbr
  go_wp2_with fail
  refine (ddpair s9 r9 _).mono ?_
  rintro e v2 ⟨rfl, hb2⟩
  replace Xr : Hid _ := Xr.out.below hb2
  replace hbw := Below.on hbw hb2
  clear hb2
  obtain ⟨cr0, cr1, fr0, fr1⟩ := Xr.out
  have hner := Xr.out.lt
  go_wp2_with fail
  refine bodyPost_ret (v := .agg #[Fv s9, Fv r9]) (by rw [results_cell1 rfl]; go_simp) rfl ⟨s9, r9, rfl, HR.out, ?_⟩
  exact bSet (bSet (hbw) _ _ _ HGr.out) _ _ _ HGr.out
theorem sz_of {b K : Nat} (h : (ux b).natAbs < 2 ^ (52 + K)) : b % 9223372036854775808 < (K + 1) * 4503599627370496 := by
  rw [ux_abs] at h
  refine Nat.lt_of_not_le fun k => ?_
  have h1 := vs_le4 k
  have h2 := vs_at K 4503599627370496 (.inr (Nat.le_refl _)) (by decide)
  rw [show K * 4503599627370496 + 4503599627370496 = (K + 1) * 4503599627370496 by omega] at h2
  rw [h2] at h1
  rw [show 2 ^ (52 + K) = 4503599627370496 * 2 ^ K by rw [Nat.pow_add]] at h
  omega
theorem sz_le {a b : Nat} (h : (ux a).natAbs ≤ (ux b).natAbs) : a % 9223372036854775808 ≤ b % 9223372036854775808 := by
  rw [ux_abs, ux_abs] at h
  refine Nat.le_of_not_lt fun k => ?_
  have := vs_mono (H := 4503599627370496) (by decide) k
  omega
theorem sz_0 {a : Nat} (h : ux a = 0) : a % 9223372036854775808 = 0 := by
  have h1 : (ux a).natAbs = 0 := by rw [h]; rfl
  rw [ux_abs] at h1
  refine Nat.eq_zero_of_not_pos fun k => ?_
  have := vs_mono (H := 4503599627370496) (by decide) k
  rw [vs_zero] at this
  omega
def BigE : Nat := 1400
def BigU : Nat := 2 ^ BigE
theorem big_max {K M J : Nat} (hK : K = 2044) (hM : M = 1400) (hJ : J = 2043) : 64 * 2 ^ M < 2 ^ (52 + J) ∧ 2 ^ (52 + J) ≤ MaxU := by
  have h1 := (max_big hK rfl).1
  have h2 : 2 ^ (52 + J) ≤ 2 ^ (52 + K) := Nat.pow_le_pow_right (by decide) (by omega)
  have h3 : 64 * 2 ^ M < 2 ^ (52 + J) := by
    rw [show 64 * 2 ^ M = 2 ^ (6 + M) by rw [Nat.pow_add]]
    exact Nat.pow_lt_pow_right (by decide) (by omega)
  exact ⟨h3, by omega⟩
theorem BigU.sz6 {b : Nat} (h : (ux b).natAbs < 64 * BigU) : b % 9223372036854775808 ≤ 9209861237972664320 := by
  obtain ⟨J, hJ⟩ : ∃ J, J = 2043 := ⟨_, rfl⟩
  have h1 := (big_max (K := 2044) (M := BigE) rfl rfl hJ).1
  have h2 := sz_of (b := b) (K := J) (Nat.lt_trans h (by have h3 : BigU = 2 ^ BigE := rfl; rw [h3]; exact h1))
  rw [hJ] at h2
  omega
theorem BigU.sz {b : Nat} (h : (ux b).natAbs ≤ 32 * BigU) : b % 9223372036854775808 ≤ 9209861237972664320 :=
  BigU.sz6 (Nat.lt_of_le_of_lt h (Nat.mul_lt_mul_of_pos_right (by decide) (Nat.two_pow_pos BigE)))
theorem BigU.max {x : Int} (h : x.natAbs ≤ 64 * BigU) : x.natAbs ≤ MaxU := by
  have h1 := big_max (K := 2044) (M := BigE) rfl rfl rfl
  have h3 : BigU = 2 ^ BigE := rfl
  rw [h3] at h
  exact Nat.le_trans h (Nat.le_trans (Nat.le_of_lt h1.1) h1.2)
theorem fit_big {h : Nat} (k : h % 9223372036854775808 ≤ 5958262307011166208) : (ux h).natAbs ≤ BigU := by
  obtain ⟨K, hK⟩ : ∃ K, K = 1322 := ⟨_, rfl⟩
  have h1 := ux_pow (b := h) (K := K) (by omega)
  exact Nat.le_trans h1 (Nat.pow_le_pow_right (by decide) (by rw [hK]; decide))
theorem rn_two {x s : Int} (h : Rn 53 x s) : s.natAbs ≤ 2 * x.natAbs := by
  have := rn_rel h
  have := ab3 (a := s) (b := x)
  omega
theorem form_lo {h l : Nat} (d : DdF h l) (k : (ux h).natAbs ≤ BigU) : (ux l).natAbs ≤ BigU := by
  have := form_l d.rn
  omega
theorem sum_bd {x y : Int} {B C : Nat} (hx : x.natAbs ≤ B) (hy : y.natAbs ≤ C) : (x + y).natAbs ≤ B + C := by omega
structure Add1 (h l h' l' s1 r1 s2 r2 : Nat) : Prop where
  a : Sm64 (ux h + ux h') s1
  ar : Fin64 r1
  ae : ux s1 + ux r1 = ux h + ux h'
  b : Sm64 (ux l + ux l') s2
  br : Fin64 r2
  be : ux s2 + ux r2 = ux l + ux l'
  m1 : (ux s1).natAbs ≤ 4 * BigU
  m2 : (ux r1).natAbs ≤ BigU
  m3 : (ux s2).natAbs ≤ 4 * BigU
  m4 : (ux r2).natAbs ≤ BigU
theorem left_bd {x s r : Int} {B : Nat} (h : Rn 53 x s) (e : s + r = x) (hx : x.natAbs ≤ 2 * B) : s.natAbs ≤ 4 * B ∧ r.natAbs ≤ B := by
  have h1 := rn_rel h
  have h2 := rn_two h
  rw [ab4 e] at h1
  omega
theorem dda_1 {h l h' l' s1 r1 s2 r2 : Nat} (d : DdF h l) (d' : DdF h' l') (k : h % 9223372036854775808 ≤ 5958262307011166208) (k' : h' % 9223372036854775808 ≤ 5958262307011166208) (T1 : TSR h h' s1 r1) (T2 : TSR l l' s2 r2) : Add1 h l h' l' s1 r1 s2 r2 := by
  have a1 := fit_big k
  have a2 := fit_big k'
  have b1 := form_lo d a1
  have b2 := form_lo d' a2
  obtain ⟨c1, c2, c3⟩ := T1.ok d.hi.lt d'.hi.lt (BigU.sz (by omega)) (BigU.sz (by omega))
  obtain ⟨e1, e2, e3⟩ := T2.ok d.lo.lt d'.lo.lt (BigU.sz (by omega)) (BigU.sz (by omega))
  have f1 := left_bd (B := BigU) c1.rn c3 (by have := sum_bd a1 a2; omega)
  have f2 := left_bd (B := BigU) e1.rn e3 (by have := sum_bd b1 b2; omega)
  exact ⟨c1, c2, c3, e1, e2, e3, f1.1, f1.2, f2.1, f2.2⟩
theorem dda_2 {h l h' l' s1 r1 s2 r2 : Nat} (A : Add1 h l h' l' s1 r1 s2 r2) : ∃ c, floatBits .add .f64 r1 s2 = some c ∧ Sm64 (ux r1 + ux s2) c :=
  fl_add_fin A.ar A.b.fin (BigU.max (by have := sum_bd A.m2 A.m3; omega))
structure Add3 (s1 c s3 r3 : Nat) : Prop where
  a : Sm64 (ux s1 + ux c) s3
  ar : Fin64 r3
  ae : ux s3 + ux r3 = ux s1 + ux c
  m1 : (ux s3).natAbs ≤ 32 * BigU
  m2 : (ux r3).natAbs ≤ 16 * BigU
theorem dda_3 {h l h' l' s1 r1 s2 r2 c s3 r3 : Nat} (A : Add1 h l h' l' s1 r1 s2 r2) (C : Sm64 (ux r1 + ux s2) c) (T3 : TSR s1 c s3 r3) : Add3 s1 c s3 r3 := by
  have b1 := rn_two C.rn
  have b2 := sum_bd A.m2 A.m3
  have b3 : (ux c).natAbs ≤ 10 * BigU := by omega
  have m1 := A.m1
  obtain ⟨c1, c2, c3⟩ := T3.ok A.a.fin.lt C.fin.lt (BigU.sz (by omega)) (BigU.sz (by omega))
  have b4 := sum_bd m1 b3
  have f := left_bd (B := 7 * BigU) c1.rn c3 (by omega)
  exact ⟨c1, c2, c3, by omega, by omega⟩
theorem dda_4 {h l h' l' s1 r1 s2 r2 c s3 r3 : Nat} (A : Add1 h l h' l' s1 r1 s2 r2) (B : Add3 s1 c s3 r3) : ∃ w, floatBits .add .f64 r3 r2 = some w ∧ Sm64 (ux r3 + ux r2) w :=
  fl_add_fin B.ar A.br (BigU.max (by have := sum_bd B.m2 A.m4; omega))
theorem dda_5 {h l h' l' s1 r1 s2 r2 c s3 r3 v s4 r4 : Nat} (d : DdF h l) (d' : DdF h' l') (A : Add1 h l h' l' s1 r1 s2 r2) (C : Sm64 (ux r1 + ux s2) c) (B : Add3 s1 c s3 r3) (V : Sm64 (ux r3 + ux r2) v) (F : FSR s3 v s4 r4) :
    DdF s4 r4 ∧ 81129638414606681695789005144064 * (ux s4 + ux r4 - (ux h + ux l + (ux h' + ux l'))).natAbs ≤ 8 * (ux h + ux l + (ux h' + ux l')).natAbs := by
  have k := dd_add d.rn d'.rn d.lo.fl d'.lo.fl A.a.rn A.ae A.b.rn A.be C.rn B.a.rn B.ae (by have h := V.rn; rwa [Int.add_comm] at h)
  have b1 := rn_two V.rn
  have b2 := sum_bd B.m2 A.m4
  have m1 := B.m1
  have vb : (ux v).natAbs ≤ 34 * BigU := by omega
  have vs : v % 9223372036854775808 ≤ 9209861237972664320 := by
    rcases k.2 with h0 | h0
    · exact BigU.sz6 (Nat.lt_of_le_of_lt vb (Nat.mul_lt_mul_of_pos_right (by decide) (Nat.two_pow_pos BigE)))
    · exact BigU.sz (Nat.le_trans h0 m1)
  obtain ⟨c1, c2, c3⟩ := F.ok B.a.fin.lt V.fin.lt (BigU.sz m1) vs (k.2.elim (fun h0 => .inl (sz_0 h0)) (fun h0 => .inr (sz_le h0)))
  refine ⟨DdF.of_sm c1 c2 c3, ?_⟩
  rw [c3]; exact k.1
theorem ddAdd_f {h l h' l' : Nat} (d : DdF h l) (d' : DdF h' l') (k : h % 9223372036854775808 ≤ 5958262307011166208) (k' : h' % 9223372036854775808 ≤ 5958262307011166208) (w : World) :
    Calls Tryz.prog 18 #[.agg #[Fv h, Fv l], .agg #[Fv h', Fv l']] w fun en w' => ∃ s r, en = .returned (.agg #[Fv s, Fv r]) ∧ DdF s r ∧ 81129638414606681695789005144064 * (ux s + ux r - (ux h + ux l + (ux h' + ux l'))).natAbs ≤ 8 * (ux h + ux l + (ux h' + ux l')).natAbs ∧ Below w.heap.size w w' := by
  have hSF : ∀ (w : World) (a : Addr) (b : Nat), (store a (Fv b)).run Tryz.prog w = stored Tryz.prog w a (Fv b) .plain := stF
  have HD : Hid ((DdF h l ∧ DdF h' l') ∧ h % 9223372036854775808 ≤ 5958262307011166208 ∧ h' % 9223372036854775808 ≤ 5958262307011166208) := ⟨⟨d, d'⟩, k, k'⟩
  clear d d' k k'
  go_enter Tryz.func18, Tryz.ntmps18
  go_wp2_with fail
  obtain ⟨W0, hW0⟩ : ∃ W0, W0 = (((w.alloc (.cells #[Fv h, Fv l] 32)).alloc (.cells #[Fv h', Fv l'] 32)).alloc (.cells #[Fv 0, Fv 0] 32)) := ⟨_, rfl⟩
  have Xa : Hid (Box W0 (w.heap.size) (Fv h) (Fv l)) := by rw [hW0]; exact ⟨by go_simp, by go_simp, by go_simp, by go_simp⟩
  have Xb : Hid (Box W0 (w.heap.size + 1) (Fv h') (Fv l')) := by rw [hW0]; exact ⟨by go_simp, by go_simp, by go_simp, by go_simp⟩
  have Xr : Hid (Box W0 (w.heap.size + 1 + 1) (Fv 0) (Fv 0)) := by rw [hW0]; exact ⟨by go_simp, by go_simp, by go_simp, by go_simp⟩
  have hb0 : Below w.heap.size w W0 := by rw [hW0]; exact below3 w _ _ _
  rw [← hW0]
  clear hW0
  have hbw : Below w.heap.size w w := Below.refl _ _
  obtain ⟨gr, hgr⟩ : ∃ g, g = w.heap.size + 1 + 1 := ⟨_, rfl⟩
  have HGr : Hid (w.heap.size ≤ gr) := by rw [hgr]; show _ ≤ _; omega
  rw [← hgr] at Xr
  try rw [← hgr]
  obtain ⟨gb, hgb⟩ : ∃ g, g = w.heap.size + 1 := ⟨_, rfl⟩
  have HGb : Hid (w.heap.size ≤ gb) := by rw [hgb]; show _ ≤ _; omega
  rw [← hgb] at Xb
  try rw [← hgb]
  obtain ⟨ga, hga⟩ : ∃ g, g = w.heap.size := ⟨_, rfl⟩
  have HGa : Hid (w.heap.size ≤ ga) := by rw [hga]; show _ ≤ _; omega
  rw [← hga] at Xa
  try rw [← hga]
  have HGD : Hid (ga ≠ gb ∧ ga ≠ gr ∧ gb ≠ ga ∧ gb ≠ gr ∧ gr ≠ ga ∧ gr ≠ gb) := by rw [hga, hgb, hgr]; exact ⟨by omega, by omega, by omega, by omega, by omega, by omega⟩
  clear hga hgb hgr
  replace hbw := Below.on hbw hb0
  clear hb0
  obtain ⟨ca0, ca1, fa0, fa1⟩ := Xa.out
  have hnea := Xa.out.lt
  obtain ⟨cb0, cb1, fb0, fb1⟩ := Xb.out
  have hneb := Xb.out.lt
  go_wp2_with fail
  clear ca0 ca1 fa0 fa1 hnea
  clear cb0 cb1 fb0 fb1 hneb
  refine (twoSum h h' _).mono ?_
  rintro e9 v9 ⟨s1, r1, n9, rfl, rfl, hR1⟩
  have HR1 := Hid.mk9 hR1
  clear hR1
  have hbr := bDrewN (Below.refl W0.heap.size W0) n9
  generalize W0.drewN n9 = V1 at *
  replace Xa : Hid _ := Xa.out.below hbr
  replace Xb : Hid _ := Xb.out.below hbr
  replace Xr : Hid _ := Xr.out.below hbr
  replace hbw := Below.on hbw hbr
  clear hbr
  obtain ⟨ca0, ca1, fa0, fa1⟩ := Xa.out
  have hnea := Xa.out.lt
  obtain ⟨cb0, cb1, fb0, fb1⟩ := Xb.out
  have hneb := Xb.out.lt
  go_wp2_with fail
  clear ca0 ca1 fa0 fa1 hnea
  clear cb0 cb1 fb0 fb1 hneb
  refine (twoSum l l' _).mono ?_
  rintro e9 v9 ⟨s2, r2, n9, rfl, rfl, hR2⟩
  have HR2 := Hid.mk9 hR2
  clear hR2
  have hbr := bDrewN (Below.refl V1.heap.size V1) n9
  generalize V1.drewN n9 = V2 at *
  replace Xa : Hid _ := Xa.out.below hbr
  replace Xb : Hid _ := Xb.out.below hbr
  replace Xr : Hid _ := Xr.out.below hbr
  replace hbw := Below.on hbw hbr
  clear hbr
  have A1 := Hid.mk9 (dda_1 HD.out.1.1 HD.out.1.2 HD.out.2.1 HD.out.2.2 HR1.out HR2.out)
  obtain ⟨c, hc1, hc2⟩ := dda_2 A1.out
  have C2 := Hid.mk9 hc2
  have hcr : ∀ W : World, (binOp .add 30 (Fv r1) (Fv s2)).run Tryz.prog W = .ok (Fv c) W := fun W => run_float_arith W .add 30 .f64 r1 s2 c hc1
  clear hc1 hc2
  obtain ⟨ca0, ca1, fa0, fa1⟩ := Xa.out
  have hnea := Xa.out.lt
  obtain ⟨cb0, cb1, fb0, fb1⟩ := Xb.out
  have hneb := Xb.out.lt
  go_wp2_with fail
  clear ca0 ca1 fa0 fa1 hnea
  clear cb0 cb1 fb0 fb1 hneb
  refine (twoSum s1 c _).mono ?_
  rintro e9 v9 ⟨s3, r3, n9, rfl, rfl, hR3⟩
  have HR3 := Hid.mk9 hR3
  clear hR3
  have hbr := bDrewN (Below.refl V2.heap.size V2) n9
  generalize V2.drewN n9 = V3 at *
  replace Xa : Hid _ := Xa.out.below hbr
  replace Xb : Hid _ := Xb.out.below hbr
  replace Xr : Hid _ := Xr.out.below hbr
  replace hbw := Below.on hbw hbr
  clear hbr
  have A3 := Hid.mk9 (dda_3 A1.out C2.out HR3.out)
  obtain ⟨v, hv1, hv2⟩ := dda_4 A1.out A3.out
  have C4 := Hid.mk9 hv2
  have hvr : ∀ W : World, (binOp .add 30 (Fv r3) (Fv r2)).run Tryz.prog W = .ok (Fv v) W := fun W => run_float_arith W .add 30 .f64 r3 r2 v hv1
  clear hv1 hv2 hcr
  obtain ⟨ca0, ca1, fa0, fa1⟩ := Xa.out
  have hnea := Xa.out.lt
  obtain ⟨cb0, cb1, fb0, fb1⟩ := Xb.out
  have hneb := Xb.out.lt
  go_wp2_with fail
  clear ca0 ca1 fa0 fa1 hnea
  clear cb0 cb1 fb0 fb1 hneb
  refine (fastTwoSum s3 v _).mono ?_
  rintro e9 v9 ⟨s4, r4, n9, rfl, rfl, hR⟩
  have HR4 := Hid.mk9 (dda_5 HD.out.1.1 HD.out.1.2 A1.out C2.out A3.out C4.out hR)
  clear hR hvr
  have hbr := bDrewN (Below.refl V3.heap.size V3) n9
  generalize V3.drewN n9 = V4 at *
  replace Xa : Hid _ := Xa.out.below hbr
  replace Xb : Hid _ := Xb.out.below hbr
  replace Xr : Hid _ := Xr.out.below hbr
  replace hbw := Below.on hbw hbr
  clear hbr
  go_wp2_with fail
  refine (ddpair s4 r4 _).mono ?_
  rintro e v5 ⟨rfl, hb5⟩
  replace Xa : Hid _ := Xa.out.below hb5
  replace Xb : Hid _ := Xb.out.below hb5
  replace Xr : Hid _ := Xr.out.below hb5
  replace hbw := Below.on hbw hb5
  clear hb5
  obtain ⟨cr0, cr1, fr0, fr1⟩ := Xr.out
  have hner := Xr.out.lt
  go_wp2_with fail
  refine bodyPost_ret (v := .agg #[Fv s4, Fv r4]) (by rw [results_cell1 rfl]; go_simp) rfl ⟨s4, r4, rfl, HR4.out.1, HR4.out.2, ?_⟩
  exact bSet (bSet (hbw) _ _ _ HGr.out) _ _ _ HGr.out
def OneE : Nat := 1074
theorem ddSub_f {h l h' l' : Nat} (d : DdF h l) (d' : DdF h' l') (k : h % 9223372036854775808 ≤ 5958262307011166208) (k' : h' % 9223372036854775808 ≤ 5958262307011166208) (w : World) :
    Calls Tryz.prog 19 #[.agg #[Fv h, Fv l], .agg #[Fv h', Fv l']] w fun en w' => ∃ s r, en = .returned (.agg #[Fv s, Fv r]) ∧ DdF s r ∧ 81129638414606681695789005144064 * (ux s + ux r - (ux h + ux l - (ux h' + ux l'))).natAbs ≤ 8 * (ux h + ux l - (ux h' + ux l')).natAbs ∧ Below w.heap.size w w' := by
  have hSF : ∀ (w : World) (a : Addr) (b : Nat), (store a (Fv b)).run Tryz.prog w = stored Tryz.prog w a (Fv b) .plain := stF
  have HD : Hid ((DdF h l ∧ DdF h' l') ∧ h % 9223372036854775808 ≤ 5958262307011166208 ∧ h' % 9223372036854775808 ≤ 5958262307011166208) := ⟨⟨d, d'⟩, k, k'⟩
  have HE : Hid (ux h + ux l + (ux (flipS h') + ux (flipS l')) = (ux h + ux l - (ux h' + ux l')) ∧ flipS h' % 9223372036854775808 ≤ 5958262307011166208 ∧ DdF (flipS h') (flipS l')) := ⟨by rw [(flip_ux d'.hi.lt).1, (flip_ux d'.lo.lt).1]; omega, by rw [(flip_ux d'.hi.lt).2.2]; exact k', d'.neg⟩
  clear d d' k k'
  go_enter Tryz.func19, Tryz.ntmps19
  go_wp2_with fail
  obtain ⟨W0, hW0⟩ : ∃ W0, W0 = (((w.alloc (.cells #[Fv h, Fv l] 32)).alloc (.cells #[Fv h', Fv l'] 32)).alloc (.cells #[Fv 0, Fv 0] 32)) := ⟨_, rfl⟩
  have Xa : Hid (Box W0 (w.heap.size) (Fv h) (Fv l)) := by rw [hW0]; exact ⟨by go_simp, by go_simp, by go_simp, by go_simp⟩
  have Xb : Hid (Box W0 (w.heap.size + 1) (Fv h') (Fv l')) := by rw [hW0]; exact ⟨by go_simp, by go_simp, by go_simp, by go_simp⟩
  have Xr : Hid (Box W0 (w.heap.size + 1 + 1) (Fv 0) (Fv 0)) := by rw [hW0]; exact ⟨by go_simp, by go_simp, by go_simp, by go_simp⟩
  have hb0 : Below w.heap.size w W0 := by rw [hW0]; exact below3 w _ _ _
  rw [← hW0]
  clear hW0
  have hbw : Below w.heap.size w w := Below.refl _ _
  obtain ⟨gr, hgr⟩ : ∃ g, g = w.heap.size + 1 + 1 := ⟨_, rfl⟩
  have HGr : Hid (w.heap.size ≤ gr) := by rw [hgr]; show _ ≤ _; omega
  rw [← hgr] at Xr
  try rw [← hgr]
  obtain ⟨gb, hgb⟩ : ∃ g, g = w.heap.size + 1 := ⟨_, rfl⟩
  have HGb : Hid (w.heap.size ≤ gb) := by rw [hgb]; show _ ≤ _; omega
  rw [← hgb] at Xb
  try rw [← hgb]
  obtain ⟨ga, hga⟩ : ∃ g, g = w.heap.size := ⟨_, rfl⟩
  have HGa : Hid (w.heap.size ≤ ga) := by rw [hga]; show _ ≤ _; omega
  rw [← hga] at Xa
  try rw [← hga]
  have HGD : Hid (ga ≠ gb ∧ ga ≠ gr ∧ gb ≠ ga ∧ gb ≠ gr ∧ gr ≠ ga ∧ gr ≠ gb) := by rw [hga, hgb, hgr]; exact ⟨by omega, by omega, by omega, by omega, by omega, by omega⟩
  clear hga hgb hgr
  replace hbw := Below.on hbw hb0
  clear hb0
  obtain ⟨V1, hV1⟩ : ∃ W1, W1 = W0.drew := ⟨_, rfl⟩
  have hbd : Below W0.heap.size W0 V1 := by rw [hV1]; exact bDrew1 (Below.refl _ _)
  replace Xa : Hid _ := Xa.out.below hbd
  replace Xb : Hid _ := Xb.out.below hbd
  replace Xr : Hid _ := Xr.out.below hbd
  replace hbw := Below.on hbw hbd
  clear hbd
  have HJ : Hid ((fun W' : World => W'.cell? ⟨ga, 0, none⟩ = some (Fv h) ∧ W'.cell? ⟨ga, 1, none⟩ = some (Fv l) ∧ W'.cell? ⟨gb, 0, none⟩ = some (Fv h') ∧ W'.cell? ⟨gb, 1, none⟩ = some (Fv l')) V1) := ⟨Xa.out.c0, Xa.out.c1, Xb.out.c0, Xb.out.c1⟩
  refine wp_region_J (fun W' => W'.cell? ⟨ga, 0, none⟩ = some (Fv h) ∧ W'.cell? ⟨ga, 1, none⟩ = some (Fv l) ∧ W'.cell? ⟨gb, 0, none⟩ = some (Fv h') ∧ W'.cell? ⟨gb, 1, none⟩ = some (Fv l')) (by kernel_rfl) ?_
  rw [← hV1]
  clear hV1
  refine wpJ_tq 0 rfl HJ.out ?_
  refine wpJ_tq 1 rfl HJ.out ?_
  refine wpJ_on 2 rfl fun KJ hK => ?_
  go_simp
  refine (ddneg h' l' HD.out.1.2.hi.lt HD.out.1.2.lo.lt _).mono ?_
  rintro e v2 ⟨rfl, hb2⟩
  replace Xa : Hid _ := Xa.out.below hb2
  replace Xb : Hid _ := Xb.out.below hb2
  replace Xr : Hid _ := Xr.out.below hb2
  replace hbw := Below.on hbw hb2
  clear hb2
  refine hK _ _ ⟨Xa.out.c0, Xa.out.c1, Xb.out.c0, Xb.out.c1⟩ ?_
  clear hK
  refine wpJ_on 3 rfl fun KJ hK => ?_
  go_simp
  refine (ddAdd_f HD.out.1.1 HE.out.2.2 HD.out.2.1 HE.out.2.1 _).mono ?_
  rintro e v9 ⟨s9, r9, rfl, hd9, hq9, hb9⟩
  rw [HE.out.1] at hq9
  have HR9 := Hid.mk9 (And.intro hd9 hq9)
  clear hd9 hq9
  replace Xa : Hid _ := Xa.out.below hb9
  replace Xb : Hid _ := Xb.out.below hb9
  replace Xr : Hid _ := Xr.out.below hb9
  replace hbw := Below.on hbw hb9
  clear hb9
  refine hK _ _ ⟨Xa.out.c0, Xa.out.c1, Xb.out.c0, Xb.out.c1⟩ ?_
  clear hK
  obtain ⟨cr0, cr1, fr0, fr1⟩ := Xr.out
  have hner := Xr.out.lt
  obtain ⟨ca0, ca1, fa0, fa1⟩ := Xa.out
  have hnea := Xa.out.lt
  obtain ⟨cb0, cb1, fb0, fb1⟩ := Xb.out
  have hneb := Xb.out.lt
  obtain ⟨hgd0, hgd1, hgd2, hgd3, hgd4, hgd5⟩ := HGD.out
  refine wpJ_on 4 rfl fun KJ hK => ?_
  go_simp
  have HJ2 : Hid ((fun W' : World => W'.cell? ⟨ga, 0, none⟩ = some (Fv h) ∧ W'.cell? ⟨ga, 1, none⟩ = some (Fv l) ∧ W'.cell? ⟨gb, 0, none⟩ = some (Fv h') ∧ W'.cell? ⟨gb, 1, none⟩ = some (Fv l')) ((v9.setCell ⟨gr, 0, none⟩ (Fv s9)).setCell ⟨gr, 1, none⟩ (Fv r9))) := ⟨by go_simp, by go_simp, by go_simp, by go_simp⟩
  refine hK _ _ HJ2.out ?_
  clear hK HJ
  have HJ := HJ2
  clear HJ2
  refine wpJ_done (by kernel_rfl) ?_ _
  clear HJ
  go_wp2_with fail
  refine bodyPost_ret (v := .agg #[Fv s9, Fv r9]) (by rw [results_cell1 rfl]; go_simp) rfl ⟨s9, r9, rfl, HR9.out.1, HR9.out.2, ?_⟩
  exact bSet (bSet (hbw) _ _ _ HGr.out) _ _ _ HGr.out
theorem mul_near {n c : Nat} (hf : rgc c n < 9218868437227405312) : 2 * 9007199254740992 * ((vs 4503599627370496 (rgc c n) * 2 ^ c : Nat) - (n : Int)).natAbs ≤ 2 * n + 9007199254740992 * 2 ^ c := by
  by_cases h0 : n = 0
  · subst h0
    rw [show rgc c 0 = 0 from rfl, vs_zero]
    simp
  obtain ⟨L, hL⟩ : ∃ L, L = max (n.log2 - 52) c := ⟨_, rfl⟩
  have hlog := Nat.log2_self_le h0
  have hlt : n < 2 ^ (n.log2 + 1) := Nat.lt_log2_self
  have hr : rgc c n = (L - c) * 4503599627370496 + rne n L := by
    unfold rgc at hf ⊢
    rw [if_neg h0, ← hL] at hf ⊢
    omega
  have h1 := rne_err n L
  have h53 : rne n L ≤ 9007199254740992 := by
    refine rne_le n L 9007199254740992 ?_
    have h2 : 2 ^ (n.log2 + 1) ≤ 9007199254740992 * 2 ^ L := by
      rw [show (9007199254740992 : Nat) = 2 ^ 53 by decide, ← Nat.pow_add]
      exact Nat.pow_le_pow_right (by decide) (by omega)
    omega
  have hv : vs 4503599627370496 (rgc c n) * 2 ^ c = rne n L * 2 ^ L := by
    have h4 : L - c = 0 ∨ 4503599627370496 ≤ rne n L := by
      by_cases h5 : L - c = 0
      · exact .inl h5
      · refine .inr (le_rne n L 4503599627370496 ?_)
        have h6 : 4503599627370496 * 2 ^ L = 2 ^ n.log2 := by
          rw [show (4503599627370496 : Nat) = 2 ^ 52 by decide, ← Nat.pow_add]
          congr 1; omega
        omega
    rw [hr, vs_at (L - c) (rne n L) h4 h53, Nat.mul_assoc, ← Nat.pow_add, show L - c + c = L by omega]
  rw [hv]
  by_cases h5 : L = c
  · rw [h5] at h1 ⊢
    omega
  · have h6 : 9007199254740992 * 2 ^ L ≤ 2 * n := by
      have h7 : 9007199254740992 * 2 ^ L = 2 * 2 ^ n.log2 := by
        rw [show (9007199254740992 : Nat) = 2 * 2 ^ 52 by decide, Nat.mul_assoc, ← Nat.pow_add]
        congr 2; omega
      omega
    omega
theorem mul_bnd {Q A B D E F G K W U e k : Nat} (hA : 9007199254740992 * A ≤ Q) (hB : 9007199254740992 * B ≤ Q) (hD : 9007199254740992 * D ≤ A) (hE : 9007199254740992 * E ≤ A + 9007199254740992 * U) (hF : 9007199254740992 * F ≤ B + 9007199254740992 * U)
    (hG : G ≤ A + E + (B + F)) (hK : 9007199254740992 * K ≤ G) (hk : k ≤ G + K) (he : 9007199254740992 * e ≤ Q) (hW : 9007199254740992 * W ≤ e + k) (hU : 1152921504606846976 * (81129638414606681695789005144064 * U) ≤ Q) :
    81129638414606681695789005144064 * (W + K + E + F + D) ≤ 10 * Q ∧ e + k + W ≤ Q - e ∧ 16 * (A + B + D) ≤ Q ∧ e ≤ Q := by
  omega
theorem ab8 {a b : Int} : a.natAbs ≤ b.natAbs + (a - b).natAbs := by omega
theorem na_mul (x : Int) (U : Nat) : (x * (U : Int)).natAbs = x.natAbs * U := by rw [Int.natAbs_mul, Int.natAbs_natCast]
theorem up_mul {a b U : Nat} (h : 9007199254740992 * a ≤ b) : 9007199254740992 * (a * U) ≤ b * U := by rw [← Nat.mul_assoc]; exact Nat.mul_le_mul_right _ h
theorem mul_err {x xl y yl p e m1 m2 k w V : Int} (hp : (p + e) * V = x * y) : (p + w) * V - (x + xl) * (y + yl) = (w - (e + k)) * V + (k - (m1 + m2)) * V + (m1 * V - x * yl) + (m2 * V - xl * y) - xl * yl := by
  rw [Int.add_mul] at hp
  rw [Int.add_mul p w, Int.add_mul x xl, Int.mul_add, Int.mul_add, Int.sub_mul w, Int.add_mul e k, Int.sub_mul k, Int.add_mul m1 m2]
  omega
theorem na5 {a b c d f : Int} : (a + b + c + d - f).natAbs ≤ a.natAbs + b.natAbs + c.natAbs + d.natAbs + f.natAbs := by omega
theorem na_tot {x xl y yl : Int} : (x * y).natAbs ≤ ((x + xl) * (y + yl)).natAbs + ((x * yl).natAbs + (xl * y).natAbs + (xl * yl).natAbs) := by
  rw [Int.add_mul x xl, Int.mul_add, Int.mul_add]; omega
theorem fin_tot {Q A B D P N : Nat} (h1 : 81129638414606681695789005144064 * N ≤ 10 * Q) (h2 : Q ≤ P + (A + B + D)) (h3 : 16 * (A + B + D) ≤ Q) : 81129638414606681695789005144064 * N ≤ 16 * P := by omega
theorem dd_mul {x xl y yl p e m1 m2 k w : Int} {U : Nat} (hU0 : 0 < U) (hx : 9007199254740992 * xl.natAbs ≤ x.natAbs) (hy : 9007199254740992 * yl.natAbs ≤ y.natAbs) (hp : (p + e) * (U : Int) = x * y) (he : 9007199254740992 * (e * (U : Int)).natAbs ≤ (x * y).natAbs)
    (h1 : 9007199254740992 * (m1 * (U : Int) - x * yl).natAbs ≤ (x * yl).natAbs + 9007199254740992 * U) (h2 : 9007199254740992 * (m2 * (U : Int) - xl * y).natAbs ≤ (xl * y).natAbs + 9007199254740992 * U)
    (hk : Rn 53 (m1 + m2) k) (hw : Rn 53 (e + k) w) (hU : 1152921504606846976 * (81129638414606681695789005144064 * U) ≤ (x * y).natAbs) :
    81129638414606681695789005144064 * ((p + w) * (U : Int) - (x + xl) * (y + yl)).natAbs ≤ 16 * ((x + xl) * (y + yl)).natAbs ∧ w.natAbs ≤ p.natAbs := by
  have hA : 9007199254740992 * (x * yl).natAbs ≤ (x * y).natAbs := by
    rw [Int.natAbs_mul, Int.natAbs_mul, Nat.mul_left_comm]; exact Nat.mul_le_mul_left _ hy
  have hB : 9007199254740992 * (xl * y).natAbs ≤ (x * y).natAbs := by
    rw [Int.natAbs_mul, Int.natAbs_mul, ← Nat.mul_assoc]; exact Nat.mul_le_mul_right _ hx
  have hD : 9007199254740992 * (xl * yl).natAbs ≤ (x * yl).natAbs := by
    rw [Int.natAbs_mul, Int.natAbs_mul, ← Nat.mul_assoc]; exact Nat.mul_le_mul_right _ hx
  have hm1 : (m1 * (U : Int)).natAbs ≤ (x * yl).natAbs + (m1 * (U : Int) - x * yl).natAbs := ab8
  have hm2 : (m2 * (U : Int)).natAbs ≤ (xl * y).natAbs + (m2 * (U : Int) - xl * y).natAbs := ab8
  have hG : (m1 + m2).natAbs * U ≤ (x * yl).natAbs + (m1 * (U : Int) - x * yl).natAbs + ((xl * y).natAbs + (m2 * (U : Int) - xl * y).natAbs) := by
    rw [← na_mul, Int.add_mul]
    exact Nat.le_trans ab5 (Nat.add_le_add hm1 hm2)
  have hK := up_mul (U := U) (rn_rel hk)
  have hkk : k.natAbs * U ≤ (m1 + m2).natAbs * U + (m1 + m2 - k).natAbs * U := by
    rw [← Nat.add_mul]; exact Nat.mul_le_mul_right _ ab3
  have hW : 9007199254740992 * ((e + k - w).natAbs * U) ≤ (e * (U : Int)).natAbs + k.natAbs * U := by
    refine Nat.le_trans (up_mul (U := U) (rn_rel hw)) ?_
    rw [na_mul, ← Nat.add_mul]; exact Nat.mul_le_mul_right _ ab5
  have b := mul_bnd hA hB hD h1 h2 hG hK hkk he hW hU
  have e1 : (w - (e + k)) * (U : Int) = -((e + k - w) * (U : Int)) := by rw [← Int.neg_mul]; congr 1; omega
  have e2 : (k - (m1 + m2)) * (U : Int) = -((m1 + m2 - k) * (U : Int)) := by rw [← Int.neg_mul]; congr 1; omega
  have n1 : ((w - (e + k)) * (U : Int)).natAbs = (e + k - w).natAbs * U := by rw [e1, Int.natAbs_neg, na_mul]
  have n2 : ((k - (m1 + m2)) * (U : Int)).natAbs = (m1 + m2 - k).natAbs * U := by rw [e2, Int.natAbs_neg, na_mul]
  refine ⟨?_, ?_⟩
  · rw [mul_err hp]
    refine fin_tot (Nat.le_trans (Nat.mul_le_mul_left _ na5) ?_) na_tot b.2.2.1
    rw [n1, n2]
    exact b.1
  · have h5 : w.natAbs * U ≤ (e * (U : Int)).natAbs + k.natAbs * U + (e + k - w).natAbs * U := by
      rw [na_mul, ← Nat.add_mul, ← Nat.add_mul]
      exact Nat.mul_le_mul_right _ (Nat.le_trans ab3 (Nat.add_le_add_right ab5 _))
    have h6 : (x * y).natAbs ≤ p.natAbs * U + (e * (U : Int)).natAbs := by
      rw [← hp, ← na_mul, Int.add_mul]; exact ab5
    have h7 : w.natAbs * U ≤ p.natAbs * U := by have := b.2.1; omega
    exact Nat.le_of_mul_le_mul_right h7 hU0
def FitQ (b : Nat) : Prop := b % 9223372036854775808 = 0 ∨ (3256102530588868608 ≤ b % 9223372036854775808 ∧ b % 9223372036854775808 ≤ 5958262307011166208)
theorem FitQ.hi {b : Nat} (h : FitQ b) : b % 9223372036854775808 ≤ 5958262307011166208 := by unfold FitQ at h; omega
theorem FitQ.low {b K : Nat} (h : FitQ b) (hK : K = 774) (h0 : ux b ≠ 0) : 2 ^ K ≤ (ux b).natAbs := by
  rcases h with h | ⟨h, _⟩
  · exfalso; apply h0
    rw [ux_eq, h, vs_zero]; split <;> rfl
  · rw [ux_abs]
    obtain ⟨j, hj⟩ : ∃ j, j = 722 := ⟨_, rfl⟩
    have h1 := vs_le4 h
    have h2 := vs_at j 4503599627370496 (.inr (Nat.le_refl _)) (by decide)
    rw [show j * 4503599627370496 + 4503599627370496 = 3256102530588868608 by rw [hj]] at h2
    rw [h2] at h1
    rw [show K = 52 + j by omega, Nat.pow_add]
    exact h1
theorem rgc_lt {n c M : Nat} (hM : M = 2096) (h : n < 2 ^ (M + c)) : rgc c n < 9218868437227405312 := by
  unfold rgc
  by_cases h0 : n = 0
  · rw [if_pos h0]; decide
  · rw [if_neg h0]
    have h1 : n.log2 < M + c := (Nat.log2_lt h0).2 h
    obtain ⟨L, hL⟩ : ∃ L, L = max (n.log2 - 52) c := ⟨_, rfl⟩
    rw [← hL]
    have hlt : n < 2 ^ (n.log2 + 1) := Nat.lt_log2_self
    have h53 : rne n L ≤ 9007199254740992 := by
      refine rne_le n L 9007199254740992 ?_
      have h2 : 2 ^ (n.log2 + 1) ≤ 9007199254740992 * 2 ^ L := by
        rw [show (9007199254740992 : Nat) = 2 ^ 53 by decide, ← Nat.pow_add]
        exact Nat.pow_le_pow_right (by decide) (by omega)
      exact Nat.le_trans (Nat.le_of_lt hlt) h2
    have h4 : L - c ≤ 2044 := by
      clear h53 hlt h
      omega
    refine Nat.lt_of_le_of_lt (Nat.min_le_left _ _) (Nat.lt_of_le_of_lt (Nat.add_le_add (Nat.mul_le_mul_right 4503599627370496 h4) h53) (by decide))
theorem fmul_near {a b c M : Nat} (hc : c = 1074) (hM : M = 2096) (ha : Fin64 a) (hb : Fin64 b) (hs : (ux a * ux b).natAbs < 2 ^ (M + c)) : ∃ r, floatBits .mul .f64 a b = some r ∧ Fin64 r ∧ 9007199254740992 * (ux r * ((2 ^ c : Nat) : Int) - ux a * ux b).natAbs ≤ (ux a * ux b).natAbs + 9007199254740992 * 2 ^ c ∧ (ux a * ux b = 0 → ux r = 0) := by
  have h1 := fmul_any ha hb
  rw [← hc] at h1
  have h2 := rgc_lt hM hs
  rw [Int.natAbs_mul] at h2
  have h3 := mul_near h2
  refine ⟨_, h1, ?_⟩
  obtain ⟨w1, w2, w3⟩ := word_facts (decide (9223372036854775808 ≤ a) ^^ decide (9223372036854775808 ≤ b)) h2
  refine ⟨⟨w1, by rw [w2]; exact h2⟩, ?_⟩
  rw [w3]
  obtain ⟨n, hn⟩ : ∃ n, n = (ux a).natAbs * (ux b).natAbs := ⟨_, rfl⟩
  have hn2 : (ux a * ux b).natAbs = n := by rw [hn, Int.natAbs_mul]
  rw [← hn] at h3 ⊢
  obtain ⟨Y, hY⟩ : ∃ Y, Y = vs 4503599627370496 (rgc c n) * 2 ^ c := ⟨_, rfl⟩
  rw [← hY] at h3
  rw [hn2]
  by_cases h0 : ux a * ux b = 0
  · have hn0 : n = 0 := by rw [← hn2, h0]; rfl
    have hY0 : vs 4503599627370496 (rgc c n) = 0 := by rw [hn0, show rgc c 0 = 0 from rfl, vs_zero]
    rw [hY0, h0]
    split <;> simp
  · rw [mul_sign h0]
    by_cases hneg : ux a * ux b < 0
    · rw [if_pos (decide_eq_true hneg), Int.neg_mul, ← Int.natCast_mul, ← hY]
      exact ⟨by omega, fun k => absurd k h0⟩
    · rw [if_neg (by rw [decide_eq_false hneg]; decide), ← Int.natCast_mul, ← hY]
      exact ⟨by omega, fun k => absurd k h0⟩
theorem fitq20 (b : Nat) (w : World) :
    Calls Tryz.prog 27 #[U b] w fun en w' => OkB en (FitQ b) ∧ Below w.heap.size w w' := by
  unfold FitQ
  obtain ⟨s, hs⟩ : ∃ s, s = b % 9223372036854775808 := ⟨_, rfl⟩
  have hm : (b : Int) % 9223372036854775808 = (s : Int) := by omega
  rw [← hs]
  clear hs
  have hbw : Below w.heap.size w w := Below.refl _ _
  go_enter Tryz.func27, Tryz.ntmps27
  go_wp2_with fail
  all_goals
    go_ret
    refine ⟨⟨_, rfl, fun h9 => ?_⟩, hbw⟩
    simp at h9
    omega
theorem fit20q (h l : Nat) (hh : h < 18446744073709551616) (hl : l < 18446744073709551616) (w : World) :
    Calls Tryz.prog 11 #[.agg #[.int .u64 (h : Int), .int .u64 (l : Int)]] w fun en w' => OkB en (DdF h l ∧ FitQ h) ∧ Below w.heap.size w w' := by
  have HB : Hid (h < 18446744073709551616 ∧ l < 18446744073709551616) := ⟨hh, hl⟩
  clear hh hl
  go_enter Tryz.func11, Tryz.ntmps11
  go_wp2_with fail
  obtain ⟨W0, hW0⟩ : ∃ W0, W0 = (w.alloc (.cells #[.int .u64 (h : Int), .int .u64 (l : Int)] 28)) := ⟨_, rfl⟩
  have Xa : Hid (Box W0 (w.heap.size) (.int .u64 (h : Int)) (.int .u64 (l : Int))) := by rw [hW0]; exact ⟨by go_simp, by go_simp, by go_simp, by go_simp⟩
  have hb0 : Below w.heap.size w W0 := by rw [hW0]; exact below1 w _
  rw [← hW0]
  clear hW0
  have hbw : Below w.heap.size w w := Below.refl _ _
  obtain ⟨ga, hga⟩ : ∃ g, g = w.heap.size := ⟨_, rfl⟩
  have HGa : Hid (w.heap.size ≤ ga) := by rw [hga]; show _ ≤ _; omega
  rw [← hga] at Xa
  try rw [← hga]
  clear hga
  replace hbw := Below.on hbw hb0
  clear hb0
  obtain ⟨ca0, ca1, fa0, fa1⟩ := Xa.out
  have hnea := Xa.out.lt
  go_wp2_with fail
  clear ca0 ca1 fa0 fa1 hnea
  refine (docform20 h l HB.out.1 HB.out.2 _).mono ?_
  rintro en v2 ⟨⟨r, rfl, hr⟩, hb2⟩
  replace Xa : Hid _ := Xa.out.below hb2
  replace hbw := Below.on hbw hb2
  clear hb2
  have HRR := Hid.mk9 hr
  clear hr
  cases r
  · obtain ⟨ca0, ca1, fa0, fa1⟩ := Xa.out
    have hnea : ga < v2.heap.size := World.block_lt_of_cell? v2 _ ca0
    go_wp2_with fail
    clear ca0 ca1 fa0 fa1 hnea
    go_ret
    exact ⟨⟨false, rfl, fun h9 => by cases h9⟩, hbw⟩
  obtain ⟨ca0, ca1, fa0, fa1⟩ := Xa.out
  have hnea := Xa.out.lt
  go_wp2_with fail
  clear ca0 ca1 fa0 fa1 hnea
  refine (fitq20 h _).mono ?_
  rintro en v3 ⟨⟨r, rfl, hr⟩, hb3⟩
  replace Xa : Hid _ := Xa.out.below hb3
  replace hbw := Below.on hbw hb3
  clear hb3
  have HR2 := Hid.mk9 hr
  clear hr
  go_wp2_with fail
  go_ret
  exact ⟨⟨r, rfl, fun h9 => ⟨HRR.out (by first | rfl | trivial), HR2.out h9⟩⟩, hbw⟩
def UE : Nat := 2 ^ OneE
def PE : Nat := 1726
def BigP : Nat := 2 ^ PE
theorem prod_big {x y : Int} {M N c : Nat} (hM : M = 1400) (hN : N = 1726) (hc : c = 1074) (hx : x.natAbs ≤ 2 ^ M) (hy : y.natAbs ≤ 2 ^ M) : (x * y).natAbs ≤ 2 ^ N * 2 ^ c := by
  rw [← Nat.pow_add, Int.natAbs_mul]
  have h := Nat.mul_le_mul hx hy
  rw [← Nat.pow_add] at h
  exact Nat.le_trans h (Nat.pow_le_pow_right (by decide) (by omega))
theorem near_bd {m V : Int} {U B : Nat} (hU : 0 < U) (h : 9007199254740992 * (m * (U : Int) - V).natAbs ≤ V.natAbs + 9007199254740992 * U) (hV : V.natAbs ≤ B * U) : m.natAbs ≤ 2 * B + 1 := by
  have h1 : (m * (U : Int)).natAbs ≤ V.natAbs + (m * (U : Int) - V).natAbs := ab8
  rw [na_mul] at h1
  have h2 : m.natAbs * U ≤ (2 * B + 1) * U := by
    rw [Nat.add_mul, Nat.one_mul, Nat.mul_assoc]; omega
  exact Nat.le_of_mul_le_mul_right h2 hU
structure Mul1 (h h' p e : Nat) : Prop where
  fp : Fin64 p
  fe : Fin64 e
  eq : (ux p + ux e) * (UE : Int) = ux h * ux h'
  er : 9007199254740992 * (ux e * (UE : Int)).natAbs ≤ (ux h * ux h').natAbs
  z : ux h * ux h' = 0 → ux p = 0 ∧ ux e = 0
  m1 : (ux p).natAbs ≤ 2 * BigP + 1
  m2 : (ux e).natAbs ≤ 2 * BigP + 1
theorem ue_pos : 0 < UE := Nat.two_pow_pos OneE
theorem fit_prod {h h' : Nat} (q : FitQ h) (q' : FitQ h') : (ux h * ux h').natAbs ≤ BigP * UE := by
  have a := fit_big q.hi
  have b := fit_big q'.hi
  unfold BigU at a b
  unfold BigP UE
  exact prod_big (M := BigE) (N := PE) (c := OneE) rfl rfl rfl a b
theorem ddm_1 {h h' p e : Nat} (hl : h < 18446744073709551616) (hl' : h' < 18446744073709551616) (q : FitQ h) (q' : FitQ h') (T : TPR h h' p e) : Mul1 h h' p e := by
  have hV : ux h * ux h' = 0 ∨ ((∀ K, K = 1188 → 2 ^ K ≤ (ux h * ux h').natAbs) ∧ ∀ K, K = 3169 → (ux h * ux h').natAbs ≤ 2 ^ K) := by
    by_cases h0 : ux h * ux h' = 0
    · exact .inl h0
    · refine .inr ⟨fun K hK => ?_, fun K hK => ?_⟩
      · obtain ⟨J, hJ⟩ : ∃ J, J = 774 := ⟨_, rfl⟩
        have a := q.low hJ (fun k => h0 (by rw [k, Int.zero_mul]))
        have b := q'.low hJ (fun k => h0 (by rw [k, Int.mul_zero]))
        have c := Nat.mul_le_mul a b
        rw [← Nat.pow_add, ← Int.natAbs_mul] at c
        exact Nat.le_trans (Nat.pow_le_pow_right (by decide) (by omega)) c
      · refine Nat.le_trans (fit_prod q q') ?_
        have e1 : BigP * UE = 2 ^ (PE + OneE) := by unfold BigP UE; exact (Nat.pow_add 2 PE OneE).symm
        rw [e1]
        exact Nat.pow_le_pow_right (by decide) (by rw [hK]; decide)
  obtain ⟨a1, a2, a3, a4, a5⟩ := T.ok hl hl' (by have := q.hi; omega) (by have := q'.hi; omega) hV
  have eq : (ux p + ux e) * (UE : Int) = ux h * ux h' := a3 OneE rfl
  have er : 9007199254740992 * (ux e * (UE : Int)).natAbs ≤ (ux h * ux h').natAbs := by
    by_cases h0 : ux h * ux h' = 0
    · rw [(a4 h0).2]; simp
    · have h1 := rn_rel ((a5 h0).rn OneE rfl)
      have h2 : ux h * ux h' - ux p * ((2 ^ OneE : Nat) : Int) = ux e * (UE : Int) := by
        have h3 : (UE : Int) = ((2 ^ OneE : Nat) : Int) := rfl
        rw [← eq, Int.add_mul, h3]; omega
      rwa [h2] at h1
  have hb := fit_prod q q'
  have b2 : (ux e).natAbs * UE ≤ BigP * UE := by rw [← na_mul]; omega
  have b3 : (ux p).natAbs * UE ≤ (2 * BigP + 1) * UE := by
    have h1 : (ux p * (UE : Int)).natAbs ≤ (ux h * ux h').natAbs + (ux e * (UE : Int)).natAbs := by
      have h2 : (ux p * (UE : Int) + ux e * (UE : Int)) = ux h * ux h' := by rw [← Int.add_mul]; exact eq
      omega
    rw [na_mul] at h1
    rw [Nat.add_mul, Nat.mul_assoc]
    omega
  have c2 := Nat.le_of_mul_le_mul_right b2 ue_pos
  have c3 := Nat.le_of_mul_le_mul_right b3 ue_pos
  exact ⟨a1, a2, eq, er, a4, c3, by omega⟩
theorem bigP_max {K N J : Nat} (hK : K = 2044) (hN : N = 1726) (hJ : J = 2043) : 64 * (2 * 2 ^ N + 1) < 2 ^ (52 + J) ∧ 2 ^ (52 + J) ≤ MaxU := by
  have h1 := (max_big hK rfl).1
  have h2 : 2 ^ (52 + J) ≤ 2 ^ (52 + K) := Nat.pow_le_pow_right (by decide) (by omega)
  have h3 : 64 * (2 * 2 ^ N + 1) < 2 ^ (52 + J) := by
    have h4 : 64 * (2 * 2 ^ N + 1) ≤ 256 * 2 ^ N := by have := Nat.two_pow_pos N; omega
    have h5 : 256 * 2 ^ N = 2 ^ (8 + N) := by rw [Nat.pow_add]
    rw [h5] at h4
    exact Nat.lt_of_le_of_lt h4 (Nat.pow_lt_pow_right (by decide) (by omega))
  exact ⟨h3, by omega⟩
theorem BigP.sz {b : Nat} (h : (ux b).natAbs ≤ 32 * (2 * BigP + 1)) : b % 9223372036854775808 ≤ 9209861237972664320 := by
  obtain ⟨J, hJ⟩ : ∃ J, J = 2043 := ⟨_, rfl⟩
  unfold BigP at h
  have h1 := (bigP_max (K := 2044) (N := PE) rfl rfl hJ).1
  have h3 : (ux b).natAbs < 2 ^ (52 + J) := Nat.lt_of_le_of_lt (Nat.le_trans h (Nat.mul_le_mul_right _ (by decide))) h1
  have h2 := sz_of (b := b) (K := J) h3
  rw [hJ] at h2
  omega
theorem BigP.max {x : Int} (h : x.natAbs ≤ 64 * (2 * BigP + 1)) : x.natAbs ≤ MaxU := by
  unfold BigP at h
  have h1 := bigP_max (K := 2044) (N := PE) rfl rfl rfl
  exact Nat.le_trans h (Nat.le_trans (Nat.le_of_lt h1.1) h1.2)
structure FMul (a b r : Nat) : Prop where
  fin : Fin64 r
  near : 9007199254740992 * (ux r * (UE : Int) - ux a * ux b).natAbs ≤ (ux a * ux b).natAbs + 9007199254740992 * UE
  z : ux a * ux b = 0 → ux r = 0
  bd : (ux r).natAbs ≤ 2 * BigP + 1
theorem bigU_prod {x y : Int} (hx : x.natAbs ≤ BigU) (hy : y.natAbs ≤ BigU) : (x * y).natAbs ≤ BigP * UE := by
  unfold BigU at hx hy
  unfold BigP UE
  exact prod_big (M := BigE) (N := PE) (c := OneE) rfl rfl rfl hx hy
theorem ddm_2 {a b : Nat} (fa : Fin64 a) (fb : Fin64 b) (ha : (ux a).natAbs ≤ BigU) (hb : (ux b).natAbs ≤ BigU) : ∃ r, floatBits .mul .f64 a b = some r ∧ FMul a b r := by
  have hp := bigU_prod ha hb
  obtain ⟨M, hM⟩ : ∃ M, M = 2096 := ⟨_, rfl⟩
  have hs : (ux a * ux b).natAbs < 2 ^ (M + OneE) := by
    have e1 : BigP * UE = 2 ^ (PE + OneE) := by unfold BigP UE; exact (Nat.pow_add 2 PE OneE).symm
    rw [e1] at hp
    have h4 : PE + OneE < M + OneE := by rw [hM]; decide
    exact Nat.lt_of_le_of_lt hp (Nat.pow_lt_pow_right (by decide) h4)
  obtain ⟨r, h1, h2, h3, h4⟩ := fmul_near (c := OneE) rfl hM fa fb hs
  have h3' : 9007199254740992 * (ux r * (UE : Int) - ux a * ux b).natAbs ≤ (ux a * ux b).natAbs + 9007199254740992 * UE := by unfold UE; exact h3
  exact ⟨r, h1, h2, h3', h4, near_bd ue_pos h3' hp⟩
theorem ddm_3 {h l' l h' m1 m2 : Nat} (A : FMul h l' m1) (B : FMul l h' m2) : ∃ k, floatBits .add .f64 m1 m2 = some k ∧ Sm64 (ux m1 + ux m2) k :=
  fl_add_fin A.fin B.fin (BigP.max (by have := sum_bd A.bd B.bd; omega))
theorem ddm_k {h l' l h' m1 m2 k : Nat} (A : FMul h l' m1) (B : FMul l h' m2) (K : Sm64 (ux m1 + ux m2) k) : (ux k).natAbs ≤ 4 * (2 * BigP + 1) := by
  have h1 := rn_two K.rn
  have h2 := sum_bd A.bd B.bd
  omega
theorem ddm_4 {h h' p e k : Nat} (A : Mul1 h h' p e) (fk : Fin64 k) (hk : (ux k).natAbs ≤ 4 * (2 * BigP + 1)) : ∃ w, floatBits .add .f64 e k = some w ∧ Sm64 (ux e + ux k) w :=
  fl_add_fin A.fe fk (BigP.max (by have := sum_bd A.m2 hk; omega))
theorem ue_small {Q J : Nat} (hJ : J = 774) (h : 2 ^ J * 2 ^ J ≤ Q) : 1152921504606846976 * (81129638414606681695789005144064 * UE) ≤ Q := by
  refine Nat.le_trans ?_ h
  unfold UE
  rw [show (1152921504606846976 : Nat) = 2 ^ 60 by decide, show (81129638414606681695789005144064 : Nat) = 2 ^ 106 by decide, ← Nat.pow_add, ← Nat.pow_add, ← Nat.pow_add]
  exact Nat.pow_le_pow_right (by decide) (by rw [hJ]; decide)
theorem ddm_5 {h l h' l' p e m1 m2 k w s r : Nat} (d : DdF h l) (d' : DdF h' l') (q : FitQ h) (q' : FitQ h') (A : Mul1 h h' p e) (M : FMul h l' m1) (N : FMul l h' m2) (K : Rn 53 (ux m1 + ux m2) (ux k)) (V : Sm64 (ux e + ux k) w) (F : FSR p w s r) :
    DdF s r ∧ 81129638414606681695789005144064 * ((ux s + ux r) * (UE : Int) - (ux h + ux l) * (ux h' + ux l')).natAbs ≤ 16 * ((ux h + ux l) * (ux h' + ux l')).natAbs := by
  have lx := form_l d.rn
  have ly := form_l d'.rn
  have key : 81129638414606681695789005144064 * ((ux p + ux w) * (UE : Int) - (ux h + ux l) * (ux h' + ux l')).natAbs ≤ 16 * ((ux h + ux l) * (ux h' + ux l')).natAbs ∧ (ux w).natAbs ≤ (ux p).natAbs := by
    by_cases h0 : ux h * ux h' = 0
    · have hz : (ux h = 0 ∧ ux l = 0) ∨ (ux h' = 0 ∧ ux l' = 0) := by
        rcases Int.mul_eq_zero.1 h0 with k0 | k0
        · refine .inl ⟨k0, ?_⟩
          rw [k0] at lx; omega
        · refine .inr ⟨k0, ?_⟩
          rw [k0] at ly; omega
      have e1 : ux h * ux l' = 0 := by rcases hz with ⟨a, b⟩ | ⟨a, b⟩ <;> simp [a, b]
      have e2 : ux l * ux h' = 0 := by rcases hz with ⟨a, b⟩ | ⟨a, b⟩ <;> simp [a, b]
      have e3 : (ux h + ux l) * (ux h' + ux l') = 0 := by rcases hz with ⟨a, b⟩ | ⟨a, b⟩ <;> simp [a, b]
      have z1 := M.z e1
      have z2 := N.z e2
      obtain ⟨z3, z4⟩ := A.z h0
      have z5 : ux k = 0 := by have h1 := rn_two K; rw [z1, z2] at h1; omega
      have z6 : ux w = 0 := by have h1 := rn_two V.rn; rw [z4, z5] at h1; omega
      rw [e3, z3, z6]
      simp
    · obtain ⟨J, hJ⟩ : ∃ J, J = 774 := ⟨_, rfl⟩
      have a := q.low hJ (fun k0 => h0 (by rw [k0, Int.zero_mul]))
      have b := q'.low hJ (fun k0 => h0 (by rw [k0, Int.mul_zero]))
      have c := Nat.mul_le_mul a b
      rw [← Int.natAbs_mul] at c
      exact dd_mul ue_pos lx ly A.eq A.er M.near N.near K V.rn (ue_small hJ c)
  have b1 : (ux w).natAbs ≤ 2 * BigP + 1 := Nat.le_trans key.2 A.m1
  have m1 := A.m1
  obtain ⟨c1, c2, c3⟩ := F.ok A.fp.lt V.fin.lt (BigP.sz (by omega)) (BigP.sz (by omega)) (.inr (sz_le key.2))
  refine ⟨DdF.of_sm c1 c2 c3, ?_⟩
  rw [c3]; exact key.1
theorem ddMul_f {h l h' l' : Nat} (d : DdF h l) (d' : DdF h' l') (q : FitQ h) (q' : FitQ h') (w : World) :
    Calls Tryz.prog 20 #[.agg #[Fv h, Fv l], .agg #[Fv h', Fv l']] w fun en w' => ∃ s r, en = .returned (.agg #[Fv s, Fv r]) ∧ DdF s r ∧ 81129638414606681695789005144064 * ((ux s + ux r) * (UE : Int) - (ux h + ux l) * (ux h' + ux l')).natAbs ≤ 16 * ((ux h + ux l) * (ux h' + ux l')).natAbs ∧ Below w.heap.size w w' := by
  have hSF : ∀ (w : World) (a : Addr) (b : Nat), (store a (Fv b)).run Tryz.prog w = stored Tryz.prog w a (Fv b) .plain := stF
  have HD : Hid ((DdF h l ∧ DdF h' l') ∧ FitQ h ∧ FitQ h') := ⟨⟨d, d'⟩, q, q'⟩
  have b1 := fit_big q.hi
  have b2 := fit_big q'.hi
  obtain ⟨m1, hm1, hM⟩ := ddm_2 d.hi d'.lo b1 (form_lo d' b2)
  obtain ⟨m2, hm2, hN⟩ := ddm_2 d.lo d'.hi (form_lo d b1) b2
  obtain ⟨k, hk, hK⟩ := ddm_3 hM hN
  have HMN : Hid (FMul h l' m1 ∧ FMul l h' m2 ∧ Sm64 (ux m1 + ux m2) k) := ⟨hM, hN, hK⟩
  have r1 : ∀ W : World, (binOp .mul 30 (Fv h) (Fv l')).run Tryz.prog W = .ok (Fv m1) W := fun W => run_float_arith W .mul 30 .f64 h l' m1 hm1
  have r2 : ∀ W : World, (binOp .mul 30 (Fv l) (Fv h')).run Tryz.prog W = .ok (Fv m2) W := fun W => run_float_arith W .mul 30 .f64 l h' m2 hm2
  have r3 : ∀ W : World, (binOp .add 30 (Fv m1) (Fv m2)).run Tryz.prog W = .ok (Fv k) W := fun W => run_float_arith W .add 30 .f64 m1 m2 k hk
  clear d d' q q' b1 b2 hm1 hm2 hk hM hN hK
  go_enter Tryz.func20, Tryz.ntmps20
  go_wp2_with fail
  obtain ⟨W0, hW0⟩ : ∃ W0, W0 = (((w.alloc (.cells #[Fv h, Fv l] 32)).alloc (.cells #[Fv h', Fv l'] 32)).alloc (.cells #[Fv 0, Fv 0] 32)) := ⟨_, rfl⟩
  have Xa : Hid (Box W0 (w.heap.size) (Fv h) (Fv l)) := by rw [hW0]; exact ⟨by go_simp, by go_simp, by go_simp, by go_simp⟩
  have Xb : Hid (Box W0 (w.heap.size + 1) (Fv h') (Fv l')) := by rw [hW0]; exact ⟨by go_simp, by go_simp, by go_simp, by go_simp⟩
  have Xr : Hid (Box W0 (w.heap.size + 1 + 1) (Fv 0) (Fv 0)) := by rw [hW0]; exact ⟨by go_simp, by go_simp, by go_simp, by go_simp⟩
  have hb0 : Below w.heap.size w W0 := by rw [hW0]; exact below3 w _ _ _
  rw [← hW0]
  clear hW0
  have hbw : Below w.heap.size w w := Below.refl _ _
  obtain ⟨gr, hgr⟩ : ∃ g, g = w.heap.size + 1 + 1 := ⟨_, rfl⟩
  have HGr : Hid (w.heap.size ≤ gr) := by rw [hgr]; show _ ≤ _; omega
  rw [← hgr] at Xr
  try rw [← hgr]
  obtain ⟨gb, hgb⟩ : ∃ g, g = w.heap.size + 1 := ⟨_, rfl⟩
  have HGb : Hid (w.heap.size ≤ gb) := by rw [hgb]; show _ ≤ _; omega
  rw [← hgb] at Xb
  try rw [← hgb]
  obtain ⟨ga, hga⟩ : ∃ g, g = w.heap.size := ⟨_, rfl⟩
  have HGa : Hid (w.heap.size ≤ ga) := by rw [hga]; show _ ≤ _; omega
  rw [← hga] at Xa
  try rw [← hga]
  have HGD : Hid (ga ≠ gb ∧ ga ≠ gr ∧ gb ≠ ga ∧ gb ≠ gr ∧ gr ≠ ga ∧ gr ≠ gb) := by rw [hga, hgb, hgr]; exact ⟨by omega, by omega, by omega, by omega, by omega, by omega⟩
  clear hga hgb hgr
  replace hbw := Below.on hbw hb0
  clear hb0
  obtain ⟨ca0, ca1, fa0, fa1⟩ := Xa.out
  have hnea := Xa.out.lt
  obtain ⟨cb0, cb1, fb0, fb1⟩ := Xb.out
  have hneb := Xb.out.lt
  go_wp2_with fail
  clear ca0 ca1 fa0 fa1 hnea
  clear cb0 cb1 fb0 fb1 hneb
  refine (twoProd h h' _).mono ?_
  rintro e9 v9 ⟨p, e, n9, rfl, rfl, hR⟩
  have A1 := Hid.mk9 (ddm_1 HD.out.1.1.hi.lt HD.out.1.2.hi.lt HD.out.2.1 HD.out.2.2 hR)
  clear hR
  obtain ⟨v, hv1, hv2⟩ := ddm_4 A1.out HMN.out.2.2.fin (ddm_k HMN.out.1 HMN.out.2.1 HMN.out.2.2)
  have C4 := Hid.mk9 hv2
  have r4 : ∀ W : World, (binOp .add 30 (Fv e) (Fv k)).run Tryz.prog W = .ok (Fv v) W := fun W => run_float_arith W .add 30 .f64 e k v hv1
  clear hv1 hv2
  have hbr := bDrewN (Below.refl W0.heap.size W0) n9
  generalize W0.drewN n9 = V1 at *
  replace Xa : Hid _ := Xa.out.below hbr
  replace Xb : Hid _ := Xb.out.below hbr
  replace Xr : Hid _ := Xr.out.below hbr
  replace hbw := Below.on hbw hbr
  clear hbr
  obtain ⟨ca0, ca1, fa0, fa1⟩ := Xa.out
  have hnea := Xa.out.lt
  obtain ⟨cb0, cb1, fb0, fb1⟩ := Xb.out
  have hneb := Xb.out.lt
  go_wp2_with fail
  clear ca0 ca1 fa0 fa1 hnea
  clear cb0 cb1 fb0 fb1 hneb
  refine (fastTwoSum p v _).mono ?_
  rintro e9 v9 ⟨s4, r5, n9, rfl, rfl, hR⟩
  have HR4 := Hid.mk9 (ddm_5 HD.out.1.1 HD.out.1.2 HD.out.2.1 HD.out.2.2 A1.out HMN.out.1 HMN.out.2.1 HMN.out.2.2.rn C4.out hR)
  clear hR r1 r2 r3 r4
  have hbr := bDrewN (Below.refl V1.heap.size V1) n9
  generalize V1.drewN n9 = V4 at *
  replace Xa : Hid _ := Xa.out.below hbr
  replace Xb : Hid _ := Xb.out.below hbr
  replace Xr : Hid _ := Xr.out.below hbr
  replace hbw := Below.on hbw hbr
  clear hbr
  go_wp2_with fail
  refine (ddpair s4 r5 _).mono ?_
  rintro e v5 ⟨rfl, hb5⟩
  replace Xa : Hid _ := Xa.out.below hb5
  replace Xb : Hid _ := Xb.out.below hb5
  replace Xr : Hid _ := Xr.out.below hb5
  replace hbw := Below.on hbw hb5
  clear hb5
  obtain ⟨cr0, cr1, fr0, fr1⟩ := Xr.out
  have hner := Xr.out.lt
  go_wp2_with fail
  refine bodyPost_ret (v := .agg #[Fv s4, Fv r5]) (by rw [results_cell1 rfl]; go_simp) rfl ⟨s4, r5, rfl, HR4.out.1, HR4.out.2, ?_⟩
  exact bSet (bSet (hbw) _ _ _ HGr.out) _ _ _ HGr.out
theorem fin_0 : Fin64 0 := ⟨by decide, by decide⟩
theorem ux_0 : ux 0 = 0 := by rw [ux_eq]; decide
theorem ddf_one {x : Nat} (f : Fin64 x) (q : FitQ x) : DdF x 0 := by
  have h1 : (ux x + ux 0).natAbs ≤ 64 * BigU := by rw [ux_0, Int.add_zero]; have := fit_big q.hi; omega
  have h2 := rg_fin (BigU.max h1)
  refine ⟨f, fin_0, h2, ?_⟩
  have h3 := (sm_word2 (neg := decide (ux x + ux 0 < 0)) h2 fun _ => rfl).2.2
  have h4 := h3.ex (by rw [ux_0, Int.add_zero]; exact f.fl)
  rw [h4, ux_0, Int.add_zero]
theorem fmul_0 {h : Nat} : FMul h 0 0 := by
  refine ⟨fin_0, ?_, fun _ => ux_0, by rw [ux_0]; exact Nat.zero_le _⟩
  rw [ux_0, Int.mul_zero, Int.zero_mul]; exact Nat.zero_le _
theorem ddMulF_f {h l x : Nat} (d : DdF h l) (hx : x < 18446744073709551616) (q : FitQ h) (q' : FitQ x) (w : World) :
    Calls Tryz.prog 30 #[.agg #[Fv h, Fv l], Fv x] w fun en w' => ∃ s r, en = .returned (.agg #[Fv s, Fv r]) ∧ DdF s r ∧ 81129638414606681695789005144064 * ((ux s + ux r) * (UE : Int) - (ux h + ux l) * ux x).natAbs ≤ 16 * ((ux h + ux l) * ux x).natAbs ∧ Below w.heap.size w w' := by
  have hSF : ∀ (w : World) (a : Addr) (b : Nat), (store a (Fv b)).run Tryz.prog w = stored Tryz.prog w a (Fv b) .plain := stF
  have fx : Fin64 x := ⟨hx, by have := q'.hi; omega⟩
  have HD : Hid ((DdF h l ∧ DdF x 0) ∧ FitQ h ∧ FitQ x) := ⟨⟨d, ddf_one fx q'⟩, q, q'⟩
  have b1 := fit_big q.hi
  have b2 := fit_big q'.hi
  obtain ⟨m2, hm2, hN⟩ := ddm_2 d.lo fx (form_lo d b1) b2
  have HMN : Hid (FMul l x m2) := hN
  have r2 : ∀ W : World, (binOp .mul 30 (Fv l) (Fv x)).run Tryz.prog W = .ok (Fv m2) W := fun W => run_float_arith W .mul 30 .f64 l x m2 hm2
  clear d q q' b1 b2 hm2 hN fx hx
  go_enter Tryz.func30, Tryz.ntmps30
  go_wp2_with fail
  obtain ⟨W0, hW0⟩ : ∃ W0, W0 = ((w.alloc (.cells #[Fv h, Fv l] 32)).alloc (.cells #[Fv 0, Fv 0] 32)) := ⟨_, rfl⟩
  have Xa : Hid (Box W0 (w.heap.size) (Fv h) (Fv l)) := by rw [hW0]; exact ⟨by go_simp, by go_simp, by go_simp, by go_simp⟩
  have Xr : Hid (Box W0 (w.heap.size + 1) (Fv 0) (Fv 0)) := by rw [hW0]; exact ⟨by go_simp, by go_simp, by go_simp, by go_simp⟩
  have hb0 : Below w.heap.size w W0 := by rw [hW0]; exact below2 w _ _
  rw [← hW0]
  clear hW0
  have hbw : Below w.heap.size w w := Below.refl _ _
  obtain ⟨gr, hgr⟩ : ∃ g, g = w.heap.size + 1 := ⟨_, rfl⟩
  have HGr : Hid (w.heap.size ≤ gr) := by rw [hgr]; show _ ≤ _; omega
  rw [← hgr] at Xr
  try rw [← hgr]
  obtain ⟨ga, hga⟩ : ∃ g, g = w.heap.size := ⟨_, rfl⟩
  have HGa : Hid (w.heap.size ≤ ga) := by rw [hga]; show _ ≤ _; omega
  rw [← hga] at Xa
  try rw [← hga]
  have HGD : Hid (ga ≠ gr ∧ gr ≠ ga) := by rw [hga, hgr]; exact ⟨by omega, by omega⟩
  clear hga hgr
  replace hbw := Below.on hbw hb0
  clear hb0
  obtain ⟨ca0, ca1, fa0, fa1⟩ := Xa.out
  have hnea := Xa.out.lt
  go_wp2_with fail
  clear ca0 ca1 fa0 fa1 hnea
  refine (twoProd h x _).mono ?_
  rintro e9 v9 ⟨p, e, n9, rfl, rfl, hR⟩
  have A1 := Hid.mk9 (ddm_1 HD.out.1.1.hi.lt HD.out.1.2.hi.lt HD.out.2.1 HD.out.2.2 hR)
  clear hR
  obtain ⟨v, hv1, hv2⟩ := ddm_4 A1.out HMN.out.fin (by have := HMN.out.bd; omega)
  have C4 := Hid.mk9 hv2
  have r4 : ∀ W : World, (binOp .add 30 (Fv e) (Fv m2)).run Tryz.prog W = .ok (Fv v) W := fun W => run_float_arith W .add 30 .f64 e m2 v hv1
  clear hv1 hv2
  have hbr := bDrewN (Below.refl W0.heap.size W0) n9
  generalize W0.drewN n9 = V1 at *
  replace Xa : Hid _ := Xa.out.below hbr
  replace Xr : Hid _ := Xr.out.below hbr
  replace hbw := Below.on hbw hbr
  clear hbr
  obtain ⟨ca0, ca1, fa0, fa1⟩ := Xa.out
  have hnea := Xa.out.lt
  go_wp2_with fail
  clear ca0 ca1 fa0 fa1 hnea
  refine (fastTwoSum p v _).mono ?_
  rintro e9 v9 ⟨s4, r5, n9, rfl, rfl, hR⟩
  have hk : Rn 53 (ux 0 + ux m2) (ux m2) := by
    rw [ux_0, Int.zero_add]
    exact ⟨HMN.out.fin.fl, fun z _ => by rw [Int.sub_self]; exact Nat.zero_le _⟩
  have HR4 := Hid.mk9 (ddm_5 HD.out.1.1 HD.out.1.2 HD.out.2.1 HD.out.2.2 A1.out fmul_0 HMN.out hk C4.out hR)
  clear hR r2 r4 hk
  have hbr := bDrewN (Below.refl V1.heap.size V1) n9
  generalize V1.drewN n9 = V4 at *
  replace Xa : Hid _ := Xa.out.below hbr
  replace Xr : Hid _ := Xr.out.below hbr
  replace hbw := Below.on hbw hbr
  clear hbr
  go_wp2_with fail
  refine (ddpair s4 r5 _).mono ?_
  rintro e v5 ⟨rfl, hb5⟩
  replace Xa : Hid _ := Xa.out.below hb5
  replace Xr : Hid _ := Xr.out.below hb5
  replace hbw := Below.on hbw hb5
  clear hb5
  obtain ⟨cr0, cr1, fr0, fr1⟩ := Xr.out
  have hner := Xr.out.lt
  go_wp2_with fail
  have h9 := HR4.out.2
  rw [ux_0, Int.add_zero] at h9
  refine bodyPost_ret (v := .agg #[Fv s4, Fv r5]) (by rw [results_cell1 rfl]; go_simp) rfl ⟨s4, r5, rfl, HR4.out.1, h9, ?_⟩
  exact bSet (bSet (hbw) _ _ _ HGr.out) _ _ _ HGr.out
theorem ddSqr_f {h l : Nat} (d : DdF h l) (q : FitQ h) (w : World) :
    Calls Tryz.prog 21 #[.agg #[Fv h, Fv l]] w fun en w' => ∃ s r, en = .returned (.agg #[Fv s, Fv r]) ∧ DdF s r ∧ 81129638414606681695789005144064 * ((ux s + ux r) * (UE : Int) - (ux h + ux l) * (ux h + ux l)).natAbs ≤ 16 * ((ux h + ux l) * (ux h + ux l)).natAbs ∧ Below w.heap.size w w' := by
  have hSF : ∀ (w : World) (a : Addr) (b : Nat), (store a (Fv b)).run Tryz.prog w = stored Tryz.prog w a (Fv b) .plain := stF
  have HD : Hid (DdF h l ∧ FitQ h) := ⟨d, q⟩
  clear d q
  go_enter Tryz.func21, Tryz.ntmps21
  go_wp2_with fail
  obtain ⟨W0, hW0⟩ : ∃ W0, W0 = ((w.alloc (.cells #[Fv h, Fv l] 32)).alloc (.cells #[Fv 0, Fv 0] 32)) := ⟨_, rfl⟩
  have Xa : Hid (Box W0 (w.heap.size) (Fv h) (Fv l)) := by rw [hW0]; exact ⟨by go_simp, by go_simp, by go_simp, by go_simp⟩
  have Xr : Hid (Box W0 (w.heap.size + 1) (Fv 0) (Fv 0)) := by rw [hW0]; exact ⟨by go_simp, by go_simp, by go_simp, by go_simp⟩
  have hb0 : Below w.heap.size w W0 := by rw [hW0]; exact below2 w _ _
  rw [← hW0]
  clear hW0
  have hbw : Below w.heap.size w w := Below.refl _ _
  obtain ⟨gr, hgr⟩ : ∃ g, g = w.heap.size + 1 := ⟨_, rfl⟩
  have HGr : Hid (w.heap.size ≤ gr) := by rw [hgr]; show _ ≤ _; omega
  rw [← hgr] at Xr
  try rw [← hgr]
  obtain ⟨ga, hga⟩ : ∃ g, g = w.heap.size := ⟨_, rfl⟩
  have HGa : Hid (w.heap.size ≤ ga) := by rw [hga]; show _ ≤ _; omega
  rw [← hga] at Xa
  try rw [← hga]
  have HGD : Hid (ga ≠ gr ∧ gr ≠ ga) := by rw [hga, hgr]; exact ⟨by omega, by omega⟩
  clear hga hgr
  replace hbw := Below.on hbw hb0
  clear hb0
  refine (ddMul_f HD.out.1 HD.out.1 HD.out.2 HD.out.2 _).mono ?_
  rintro e v9 ⟨s9, r9, rfl, hd9, hq9, hb9⟩
  have HR9 := Hid.mk9 (And.intro hd9 hq9)
  clear hd9 hq9
  replace Xa : Hid _ := Xa.out.below hb9
  replace Xr : Hid _ := Xr.out.below hb9
  replace hbw := Below.on hbw hb9
  clear hb9
  obtain ⟨cr0, cr1, fr0, fr1⟩ := Xr.out
  have hner := Xr.out.lt
  go_wp2_with fail
  refine bodyPost_ret (v := .agg #[Fv s9, Fv r9]) (by rw [results_cell1 rfl]; go_simp) rfl ⟨s9, r9, rfl, HR9.out.1, HR9.out.2, ?_⟩
  exact bSet (bSet (hbw) _ _ _ HGr.out) _ _ _ HGr.out
theorem infinity_64v {I : Nat} (hI : I = 9218868437227405312) (w : World) : Calls Tryz.prog 169 #[WV 64 53 (-1074)] w fun e w' => e = .returned (U I) ∧ Below w.heap.size w w' := by
  subst hI
  exact infinity_64 w
theorem class_64 {I : Nat} (hI : I = 9218868437227405312) (neg : Bool) (s : Nat) (w : World) : Calls Tryz.prog 155 #[PV 64 53 (-1074) neg s] w fun e w' => e = .returned (.int .i64 (clsN 4503599627370496 I s)) ∧ Below w.heap.size w w' := by
  obtain ⟨c, hc⟩ : ∃ c, c = clsN 4503599627370496 I s := ⟨_, rfl⟩
  rw [← hc]
  have HC : Hid (c = clsN 4503599627370496 I s) := hc
  have HI : Hid (I = 9218868437227405312) := hI
  have hHI : 4503599627370496 ≤ I := by omega
  clear hc hI
  go_enter Tryz.func155, Tryz.ntmps155
  by_cases h0 : s = 0
  · subst h0
    have HC2 : Hid (c = 0) := HC.out
    go_wp2_with fail
    go_ret
    exact ⟨ret_int HC2.out.symm, bwAlloc w _⟩
  have h0b : ((s : Int) == 0) = false := by simp; omega
  by_cases h1 : s < 4503599627370496
  · have HC2 : Hid (c = 1) := by show _ = _; rw [HC.out]; simp [clsN, h0, h1]
    have h1b : decide ((s : Int) < 4503599627370496) = true := decide_eq_true (by omega)
    go_wp2_with fail
    go_quiet (fail)
    go_wp2_with fail
    go_ret
    exact ⟨ret_int HC2.out.symm, bwDrewN (bwAlloc w _) _⟩
  have h1b : decide ((s : Int) < 4503599627370496) = false := decide_eq_false (by omega)
  go_wp2_with fail
  go_quiet (fail)
  go_wp2_with fail
  clear h0b h1b
  have X := (B5q.new w 161 (.int .i64 64) (.int .i64 53) (.int .i64 (-1074)) (.bool neg) (U s)).drewN nq
  have hb0 := bwDrewN (bwAlloc w (.cells #[.int .i64 64, .int .i64 53, .int .i64 (-1074), .bool neg, U s] 161)) nq
  generalize (w.alloc (.cells #[.int .i64 64, .int .i64 53, .int .i64 (-1074), .bool neg, U s] 161)).drewN nq = W2 at *
  obtain ⟨g, hg⟩ : ∃ g, g = w.heap.size := ⟨_, rfl⟩
  rw [← hg] at X ⊢
  clear hg
  have X2 : Hid (B5q W2.drew g (.int .i64 64) (.int .i64 53) (.int .i64 (-1074)) (.bool neg) (U s)) := X.drew
  have HB2 : Hid (Below w.heap.size w W2.drew) := bwDrew hb0
  obtain ⟨x0, x1, x2, x3, x4, x5, x6, x7, x8, x9⟩ := X
  clear hb0
  by_cases h2 : s < I
  · have HC2 : Hid (c = 2) := by show _ = _; rw [HC.out]; simp [clsN, h0, h1, h2]
    have h2b : decide ((s : Int) < (I : Int)) = true := decide_eq_true (by omega)
    have h2n : decide (s < I) = true := decide_eq_true h2
    clear h0 h1 h2 hHI
    go_region_with (go_at_call 169; (with_reducible refine (infinity_64v HI.out W2.drew).mono ?_); rintro e w3 ⟨rfl, hb3⟩; have X3 : Hid (B5q w3 g (.int .i64 64) (.int .i64 53) (.int .i64 (-1074)) (.bool neg) (U s)) := X2.out.below hb3; obtain ⟨p0, p1, p2, p3, p4, p5, p6, p7, p8, p9⟩ := X3.out; have HB3 : Hid (Below w.heap.size w w3) := bwOn HB2.out hb3; clear hb3)
    all_goals
      (go_wp2_with fail
       go_ret
       exact ⟨ret_int HC2.out.symm, HB3.out⟩)
  have h2b : decide ((s : Int) < (I : Int)) = false := decide_eq_false (by omega)
  have h2n : decide (s < I) = false := decide_eq_false h2
  by_cases h3 : s = I
  · have HC2 : Hid (c = 3) := by show _ = _; rw [HC.out]; unfold clsN; rw [if_neg h0, if_neg h1, if_neg h2, if_pos h3]
    have h3b : ((s : Int) == (I : Int)) = true := by simp; omega
    have h3n : (s == I) = true := by simp [h3]
    have h3m : decide (s = I) = true := decide_eq_true h3
    clear h0 h1 h2 h3 hHI
    go_region_with (go_at_call 169; (with_reducible refine (infinity_64v HI.out W2.drew).mono ?_); rintro e w3 ⟨rfl, hb3⟩; have X3 : Hid (B5q w3 g (.int .i64 64) (.int .i64 53) (.int .i64 (-1074)) (.bool neg) (U s)) := X2.out.below hb3; obtain ⟨p0, p1, p2, p3, p4, p5, p6, p7, p8, p9⟩ := X3.out; have HB3 : Hid (Below w.heap.size w w3) := bwOn HB2.out hb3; clear hb3)
    all_goals
      (clear x0 x1 x2 x3 x4 x5 x6 x7 x8 x9
       go_wp2_with fail
       clear h2b h2n
       go_region_with (go_at_call 169; (with_reducible refine (infinity_64v HI.out w3.drew).mono ?_); rintro e w4 ⟨rfl, hb4⟩; obtain ⟨q0, q1, q2, q3, q4, q5, q6, q7, q8, q9⟩ := X3.out.drew.below hb4; have HB4 : Hid (Below w.heap.size w w4) := bwOn (bwDrew HB3.out) hb4; clear hb4)
       all_goals
         (go_wp2_with fail
          go_ret
          exact ⟨ret_int HC2.out.symm, HB4.out⟩))
  have h3b : ((s : Int) == (I : Int)) = false := by simp; omega
  have h3n : (s == I) = false := by simp [h3]
  have h3m : decide (s = I) = false := decide_eq_false h3
  have HC2 : Hid (c = 4) := by show _ = _; rw [HC.out]; simp [clsN, h0, h1, h2, h3]
  clear h0 h1 h2 h3 hHI
  go_region_with (go_at_call 169; (with_reducible refine (infinity_64v HI.out W2.drew).mono ?_); rintro e w3 ⟨rfl, hb3⟩; have X3 : Hid (B5q w3 g (.int .i64 64) (.int .i64 53) (.int .i64 (-1074)) (.bool neg) (U s)) := X2.out.below hb3; obtain ⟨p0, p1, p2, p3, p4, p5, p6, p7, p8, p9⟩ := X3.out; have HB3 : Hid (Below w.heap.size w w3) := bwOn HB2.out hb3; clear hb3)
  all_goals
    (clear x0 x1 x2 x3 x4 x5 x6 x7 x8 x9
     go_wp2_with fail
     clear h2b h2n
     go_region_with (go_at_call 169; (with_reducible refine (infinity_64v HI.out w3.drew).mono ?_); rintro e w4 ⟨rfl, hb4⟩; obtain ⟨q0, q1, q2, q3, q4, q5, q6, q7, q8, q9⟩ := X3.out.drew.below hb4; have HB4 : Hid (Below w.heap.size w w4) := bwOn (bwDrew HB3.out) hb4; clear hb4)
     all_goals
       (go_wp2_with fail
        go_ret
        exact ⟨ret_int HC2.out.symm, HB4.out⟩))
theorem cls_ne {H I s : Nat} (h : s ≤ I) : clsN H I s ≠ 4 := by
  unfold clsN
  by_cases h0 : s = 0
  · rw [if_pos h0]; decide
  · rw [if_neg h0]
    by_cases h1 : s < H
    · rw [if_pos h1]; decide
    · rw [if_neg h1]
      by_cases h2 : s < I
      · rw [if_pos h2]; decide
      · rw [if_neg h2, if_pos (by omega)]; decide
theorem cls_nan {H I s : Nat} (hH : H ≤ I) (h : I < s) : clsN H I s = 4 := by
  unfold clsN
  rw [if_neg (by omega), if_neg (by omega), if_neg (by omega), if_neg (by omega)]
theorem cls_inf {H I s : Nat} (hH : H ≤ I) (h0 : 0 < I) : (clsN H I s == 3) = decide (s = I) := by
  unfold clsN
  by_cases h3 : s = I
  · rw [if_neg (by omega), if_neg (by omega), if_neg (by omega), if_pos h3]; simp [h3]
  · rw [decide_eq_false h3]
    by_cases h0 : s = 0
    · rw [if_pos h0]; decide
    · rw [if_neg h0]
      by_cases h1 : s < H
      · rw [if_pos h1]; decide
      · rw [if_neg h1]
        by_cases h2 : s < I
        · rw [if_pos h2]; decide
        · rw [if_neg h2, if_neg h3]; decide
theorem parts_64 (s q m : Nat) (hq : q = s / 4503599627370496 - 1) (hm : m = s - q * 4503599627370496) (hs : s < 9223372036854775808) (w : World) : Calls Tryz.prog 136 #[WV 64 53 (-1074), U s] w fun e w' => e = .returned (.tuple #[U m, .int .i64 (-1074 + (q : Int))]) ∧ Below w.heap.size w w' := by
  obtain ⟨r, hr⟩ : ∃ r : Int, r = -1074 + (q : Int) := ⟨_, rfl⟩
  obtain ⟨y, hy⟩ : ∃ y, y = q * 4503599627370496 := ⟨_, rfl⟩
  rw [← hr]
  have e0 : max ((s : Int) / 4503599627370496 - 1) 0 = (q : Int) := by omega
  have e1 : IntKind.u64.wrap (q : Int) = (q : Int) := by rw [IntKind.wrap_u64]; omega
  have e2 : IntKind.u64.wrap ((q : Int) * 4503599627370496) = (y : Int) := by rw [IntKind.wrap_u64]; omega
  have e3 : IntKind.u64.wrap ((s : Int) - (y : Int)) = (m : Int) := by rw [IntKind.wrap_u64]; omega
  have e4 : IntKind.i64.wrap (-1074 + (q : Int)) = r := by rw [hr]; simp [IntKind.wrap, IntKind.signed, IntKind.bits]; omega
  have HS : Hid (s < 9223372036854775808) := hs
  have hs31 : (s : Int) < 9223372036854775808 := by omega
  clear hr hy hq hm hs
  go_enter Tryz.func136, Tryz.ntmps136
  go_wp2_with fail
  have X0 : B3 (w.alloc (.cells #[.int .i64 64, .int .i64 53, .int .i64 (-1074)] 159)) w.heap.size (.int .i64 64) (.int .i64 53) (.int .i64 (-1074)) := B3.new ..
  have hb0 : Below w.heap.size w (w.alloc (.cells #[.int .i64 64, .int .i64 53, .int .i64 (-1074)] 159)) := bwAlloc w _
  generalize w.alloc (.cells #[.int .i64 64, .int .i64 53, .int .i64 (-1074)] 159) = W at *
  obtain ⟨g, hg⟩ : ∃ g, g = w.heap.size := ⟨_, rfl⟩
  rw [← hg] at X0 ⊢
  clear hg
  have XB : Hid (B3 W.drew g (.int .i64 64) (.int .i64 53) (.int .i64 (-1074))) := X0.drew
  have HBW : Hid (Below w.heap.size w W.drew) := bwDrew hb0
  have XW : Hid (B3 W g (.int .i64 64) (.int .i64 53) (.int .i64 (-1074))) := X0
  have HB0 : Hid (Below w.heap.size w W) := hb0
  clear X0 hb0
  refine (stored_64 _).mono ?_
  rintro e w1 ⟨rfl, hb1⟩
  have Xw1 : Hid (B3 w1 g (.int .i64 64) (.int .i64 53) (.int .i64 (-1074))) := XW.out.below hb1
  have HBw1 : Hid (Below w.heap.size w w1) := bwOn HB0.out hb1
  clear hb1
  have c6 := Xw1.out
  obtain ⟨c0, c1, c2, c3, c4, c5⟩ := c6
  go_wp2_with fail
  clear c0 c1 c2 c3 c4 c5 XB HBW XW HB0
  have XB : Hid (B3 w1.drew g (.int .i64 64) (.int .i64 53) (.int .i64 (-1074))) := Xw1.out.drew
  have HBW : Hid (Below w.heap.size w w1.drew) := bwDrew HBw1.out
  refine wp_region_J (fun W' => B3 W' g (.int .i64 64) (.int .i64 53) (.int .i64 (-1074))) (by kernel_rfl) ?_
  refine wpJ_take (i := 0) (v := ?v31x0) rfl (by kernel_rfl) (by kernel_rfl) (by kernel_rfl) (fun _ _ _ h => h) (by rfl) ?hy31x0 XB.out ?rest31x0
  case hy31x0 => (intro W' hJ; obtain ⟨c0, c1, c2, c3, c4, c5⟩ := hJ; go_simp; first | done | with_reducible rfl)
  refine wpJ_take (i := 1) (v := ?v32x1) rfl (by kernel_rfl) (by kernel_rfl) (by kernel_rfl) (fun _ _ _ h => h) (by rfl) ?hy32x1 XB.out ?rest32x1
  case hy32x1 => (intro W' hJ; obtain ⟨c0, c1, c2, c3, c4, c5⟩ := hJ; go_simp; first | done | with_reducible rfl)
  refine wpJ_take (i := 2) (v := ?v33x2) rfl (by kernel_rfl) (by kernel_rfl) (by kernel_rfl) (fun _ _ _ h => h) (by rfl) ?hy33x2 XB.out ?rest33x2
  case hy33x2 => (intro W' hJ; obtain ⟨c0, c1, c2, c3, c4, c5⟩ := hJ; go_simp; first | done | with_reducible rfl)
  refine wpJ_take (i := 3) (v := ?v34x3) rfl (by kernel_rfl) (by kernel_rfl) (by kernel_rfl) (fun _ _ _ h => h) (by rfl) ?hy34x3 XB.out ?rest34x3
  case hy34x3 => (intro W' hJ; obtain ⟨c0, c1, c2, c3, c4, c5⟩ := hJ; go_simp; first | done | with_reducible rfl)
  refine wpJ_take (i := 7) (v := ?v35x7) rfl (by kernel_rfl) (by kernel_rfl) (by kernel_rfl) (fun _ _ _ h => h) (by rfl) ?hy35x7 XB.out ?rest35x7
  case hy35x7 => (intro W' hJ; obtain ⟨c0, c1, c2, c3, c4, c5⟩ := hJ; go_simp; first | done | with_reducible rfl)
  refine wpJ_take (i := 8) (v := ?v36x8) rfl (by kernel_rfl) (by kernel_rfl) (by kernel_rfl) (fun _ _ _ h => h) (by rfl) ?hy36x8 XB.out ?rest36x8
  case hy36x8 => (intro W' hJ; obtain ⟨c0, c1, c2, c3, c4, c5⟩ := hJ; go_simp; first | done | with_reducible rfl)
  refine wpJ_take (i := 9) (v := ?v37x9) rfl (by kernel_rfl) (by kernel_rfl) (by kernel_rfl) (fun _ _ _ h => h) (by rfl) ?hy37x9 XB.out ?rest37x9
  case hy37x9 => (intro W' hJ; obtain ⟨c0, c1, c2, c3, c4, c5⟩ := hJ; go_simp; first | done | with_reducible rfl)
  refine wpJ_take (i := 10) (v := ?v38x10) rfl (by kernel_rfl) (by kernel_rfl) (by kernel_rfl) (fun _ _ _ h => h) (by rfl) ?hy38x10 XB.out ?rest38x10
  case hy38x10 => (intro W' hJ; obtain ⟨c0, c1, c2, c3, c4, c5⟩ := hJ; go_simp; first | done | with_reducible rfl)
  refine wpJ_on 4 rfl fun K hK => ?_
  go_simp
  refine (stored_64 _).mono ?_
  rintro e w2 ⟨rfl, hb2⟩
  have Xw2 : Hid (B3 w2 g (.int .i64 64) (.int .i64 53) (.int .i64 (-1074))) := XB.out.below hb2
  have HBw2 : Hid (Below w.heap.size w w2) := bwOn HBW.out hb2
  clear hb2
  refine hK _ _ Xw2.out ?_
  clear hK
  refine wpJ_take (i := 5) (v := ?v39x5) rfl (by kernel_rfl) (by kernel_rfl) (by kernel_rfl) (fun _ _ _ h => h) (by rfl) ?hy39x5 Xw2.out ?rest39x5
  case hy39x5 => (intro W' hJ; obtain ⟨c0, c1, c2, c3, c4, c5⟩ := hJ; go_simp; first | done | with_reducible rfl)
  refine wpJ_take (i := 6) (v := ?v40x6) rfl (by kernel_rfl) (by kernel_rfl) (by kernel_rfl) (fun _ _ _ h => h) (by rfl) ?hy40x6 Xw2.out ?rest40x6
  case hy40x6 => (intro W' hJ; obtain ⟨c0, c1, c2, c3, c4, c5⟩ := hJ; go_simp; first | done | with_reducible rfl)
  refine wpJ_take (i := 11) (v := ?v41x11) rfl (by kernel_rfl) (by kernel_rfl) (by kernel_rfl) (fun _ _ _ h => h) (by rfl) ?hy41x11 Xw2.out ?rest41x11
  case hy41x11 => (intro W' hJ; obtain ⟨c0, c1, c2, c3, c4, c5⟩ := hJ; go_simp; first | done | with_reducible rfl)
  refine wpJ_take (i := 12) (v := ?v42x12) rfl (by kernel_rfl) (by kernel_rfl) (by kernel_rfl) (fun _ _ _ h => h) (by rfl) ?hy42x12 Xw2.out ?rest42x12
  case hy42x12 => (intro W' hJ; obtain ⟨c0, c1, c2, c3, c4, c5⟩ := hJ; go_simp; first | done | with_reducible rfl)
  refine wpJ_done (by kernel_rfl) ?_ _
  go_wp2_with fail
  go_ret2
  exact ⟨rfl, HBw2.out⟩
theorem dform_z {p : Option Addr} {m c : Nat} {w : World} {z e : Int} {s : Bool} (h : ZN w s p m c z) (hz : z = 0) (he : e = 0) :
    Calls Tryz.prog 41 #[DV s p m c e] w fun en w' => en = .returned (.bool true) ∧ Below w.heap.size w w' := by
  subst hz
  subst he
  have H : Hid (ZN w s p m c 0) := h
  clear h
  go_enter Tryz.func41, Tryz.ntmps41
  go_wp2_with fail
  obtain ⟨W0, hW0⟩ : ∃ W0, W0 = (w.alloc (.cells #[.bool s, .slice p m c, .int .i64 0] 38)) := ⟨_, rfl⟩
  have Xd : Hid (B3q W0 (w.heap.size) (.bool s) (.slice p m c) (.int .i64 0)) := by rw [hW0]; exact ⟨by go_simp, by go_simp, by go_simp, by go_simp, by go_simp, by go_simp⟩
  have hb0 : Below w.heap.size w W0 := by rw [hW0]; exact below1 w _
  rw [← hW0]
  clear hW0
  have hbw : Below w.heap.size w w := Below.refl _ _
  obtain ⟨gd, hgd⟩ : ∃ g, g = w.heap.size := ⟨_, rfl⟩
  have HGd : Hid (w.heap.size ≤ gd) := by rw [hgd]; show _ ≤ _; omega
  rw [← hgd] at Xd
  try rw [← hgd]
  clear hgd
  replace hbw := Below.on hbw hb0
  clear hb0
  refine (zform (H.out.below hbw)).mono ?_
  rintro e v1 ⟨rfl, hb1⟩
  replace Xd : Hid _ := Xd.out.below hb1
  replace hbw := Below.on hbw hb1
  clear hb1
  obtain ⟨cd0, cd1, cd2, fd0, fd1, fd2⟩ := Xd.out
  have hned : gd < v1.heap.size := World.block_lt_of_cell? v1 _ cd0
  go_wp2_with fail
  clear cd0 cd1 cd2 fd0 fd1 fd2 hned
  refine (zsign (H.out.below hbw)).mono ?_
  rintro e v2 ⟨rfl, hb2⟩
  rw [show sgnI 0 = 0 from rfl]
  replace Xd : Hid _ := Xd.out.below hb2
  replace hbw := Below.on hbw hb2
  clear hb2
  obtain ⟨cd0, cd1, cd2, fd0, fd1, fd2⟩ := Xd.out
  have hned : gd < v2.heap.size := World.block_lt_of_cell? v2 _ cd0
  go_wp2_with fail
  clear cd0 cd1 cd2 fd0 fd1 fd2 hned
  go_ret
  exact ⟨rfl, hbw⟩
theorem dform_o {p : Option Addr} {m c : Nat} {w : World} {z e : Int} {s : Bool} (h : ZN w s p m c z) (hz : z % 2 = 1) (he : -1048576 ≤ e ∧ e ≤ 1048576) :
    Calls Tryz.prog 41 #[DV s p m c e] w fun en w' => en = .returned (.bool true) ∧ Below w.heap.size w w' := by
  have H : Hid (ZN w s p m c z) := h
  have HZ : Hid (z % 2 = 1) := hz
  have h1 : (-1048576 : Int) ≤ e := he.1
  have h2 : e ≤ 1048576 := he.2
  have h3 : ¬ e < -1048576 := by omega
  have h4 : ¬ 1048576 < e := by omega
  clear hz he
  clear h
  go_enter Tryz.func41, Tryz.ntmps41
  go_wp2_with fail
  obtain ⟨W0, hW0⟩ : ∃ W0, W0 = (w.alloc (.cells #[.bool s, .slice p m c, .int .i64 e] 38)) := ⟨_, rfl⟩
  have Xd : Hid (B3q W0 (w.heap.size) (.bool s) (.slice p m c) (.int .i64 e)) := by rw [hW0]; exact ⟨by go_simp, by go_simp, by go_simp, by go_simp, by go_simp, by go_simp⟩
  have hb0 : Below w.heap.size w W0 := by rw [hW0]; exact below1 w _
  rw [← hW0]
  clear hW0
  have hbw : Below w.heap.size w w := Below.refl _ _
  obtain ⟨gd, hgd⟩ : ∃ g, g = w.heap.size := ⟨_, rfl⟩
  have HGd : Hid (w.heap.size ≤ gd) := by rw [hgd]; show _ ≤ _; omega
  rw [← hgd] at Xd
  try rw [← hgd]
  clear hgd
  replace hbw := Below.on hbw hb0
  clear hb0
  refine (zform (H.out.below hbw)).mono ?_
  rintro e v1 ⟨rfl, hb1⟩
  replace Xd : Hid _ := Xd.out.below hb1
  replace hbw := Below.on hbw hb1
  clear hb1
  obtain ⟨cd0, cd1, cd2, fd0, fd1, fd2⟩ := Xd.out
  have hned : gd < v1.heap.size := World.block_lt_of_cell? v1 _ cd0
  go_wp2_with fail
  clear cd0 cd1 cd2 fd0 fd1 fd2 hned
  refine (zsign (H.out.below hbw)).mono ?_
  rintro e v2 ⟨rfl, hb2⟩
  obtain ⟨sg, hsg⟩ : ∃ sg, sg = sgnI (z) := ⟨_, rfl⟩
  rw [← hsg]
  have hs0 : (sg == 0) = false := by rw [hsg]; have := HZ.out; unfold sgnI; split <;> (try split) <;> simp <;> omega
  clear hsg
  replace Xd : Hid _ := Xd.out.below hb2
  replace hbw := Below.on hbw hb2
  clear hb2
  obtain ⟨cd0, cd1, cd2, fd0, fd1, fd2⟩ := Xd.out
  have hned : gd < v2.heap.size := World.block_lt_of_cell? v2 _ cd0
  go_wp2_with fail
  clear cd0 cd1 cd2 fd0 fd1 fd2 hned
  obtain ⟨xs, hX⟩ := (H.out.below hbw).ex
  refine (bit_int hX.at_ (by have := hX.le; omega) 0 (by decide)).mono ?_
  rintro e2 v3 ⟨rfl, hw⟩
  obtain rfl := hw.symm
  clear hw
  rw [show bitO (valB B64 xs) 0 = true from by unfold bitO; rw [if_neg (by omega), hX.nf.val]; simp; have := HZ.out; omega]
  clear hX
  obtain ⟨cd0, cd1, cd2, fd0, fd1, fd2⟩ := Xd.out
  have hned : gd < v2.heap.size := World.block_lt_of_cell? v2 _ cd0
  go_wp2_with fail
  clear cd0 cd1 cd2 fd0 fd1 fd2 hned
  go_ret
  exact ⟨rfl, hbw⟩
theorem dform_t {p : Option Addr} {m c : Nat} {w : World} {z e : Int} {s : Bool} (h : DN w s p m c e z) :
    Calls Tryz.prog 41 #[DV s p m c e] w fun en w' => en = .returned (.bool true) ∧ Below w.heap.size w w' := by
  rcases h.fm with ⟨h1, h2⟩ | ⟨h1, h2⟩
  · exact dform_z h.zn h1 h2
  · exact dform_o h.zn h1 h2
theorem moved_ok (e n : Int) (w : World) (he : -1048576 ≤ e ∧ e ≤ 2097152) (hs : -1048576 ≤ e + n ∧ e + n ≤ 1048576) :
    Calls Tryz.prog 77 #[.int .i64 e, .int .i64 n] w fun en w' => en = .returned (.tuple #[.int .i64 (e + n), .int .i64 0]) ∧ w' = w := by
  have f1 : wrap64 (-1048576 - e) = -1048576 - e := by simp only [wrap64]; omega
  have f2 : wrap64 (1048576 - e) = 1048576 - e := by simp only [wrap64]; omega
  have f3 : wrap64 (e + n) = e + n := by simp only [wrap64]; omega
  have f4 : ¬ n < -1048576 - e := by omega
  have f5 : ¬ 1048576 - e < n := by omega
  clear he hs
  go_enter Tryz.func77, Tryz.ntmps77
  go_wp2_with fail
  go_ret2
  exact ⟨rfl, rfl⟩
theorem make_z {p : Option Addr} {m c : Nat} {w : World} {z e : Int} {s : Bool} (h : ZN w s p m c z) (he : -1048576 ≤ e ∧ e ≤ 524288) (hT : Tab w) (hz : z = 0) :
    Calls Tryz.prog 46 #[ZV s p m c, .int .i64 e] w fun en w' => ∃ v zo eo, en = .returned (.tuple #[v, .int .i64 0]) ∧ AnsD w.heap.size w' v zo eo ∧ DFm zo eo ∧ dv zo eo = dv z e ∧ zo.natAbs ≤ z.natAbs ∧ (zo = 0 ∨ (e ≤ eo ∧ eo ≤ e + 524288)) ∧ Below w.heap.size w w' := by
  have H : Hid (ZN w s p m c z) := h
  have HE : Hid (-1048576 ≤ e ∧ e ≤ 524288) := he
  have TB : Hid (Tab w) := hT
  subst hz
  clear h he hT
  go_enter Tryz.func46, Tryz.ntmps46
  go_wp2_with fail
  obtain ⟨W0, hW0⟩ : ∃ W0, W0 = ((w.alloc (.cells #[.bool s, .slice p m c] 36)).alloc (.cells #[.bool false, .slice none 0 0, .int .i64 0] 38)) := ⟨_, rfl⟩
  have Xm : Hid (Box W0 (w.heap.size) (.bool s) (.slice p m c)) := by rw [hW0]; exact ⟨by go_simp, by go_simp, by go_simp, by go_simp⟩
  have Xr : Hid (B3q W0 (w.heap.size + 1) (.bool false) (.slice none 0 0) (.int .i64 0)) := by rw [hW0]; exact ⟨by go_simp, by go_simp, by go_simp, by go_simp, by go_simp, by go_simp⟩
  have hb0 : Below w.heap.size w W0 := by rw [hW0]; exact below2 w _ _
  rw [← hW0]
  clear hW0
  have hbw : Below w.heap.size w w := Below.refl _ _
  obtain ⟨gr, hgr⟩ : ∃ g, g = w.heap.size + 1 := ⟨_, rfl⟩
  have HGr : Hid (w.heap.size ≤ gr) := by rw [hgr]; show _ ≤ _; omega
  rw [← hgr] at Xr
  try rw [← hgr]
  obtain ⟨gm, hgm⟩ : ∃ g, g = w.heap.size := ⟨_, rfl⟩
  have HGm : Hid (w.heap.size ≤ gm) := by rw [hgm]; show _ ≤ _; omega
  rw [← hgm] at Xm
  try rw [← hgm]
  have HGD : Hid (gm ≠ gr ∧ gr ≠ gm) := by rw [hgm, hgr]; exact ⟨by omega, by omega⟩
  clear hgm hgr
  replace hbw := Below.on hbw hb0
  clear hb0
  refine (zform (H.out.below hbw)).mono ?_
  rintro e v1 ⟨rfl, hb1⟩
  replace Xm : Hid _ := Xm.out.below hb1
  replace Xr : Hid _ := Xr.out.below hb1
  replace hbw := Below.on hbw hb1
  clear hb1
  obtain ⟨cm0, cm1, fm0, fm1⟩ := Xm.out
  have hnem := Xm.out.lt
  go_wp2_with fail
  clear cm0 cm1 fm0 fm1 hnem
  refine (zsign (H.out.below hbw)).mono ?_
  rintro e v2 ⟨rfl, hb2⟩
  rw [show sgnI 0 = 0 from rfl]
  replace Xm : Hid _ := Xm.out.below hb2
  replace Xr : Hid _ := Xr.out.below hb2
  replace hbw := Below.on hbw hb2
  clear hb2
  obtain ⟨cr0, cr1, cr2, fr0, fr1, fr2⟩ := Xr.out
  have hner : gr < v2.heap.size := World.block_lt_of_cell? v2 _ cr0
  go_wp2_with fail
  refine bodyPost_ret (v := .tuple #[DV false none 0 0 0, .int .i64 0]) (by rw [results_cell_tmp rfl]; go_simp) rfl ⟨_, 0, 0, rfl, ⟨none, 0, [], rfl, ⟨rfl, Dig.nil _, .inl rfl⟩, Nf.nil _, by omega⟩, .inl ⟨rfl, rfl⟩, by rw [dv_zero, dv_zero], by omega, .inl rfl, ?_⟩
  first | exact hbw | exact bSet (bSet (bSet hbw _ _ _ HGr.out) _ _ _ HGr.out) _ _ _ HGr.out
theorem make_n {p : Option Addr} {m c : Nat} {w : World} {z e : Int} {s : Bool} (h : ZN w s p m c z) (he : -1048576 ≤ e ∧ e ≤ 524288) (hT : Tab w) (hz : z ≠ 0) :
    Calls Tryz.prog 46 #[ZV s p m c, .int .i64 e] w fun en w' => ∃ v zo eo, en = .returned (.tuple #[v, .int .i64 0]) ∧ AnsD w.heap.size w' v zo eo ∧ DFm zo eo ∧ dv zo eo = dv z e ∧ zo.natAbs ≤ z.natAbs ∧ (zo = 0 ∨ (e ≤ eo ∧ eo ≤ e + 524288)) ∧ Below w.heap.size w w' := by
  have H : Hid (ZN w s p m c z) := h
  have HE : Hid (-1048576 ≤ e ∧ e ≤ 524288) := he
  have TB : Hid (Tab w) := hT
  have HZ : Hid (z ≠ 0) := hz
  clear hz
  clear h he hT
  go_enter Tryz.func46, Tryz.ntmps46
  go_wp2_with fail
  obtain ⟨W0, hW0⟩ : ∃ W0, W0 = ((w.alloc (.cells #[.bool s, .slice p m c] 36)).alloc (.cells #[.bool false, .slice none 0 0, .int .i64 0] 38)) := ⟨_, rfl⟩
  have Xm : Hid (Box W0 (w.heap.size) (.bool s) (.slice p m c)) := by rw [hW0]; exact ⟨by go_simp, by go_simp, by go_simp, by go_simp⟩
  have Xr : Hid (B3q W0 (w.heap.size + 1) (.bool false) (.slice none 0 0) (.int .i64 0)) := by rw [hW0]; exact ⟨by go_simp, by go_simp, by go_simp, by go_simp, by go_simp, by go_simp⟩
  have hb0 : Below w.heap.size w W0 := by rw [hW0]; exact below2 w _ _
  rw [← hW0]
  clear hW0
  have hbw : Below w.heap.size w w := Below.refl _ _
  obtain ⟨gr, hgr⟩ : ∃ g, g = w.heap.size + 1 := ⟨_, rfl⟩
  have HGr : Hid (w.heap.size ≤ gr) := by rw [hgr]; show _ ≤ _; omega
  rw [← hgr] at Xr
  try rw [← hgr]
  obtain ⟨gm, hgm⟩ : ∃ g, g = w.heap.size := ⟨_, rfl⟩
  have HGm : Hid (w.heap.size ≤ gm) := by rw [hgm]; show _ ≤ _; omega
  rw [← hgm] at Xm
  try rw [← hgm]
  have HGD : Hid (gm ≠ gr ∧ gr ≠ gm) := by rw [hgm, hgr]; exact ⟨by omega, by omega⟩
  clear hgm hgr
  replace hbw := Below.on hbw hb0
  clear hb0
  refine (zform (H.out.below hbw)).mono ?_
  rintro e v1 ⟨rfl, hb1⟩
  replace Xm : Hid _ := Xm.out.below hb1
  replace Xr : Hid _ := Xr.out.below hb1
  replace hbw := Below.on hbw hb1
  clear hb1
  obtain ⟨cm0, cm1, fm0, fm1⟩ := Xm.out
  have hnem := Xm.out.lt
  go_wp2_with fail
  clear cm0 cm1 fm0 fm1 hnem
  refine (zsign (H.out.below hbw)).mono ?_
  rintro e v2 ⟨rfl, hb2⟩
  obtain ⟨sg, hsg⟩ : ∃ sg, sg = sgnI (z) := ⟨_, rfl⟩
  rw [← hsg]
  have hs0 : (sg == 0) = false := by rw [hsg]; have := HZ.out; unfold sgnI; split <;> (try split) <;> simp <;> omega
  clear hsg
  replace Xm : Hid _ := Xm.out.below hb2
  replace Xr : Hid _ := Xr.out.below hb2
  replace hbw := Below.on hbw hb2
  clear hb2
  obtain ⟨cm0, cm1, fm0, fm1⟩ := Xm.out
  have hnem := Xm.out.lt
  go_wp2_with fail
  clear cm0 cm1 fm0 fm1 hnem
  obtain ⟨k, hk⟩ := TzO.ex z.natAbs
  have HK : Hid (TzO z.natAbs k) := hk
  have hkb : k ≤ 524288 := by
    have h1 := (lim_bits z.natAbs).1 H.out.lim
    rcases hk with ⟨h0, _⟩ | ⟨_, h2, h3⟩
    · exact absurd (Int.natAbs_eq_zero.1 h0) HZ.out
    · have h4 : 2 ^ k ≤ z.natAbs := by
        rcases Nat.lt_or_ge z.natAbs (2 ^ k) with h | h
        · rw [Nat.div_eq_of_lt h] at h3; omega
        · exact h
      have h5 := bitsN_lt z.natAbs
      have h6 := (Nat.pow_lt_pow_iff_right (by omega : 1 < 2)).1 (Nat.lt_of_le_of_lt h4 h5)
      omega
  have HKB : Hid (k ≤ 524288) := hkb
  clear hk hkb
  obtain ⟨xs, hX⟩ := (H.out.below hbw).ex
  refine (trail_any hX.at_ (by have := hX.le; omega) (k := k) (by rw [hX.nf.val]; exact HK.out) (TB.out.below hbw)).mono ?_
  rintro e2 v3 ⟨rfl, hw⟩
  obtain rfl := hw.symm
  clear hw hX
  go_wp2_with fail
  refine (moved_ok k e _ (by have := HKB.out; omega) (by have := HKB.out; have := HE.out; omega)).mono ?_
  rintro e2 v4 ⟨rfl, hw⟩
  obtain rfl := hw.symm
  clear hw
  obtain ⟨cm0, cm1, fm0, fm1⟩ := Xm.out
  have hnem := Xm.out.lt
  go_wp2_with fail
  clear cm0 cm1 fm0 fm1 hnem
  obtain ⟨o, ho9⟩ : ∃ o, o = fl (decide (z < 0)) z.natAbs (2 ^ k) := ⟨_, rfl⟩
  have HO9 : Hid (o % 2 = 1 ∧ o * ((2 ^ k : Nat) : Int) = z ∧ o.natAbs ≤ z.natAbs) := by rw [ho9]; exact tz_split HZ.out HK.out
  have HRL : Hid (gr < v2.heap.size ∧ w.heap.size ≤ v2.heap.size) := ⟨Xr.out.lt, hbw.size⟩
  obtain ⟨xs, hX⟩ := (H.out.below hbw).ex
  refine (fshr_any s hX H.out.pos k (by have := HKB.out; omega) (TB.out.below hbw)).mono ?_
  rintro e2 v5 ⟨v, rfl, hv, hb5⟩
  rw [H.out.sg, ← ho9] at hv
  obtain ⟨p5, m5, z5, rfl, ho5, hn5, hm5⟩ := hv
  clear hX ho9
  replace Xm : Hid _ := Xm.out.below hb5
  replace Xr : Hid _ := Xr.out.below hb5
  replace hbw := Below.on hbw hb5
  clear hb5
  have O5 : Hid (Own v2.heap.size v5 p5 m5 z5) := ho5
  have N5 : Hid (Nf B64 z5 o.natAbs ∧ m5 ≤ 8192) := ⟨hn5, hm5⟩
  clear ho5 hn5 hm5
  obtain ⟨so, hso⟩ : ∃ b, b = decide (o < 0) := ⟨_, rfl⟩
  rw [← hso]
  have HSO : Hid (so = decide (o < 0)) := hso
  clear hso
  obtain ⟨cr0, cr1, cr2, fr0, fr1, fr2⟩ := Xr.out
  have hner : gr < v5.heap.size := World.block_lt_of_cell? v5 _ cr0
  go_wp2_with fail
  refine bodyPost_ret (v := .tuple #[DV so p5 m5 m5 (k + e), .int .i64 0]) (by rw [results_cell_tmp rfl]; go_simp) rfl ⟨_, o, k + e, rfl, ⟨p5, m5, z5, by rw [HSO.out], ?_, N5.out.1, N5.out.2⟩, ?_, ?_, HO9.out.2.2, ?_, ?_⟩
  · exact (own_set3 O5.out HRL.out.1 HRL.out.2 _ _ _).below (below1 _ _)
  · have := HKB.out; have := HE.out
    exact .inr ⟨HO9.out.1, by omega, by omega⟩
  · rw [dv_shift (e := (k : Int) + e) (f := e) (by omega) (by have := HE.out; omega), show ((k : Int) + e - e).toNat = k from by omega, HO9.out.2.1]
  · have := HKB.out
    exact .inr ⟨by omega, by omega⟩
  · exact Below.on (bSet (bSet (bSet hbw _ _ _ HGr.out) _ _ _ HGr.out) _ _ _ HGr.out) (below1 _ _)
theorem make_any {p : Option Addr} {m c : Nat} {w : World} {z e : Int} {s : Bool} (h : ZN w s p m c z) (he : -1048576 ≤ e ∧ e ≤ 524288) (hT : Tab w) :
    Calls Tryz.prog 46 #[ZV s p m c, .int .i64 e] w fun en w' => ∃ v zo eo, en = .returned (.tuple #[v, .int .i64 0]) ∧ AnsD w.heap.size w' v zo eo ∧ DFm zo eo ∧ dv zo eo = dv z e ∧ zo.natAbs ≤ z.natAbs ∧ (zo = 0 ∨ (e ≤ eo ∧ eo ≤ e + 524288)) ∧ Below w.heap.size w w' := by
  by_cases hz : z = 0
  · exact make_z h he hT hz
  · exact make_n h he hT hz
end Go.Proofs.YtidggnjnlhjhlaaGreatDoor
