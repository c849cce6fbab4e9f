import Derived.Test.YtibfjdepeacgjaaDoorJ11
import Derived.Test.YtibfjdepeacgjaaDoorJ12
namespace Go.Proofs.YtibfjdepeacgjaaDoor
open Go.RowKit Go.Shelf
set_option maxRecDepth 20000
set_option maxHeartbeats 0
theorem lfloat (b : Nat) (w : World) :
    Calls Tryd.prog 13 #[.int .u64 (b : Int)] w fun en w' => en = .returned (Fv b) ∧ w' = w := by
  have fb : ∀ w, (callFunc 29 #[.int .u64 (b : Int)]).run Tryd.prog w = .ok (.value (Fv b)) w := fun w => frombits _ w
  go_enter Tryd.func13, Tryd.ntmps13
  go_wp2_with fail
  go_ret
  exact ⟨rfl, rfl⟩
theorem lbits (h l : Nat) (w : World) :
    Calls Tryd.prog 11 #[.agg #[Fv h, Fv l]] w fun en w' => en = .returned (.agg #[.int .u64 (h : Int), .int .u64 (l : Int)]) ∧ Below w.heap.size w w' := by
  have hSF : ∀ (w : World) (a : Addr) (b : Nat), (store a (Fv b)).run Tryd.prog w = stored Tryd.prog w a (Fv b) .plain := stF
  have b1 : ∀ w, (callFunc 26 #[Fv h]).run Tryd.prog w = .ok (.value (.int .u64 (h : Int))) w := fun w => bitsOf _ w
  have b2 : ∀ w, (callFunc 26 #[Fv l]).run Tryd.prog w = .ok (.value (.int .u64 (l : Int))) w := fun w => bitsOf _ w
  go_enter Tryd.func11, Tryd.ntmps11
  go_wp2_with fail
  obtain ⟨W0, hW0⟩ : ∃ W0, W0 = ((w.alloc (.cells #[Fv h, Fv l] 28)).alloc (.cells #[.int .u64 0, .int .u64 0] 24)) := ⟨_, rfl⟩
  have Xa : Hid (Box W0 (w.heap.size) (Fv h) (Fv l)) := by rw [hW0]; exact ⟨by go_simp, by go_simp, by go_simp, by go_simp⟩
  have Xr : Hid (Box W0 (w.heap.size + 1) (.int .u64 0) (.int .u64 0)) := by rw [hW0]; exact ⟨by go_simp, by go_simp, by go_simp, by go_simp⟩
  have hb0 : Below w.heap.size w W0 := by rw [hW0]; exact below2 w _ _
  rw [← hW0]
  clear hW0
  have hbw : Below w.heap.size w w := Below.refl _ _
  obtain ⟨gr, hgr⟩ : ∃ g, g = w.heap.size + 1 := ⟨_, rfl⟩
  have HGr : Hid (w.heap.size ≤ gr) := by rw [hgr]; show _ ≤ _; omega
  rw [← hgr] at Xr
  try rw [← hgr]
  obtain ⟨ga, hga⟩ : ∃ g, g = w.heap.size := ⟨_, rfl⟩
  have HGa : Hid (w.heap.size ≤ ga) := by rw [hga]; show _ ≤ _; omega
  rw [← hga] at Xa
  try rw [← hga]
  have HGD : Hid (ga ≠ gr ∧ gr ≠ ga) := by rw [hga, hgr]; exact ⟨by omega, by omega⟩
  clear hga hgr
  replace hbw := Below.on hbw hb0
  clear hb0
  obtain ⟨V1, hV1⟩ : ∃ W1, W1 = W0.drew := ⟨_, rfl⟩
  have hbd : Below W0.heap.size W0 V1 := by rw [hV1]; exact bDrew1 (Below.refl _ _)
  replace Xa : Hid _ := Xa.out.below hbd
  replace Xr : Hid _ := Xr.out.below hbd
  replace hbw := Below.on hbw hbd
  clear hbd
  have HJ : Hid ((fun W' : World => W'.cell? ⟨ga, 0, none⟩ = some (Fv h) ∧ W'.cell? ⟨ga, 1, none⟩ = some (Fv l)) V1) := ⟨Xa.out.c0, Xa.out.c1⟩
  refine wp_region_J (fun W' => W'.cell? ⟨ga, 0, none⟩ = some (Fv h) ∧ W'.cell? ⟨ga, 1, none⟩ = some (Fv l)) (by kernel_rfl) ?_
  rw [← hV1]
  clear hV1
  refine wpJ_tq 0 rfl HJ.out ?_
  refine wpJ_tq 1 rfl HJ.out ?_
  refine wpJ_tq 3 rfl HJ.out ?_
  refine wpJ_tq 4 rfl HJ.out ?_
  refine wpJ_on 2 rfl fun KJ hK => ?_
  go_simp
  refine hK _ _ ⟨Xa.out.c0, Xa.out.c1⟩ ?_
  clear hK
  refine wpJ_on 5 rfl fun KJ hK => ?_
  go_simp
  clear HJ
  have HJ : Hid ((fun W' : World => W'.cell? ⟨ga, 0, none⟩ = some (Fv h) ∧ W'.cell? ⟨ga, 1, none⟩ = some (Fv l)) V1) := ⟨Xa.out.c0, Xa.out.c1⟩
  refine hK _ _ HJ.out ?_
  clear hK
  refine wpJ_tq 6 rfl HJ.out ?_
  obtain ⟨cr0, cr1, fr0, fr1⟩ := Xr.out
  have hner := Xr.out.lt
  obtain ⟨ca0, ca1, fa0, fa1⟩ := Xa.out
  have hnea := Xa.out.lt
  obtain ⟨hgd0, hgd1⟩ := HGD.out
  refine wpJ_on 7 rfl fun KJ hK => ?_
  go_simp
  have HJ2 : Hid ((fun W' : World => W'.cell? ⟨ga, 0, none⟩ = some (Fv h) ∧ W'.cell? ⟨ga, 1, none⟩ = some (Fv l)) ((V1.setCell ⟨gr, 0, none⟩ (.int .u64 (h : Int))).setCell ⟨gr, 1, none⟩ (.int .u64 (l : Int)))) := ⟨by go_simp, by go_simp⟩
  refine hK _ _ HJ2.out ?_
  clear hK HJ
  have HJ := HJ2
  clear HJ2
  refine wpJ_done (by kernel_rfl) ?_ _
  clear HJ
  go_wp2_with fail
  refine bodyPost_ret (v := .agg #[.int .u64 (h : Int), .int .u64 (l : Int)]) (by rw [results_cell1 rfl]; go_simp) rfl ⟨rfl, ?_⟩
  exact bSet (bSet (hbw) _ _ _ HGr.out) _ _ _ HGr.out
theorem lpair (h l : Nat) (w : World) :
    Calls Tryd.prog 5 #[.agg #[.int .u64 (h : Int), .int .u64 (l : Int)]] w fun en w' => en = .returned (.agg #[Fv h, Fv l]) ∧ Below w.heap.size w w' := by
  have hSF : ∀ (w : World) (a : Addr) (b : Nat), (store a (Fv b)).run Tryd.prog w = stored Tryd.prog w a (Fv b) .plain := stF
  have b1 := lfloat h
  have b2 := lfloat l
  go_enter Tryd.func5, Tryd.ntmps5
  go_wp2_with fail
  obtain ⟨W0, hW0⟩ : ∃ W0, W0 = ((w.alloc (.cells #[.int .u64 (h : Int), .int .u64 (l : Int)] 24)).alloc (.cells #[Fv 0, Fv 0] 28)) := ⟨_, rfl⟩
  have Xa : Hid (Box W0 (w.heap.size) (.int .u64 (h : Int)) (.int .u64 (l : Int))) := by rw [hW0]; exact ⟨by go_simp, by go_simp, by go_simp, by go_simp⟩
  have Xr : Hid (Box W0 (w.heap.size + 1) (Fv 0) (Fv 0)) := by rw [hW0]; exact ⟨by go_simp, by go_simp, by go_simp, by go_simp⟩
  have hb0 : Below w.heap.size w W0 := by rw [hW0]; exact below2 w _ _
  rw [← hW0]
  clear hW0
  have hbw : Below w.heap.size w w := Below.refl _ _
  obtain ⟨gr, hgr⟩ : ∃ g, g = w.heap.size + 1 := ⟨_, rfl⟩
  have HGr : Hid (w.heap.size ≤ gr) := by rw [hgr]; show _ ≤ _; omega
  rw [← hgr] at Xr
  try rw [← hgr]
  obtain ⟨ga, hga⟩ : ∃ g, g = w.heap.size := ⟨_, rfl⟩
  have HGa : Hid (w.heap.size ≤ ga) := by rw [hga]; show _ ≤ _; omega
  rw [← hga] at Xa
  try rw [← hga]
  have HGD : Hid (ga ≠ gr ∧ gr ≠ ga) := by rw [hga, hgr]; exact ⟨by omega, by omega⟩
  clear hga hgr
  replace hbw := Below.on hbw hb0
  clear hb0
  obtain ⟨V1, hV1⟩ : ∃ W1, W1 = W0.drew := ⟨_, rfl⟩
  have hbd : Below W0.heap.size W0 V1 := by rw [hV1]; exact bDrew1 (Below.refl _ _)
  replace Xa : Hid _ := Xa.out.below hbd
  replace Xr : Hid _ := Xr.out.below hbd
  replace hbw := Below.on hbw hbd
  clear hbd
  have HJ : Hid ((fun W' : World => W'.cell? ⟨ga, 0, none⟩ = some (.int .u64 (h : Int)) ∧ W'.cell? ⟨ga, 1, none⟩ = some (.int .u64 (l : Int))) V1) := ⟨Xa.out.c0, Xa.out.c1⟩
  refine wp_region_J (fun W' => W'.cell? ⟨ga, 0, none⟩ = some (.int .u64 (h : Int)) ∧ W'.cell? ⟨ga, 1, none⟩ = some (.int .u64 (l : Int))) (by kernel_rfl) ?_
  rw [← hV1]
  clear hV1
  refine wpJ_tq 0 rfl HJ.out ?_
  refine wpJ_tq 1 rfl HJ.out ?_
  refine wpJ_tq 3 rfl HJ.out ?_
  refine wpJ_tq 4 rfl HJ.out ?_
  refine wpJ_on 2 rfl fun KJ hK => ?_
  go_simp
  refine (b1 _).mono ?_
  rintro e v9 ⟨rfl, hw⟩
  obtain rfl := hw.symm
  clear hw
  refine hK _ _ ⟨Xa.out.c0, Xa.out.c1⟩ ?_
  clear hK
  refine wpJ_on 5 rfl fun KJ hK => ?_
  go_simp
  refine (b2 _).mono ?_
  rintro e v9 ⟨rfl, hw⟩
  obtain rfl := hw.symm
  clear hw
  clear HJ
  have HJ : Hid ((fun W' : World => W'.cell? ⟨ga, 0, none⟩ = some (.int .u64 (h : Int)) ∧ W'.cell? ⟨ga, 1, none⟩ = some (.int .u64 (l : Int))) V1) := ⟨Xa.out.c0, Xa.out.c1⟩
  refine hK _ _ HJ.out ?_
  clear hK
  refine wpJ_tq 6 rfl HJ.out ?_
  obtain ⟨cr0, cr1, fr0, fr1⟩ := Xr.out
  have hner := Xr.out.lt
  obtain ⟨ca0, ca1, fa0, fa1⟩ := Xa.out
  have hnea := Xa.out.lt
  obtain ⟨hgd0, hgd1⟩ := HGD.out
  refine wpJ_on 7 rfl fun KJ hK => ?_
  go_simp
  have HJ2 : Hid ((fun W' : World => W'.cell? ⟨ga, 0, none⟩ = some (.int .u64 (h : Int)) ∧ W'.cell? ⟨ga, 1, none⟩ = some (.int .u64 (l : Int))) ((V1.setCell ⟨gr, 0, none⟩ (Fv h)).setCell ⟨gr, 1, none⟩ (Fv l))) := ⟨by go_simp, by go_simp⟩
  refine hK _ _ HJ2.out ?_
  clear hK HJ
  have HJ := HJ2
  clear HJ2
  refine wpJ_done (by kernel_rfl) ?_ _
  clear HJ
  go_wp2_with fail
  refine bodyPost_ret (v := .agg #[Fv h, Fv l]) (by rw [results_cell1 rfl]; go_simp) rfl ⟨rfl, ?_⟩
  exact bSet (bSet (hbw) _ _ _ HGr.out) _ _ _ HGr.out
theorem ddOf {x : Nat} (hx : Fin64 x) (w : World) :
    Calls Tryd.prog 15 #[Fv x] w fun en w' => en = .returned (.agg #[Fv x, Fv 0]) ∧ Below w.heap.size w w' := by
  have hSF : ∀ (w : World) (a : Addr) (b : Nat), (store a (Fv b)).run Tryd.prog w = stored Tryd.prog w a (Fv b) .plain := stF
  have H1 := ddfinite x hx.lt
  rw [(finB_iff hx.lt).2 hx] at H1
  clear hx
  go_enter Tryd.func15, Tryd.ntmps15
  go_wp2_with fail
  obtain ⟨W0, hW0⟩ : ∃ W0, W0 = (w.alloc (.cells #[Fv 0, Fv 0] 28)) := ⟨_, rfl⟩
  have Xr : Hid (Box W0 (w.heap.size) (Fv 0) (Fv 0)) := by rw [hW0]; exact ⟨by go_simp, by go_simp, by go_simp, by go_simp⟩
  have hb0 : Below w.heap.size w W0 := by rw [hW0]; exact below1 w _
  rw [← hW0]
  clear hW0
  have hbw : Below w.heap.size w w := Below.refl _ _
  obtain ⟨gr, hgr⟩ : ∃ g, g = w.heap.size := ⟨_, rfl⟩
  have HGr : Hid (w.heap.size ≤ gr) := by rw [hgr]; show _ ≤ _; omega
  rw [← hgr] at Xr
  try rw [← hgr]
  clear hgr
  replace hbw := Below.on hbw hb0
  clear hb0
  refine (H1 _).mono ?_
  rintro e v9 ⟨rfl, hw⟩
  obtain rfl := hw.symm
  clear hw
  obtain ⟨cr0, cr1, fr0, fr1⟩ := Xr.out
  have hner := Xr.out.lt
  go_wp2_with fail
  refine bodyPost_ret (v := .agg #[Fv x, Fv 0]) (by rw [results_cell1 rfl]; go_simp) rfl ⟨rfl, ?_⟩
  exact bSet (bSet (hbw) _ _ _ HGr.out) _ _ _ HGr.out
theorem ddpair (x y : Nat) (w : World) :
    Calls Tryd.prog 27 #[Fv x, Fv y] w fun en w' => en = .returned (.agg #[Fv x, Fv y]) ∧ Below w.heap.size w w' := by
  have hSF : ∀ (w : World) (a : Addr) (b : Nat), (store a (Fv b)).run Tryd.prog w = stored Tryd.prog w a (Fv b) .plain := stF
  go_enter Tryd.func27, Tryd.ntmps27
  go_wp2_with fail
  refine bodyPost_ret (v := .agg #[Fv x, Fv y]) (by rw [results_cell1 rfl]; go_simp) rfl ⟨rfl, below1 w _⟩
theorem ts_s {s r : Nat} (h : TSR 4607182418800017408 4359484439294640128 s r) : s = 4607182418800017408 ∧ r = 4359484439294640128 := by
  obtain ⟨ob, oa, da, db, F1, F2, F3, F4, F5, F6⟩ := h
  obtain rfl : s = 4607182418800017408 := F1.some _ (by decide +kernel)
  obtain rfl : ob = 0 := F2.some _ (by decide +kernel)
  obtain rfl : oa = 4607182418800017408 := F3.some _ (by decide +kernel)
  obtain rfl : da = 0 := F4.some _ (by decide +kernel)
  obtain rfl : db = 4359484439294640128 := F5.some _ (by decide +kernel)
  obtain rfl : r = 4359484439294640128 := F6.some _ (by decide +kernel)
  exact ⟨rfl, rfl⟩
theorem ddSum_s (w : World) :
    Calls Tryd.prog 12 #[Fv 4607182418800017408, Fv 4359484439294640128] w fun en w' => en = .returned (.agg #[Fv 4607182418800017408, Fv 4359484439294640128]) ∧ Below w.heap.size w w' := by
  have hSF : ∀ (w : World) (a : Addr) (b : Nat), (store a (Fv b)).run Tryd.prog w = stored Tryd.prog w a (Fv b) .plain := stF
  go_enter Tryd.func12, Tryd.ntmps12
  go_wp2_with fail
  obtain ⟨W0, hW0⟩ : ∃ W0, W0 = (w.alloc (.cells #[Fv 0, Fv 0] 28)) := ⟨_, rfl⟩
  have Xr : Hid (Box W0 (w.heap.size) (Fv 0) (Fv 0)) := by rw [hW0]; exact ⟨by go_simp, by go_simp, by go_simp, by go_simp⟩
  have hb0 : Below w.heap.size w W0 := by rw [hW0]; exact below1 w _
  rw [← hW0]
  clear hW0
  have hbw : Below w.heap.size w w := Below.refl _ _
  obtain ⟨gr, hgr⟩ : ∃ g, g = w.heap.size := ⟨_, rfl⟩
  have HGr : Hid (w.heap.size ≤ gr) := by rw [hgr]; show _ ≤ _; omega
  rw [← hgr] at Xr
  try rw [← hgr]
  clear hgr
  replace hbw := Below.on hbw hb0
  clear hb0
  refine (twoSum 4607182418800017408 4359484439294640128 _).mono ?_
  rintro e9 v9 ⟨s9, r9, n9, rfl, rfl, hR⟩
  obtain ⟨rfl, rfl⟩ := ts_s hR
  clear hR
  have hbr := bDrewN (Below.refl W0.heap.size W0) n9
  generalize W0.drewN n9 = V1 at *
  replace Xr : Hid _ := Xr.out.below hbr
  replace hbw := Below.on hbw hbr
  clear hbr
  go_wp2_with fail
  refine (ddpair 4607182418800017408 4359484439294640128 _).mono ?_
  rintro e v2 ⟨rfl, hb2⟩
  replace Xr : Hid _ := Xr.out.below hb2
  replace hbw := Below.on hbw hb2
  clear hb2
  obtain ⟨cr0, cr1, fr0, fr1⟩ := Xr.out
  have hner := Xr.out.lt
  go_wp2_with fail
  refine bodyPost_ret (v := .agg #[Fv 4607182418800017408, Fv 4359484439294640128]) (by rw [results_cell1 rfl]; go_simp) rfl ⟨rfl, ?_⟩
  exact bSet (bSet (hbw) _ _ _ HGr.out) _ _ _ HGr.out
theorem tp_m_a {h l : Nat} (k : SPR 4613937818241073152 h l) : h = 4613937818241073152 ∧ l = 0 := by
  obtain ⟨c, d, F1, F2, F3, F4⟩ := k
  obtain rfl : c = 4735535008230408192 := F1.some _ (by decide +kernel)
  obtain rfl : d = 4735535008180076544 := F2.some _ (by decide +kernel)
  obtain rfl : h = 4613937818241073152 := F3.some _ (by decide +kernel)
  obtain rfl : l = 0 := F4.some _ (by decide +kernel)
  exact ⟨rfl, rfl⟩
theorem tp_m_b {h l : Nat} (k : SPR 4599676419421066581 h l) : h = 4599676419465805824 ∧ l = 13701451266381578240 := by
  obtain ⟨c, d, F1, F2, F3, F4⟩ := k
  obtain rfl : c = 4721273609404809216 := F1.some _ (by decide +kernel)
  obtain rfl : d = 4721273609360069973 := F2.some _ (by decide +kernel)
  obtain rfl : h = 4599676419465805824 := F3.some _ (by decide +kernel)
  obtain rfl : l = 13701451266381578240 := F4.some _ (by decide +kernel)
  exact ⟨rfl, rfl⟩
theorem tp_m {p e : Nat} (k : TPR 4613937818241073152 4599676419421066581 p e) : p = 4607182418800017408 ∧ e = 13587360075776786432 := by
  obtain ⟨ah, al, bh, bl, x1, e1, x2, e2, x3, e3, x4, F1, S1, S2, F2, F3, F4, F5, F6, F7, F8, F9⟩ := k
  obtain ⟨rfl, rfl⟩ := tp_m_a S1
  obtain ⟨rfl, rfl⟩ := tp_m_b S2
  obtain rfl : p = 4607182418800017408 := F1.some _ (by decide +kernel)
  obtain rfl : x1 = 4607182418833571840 := F2.some _ (by decide +kernel)
  obtain rfl : e1 = 4485585228861014016 := F3.some _ (by decide +kernel)
  obtain rfl : x2 = 13708957265749344256 := F4.some _ (by decide +kernel)
  obtain rfl : e2 = 13587360075776786432 := F5.some _ (by decide +kernel)
  obtain rfl : x3 = 0 := F6.some _ (by decide +kernel)
  obtain rfl : e3 = 13587360075776786432 := F7.some _ (by decide +kernel)
  obtain rfl : x4 = 9223372036854775808 := F8.some _ (by decide +kernel)
  obtain rfl : e = 13587360075776786432 := F9.some _ (by decide +kernel)
  exact ⟨rfl, rfl⟩
theorem fs_m {s r : Nat} (h : FSR 4607182418800017408 13587360075776786432 s r) : s = 4607182418800017408 ∧ r = 13587360075776786432 := by
  obtain ⟨t, F1, F2, F3⟩ := h
  obtain rfl : s = 4607182418800017408 := F1.some _ (by decide +kernel)
  obtain rfl : t = 0 := F2.some _ (by decide +kernel)
  obtain rfl : r = 13587360075776786432 := F3.some _ (by decide +kernel)
  exact ⟨rfl, rfl⟩
theorem ddMulF_m (w : World) :
    Calls Tryd.prog 30 #[.agg #[Fv 4613937818241073152, Fv 0], Fv 4599676419421066581] w fun en w' => en = .returned (.agg #[Fv 4607182418800017408, Fv 13587360075776786432]) ∧ Below w.heap.size w w' := by
  have hSF : ∀ (w : World) (a : Addr) (b : Nat), (store a (Fv b)).run Tryd.prog w = stored Tryd.prog w a (Fv b) .plain := stF
  have fl1 : ∀ w, (binOp .mul 26 (Fv 0) (Fv 4599676419421066581)).run Tryd.prog w = .ok (Fv 0) w := fun w => run_float_arith w .mul 26 .f64 0 4599676419421066581 0 (by decide +kernel)
  have fl2 : ∀ w, (binOp .add 26 (Fv 13587360075776786432) (Fv 0)).run Tryd.prog w = .ok (Fv 13587360075776786432) w := fun w => run_float_arith w .add 26 .f64 13587360075776786432 0 13587360075776786432 (by decide +kernel)
  go_enter Tryd.func30, Tryd.ntmps30
  go_wp2_with fail
  obtain ⟨W0, hW0⟩ : ∃ W0, W0 = ((w.alloc (.cells #[Fv 4613937818241073152, Fv 0] 28)).alloc (.cells #[Fv 0, Fv 0] 28)) := ⟨_, rfl⟩
  have Xa : Hid (Box W0 (w.heap.size) (Fv 4613937818241073152) (Fv 0)) := by rw [hW0]; exact ⟨by go_simp, by go_simp, by go_simp, by go_simp⟩
  have Xr : Hid (Box W0 (w.heap.size + 1) (Fv 0) (Fv 0)) := by rw [hW0]; exact ⟨by go_simp, by go_simp, by go_simp, by go_simp⟩
  have hb0 : Below w.heap.size w W0 := by rw [hW0]; exact below2 w _ _
  rw [← hW0]
  clear hW0
  have hbw : Below w.heap.size w w := Below.refl _ _
  obtain ⟨gr, hgr⟩ : ∃ g, g = w.heap.size + 1 := ⟨_, rfl⟩
  have HGr : Hid (w.heap.size ≤ gr) := by rw [hgr]; show _ ≤ _; omega
  rw [← hgr] at Xr
  try rw [← hgr]
  obtain ⟨ga, hga⟩ : ∃ g, g = w.heap.size := ⟨_, rfl⟩
  have HGa : Hid (w.heap.size ≤ ga) := by rw [hga]; show _ ≤ _; omega
  rw [← hga] at Xa
  try rw [← hga]
  have HGD : Hid (ga ≠ gr ∧ gr ≠ ga) := by rw [hga, hgr]; exact ⟨by omega, by omega⟩
  clear hga hgr
  replace hbw := Below.on hbw hb0
  clear hb0
  obtain ⟨hgd0, hgd1⟩ := HGD.out
  refine (twoProd 4613937818241073152 4599676419421066581 _).mono ?_
  rintro e9 v9 ⟨s9, r9, n9, rfl, rfl, hR⟩
  obtain ⟨rfl, rfl⟩ := tp_m hR
  clear hR
  have hbr := bDrewN (Below.refl W0.heap.size W0) n9
  generalize W0.drewN n9 = V1 at *
  replace Xa : Hid _ := Xa.out.below hbr
  replace Xr : Hid _ := Xr.out.below hbr
  replace hbw := Below.on hbw hbr
  clear hbr
  obtain ⟨ca0, ca1, fa0, fa1⟩ := Xa.out
  have hnea := Xa.out.lt
  go_wp2_with fail
  clear ca0 ca1 fa0 fa1 hnea
  refine (fastTwoSum 4607182418800017408 13587360075776786432 _).mono ?_
  rintro e9 v9 ⟨s9, r9, n9, rfl, rfl, hR⟩
  obtain ⟨rfl, rfl⟩ := fs_m hR
  clear hR
  have hbr := bDrewN (Below.refl V1.heap.size V1) n9
  generalize V1.drewN n9 = V2 at *
  replace Xa : Hid _ := Xa.out.below hbr
  replace Xr : Hid _ := Xr.out.below hbr
  replace hbw := Below.on hbw hbr
  clear hbr
  go_wp2_with fail
  refine (ddpair 4607182418800017408 13587360075776786432 _).mono ?_
  rintro e v3 ⟨rfl, hb3⟩
  replace Xa : Hid _ := Xa.out.below hb3
  replace Xr : Hid _ := Xr.out.below hb3
  replace hbw := Below.on hbw hb3
  clear hb3
  obtain ⟨cr0, cr1, fr0, fr1⟩ := Xr.out
  have hner := Xr.out.lt
  go_wp2_with fail
  refine bodyPost_ret (v := .agg #[Fv 4607182418800017408, Fv 13587360075776786432]) (by rw [results_cell1 rfl]; go_simp) rfl ⟨rfl, ?_⟩
  exact bSet (bSet (hbw) _ _ _ HGr.out) _ _ _ HGr.out
theorem fs_d {s r : Nat} (h : FSR 4599676419421066581 4356482039543059797 s r) : s = 4599676419421066581 ∧ r = 4356482039543059797 := by
  obtain ⟨t, F1, F2, F3⟩ := h
  obtain rfl : s = 4599676419421066581 := F1.some _ (by decide +kernel)
  obtain rfl : t = 0 := F2.some _ (by decide +kernel)
  obtain rfl : r = 4356482039543059797 := F3.some _ (by decide +kernel)
  exact ⟨rfl, rfl⟩
theorem ddDiv_d (w : World) :
    Calls Tryd.prog 14 #[.agg #[Fv 4607182418800017408, Fv 0], .agg #[Fv 4613937818241073152, Fv 0]] w fun en w' => en = .returned (.agg #[Fv 4599676419421066581, Fv 4356482039543059797]) ∧ Below w.heap.size w w' := by
  have hSF : ∀ (w : World) (a : Addr) (b : Nat), (store a (Fv b)).run Tryd.prog w = stored Tryd.prog w a (Fv b) .plain := stF
  have fl3 : ∀ w, (binOp .quo 26 (Fv 4607182418800017408) (Fv 4613937818241073152)).run Tryd.prog w = .ok (Fv 4599676419421066581) w := fun w => run_float_arith w .quo 26 .f64 4607182418800017408 4613937818241073152 4599676419421066581 (by decide +kernel)
  have fl4 : ∀ w, (binOp .sub 26 (Fv 4607182418800017408) (Fv 4607182418800017408)).run Tryd.prog w = .ok (Fv 0) w := fun w => run_float_arith w .sub 26 .f64 4607182418800017408 4607182418800017408 0 (by decide +kernel)
  have fl5 : ∀ w, (binOp .sub 26 (Fv 0) (Fv 13587360075776786432)).run Tryd.prog w = .ok (Fv 4363988038922010624) w := fun w => run_float_arith w .sub 26 .f64 0 13587360075776786432 4363988038922010624 (by decide +kernel)
  have fl6 : ∀ w, (binOp .add 26 (Fv 0) (Fv 4363988038922010624)).run Tryd.prog w = .ok (Fv 4363988038922010624) w := fun w => run_float_arith w .add 26 .f64 0 4363988038922010624 4363988038922010624 (by decide +kernel)
  have fl7 : ∀ w, (binOp .quo 26 (Fv 4363988038922010624) (Fv 4613937818241073152)).run Tryd.prog w = .ok (Fv 4356482039543059797) w := fun w => run_float_arith w .quo 26 .f64 4363988038922010624 4613937818241073152 4356482039543059797 (by decide +kernel)
  go_enter Tryd.func14, Tryd.ntmps14
  go_wp2_with fail
  obtain ⟨W0, hW0⟩ : ∃ W0, W0 = (((w.alloc (.cells #[Fv 4607182418800017408, Fv 0] 28)).alloc (.cells #[Fv 4613937818241073152, Fv 0] 28)).alloc (.cells #[Fv 0, Fv 0] 28)) := ⟨_, rfl⟩
  have Xa : Hid (Box W0 (w.heap.size) (Fv 4607182418800017408) (Fv 0)) := by rw [hW0]; exact ⟨by go_simp, by go_simp, by go_simp, by go_simp⟩
  have Xb : Hid (Box W0 (w.heap.size + 1) (Fv 4613937818241073152) (Fv 0)) := by rw [hW0]; exact ⟨by go_simp, by go_simp, by go_simp, by go_simp⟩
  have Xr : Hid (Box W0 (w.heap.size + 1 + 1) (Fv 0) (Fv 0)) := by rw [hW0]; exact ⟨by go_simp, by go_simp, by go_simp, by go_simp⟩
  have hb0 : Below w.heap.size w W0 := by rw [hW0]; exact below3 w _ _ _
  rw [← hW0]
  clear hW0
  have hbw : Below w.heap.size w w := Below.refl _ _
  obtain ⟨gr, hgr⟩ : ∃ g, g = w.heap.size + 1 + 1 := ⟨_, rfl⟩
  have HGr : Hid (w.heap.size ≤ gr) := by rw [hgr]; show _ ≤ _; omega
  rw [← hgr] at Xr
  try rw [← hgr]
  obtain ⟨gb, hgb⟩ : ∃ g, g = w.heap.size + 1 := ⟨_, rfl⟩
  have HGb : Hid (w.heap.size ≤ gb) := by rw [hgb]; show _ ≤ _; omega
  rw [← hgb] at Xb
  try rw [← hgb]
  obtain ⟨ga, hga⟩ : ∃ g, g = w.heap.size := ⟨_, rfl⟩
  have HGa : Hid (w.heap.size ≤ ga) := by rw [hga]; show _ ≤ _; omega
  rw [← hga] at Xa
  try rw [← hga]
  have HGD : Hid (ga ≠ gb ∧ ga ≠ gr ∧ gb ≠ ga ∧ gb ≠ gr ∧ gr ≠ ga ∧ gr ≠ gb) := by rw [hga, hgb, hgr]; exact ⟨by omega, by omega, by omega, by omega, by omega, by omega⟩
  clear hga hgb hgr
  replace hbw := Below.on hbw hb0
  clear hb0
  obtain ⟨hgd0, hgd1, hgd2, hgd3, hgd4, hgd5⟩ := HGD.out
  obtain ⟨ca0, ca1, fa0, fa1⟩ := Xa.out
  have hnea := Xa.out.lt
  obtain ⟨cb0, cb1, fb0, fb1⟩ := Xb.out
  have hneb := Xb.out.lt
  go_wp2_with fail
  clear ca0 ca1 fa0 fa1 hnea
  clear cb0 cb1 fb0 fb1 hneb
  refine (ddMulF_m _).mono ?_
  rintro e v1 ⟨rfl, hb1⟩
  replace Xa : Hid _ := Xa.out.below hb1
  replace Xb : Hid _ := Xb.out.below hb1
  replace Xr : Hid _ := Xr.out.below hb1
  replace hbw := Below.on hbw hb1
  clear hb1
  obtain ⟨ca0, ca1, fa0, fa1⟩ := Xa.out
  have hnea := Xa.out.lt
  obtain ⟨cb0, cb1, fb0, fb1⟩ := Xb.out
  have hneb := Xb.out.lt
  go_wp2_with fail
  clear ca0 ca1 fa0 fa1 hnea
  clear cb0 cb1 fb0 fb1 hneb
  have Xk0 : Hid (Box (v1.alloc (.cells #[Fv 4607182418800017408, Fv 13587360075776786432] 28)) v1.heap.size (Fv 4607182418800017408) (Fv 13587360075776786432)) := Box.new v1 _ _ _
  have hbn : Below v1.heap.size v1 (v1.alloc (.cells #[Fv 4607182418800017408, Fv 13587360075776786432] 28)) := below1 v1 _
  generalize v1.alloc (.cells #[Fv 4607182418800017408, Fv 13587360075776786432] 28) = Wk at *
  have HGk : Hid (w.heap.size ≤ v1.heap.size) := hbw.size
  replace Xa : Hid _ := Xa.out.below hbn
  replace Xb : Hid _ := Xb.out.below hbn
  replace Xr : Hid _ := Xr.out.below hbn
  replace hbw := Below.on hbw hbn
  clear hbn
  generalize v1.heap.size = gk at *
  have Xk := Xk0
  clear Xk0
  obtain ⟨ca0, ca1, fa0, fa1⟩ := Xa.out
  have hnea := Xa.out.lt
  obtain ⟨cb0, cb1, fb0, fb1⟩ := Xb.out
  have hneb := Xb.out.lt
  obtain ⟨ck0, ck1, fk0, fk1⟩ := Xk.out
  have hnek := Xk.out.lt
  go_wp2_with fail
  clear ca0 ca1 fa0 fa1 hnea
  clear cb0 cb1 fb0 fb1 hneb
  clear ck0 ck1 fk0 fk1 hnek
  refine (fastTwoSum 4599676419421066581 4356482039543059797 _).mono ?_
  rintro e9 v9 ⟨s9, r9, n9, rfl, rfl, hR⟩
  obtain ⟨rfl, rfl⟩ := fs_d hR
  clear hR
  have hbr := bDrewN (Below.refl Wk.heap.size Wk) n9
  generalize Wk.drewN n9 = V2 at *
  replace Xa : Hid _ := Xa.out.below hbr
  replace Xb : Hid _ := Xb.out.below hbr
  replace Xr : Hid _ := Xr.out.below hbr
  replace Xk : Hid _ := Xk.out.below hbr
  replace hbw := Below.on hbw hbr
  clear hbr
  go_wp2_with fail
  refine (ddpair 4599676419421066581 4356482039543059797 _).mono ?_
  rintro e v3 ⟨rfl, hb3⟩
  replace Xa : Hid _ := Xa.out.below hb3
  replace Xb : Hid _ := Xb.out.below hb3
  replace Xr : Hid _ := Xr.out.below hb3
  replace Xk : Hid _ := Xk.out.below hb3
  replace hbw := Below.on hbw hb3
  clear hb3
  obtain ⟨cr0, cr1, fr0, fr1⟩ := Xr.out
  have hner := Xr.out.lt
  go_wp2_with fail
  refine bodyPost_ret (v := .agg #[Fv 4599676419421066581, Fv 4356482039543059797]) (by rw [results_cell1 rfl]; go_simp) rfl ⟨rfl, ?_⟩
  exact bSet (bSet (hbw) _ _ _ HGr.out) _ _ _ HGr.out
theorem ddf_s : DdF 4607182418800017408 4359484439294640128 := ⟨⟨by decide, by decide⟩, ⟨by decide, by decide⟩, by decide +kernel, by decide +kernel⟩
theorem ddf_1 : DdF 4607182418800017408 0 := ⟨⟨by decide, by decide⟩, ⟨by decide, by decide⟩, by decide +kernel, by decide +kernel⟩
theorem cmp_s : cmpD 4607182418800017408 4359484439294640128 4607182418800017408 0 = 1 := by rw [cmpD_eq ddf_s ddf_1]; decide +kernel
theorem awake20 (w : World) :
    Calls Tryd.prog 4 #[] w fun en w' => en = .returned (.bool true) ∧ Below w.heap.size w w' := by
  have hSF : ∀ (w : World) (a : Addr) (b : Nat), (store a (Fv b)).run Tryd.prog w = stored Tryd.prog w a (Fv b) .plain := stF
  have F1 := lfloat 4607182418800017408
  have F2 := lfloat 4359484439294640128
  have F3 := lfloat 4613937818241073152
  have O1 := ddOf (x := 4607182418800017408) ⟨by decide, by decide⟩
  have O3 := ddOf (x := 4613937818241073152) ⟨by decide, by decide⟩
  have P1 := lpair 4607182418800017408 4359484439294640128
  have G1 := ddform 4607182418800017408 4359484439294640128 (by decide) (by decide)
  rw [ddB_iff.2 ddf_s] at G1
  have C1 := ddcmp 4607182418800017408 4359484439294640128 4607182418800017408 0 (by decide) (by decide) (by decide) (by decide)
  rw [cmp_s] at C1
  have hbw : Below w.heap.size w w := Below.refl _ _
  go_enter Tryd.func4, Tryd.ntmps4
  go_wp2_with fail
  refine (F1 _).mono ?_
  rintro e v9 ⟨rfl, hw⟩
  obtain rfl := hw.symm
  clear hw
  go_wp2_with fail
  refine (F2 _).mono ?_
  rintro e v9 ⟨rfl, hw⟩
  obtain rfl := hw.symm
  clear hw
  go_wp2_with fail
  refine (ddSum_s _).mono ?_
  rintro e v1 ⟨rfl, hb1⟩
  replace hbw := Below.on hbw hb1
  clear hb1
  go_wp2_with fail
  refine (lbits 4607182418800017408 4359484439294640128 _).mono ?_
  rintro e v2 ⟨rfl, hb2⟩
  replace hbw := Below.on hbw hb2
  clear hb2
  go_wp2_with fail
  have Xs0 : Hid (Box (v2.alloc (.cells #[.int .u64 ((4607182418800017408 : Nat) : Int), .int .u64 ((4359484439294640128 : Nat) : Int)] 24)) v2.heap.size (.int .u64 ((4607182418800017408 : Nat) : Int)) (.int .u64 ((4359484439294640128 : Nat) : Int))) := Box.new v2 _ _ _
  have hbn : Below v2.heap.size v2 (v2.alloc (.cells #[.int .u64 ((4607182418800017408 : Nat) : Int), .int .u64 ((4359484439294640128 : Nat) : Int)] 24)) := below1 v2 _
  generalize v2.alloc (.cells #[.int .u64 ((4607182418800017408 : Nat) : Int), .int .u64 ((4359484439294640128 : Nat) : Int)] 24) = Ws at *
  have HGs : Hid (w.heap.size ≤ v2.heap.size) := hbw.size
  replace hbw := Below.on hbw hbn
  clear hbn
  generalize v2.heap.size = gs at *
  have Xs := Xs0
  clear Xs0
  refine (F1 _).mono ?_
  rintro e v9 ⟨rfl, hw⟩
  obtain rfl := hw.symm
  clear hw
  go_wp2_with fail
  refine (O1 _).mono ?_
  rintro e v3 ⟨rfl, hb3⟩
  replace Xs : Hid _ := Xs.out.below hb3
  replace hbw := Below.on hbw hb3
  clear hb3
  go_wp2_with fail
  refine (F3 _).mono ?_
  rintro e v9 ⟨rfl, hw⟩
  obtain rfl := hw.symm
  clear hw
  go_wp2_with fail
  refine (O3 _).mono ?_
  rintro e v4 ⟨rfl, hb4⟩
  replace Xs : Hid _ := Xs.out.below hb4
  replace hbw := Below.on hbw hb4
  clear hb4
  go_wp2_with fail
  refine (ddDiv_d _).mono ?_
  rintro e v5 ⟨rfl, hb5⟩
  replace Xs : Hid _ := Xs.out.below hb5
  replace hbw := Below.on hbw hb5
  clear hb5
  go_wp2_with fail
  refine (lbits 4599676419421066581 4356482039543059797 _).mono ?_
  rintro e v6 ⟨rfl, hb6⟩
  replace Xs : Hid _ := Xs.out.below hb6
  replace hbw := Below.on hbw hb6
  clear hb6
  obtain ⟨cs0, cs1, fs0, fs1⟩ := Xs.out
  have hnes := Xs.out.lt
  go_wp2_with fail
  clear cs0 cs1 fs0 fs1 hnes
  have Xq0 : Hid (Box (v6.alloc (.cells #[.int .u64 ((4599676419421066581 : Nat) : Int), .int .u64 ((4356482039543059797 : Nat) : Int)] 24)) v6.heap.size (.int .u64 ((4599676419421066581 : Nat) : Int)) (.int .u64 ((4356482039543059797 : Nat) : Int))) := Box.new v6 _ _ _
  have hbn : Below v6.heap.size v6 (v6.alloc (.cells #[.int .u64 ((4599676419421066581 : Nat) : Int), .int .u64 ((4356482039543059797 : Nat) : Int)] 24)) := below1 v6 _
  generalize v6.alloc (.cells #[.int .u64 ((4599676419421066581 : Nat) : Int), .int .u64 ((4356482039543059797 : Nat) : Int)] 24) = Wq at *
  have HGq : Hid (w.heap.size ≤ v6.heap.size) := hbw.size
  replace Xs : Hid _ := Xs.out.below hbn
  replace hbw := Below.on hbw hbn
  clear hbn
  generalize v6.heap.size = gq at *
  have Xq := Xq0
  clear Xq0
  refine (P1 _).mono ?_
  rintro e v7 ⟨rfl, hb7⟩
  replace Xs : Hid _ := Xs.out.below hb7
  replace Xq : Hid _ := Xq.out.below hb7
  replace hbw := Below.on hbw hb7
  clear hb7
  obtain ⟨cs0, cs1, fs0, fs1⟩ := Xs.out
  have hnes := Xs.out.lt
  go_wp2_with fail
  clear cs0 cs1 fs0 fs1 hnes
  refine (G1 _).mono ?_
  rintro e v8 ⟨rfl, hb8⟩
  replace Xs : Hid _ := Xs.out.below hb8
  replace Xq : Hid _ := Xq.out.below hb8
  replace hbw := Below.on hbw hb8
  clear hb8
  obtain ⟨cs0, cs1, fs0, fs1⟩ := Xs.out
  have hnes := Xs.out.lt
  go_wp2_with fail
  clear cs0 cs1 fs0 fs1 hnes
  refine (P1 _).mono ?_
  rintro e v9 ⟨rfl, hb9⟩
  replace Xs : Hid _ := Xs.out.below hb9
  replace Xq : Hid _ := Xq.out.below hb9
  replace hbw := Below.on hbw hb9
  clear hb9
  go_wp2_with fail
  refine (F1 _).mono ?_
  rintro e v9 ⟨rfl, hw⟩
  obtain rfl := hw.symm
  clear hw
  go_wp2_with fail
  refine (O1 _).mono ?_
  rintro e v10 ⟨rfl, hb10⟩
  replace Xs : Hid _ := Xs.out.below hb10
  replace Xq : Hid _ := Xq.out.below hb10
  replace hbw := Below.on hbw hb10
  clear hb10
  go_wp2_with fail
  refine (C1 _).mono ?_
  rintro e v11 ⟨rfl, hb11⟩
  replace Xs : Hid _ := Xs.out.below hb11
  replace Xq : Hid _ := Xq.out.below hb11
  replace hbw := Below.on hbw hb11
  clear hb11
  go_wp2_with fail
  go_ret
  exact ⟨by kernel_rfl, hbw⟩
theorem wpJ_nodes {P : Program} {md : Region.Mode} {ops : Array Oper} {Q : Exit → Act → World → Prop} {J : World → Prop} {fuel : Nat} {listed : Array Bool} {a : Act} {w : World} (h : ∀ WP : Nat → Array Bool → Act → World → Prop, WP = wpJ P md ops Q J → ∀ L a0, L = listed → a0 = a → WP fuel L a0 w) : wpJ P md ops Q J fuel listed a w := h _ rfl _ _ rfl rfl
theorem wpJ_same {P : Program} {md : Region.Mode} {ops : Array Oper} {Q : Exit → Act → World → Prop} {J : World → Prop} {fuel : Nat} {L L' : Array Bool} {a a' : Act} {w : World} (h1 : L = L') (h2 : a = a') (h : wpJ P md ops Q J fuel L a w) : wpJ P md ops Q J fuel L' a' w := by
  subst h1 h2; exact h
theorem Hid.mk9 {p : Prop} (h : p) : Hid p := h
theorem ordV_swap (x y : Int) : ordV (compare y x) = -ordV (compare x y) := by
  rw [ordI, ordI]
  rcases Int.lt_trichotomy x y with h | h | h
  · rw [if_neg (by omega), if_neg (by omega), if_pos h]; rfl
  · subst h; rw [if_neg (by omega), if_pos rfl]; rfl
  · rw [if_pos h, if_neg (by omega), if_neg (by omega)]; rfl
theorem ordV_neg (x y : Int) : ordV (compare (-x) (-y)) = -ordV (compare x y) := by
  rw [ordI, ordI]
  rcases Int.lt_trichotomy x y with h | h | h
  · rw [if_neg (by omega), if_neg (by omega), if_pos h]; rfl
  · subst h; rw [if_neg (by omega), if_pos rfl, if_neg (by omega), if_pos rfl]; rfl
  · rw [if_pos (by omega), if_neg (by omega), if_neg (by omega)]; rfl
theorem ordV_three (o : Ordering) : ordV o = -1 ∨ ordV o = 0 ∨ ordV o = 1 := by cases o <;> simp [ordV]
theorem cmpD_no {h l h' l' : Nat} (hf : ddB h l = false ∨ ddB h' l' = false) : cmpD h l h' l' = 0 := by
  unfold cmpD
  rcases hf with h1 | h1 <;> rw [h1] <;> simp
theorem cmpD_yes {h l h' l' : Nat} (d : DdF h l) (d' : DdF h' l') : cmpD h l h' l' = ordV (compare (ux h + ux l) (ux h' + ux l')) := by
  unfold cmpD
  rw [ddB_iff.2 d, ddB_iff.2 d']; rfl
theorem cmpI_dv {z1 e1 z2 e2 X Y : Int} (h1 : dv z1 e1 = dv X (-1074)) (h2 : dv z2 e2 = dv Y (-1074)) : cmpI (dv z1 e1) (dv z2 e2) = ordV (compare X Y) := by
  rw [h1, h2]
  unfold dv
  obtain ⟨K, hK⟩ : ∃ K : Nat, K = 2 ^ (-1074 + 4194304 : Int).toNat := ⟨_, rfl⟩
  rw [← hK]
  have hp : 0 < K := by rw [hK]; exact p2pos _
  rw [← ordI_mul X Y hp, ordI]
  unfold cmpI
  split
  · rfl
  · split <;> rfl
theorem ddOrder_y (h l h2 l2 : Nat) (hh : h < 18446744073709551616) (hl : l < 18446744073709551616) (hh2 : h2 < 18446744073709551616) (hl2 : l2 < 18446744073709551616) (d : DdF h l) (d2 : DdF h2 l2) (w : World) (hT : Tab w) :
    Calls Tryd.prog 3 #[.agg #[.int .u64 (h : Int), .int .u64 (l : Int)], .agg #[.int .u64 (h2 : Int), .int .u64 (l2 : Int)]] w fun en w' => en = .returned (.bool true) ∧ Below w.heap.size w w' := by
  have hSF : ∀ (w : World) (a : Addr) (b : Nat), (store a (Fv b)).run Tryd.prog w = stored Tryd.prog w a (Fv b) .plain := stF
  have hbw : Below w.heap.size w w := Below.refl _ _
  have TB : Hid (Tab w) := hT
  have P1 := lpair h l
  have P2 := lpair h2 l2
  have G1 := ddform h l hh hl
  have G2 := ddform h2 l2 hh2 hl2
  have C12 := ddcmp h l h2 l2 hh hl hh2 hl2
  have C21 := ddcmp h2 l2 h l hh2 hl2 hh hl
  have n1 := ddneg h l hh hl
  have n2 := ddneg h2 l2 hh2 hl2
  have CN := ddcmp (flipS h) (flipS l) (flipS h2) (flipS l2) d.neg.hi.lt d.neg.lo.lt d2.neg.hi.lt d2.neg.lo.lt
  rw [cmpD_yes d d2] at C12
  rw [cmpD_yes d2 d, ordV_swap] at C21
  rw [cmpD_yes d.neg d2.neg, (flip_ux hh).1, (flip_ux hl).1, (flip_ux hh2).1, (flip_ux hl2).1, ← Int.neg_add, ← Int.neg_add, ordV_neg] at CN
  rw [ddB_iff.2 d] at G1
  rw [ddB_iff.2 d2] at G2
  have HD : Hid (DdF h l ∧ DdF h2 l2) := ⟨d, d2⟩
  obtain ⟨k, hk⟩ : ∃ k, k = ordV (compare (ux h + ux l) (ux h2 + ux l2)) := ⟨_, rfl⟩
  rw [← hk] at C12 C21 CN
  have HK : Hid (ordV (compare (ux h + ux l) (ux h2 + ux l2)) = k) := hk.symm
  have hk3 : k = -1 ∨ k = 0 ∨ k = 1 := by rw [hk]; exact ordV_three _
  have wk1 : IntKind.i64.wrap (- -k) = k := by rcases hk3 with rfl | rfl | rfl <;> kernel_rfl
  have wk2 : IntKind.i64.wrap (-k) = -k := by rcases hk3 with rfl | rfl | rfl <;> kernel_rfl
  have wk3 : IntKind.i64.wrap k = k := by rcases hk3 with rfl | rfl | rfl <;> kernel_rfl
  clear hT hh hl hh2 hl2 d d2 hk hk3
  go_enter Tryd.func3, Tryd.ntmps3
  go_wp2_with fail
  obtain ⟨W0, hW0⟩ : ∃ W0, W0 = ((w.alloc (.cells #[.int .u64 (h : Int), .int .u64 (l : Int)] 24)).alloc (.cells #[.int .u64 (h2 : Int), .int .u64 (l2 : Int)] 24)) := ⟨_, rfl⟩
  have Xa : Hid (Box W0 (w.heap.size) (.int .u64 (h : Int)) (.int .u64 (l : Int))) := by rw [hW0]; exact ⟨by go_simp, by go_simp, by go_simp, by go_simp⟩
  have Xb : Hid (Box W0 (w.heap.size + 1) (.int .u64 (h2 : Int)) (.int .u64 (l2 : Int))) := by rw [hW0]; exact ⟨by go_simp, by go_simp, by go_simp, by go_simp⟩
  have hb0 : Below w.heap.size w W0 := by rw [hW0]; exact below2 w _ _
  rw [← hW0]
  clear hW0
  have hbw : Below w.heap.size w w := Below.refl _ _
  obtain ⟨gb, hgb⟩ : ∃ g, g = w.heap.size + 1 := ⟨_, rfl⟩
  have HGb : Hid (w.heap.size ≤ gb) := by rw [hgb]; show _ ≤ _; omega
  rw [← hgb] at Xb
  try rw [← hgb]
  obtain ⟨ga, hga⟩ : ∃ g, g = w.heap.size := ⟨_, rfl⟩
  have HGa : Hid (w.heap.size ≤ ga) := by rw [hga]; show _ ≤ _; omega
  rw [← hga] at Xa
  try rw [← hga]
  have HGD : Hid (ga ≠ gb ∧ gb ≠ ga) := by rw [hga, hgb]; exact ⟨by omega, by omega⟩
  clear hga hgb
  replace hbw := Below.on hbw hb0
  clear hb0
  refine (awake20 _).mono ?_
  rintro e v1 ⟨rfl, hb1⟩
  replace Xa : Hid _ := Xa.out.below hb1
  replace Xb : Hid _ := Xb.out.below hb1
  replace hbw := Below.on hbw hb1
  clear hb1
  obtain ⟨ca0, ca1, fa0, fa1⟩ := Xa.out
  have hnea := Xa.out.lt
  obtain ⟨cb0, cb1, fb0, fb1⟩ := Xb.out
  have hneb := Xb.out.lt
  go_wp2_with fail
  clear ca0 ca1 fa0 fa1 hnea
  clear cb0 cb1 fb0 fb1 hneb
  obtain ⟨V1, hV1⟩ : ∃ W1, W1 = v1.drew := ⟨_, rfl⟩
  have hbd : Below v1.heap.size v1 V1 := by rw [hV1]; exact bDrew1 (Below.refl _ _)
  replace Xa : Hid _ := Xa.out.below hbd
  replace Xb : Hid _ := Xb.out.below hbd
  replace hbw := Below.on hbw hbd
  clear hbd
  have HJ : Hid ((fun W' : World => W'.cell? ⟨ga, 0, none⟩ = some (.int .u64 (h : Int)) ∧ W'.cell? ⟨ga, 1, none⟩ = some (.int .u64 (l : Int)) ∧ W'.cell? ⟨gb, 0, none⟩ = some (.int .u64 (h2 : Int)) ∧ W'.cell? ⟨gb, 1, none⟩ = some (.int .u64 (l2 : Int))) V1) := ⟨Xa.out.c0, Xa.out.c1, Xb.out.c0, Xb.out.c1⟩
  refine wp_region_J (fun W' => W'.cell? ⟨ga, 0, none⟩ = some (.int .u64 (h : Int)) ∧ W'.cell? ⟨ga, 1, none⟩ = some (.int .u64 (l : Int)) ∧ W'.cell? ⟨gb, 0, none⟩ = some (.int .u64 (h2 : Int)) ∧ W'.cell? ⟨gb, 1, none⟩ = some (.int .u64 (l2 : Int))) (by kernel_rfl) ?_
  rw [← hV1]
  clear hV1
  refine wpJ_tq 0 rfl HJ.out ?_
  refine wpJ_tq 2 rfl HJ.out ?_
  go_simp
  refine wpJ_nodes fun WP hWP L0 a0 hL ha => ?_
  have N2xy : ∀ (gx : Nat) (gy : Nat) (W' : World), Box W' ga (.int .u64 (h : Int)) (.int .u64 (l : Int)) ∧ Box W' gb (.int .u64 (h2 : Int)) (.int .u64 (l2 : Int)) ∧ Below w.heap.size w W' ∧ Box W' gx (Fv 0) (Fv 0) ∧ w.heap.size ≤ gx ∧ gx ≠ ga ∧ gx ≠ gb ∧ Box W' gy (Fv 0) (Fv 0) ∧ w.heap.size ≤ gy ∧ gy ≠ ga ∧ gy ≠ gb ∧ gx ≠ gy → WP 2 ((((L0.setIfInBounds 1 true).setIfInBounds 3 true).setIfInBounds 4 true).setIfInBounds 5 true) ((((a0.put (some 16) (.agg #[Fv h, Fv l])).put (some 18) (.agg #[Fv h2, Fv l2])).put (some 5) (.pointer (some ⟨gx, 0, none⟩))).put (some 6) (.pointer (some ⟨gy, 0, none⟩))) W' := by
    rintro gx gy W' ⟨xa, xb, hbw, xx, hgx, dxa, dxb, xy, hgy, dya, dyb, dd⟩
    subst hWP hL ha
    have Hxa := Hid.mk9 xa
    have Hxb := Hid.mk9 xb
    have Hxx := Hid.mk9 xx
    have Hhgx := Hid.mk9 hgx
    have Hdxa := Hid.mk9 dxa
    have Hdxb := Hid.mk9 dxb
    have Hxy := Hid.mk9 xy
    have Hhgy := Hid.mk9 hgy
    have Hdya := Hid.mk9 dya
    have Hdyb := Hid.mk9 dyb
    have Hdd := Hid.mk9 dd
    clear xa xb xx hgx dxa dxb xy hgy dya dyb dd
    go_simp
    have Xa := Hxa
    have Xb := Hxb
    have Xx := Hxx
    have Xy := Hxy
    clear Hxa Hxb Hxx Hxy
    have e1 := Hdxa.out
    have e2 := Hdxb.out
    have e3 := Hdya.out
    have e4 := Hdyb.out
    have e5 := Hdd.out
    have e6 := Ne.symm e1
    have e7 := Ne.symm e2
    have e8 := Ne.symm e3
    have e9 := Ne.symm e4
    have e0 := Ne.symm e5
    have HGx : Hid (w.heap.size ≤ gx) := Hhgx.out
    have HGy : Hid (w.heap.size ≤ gy) := Hhgy.out
    obtain ⟨ca0, ca1, fa0, fa1⟩ := Xa.out
    have hnea := Xa.out.lt
    obtain ⟨cb0, cb1, fb0, fb1⟩ := Xb.out
    have hneb := Xb.out.lt
    obtain ⟨cx0, cx1, fx0, fx1⟩ := Xx.out
    have hnex := Xx.out.lt
    obtain ⟨cy0, cy1, fy0, fy1⟩ := Xy.out
    have hney := Xy.out.lt
    refine wpJ_on 6 rfl fun KJ hK => ?_
    go_simp
    refine hK _ _ ⟨by go_simp, by go_simp, by go_simp, by go_simp⟩ ?_
    clear hK
    refine wpJ_on 7 rfl fun KJ hK => ?_
    go_simp
    refine hK _ _ ⟨by go_simp, by go_simp, by go_simp, by go_simp⟩ ?_
    clear hK
    refine wpJ_done (by kernel_rfl) ?_ _
    obtain ⟨Wy, hWy⟩ : ∃ W9, W9 = ((((W'.setCell ⟨gx, 0, none⟩ (Fv h)).setCell ⟨gx, 1, none⟩ (Fv l)).setCell ⟨gy, 0, none⟩ (Fv h2)).setCell ⟨gy, 1, none⟩ (Fv l2)) := ⟨_, rfl⟩
    have Yx : Hid (Box Wy gx (Fv h) (Fv l)) := by rw [hWy]; exact ⟨by go_simp, by go_simp, by go_simp, by go_simp⟩
    have Yy : Hid (Box Wy gy (Fv h2) (Fv l2)) := by rw [hWy]; exact ⟨by go_simp, by go_simp, by go_simp, by go_simp⟩
    have hbw2 : Below w.heap.size w Wy := by rw [hWy]; exact bSet (bSet (bSet (bSet hbw _ _ _ HGx.out) _ _ _ HGx.out) _ _ _ HGy.out) _ _ _ HGy.out
    clear ca0 ca1 fa0 fa1 hnea
    clear cb0 cb1 fb0 fb1 hneb
    clear cx0 cx1 fx0 fx1 hnex
    clear cy0 cy1 fy0 fy1 hney
    rw [← hWy]
    have HXY : Hid (gx ≠ gy) := e5
    clear hWy hbw Xa Xb Xx Xy e1 e2 e3 e4 e5 e6 e7 e8 e9 e0
    have hbw := hbw2
    have Xx := Yx
    have Xy := Yy
    clear hbw2 Yx Yy
    obtain ⟨cx0, cx1, fx0, fx1⟩ := Xx.out
    have hnex := Xx.out.lt
    go_wp2_with fail
    clear cx0 cx1 fx0 fx1 hnex
    refine (ddvalue h l HD.out.1 _ (TB.out.below hbw)).mono ?_
    rintro en v3 ⟨s3, p3, m3, z3, e3, rfl, hd3, hv3, hb3⟩
    have HV3 := Hid.mk9 hv3
    clear hv3
    replace Xx : Hid _ := Xx.out.below hb3
    replace Xy : Hid _ := Xy.out.below hb3
    replace hbw := Below.on hbw hb3
    clear hb3
    have D3 : Hid (DO Wy.heap.size v3 s3 p3 m3 e3 z3) := hd3
    clear hd3
    obtain ⟨cy0, cy1, fy0, fy1⟩ := Xy.out
    have hney := Xy.out.lt
    go_wp2_with fail
    clear cy0 cy1 fy0 fy1 hney
    have Xv0 : Hid (B3q (v3.alloc (.cells #[.bool s3, .slice p3 m3 m3, .int .i64 e3] 34)) v3.heap.size (.bool s3) (.slice p3 m3 m3) (.int .i64 e3)) := B3q.new v3 _ _ _ _
    have hbn : Below v3.heap.size v3 (v3.alloc (.cells #[.bool s3, .slice p3 m3 m3, .int .i64 e3] 34)) := below1 v3 _
    generalize v3.alloc (.cells #[.bool s3, .slice p3 m3 m3, .int .i64 e3] 34) = Wv at *
    have HGv : Hid (w.heap.size ≤ v3.heap.size) := hbw.size
    replace Xx : Hid _ := Xx.out.below hbn
    replace Xy : Hid _ := Xy.out.below hbn
    replace D3 : Hid (DO Wy.heap.size Wv s3 p3 m3 e3 z3) := D3.out.below hbn
    replace hbw := Below.on hbw hbn
    clear hbn
    generalize v3.heap.size = gv at *
    have Xv := Xv0
    clear Xv0
    refine (ddvalue h2 l2 HD.out.2 _ (TB.out.below hbw)).mono ?_
    rintro en v4 ⟨s4, p4, m4, z4, e4, rfl, hd4, hv4, hb4⟩
    have HV4 := Hid.mk9 hv4
    clear hv4
    replace Xx : Hid _ := Xx.out.below hb4
    replace Xy : Hid _ := Xy.out.below hb4
    replace Xv : Hid _ := Xv.out.below hb4
    replace D3 : Hid (DO Wy.heap.size v4 s3 p3 m3 e3 z3) := D3.out.below hb4
    replace hbw := Below.on hbw hb4
    clear hb4
    have D4 : Hid (DO Wv.heap.size v4 s4 p4 m4 e4 z4) := hd4
    clear hd4
    obtain ⟨cx0, cx1, fx0, fx1⟩ := Xx.out
    have hnex := Xx.out.lt
    go_wp2_with fail
    clear cx0 cx1 fx0 fx1 hnex
    have Xu0 : Hid (B3q (v4.alloc (.cells #[.bool s4, .slice p4 m4 m4, .int .i64 e4] 34)) v4.heap.size (.bool s4) (.slice p4 m4 m4) (.int .i64 e4)) := B3q.new v4 _ _ _ _
    have hbn : Below v4.heap.size v4 (v4.alloc (.cells #[.bool s4, .slice p4 m4 m4, .int .i64 e4] 34)) := below1 v4 _
    generalize v4.alloc (.cells #[.bool s4, .slice p4 m4 m4, .int .i64 e4] 34) = Wu at *
    have HGu : Hid (w.heap.size ≤ v4.heap.size) := hbw.size
    replace Xx : Hid _ := Xx.out.below hbn
    replace Xy : Hid _ := Xy.out.below hbn
    replace Xv : Hid _ := Xv.out.below hbn
    replace D3 : Hid (DO Wy.heap.size Wu s3 p3 m3 e3 z3) := D3.out.below hbn
    replace D4 : Hid (DO Wv.heap.size Wu s4 p4 m4 e4 z4) := D4.out.below hbn
    replace hbw := Below.on hbw hbn
    clear hbn
    generalize v4.heap.size = gu at *
    have Xu := Xu0
    clear Xu0
    obtain ⟨V2, hV2⟩ : ∃ W1, W1 = Wu.drew := ⟨_, rfl⟩
    have hbd : Below Wu.heap.size Wu V2 := by rw [hV2]; exact bDrew1 (Below.refl _ _)
    replace Xx : Hid _ := Xx.out.below hbd
    replace Xy : Hid _ := Xy.out.below hbd
    replace Xv : Hid _ := Xv.out.below hbd
    replace Xu : Hid _ := Xu.out.below hbd
    replace D3 : Hid (DO Wy.heap.size V2 s3 p3 m3 e3 z3) := D3.out.below hbd
    replace D4 : Hid (DO Wv.heap.size V2 s4 p4 m4 e4 z4) := D4.out.below hbd
    replace hbw := Below.on hbw hbd
    clear hbd
    have HJ : Hid ((fun W' : World => W'.cell? ⟨gx, 0, none⟩ = some (Fv h) ∧ W'.cell? ⟨gx, 1, none⟩ = some (Fv l) ∧ W'.cell? ⟨gy, 0, none⟩ = some (Fv h2) ∧ W'.cell? ⟨gy, 1, none⟩ = some (Fv l2)) V2) := ⟨Xx.out.c0, Xx.out.c1, Xy.out.c0, Xy.out.c1⟩
    refine wp_region_J (fun W' => W'.cell? ⟨gx, 0, none⟩ = some (Fv h) ∧ W'.cell? ⟨gx, 1, none⟩ = some (Fv l) ∧ W'.cell? ⟨gy, 0, none⟩ = some (Fv h2) ∧ W'.cell? ⟨gy, 1, none⟩ = some (Fv l2)) (by kernel_rfl) ?_
    rw [← hV2]
    clear hV2
    refine wpJ_tq 0 rfl HJ.out ?_
    refine wpJ_tq 2 rfl HJ.out ?_
    refine wpJ_tq 3 rfl HJ.out ?_
    refine wpJ_on 1 rfl fun KJ hK => ?_
    go_simp
    refine (G1 _).mono ?_
    rintro e v5 ⟨rfl, hb5⟩
    replace Xx : Hid _ := Xx.out.below hb5
    replace Xy : Hid _ := Xy.out.below hb5
    replace Xv : Hid _ := Xv.out.below hb5
    replace Xu : Hid _ := Xu.out.below hb5
    replace D3 : Hid (DO Wy.heap.size v5 s3 p3 m3 e3 z3) := D3.out.below hb5
    replace D4 : Hid (DO Wv.heap.size v5 s4 p4 m4 e4 z4) := D4.out.below hb5
    replace hbw := Below.on hbw hb5
    clear hb5
    clear HJ
    have HJ : Hid ((fun W' : World => W'.cell? ⟨gx, 0, none⟩ = some (Fv h) ∧ W'.cell? ⟨gx, 1, none⟩ = some (Fv l) ∧ W'.cell? ⟨gy, 0, none⟩ = some (Fv h2) ∧ W'.cell? ⟨gy, 1, none⟩ = some (Fv l2)) v5) := ⟨Xx.out.c0, Xx.out.c1, Xy.out.c0, Xy.out.c1⟩
    refine hK _ _ HJ.out ?_
    clear hK
    refine wpJ_tq 4 rfl HJ.out ?_
    refine wpJ_tq 5 rfl HJ.out ?_
    refine wpJ_tq 6 rfl HJ.out ?_
    refine wpJ_tq 8 rfl HJ.out ?_
    refine wpJ_tq 9 rfl HJ.out ?_
    refine wpJ_on 7 rfl fun KJ hK => ?_
    go_simp
    refine (G2 _).mono ?_
    rintro e v6 ⟨rfl, hb6⟩
    replace Xx : Hid _ := Xx.out.below hb6
    replace Xy : Hid _ := Xy.out.below hb6
    replace Xv : Hid _ := Xv.out.below hb6
    replace Xu : Hid _ := Xu.out.below hb6
    replace D3 : Hid (DO Wy.heap.size v6 s3 p3 m3 e3 z3) := D3.out.below hb6
    replace D4 : Hid (DO Wv.heap.size v6 s4 p4 m4 e4 z4) := D4.out.below hb6
    replace hbw := Below.on hbw hb6
    clear hb6
    clear HJ
    have HJ : Hid ((fun W' : World => W'.cell? ⟨gx, 0, none⟩ = some (Fv h) ∧ W'.cell? ⟨gx, 1, none⟩ = some (Fv l) ∧ W'.cell? ⟨gy, 0, none⟩ = some (Fv h2) ∧ W'.cell? ⟨gy, 1, none⟩ = some (Fv l2)) v6) := ⟨Xx.out.c0, Xx.out.c1, Xy.out.c0, Xy.out.c1⟩
    refine hK _ _ HJ.out ?_
    clear hK
    refine wpJ_tq 10 rfl HJ.out ?_
    refine wpJ_tq 11 rfl HJ.out ?_
    refine wpJ_tq 12 rfl HJ.out ?_
    refine wpJ_tq 13 rfl HJ.out ?_
    refine wpJ_tq 14 rfl HJ.out ?_
    go_simp
    refine wpJ_tq 16 rfl HJ.out ?_
    refine wpJ_tq 17 rfl HJ.out ?_
    refine wpJ_on 15 rfl fun KJ hK => ?_
    go_simp
    refine (C12 _).mono ?_
    rintro e v7 ⟨rfl, hb7⟩
    replace Xx : Hid _ := Xx.out.below hb7
    replace Xy : Hid _ := Xy.out.below hb7
    replace Xv : Hid _ := Xv.out.below hb7
    replace Xu : Hid _ := Xu.out.below hb7
    replace D3 : Hid (DO Wy.heap.size v7 s3 p3 m3 e3 z3) := D3.out.below hb7
    replace D4 : Hid (DO Wv.heap.size v7 s4 p4 m4 e4 z4) := D4.out.below hb7
    replace hbw := Below.on hbw hb7
    clear hb7
    refine hK _ _ ⟨Xx.out.c0, Xx.out.c1, Xy.out.c0, Xy.out.c1⟩ ?_
    clear hK
    refine wpJ_on 18 rfl fun KJ hK => ?_
    go_simp
    refine (C21 _).mono ?_
    rintro e v8 ⟨rfl, hb8⟩
    replace Xx : Hid _ := Xx.out.below hb8
    replace Xy : Hid _ := Xy.out.below hb8
    replace Xv : Hid _ := Xv.out.below hb8
    replace Xu : Hid _ := Xu.out.below hb8
    replace D3 : Hid (DO Wy.heap.size v8 s3 p3 m3 e3 z3) := D3.out.below hb8
    replace D4 : Hid (DO Wv.heap.size v8 s4 p4 m4 e4 z4) := D4.out.below hb8
    replace hbw := Below.on hbw hb8
    clear hb8
    clear HJ
    have HJ : Hid ((fun W' : World => W'.cell? ⟨gx, 0, none⟩ = some (Fv h) ∧ W'.cell? ⟨gx, 1, none⟩ = some (Fv l) ∧ W'.cell? ⟨gy, 0, none⟩ = some (Fv h2) ∧ W'.cell? ⟨gy, 1, none⟩ = some (Fv l2)) v8) := ⟨Xx.out.c0, Xx.out.c1, Xy.out.c0, Xy.out.c1⟩
    refine hK _ _ HJ.out ?_
    clear hK
    refine wpJ_tq 19 rfl HJ.out ?_
    refine wpJ_tq 20 rfl HJ.out ?_
    refine wpJ_tq 21 rfl HJ.out ?_
    refine wpJ_done (by kernel_rfl) ?_ _
    clear HJ
    obtain ⟨cv0, cv1, cv2, fv0, fv1, fv2⟩ := Xv.out
    have hnev : gv < v8.heap.size := World.block_lt_of_cell? v8 _ cv0
    obtain ⟨cu0, cu1, cu2, fu0, fu1, fu2⟩ := Xu.out
    have hneu : gu < v8.heap.size := World.block_lt_of_cell? v8 _ cu0
    go_wp2_with fail
    clear cv0 cv1 cv2 fv0 fv1 fv2 hnev
    clear cu0 cu1 cu2 fu0 fu1 fu2 hneu
    refine (dcmp D3.out.dn D4.out.dn).mono ?_
    rintro e v9 ⟨rfl, hb9⟩
    rw [cmpI_dv HV3.out HV4.out, HK.out]
    replace Xx : Hid _ := Xx.out.below hb9
    replace Xy : Hid _ := Xy.out.below hb9
    replace Xv : Hid _ := Xv.out.below hb9
    replace Xu : Hid _ := Xu.out.below hb9
    replace D3 : Hid (DO Wy.heap.size v9 s3 p3 m3 e3 z3) := D3.out.below hb9
    replace D4 : Hid (DO Wv.heap.size v9 s4 p4 m4 e4 z4) := D4.out.below hb9
    replace hbw := Below.on hbw hb9
    clear hb9
    obtain ⟨cx0, cx1, fx0, fx1⟩ := Xx.out
    have hnex := Xx.out.lt
    obtain ⟨cy0, cy1, fy0, fy1⟩ := Xy.out
    have hney := Xy.out.lt
    go_wp2_with fail
    clear cx0 cx1 fx0 fx1 hnex
    clear cy0 cy1 fy0 fy1 hney
    obtain ⟨V3, hV3⟩ : ∃ W1, W1 = v9.drew := ⟨_, rfl⟩
    have hbd : Below v9.heap.size v9 V3 := by rw [hV3]; exact bDrew1 (Below.refl _ _)
    replace Xx : Hid _ := Xx.out.below hbd
    replace Xy : Hid _ := Xy.out.below hbd
    replace Xv : Hid _ := Xv.out.below hbd
    replace Xu : Hid _ := Xu.out.below hbd
    replace D3 : Hid (DO Wy.heap.size V3 s3 p3 m3 e3 z3) := D3.out.below hbd
    replace D4 : Hid (DO Wv.heap.size V3 s4 p4 m4 e4 z4) := D4.out.below hbd
    replace hbw := Below.on hbw hbd
    clear hbd
    have HJ : Hid ((fun W' : World => W'.cell? ⟨gx, 0, none⟩ = some (Fv h) ∧ W'.cell? ⟨gx, 1, none⟩ = some (Fv l) ∧ W'.cell? ⟨gy, 0, none⟩ = some (Fv h2) ∧ W'.cell? ⟨gy, 1, none⟩ = some (Fv l2)) V3) := ⟨Xx.out.c0, Xx.out.c1, Xy.out.c0, Xy.out.c1⟩
    refine wp_region_J (fun W' => W'.cell? ⟨gx, 0, none⟩ = some (Fv h) ∧ W'.cell? ⟨gx, 1, none⟩ = some (Fv l) ∧ W'.cell? ⟨gy, 0, none⟩ = some (Fv h2) ∧ W'.cell? ⟨gy, 1, none⟩ = some (Fv l2)) (by kernel_rfl) ?_
    rw [← hV3]
    clear hV3
    refine wpJ_tq 0 rfl HJ.out ?_
    refine wpJ_tq 1 rfl HJ.out ?_
    refine wpJ_tq 2 rfl HJ.out ?_
    refine wpJ_tq 3 rfl HJ.out ?_
    refine wpJ_tq 4 rfl HJ.out ?_
    go_simp
    refine wpJ_tq 6 rfl HJ.out ?_
    refine wpJ_on 5 rfl fun KJ hK => ?_
    go_simp
    refine (C12 _).mono ?_
    rintro e v10 ⟨rfl, hb10⟩
    replace Xx : Hid _ := Xx.out.below hb10
    replace Xy : Hid _ := Xy.out.below hb10
    replace Xv : Hid _ := Xv.out.below hb10
    replace Xu : Hid _ := Xu.out.below hb10
    replace D3 : Hid (DO Wy.heap.size v10 s3 p3 m3 e3 z3) := D3.out.below hb10
    replace D4 : Hid (DO Wv.heap.size v10 s4 p4 m4 e4 z4) := D4.out.below hb10
    replace hbw := Below.on hbw hb10
    clear hb10
    clear HJ
    have HJ : Hid ((fun W' : World => W'.cell? ⟨gx, 0, none⟩ = some (Fv h) ∧ W'.cell? ⟨gx, 1, none⟩ = some (Fv l) ∧ W'.cell? ⟨gy, 0, none⟩ = some (Fv h2) ∧ W'.cell? ⟨gy, 1, none⟩ = some (Fv l2)) v10) := ⟨Xx.out.c0, Xx.out.c1, Xy.out.c0, Xy.out.c1⟩
    refine hK _ _ HJ.out ?_
    clear hK
    refine wpJ_tq 7 rfl HJ.out ?_
    refine wpJ_tq 8 rfl HJ.out ?_
    refine wpJ_tq 9 rfl HJ.out ?_
    refine wpJ_tq 10 rfl HJ.out ?_
    refine wpJ_tq 12 rfl HJ.out ?_
    go_simp
    refine wpJ_tq 15 rfl HJ.out ?_
    refine wpJ_tq 16 rfl HJ.out ?_
    refine wpJ_on 11 rfl fun KJ hK => ?_
    go_simp
    refine (n1 _).mono ?_
    rintro e v11 ⟨rfl, hb11⟩
    replace Xx : Hid _ := Xx.out.below hb11
    replace Xy : Hid _ := Xy.out.below hb11
    replace Xv : Hid _ := Xv.out.below hb11
    replace Xu : Hid _ := Xu.out.below hb11
    replace D3 : Hid (DO Wy.heap.size v11 s3 p3 m3 e3 z3) := D3.out.below hb11
    replace D4 : Hid (DO Wv.heap.size v11 s4 p4 m4 e4 z4) := D4.out.below hb11
    replace hbw := Below.on hbw hb11
    clear hb11
    refine hK _ _ ⟨Xx.out.c0, Xx.out.c1, Xy.out.c0, Xy.out.c1⟩ ?_
    clear hK
    refine wpJ_on 13 rfl fun KJ hK => ?_
    go_simp
    refine (n2 _).mono ?_
    rintro e v12 ⟨rfl, hb12⟩
    replace Xx : Hid _ := Xx.out.below hb12
    replace Xy : Hid _ := Xy.out.below hb12
    replace Xv : Hid _ := Xv.out.below hb12
    replace Xu : Hid _ := Xu.out.below hb12
    replace D3 : Hid (DO Wy.heap.size v12 s3 p3 m3 e3 z3) := D3.out.below hb12
    replace D4 : Hid (DO Wv.heap.size v12 s4 p4 m4 e4 z4) := D4.out.below hb12
    replace hbw := Below.on hbw hb12
    clear hb12
    refine hK _ _ ⟨Xx.out.c0, Xx.out.c1, Xy.out.c0, Xy.out.c1⟩ ?_
    clear hK
    refine wpJ_on 14 rfl fun KJ hK => ?_
    go_simp
    refine (CN _).mono ?_
    rintro e v13 ⟨rfl, hb13⟩
    replace Xx : Hid _ := Xx.out.below hb13
    replace Xy : Hid _ := Xy.out.below hb13
    replace Xv : Hid _ := Xv.out.below hb13
    replace Xu : Hid _ := Xu.out.below hb13
    replace D3 : Hid (DO Wy.heap.size v13 s3 p3 m3 e3 z3) := D3.out.below hb13
    replace D4 : Hid (DO Wv.heap.size v13 s4 p4 m4 e4 z4) := D4.out.below hb13
    replace hbw := Below.on hbw hb13
    clear hb13
    clear HJ
    have HJ : Hid ((fun W' : World => W'.cell? ⟨gx, 0, none⟩ = some (Fv h) ∧ W'.cell? ⟨gx, 1, none⟩ = some (Fv l) ∧ W'.cell? ⟨gy, 0, none⟩ = some (Fv h2) ∧ W'.cell? ⟨gy, 1, none⟩ = some (Fv l2)) v13) := ⟨Xx.out.c0, Xx.out.c1, Xy.out.c0, Xy.out.c1⟩
    refine hK _ _ HJ.out ?_
    clear hK
    refine wpJ_tq 17 rfl HJ.out ?_
    refine wpJ_tq 18 rfl HJ.out ?_
    refine wpJ_tq 19 rfl HJ.out ?_
    refine wpJ_done (by kernel_rfl) ?_ _
    clear HJ
    go_wp2_with fail
    go_ret
    exact ⟨by kernel_rfl, hbw⟩
  have N2x : ∀ (gx : Nat) (W' : World), Box W' ga (.int .u64 (h : Int)) (.int .u64 (l : Int)) ∧ Box W' gb (.int .u64 (h2 : Int)) (.int .u64 (l2 : Int)) ∧ Below w.heap.size w W' ∧ Box W' gx (Fv 0) (Fv 0) ∧ w.heap.size ≤ gx ∧ gx ≠ ga ∧ gx ≠ gb → WP 3 (((L0.setIfInBounds 1 true).setIfInBounds 3 true).setIfInBounds 4 true) (((a0.put (some 16) (.agg #[Fv h, Fv l])).put (some 18) (.agg #[Fv h2, Fv l2])).put (some 5) (.pointer (some ⟨gx, 0, none⟩))) W' := by
    rintro gx W' ⟨xa, xb, hbw, xx, hgx, dxa, dxb⟩
    subst hWP hL ha
    have Hxa := Hid.mk9 xa
    have Hxb := Hid.mk9 xb
    have Hxx := Hid.mk9 xx
    have Hhgx := Hid.mk9 hgx
    have Hdxa := Hid.mk9 dxa
    have Hdxb := Hid.mk9 dxb
    clear xa xb xx hgx dxa dxb
    go_simp
    refine wpJ_on 5 rfl fun KJ hK => ?_
    go_simp
    have hb := below1 W' (.cells #[Fv 0, Fv 0] 28)
    refine hK _ _ ⟨(Hxa.out.below hb).c0, (Hxa.out.below hb).c1, (Hxb.out.below hb).c0, (Hxb.out.below hb).c1⟩ ?_
    exact wpJ_same (by kernel_rfl) (by kernel_rfl) (N2xy gx W'.heap.size _ ⟨(Hxa.out.below hb), (Hxb.out.below hb), (Below.on hbw hb), (Hxx.out.below hb), Hhgx.out, Hdxa.out, Hdxb.out, (Box.new W' _ _ _), hbw.size, (Nat.ne_of_gt Hxa.out.lt), (Nat.ne_of_gt Hxb.out.lt), (Nat.ne_of_lt Hxx.out.lt)⟩)
  have N2y : ∀ (gy : Nat) (W' : World), Box W' ga (.int .u64 (h : Int)) (.int .u64 (l : Int)) ∧ Box W' gb (.int .u64 (h2 : Int)) (.int .u64 (l2 : Int)) ∧ Below w.heap.size w W' ∧ Box W' gy (Fv 0) (Fv 0) ∧ w.heap.size ≤ gy ∧ gy ≠ ga ∧ gy ≠ gb → WP 3 (((L0.setIfInBounds 1 true).setIfInBounds 3 true).setIfInBounds 5 true) (((a0.put (some 16) (.agg #[Fv h, Fv l])).put (some 18) (.agg #[Fv h2, Fv l2])).put (some 6) (.pointer (some ⟨gy, 0, none⟩))) W' := by
    rintro gy W' ⟨xa, xb, hbw, xy, hgy, dya, dyb⟩
    subst hWP hL ha
    have Hxa := Hid.mk9 xa
    have Hxb := Hid.mk9 xb
    have Hxy := Hid.mk9 xy
    have Hhgy := Hid.mk9 hgy
    have Hdya := Hid.mk9 dya
    have Hdyb := Hid.mk9 dyb
    clear xa xb xy hgy dya dyb
    go_simp
    refine wpJ_on 4 rfl fun KJ hK => ?_
    go_simp
    have hb := below1 W' (.cells #[Fv 0, Fv 0] 28)
    refine hK _ _ ⟨(Hxa.out.below hb).c0, (Hxa.out.below hb).c1, (Hxb.out.below hb).c0, (Hxb.out.below hb).c1⟩ ?_
    exact wpJ_same (by kernel_rfl) (by kernel_rfl) (N2xy W'.heap.size gy _ ⟨(Hxa.out.below hb), (Hxb.out.below hb), (Below.on hbw hb), (Box.new W' _ _ _), hbw.size, (Nat.ne_of_gt Hxa.out.lt), (Nat.ne_of_gt Hxb.out.lt), (Hxy.out.below hb), Hhgy.out, Hdya.out, Hdyb.out, (Nat.ne_of_gt Hxy.out.lt)⟩)
  have N2 : ∀ (W' : World), Box W' ga (.int .u64 (h : Int)) (.int .u64 (l : Int)) ∧ Box W' gb (.int .u64 (h2 : Int)) (.int .u64 (l2 : Int)) ∧ Below w.heap.size w W' → WP 4 ((L0.setIfInBounds 1 true).setIfInBounds 3 true) ((a0.put (some 16) (.agg #[Fv h, Fv l])).put (some 18) (.agg #[Fv h2, Fv l2])) W' := by
    rintro  W' ⟨xa, xb, hbw⟩
    subst hWP hL ha
    have Hxa := Hid.mk9 xa
    have Hxb := Hid.mk9 xb
    clear xa xb
    go_simp
    refine wpJ_two (i := 4) (k := 5) (by kernel_rfl) rfl rfl (by kernel_rfl) (by kernel_rfl) (fun KJ hK => ?_) (fun KJ hK => ?_)
    · go_simp
      have hb := below1 W' (.cells #[Fv 0, Fv 0] 28)
      refine hK _ _ ⟨(Hxa.out.below hb).c0, (Hxa.out.below hb).c1, (Hxb.out.below hb).c0, (Hxb.out.below hb).c1⟩ ?_
      exact wpJ_same (by kernel_rfl) (by kernel_rfl) (N2x W'.heap.size _ ⟨(Hxa.out.below hb), (Hxb.out.below hb), (Below.on hbw hb), (Box.new W' _ _ _), hbw.size, (Nat.ne_of_gt Hxa.out.lt), (Nat.ne_of_gt Hxb.out.lt)⟩)
    · go_simp
      have hb := below1 W' (.cells #[Fv 0, Fv 0] 28)
      refine hK _ _ ⟨(Hxa.out.below hb).c0, (Hxa.out.below hb).c1, (Hxb.out.below hb).c0, (Hxb.out.below hb).c1⟩ ?_
      exact wpJ_same (by kernel_rfl) (by kernel_rfl) (N2y W'.heap.size _ ⟨(Hxa.out.below hb), (Hxb.out.below hb), (Below.on hbw hb), (Box.new W' _ _ _), hbw.size, (Nat.ne_of_gt Hxa.out.lt), (Nat.ne_of_gt Hxb.out.lt)⟩)
  have N1xy : ∀ (gx : Nat) (gy : Nat) (W' : World), Box W' ga (.int .u64 (h : Int)) (.int .u64 (l : Int)) ∧ Box W' gb (.int .u64 (h2 : Int)) (.int .u64 (l2 : Int)) ∧ Below w.heap.size w W' ∧ Box W' gx (Fv 0) (Fv 0) ∧ w.heap.size ≤ gx ∧ gx ≠ ga ∧ gx ≠ gb ∧ Box W' gy (Fv 0) (Fv 0) ∧ w.heap.size ≤ gy ∧ gy ≠ ga ∧ gy ≠ gb ∧ gx ≠ gy → WP 3 (((L0.setIfInBounds 1 true).setIfInBounds 4 true).setIfInBounds 5 true) (((a0.put (some 16) (.agg #[Fv h, Fv l])).put (some 5) (.pointer (some ⟨gx, 0, none⟩))).put (some 6) (.pointer (some ⟨gy, 0, none⟩))) W' := by
    rintro gx gy W' ⟨xa, xb, hbw, xx, hgx, dxa, dxb, xy, hgy, dya, dyb, dd⟩
    subst hWP hL ha
    have Hxa := Hid.mk9 xa
    have Hxb := Hid.mk9 xb
    have Hxx := Hid.mk9 xx
    have Hhgx := Hid.mk9 hgx
    have Hdxa := Hid.mk9 dxa
    have Hdxb := Hid.mk9 dxb
    have Hxy := Hid.mk9 xy
    have Hhgy := Hid.mk9 hgy
    have Hdya := Hid.mk9 dya
    have Hdyb := Hid.mk9 dyb
    have Hdd := Hid.mk9 dd
    clear xa xb xx hgx dxa dxb xy hgy dya dyb dd
    go_simp
    refine wpJ_on 3 rfl fun KJ hK => ?_
    go_simp
    refine (P2 _).mono ?_
    rintro e W2 ⟨rfl, hb⟩
    refine hK _ _ ⟨(Hxa.out.below hb).c0, (Hxa.out.below hb).c1, (Hxb.out.below hb).c0, (Hxb.out.below hb).c1⟩ ?_
    exact wpJ_same (by kernel_rfl) (by kernel_rfl) (N2xy gx gy W2 ⟨(Hxa.out.below hb), (Hxb.out.below hb), (Below.on hbw hb), (Hxx.out.below hb), Hhgx.out, Hdxa.out, Hdxb.out, (Hxy.out.below hb), Hhgy.out, Hdya.out, Hdyb.out, Hdd.out⟩)
  have N1x : ∀ (gx : Nat) (W' : World), Box W' ga (.int .u64 (h : Int)) (.int .u64 (l : Int)) ∧ Box W' gb (.int .u64 (h2 : Int)) (.int .u64 (l2 : Int)) ∧ Below w.heap.size w W' ∧ Box W' gx (Fv 0) (Fv 0) ∧ w.heap.size ≤ gx ∧ gx ≠ ga ∧ gx ≠ gb → WP 4 ((L0.setIfInBounds 1 true).setIfInBounds 4 true) ((a0.put (some 16) (.agg #[Fv h, Fv l])).put (some 5) (.pointer (some ⟨gx, 0, none⟩))) W' := by
    rintro gx W' ⟨xa, xb, hbw, xx, hgx, dxa, dxb⟩
    subst hWP hL ha
    have Hxa := Hid.mk9 xa
    have Hxb := Hid.mk9 xb
    have Hxx := Hid.mk9 xx
    have Hhgx := Hid.mk9 hgx
    have Hdxa := Hid.mk9 dxa
    have Hdxb := Hid.mk9 dxb
    clear xa xb xx hgx dxa dxb
    go_simp
    refine wpJ_two (i := 3) (k := 5) (by kernel_rfl) rfl rfl (by kernel_rfl) (by kernel_rfl) (fun KJ hK => ?_) (fun KJ hK => ?_)
    · go_simp
      refine (P2 _).mono ?_
      rintro e W2 ⟨rfl, hb⟩
      refine hK _ _ ⟨(Hxa.out.below hb).c0, (Hxa.out.below hb).c1, (Hxb.out.below hb).c0, (Hxb.out.below hb).c1⟩ ?_
      exact wpJ_same (by kernel_rfl) (by kernel_rfl) (N2x gx W2 ⟨(Hxa.out.below hb), (Hxb.out.below hb), (Below.on hbw hb), (Hxx.out.below hb), Hhgx.out, Hdxa.out, Hdxb.out⟩)
    · go_simp
      have hb := below1 W' (.cells #[Fv 0, Fv 0] 28)
      refine hK _ _ ⟨(Hxa.out.below hb).c0, (Hxa.out.below hb).c1, (Hxb.out.below hb).c0, (Hxb.out.below hb).c1⟩ ?_
      exact wpJ_same (by kernel_rfl) (by kernel_rfl) (N1xy gx W'.heap.size _ ⟨(Hxa.out.below hb), (Hxb.out.below hb), (Below.on hbw hb), (Hxx.out.below hb), Hhgx.out, Hdxa.out, Hdxb.out, (Box.new W' _ _ _), hbw.size, (Nat.ne_of_gt Hxa.out.lt), (Nat.ne_of_gt Hxb.out.lt), (Nat.ne_of_lt Hxx.out.lt)⟩)
  have N1y : ∀ (gy : Nat) (W' : World), Box W' ga (.int .u64 (h : Int)) (.int .u64 (l : Int)) ∧ Box W' gb (.int .u64 (h2 : Int)) (.int .u64 (l2 : Int)) ∧ Below w.heap.size w W' ∧ Box W' gy (Fv 0) (Fv 0) ∧ w.heap.size ≤ gy ∧ gy ≠ ga ∧ gy ≠ gb → WP 4 ((L0.setIfInBounds 1 true).setIfInBounds 5 true) ((a0.put (some 16) (.agg #[Fv h, Fv l])).put (some 6) (.pointer (some ⟨gy, 0, none⟩))) W' := by
    rintro gy W' ⟨xa, xb, hbw, xy, hgy, dya, dyb⟩
    subst hWP hL ha
    have Hxa := Hid.mk9 xa
    have Hxb := Hid.mk9 xb
    have Hxy := Hid.mk9 xy
    have Hhgy := Hid.mk9 hgy
    have Hdya := Hid.mk9 dya
    have Hdyb := Hid.mk9 dyb
    clear xa xb xy hgy dya dyb
    go_simp
    refine wpJ_two (i := 3) (k := 4) (by kernel_rfl) rfl rfl (by kernel_rfl) (by kernel_rfl) (fun KJ hK => ?_) (fun KJ hK => ?_)
    · go_simp
      refine (P2 _).mono ?_
      rintro e W2 ⟨rfl, hb⟩
      refine hK _ _ ⟨(Hxa.out.below hb).c0, (Hxa.out.below hb).c1, (Hxb.out.below hb).c0, (Hxb.out.below hb).c1⟩ ?_
      exact wpJ_same (by kernel_rfl) (by kernel_rfl) (N2y gy W2 ⟨(Hxa.out.below hb), (Hxb.out.below hb), (Below.on hbw hb), (Hxy.out.below hb), Hhgy.out, Hdya.out, Hdyb.out⟩)
    · go_simp
      have hb := below1 W' (.cells #[Fv 0, Fv 0] 28)
      refine hK _ _ ⟨(Hxa.out.below hb).c0, (Hxa.out.below hb).c1, (Hxb.out.below hb).c0, (Hxb.out.below hb).c1⟩ ?_
      exact wpJ_same (by kernel_rfl) (by kernel_rfl) (N1xy W'.heap.size gy _ ⟨(Hxa.out.below hb), (Hxb.out.below hb), (Below.on hbw hb), (Box.new W' _ _ _), hbw.size, (Nat.ne_of_gt Hxa.out.lt), (Nat.ne_of_gt Hxb.out.lt), (Hxy.out.below hb), Hhgy.out, Hdya.out, Hdyb.out, (Nat.ne_of_gt Hxy.out.lt)⟩)
  have N1 : ∀ (W' : World), Box W' ga (.int .u64 (h : Int)) (.int .u64 (l : Int)) ∧ Box W' gb (.int .u64 (h2 : Int)) (.int .u64 (l2 : Int)) ∧ Below w.heap.size w W' → WP 5 (L0.setIfInBounds 1 true) (a0.put (some 16) (.agg #[Fv h, Fv l])) W' := by
    rintro  W' ⟨xa, xb, hbw⟩
    subst hWP hL ha
    have Hxa := Hid.mk9 xa
    have Hxb := Hid.mk9 xb
    clear xa xb
    go_simp
    refine wpJ_three (i := 3) (k := 4) (l := 5) (by kernel_rfl) rfl rfl rfl (by kernel_rfl) (by kernel_rfl) (by kernel_rfl) (fun KJ hK => ?_) (fun KJ hK => ?_) (fun KJ hK => ?_)
    · go_simp
      refine (P2 _).mono ?_
      rintro e W2 ⟨rfl, hb⟩
      refine hK _ _ ⟨(Hxa.out.below hb).c0, (Hxa.out.below hb).c1, (Hxb.out.below hb).c0, (Hxb.out.below hb).c1⟩ ?_
      exact wpJ_same (by kernel_rfl) (by kernel_rfl) (N2  W2 ⟨(Hxa.out.below hb), (Hxb.out.below hb), (Below.on hbw hb)⟩)
    · go_simp
      have hb := below1 W' (.cells #[Fv 0, Fv 0] 28)
      refine hK _ _ ⟨(Hxa.out.below hb).c0, (Hxa.out.below hb).c1, (Hxb.out.below hb).c0, (Hxb.out.below hb).c1⟩ ?_
      exact wpJ_same (by kernel_rfl) (by kernel_rfl) (N1x W'.heap.size _ ⟨(Hxa.out.below hb), (Hxb.out.below hb), (Below.on hbw hb), (Box.new W' _ _ _), hbw.size, (Nat.ne_of_gt Hxa.out.lt), (Nat.ne_of_gt Hxb.out.lt)⟩)
    · go_simp
      have hb := below1 W' (.cells #[Fv 0, Fv 0] 28)
      refine hK _ _ ⟨(Hxa.out.below hb).c0, (Hxa.out.below hb).c1, (Hxb.out.below hb).c0, (Hxb.out.below hb).c1⟩ ?_
      exact wpJ_same (by kernel_rfl) (by kernel_rfl) (N1y W'.heap.size _ ⟨(Hxa.out.below hb), (Hxb.out.below hb), (Below.on hbw hb), (Box.new W' _ _ _), hbw.size, (Nat.ne_of_gt Hxa.out.lt), (Nat.ne_of_gt Hxb.out.lt)⟩)
  have N0xy : ∀ (gx : Nat) (gy : Nat) (W' : World), Box W' ga (.int .u64 (h : Int)) (.int .u64 (l : Int)) ∧ Box W' gb (.int .u64 (h2 : Int)) (.int .u64 (l2 : Int)) ∧ Below w.heap.size w W' ∧ Box W' gx (Fv 0) (Fv 0) ∧ w.heap.size ≤ gx ∧ gx ≠ ga ∧ gx ≠ gb ∧ Box W' gy (Fv 0) (Fv 0) ∧ w.heap.size ≤ gy ∧ gy ≠ ga ∧ gy ≠ gb ∧ gx ≠ gy → WP 4 ((L0.setIfInBounds 4 true).setIfInBounds 5 true) ((a0.put (some 5) (.pointer (some ⟨gx, 0, none⟩))).put (some 6) (.pointer (some ⟨gy, 0, none⟩))) W' := by
    rintro gx gy W' ⟨xa, xb, hbw, xx, hgx, dxa, dxb, xy, hgy, dya, dyb, dd⟩
    subst hWP hL ha
    have Hxa := Hid.mk9 xa
    have Hxb := Hid.mk9 xb
    have Hxx := Hid.mk9 xx
    have Hhgx := Hid.mk9 hgx
    have Hdxa := Hid.mk9 dxa
    have Hdxb := Hid.mk9 dxb
    have Hxy := Hid.mk9 xy
    have Hhgy := Hid.mk9 hgy
    have Hdya := Hid.mk9 dya
    have Hdyb := Hid.mk9 dyb
    have Hdd := Hid.mk9 dd
    clear xa xb xx hgx dxa dxb xy hgy dya dyb dd
    go_simp
    refine wpJ_on 1 rfl fun KJ hK => ?_
    go_simp
    refine (P1 _).mono ?_
    rintro e W2 ⟨rfl, hb⟩
    refine hK _ _ ⟨(Hxa.out.below hb).c0, (Hxa.out.below hb).c1, (Hxb.out.below hb).c0, (Hxb.out.below hb).c1⟩ ?_
    exact wpJ_same (by kernel_rfl) (by kernel_rfl) (N1xy gx gy W2 ⟨(Hxa.out.below hb), (Hxb.out.below hb), (Below.on hbw hb), (Hxx.out.below hb), Hhgx.out, Hdxa.out, Hdxb.out, (Hxy.out.below hb), Hhgy.out, Hdya.out, Hdyb.out, Hdd.out⟩)
  have N0x : ∀ (gx : Nat) (W' : World), Box W' ga (.int .u64 (h : Int)) (.int .u64 (l : Int)) ∧ Box W' gb (.int .u64 (h2 : Int)) (.int .u64 (l2 : Int)) ∧ Below w.heap.size w W' ∧ Box W' gx (Fv 0) (Fv 0) ∧ w.heap.size ≤ gx ∧ gx ≠ ga ∧ gx ≠ gb → WP 5 (L0.setIfInBounds 4 true) (a0.put (some 5) (.pointer (some ⟨gx, 0, none⟩))) W' := by
    rintro gx W' ⟨xa, xb, hbw, xx, hgx, dxa, dxb⟩
    subst hWP hL ha
    have Hxa := Hid.mk9 xa
    have Hxb := Hid.mk9 xb
    have Hxx := Hid.mk9 xx
    have Hhgx := Hid.mk9 hgx
    have Hdxa := Hid.mk9 dxa
    have Hdxb := Hid.mk9 dxb
    clear xa xb xx hgx dxa dxb
    go_simp
    refine wpJ_two (i := 1) (k := 5) (by kernel_rfl) rfl rfl (by kernel_rfl) (by kernel_rfl) (fun KJ hK => ?_) (fun KJ hK => ?_)
    · go_simp
      refine (P1 _).mono ?_
      rintro e W2 ⟨rfl, hb⟩
      refine hK _ _ ⟨(Hxa.out.below hb).c0, (Hxa.out.below hb).c1, (Hxb.out.below hb).c0, (Hxb.out.below hb).c1⟩ ?_
      exact wpJ_same (by kernel_rfl) (by kernel_rfl) (N1x gx W2 ⟨(Hxa.out.below hb), (Hxb.out.below hb), (Below.on hbw hb), (Hxx.out.below hb), Hhgx.out, Hdxa.out, Hdxb.out⟩)
    · go_simp
      have hb := below1 W' (.cells #[Fv 0, Fv 0] 28)
      refine hK _ _ ⟨(Hxa.out.below hb).c0, (Hxa.out.below hb).c1, (Hxb.out.below hb).c0, (Hxb.out.below hb).c1⟩ ?_
      exact wpJ_same (by kernel_rfl) (by kernel_rfl) (N0xy gx W'.heap.size _ ⟨(Hxa.out.below hb), (Hxb.out.below hb), (Below.on hbw hb), (Hxx.out.below hb), Hhgx.out, Hdxa.out, Hdxb.out, (Box.new W' _ _ _), hbw.size, (Nat.ne_of_gt Hxa.out.lt), (Nat.ne_of_gt Hxb.out.lt), (Nat.ne_of_lt Hxx.out.lt)⟩)
  have N0y : ∀ (gy : Nat) (W' : World), Box W' ga (.int .u64 (h : Int)) (.int .u64 (l : Int)) ∧ Box W' gb (.int .u64 (h2 : Int)) (.int .u64 (l2 : Int)) ∧ Below w.heap.size w W' ∧ Box W' gy (Fv 0) (Fv 0) ∧ w.heap.size ≤ gy ∧ gy ≠ ga ∧ gy ≠ gb → WP 5 (L0.setIfInBounds 5 true) (a0.put (some 6) (.pointer (some ⟨gy, 0, none⟩))) W' := by
    rintro gy W' ⟨xa, xb, hbw, xy, hgy, dya, dyb⟩
    subst hWP hL ha
    have Hxa := Hid.mk9 xa
    have Hxb := Hid.mk9 xb
    have Hxy := Hid.mk9 xy
    have Hhgy := Hid.mk9 hgy
    have Hdya := Hid.mk9 dya
    have Hdyb := Hid.mk9 dyb
    clear xa xb xy hgy dya dyb
    go_simp
    refine wpJ_two (i := 1) (k := 4) (by kernel_rfl) rfl rfl (by kernel_rfl) (by kernel_rfl) (fun KJ hK => ?_) (fun KJ hK => ?_)
    · go_simp
      refine (P1 _).mono ?_
      rintro e W2 ⟨rfl, hb⟩
      refine hK _ _ ⟨(Hxa.out.below hb).c0, (Hxa.out.below hb).c1, (Hxb.out.below hb).c0, (Hxb.out.below hb).c1⟩ ?_
      exact wpJ_same (by kernel_rfl) (by kernel_rfl) (N1y gy W2 ⟨(Hxa.out.below hb), (Hxb.out.below hb), (Below.on hbw hb), (Hxy.out.below hb), Hhgy.out, Hdya.out, Hdyb.out⟩)
    · go_simp
      have hb := below1 W' (.cells #[Fv 0, Fv 0] 28)
      refine hK _ _ ⟨(Hxa.out.below hb).c0, (Hxa.out.below hb).c1, (Hxb.out.below hb).c0, (Hxb.out.below hb).c1⟩ ?_
      exact wpJ_same (by kernel_rfl) (by kernel_rfl) (N0xy W'.heap.size gy _ ⟨(Hxa.out.below hb), (Hxb.out.below hb), (Below.on hbw hb), (Box.new W' _ _ _), hbw.size, (Nat.ne_of_gt Hxa.out.lt), (Nat.ne_of_gt Hxb.out.lt), (Hxy.out.below hb), Hhgy.out, Hdya.out, Hdyb.out, (Nat.ne_of_gt Hxy.out.lt)⟩)
  have N0 : ∀ (W' : World), Box W' ga (.int .u64 (h : Int)) (.int .u64 (l : Int)) ∧ Box W' gb (.int .u64 (h2 : Int)) (.int .u64 (l2 : Int)) ∧ Below w.heap.size w W' → WP 6 L0 a0 W' := by
    rintro  W' ⟨xa, xb, hbw⟩
    subst hWP hL ha
    have Hxa := Hid.mk9 xa
    have Hxb := Hid.mk9 xb
    clear xa xb
    go_simp
    refine wpJ_three (i := 1) (k := 4) (l := 5) (by kernel_rfl) rfl rfl rfl (by kernel_rfl) (by kernel_rfl) (by kernel_rfl) (fun KJ hK => ?_) (fun KJ hK => ?_) (fun KJ hK => ?_)
    · go_simp
      refine (P1 _).mono ?_
      rintro e W2 ⟨rfl, hb⟩
      refine hK _ _ ⟨(Hxa.out.below hb).c0, (Hxa.out.below hb).c1, (Hxb.out.below hb).c0, (Hxb.out.below hb).c1⟩ ?_
      exact wpJ_same (by kernel_rfl) (by kernel_rfl) (N1  W2 ⟨(Hxa.out.below hb), (Hxb.out.below hb), (Below.on hbw hb)⟩)
    · go_simp
      have hb := below1 W' (.cells #[Fv 0, Fv 0] 28)
      refine hK _ _ ⟨(Hxa.out.below hb).c0, (Hxa.out.below hb).c1, (Hxb.out.below hb).c0, (Hxb.out.below hb).c1⟩ ?_
      exact wpJ_same (by kernel_rfl) (by kernel_rfl) (N0x W'.heap.size _ ⟨(Hxa.out.below hb), (Hxb.out.below hb), (Below.on hbw hb), (Box.new W' _ _ _), hbw.size, (Nat.ne_of_gt Hxa.out.lt), (Nat.ne_of_gt Hxb.out.lt)⟩)
    · go_simp
      have hb := below1 W' (.cells #[Fv 0, Fv 0] 28)
      refine hK _ _ ⟨(Hxa.out.below hb).c0, (Hxa.out.below hb).c1, (Hxb.out.below hb).c0, (Hxb.out.below hb).c1⟩ ?_
      exact wpJ_same (by kernel_rfl) (by kernel_rfl) (N0y W'.heap.size _ ⟨(Hxa.out.below hb), (Hxb.out.below hb), (Below.on hbw hb), (Box.new W' _ _ _), hbw.size, (Nat.ne_of_gt Hxa.out.lt), (Nat.ne_of_gt Hxb.out.lt)⟩)
  exact N0 V1 ⟨Xa.out, Xb.out, hbw⟩
end Go.Proofs.YtibfjdepeacgjaaDoor
