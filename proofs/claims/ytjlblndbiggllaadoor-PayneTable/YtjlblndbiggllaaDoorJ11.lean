import Derived.Test.YtjlblndbiggllaaDoorJ10
import Derived.Test.YtjlblndbiggllaaDoorJ8
namespace Go.Proofs.YtjlblndbiggllaaDoor
open Go.RowKit Go.Shelf
set_option maxRecDepth 20000
set_option maxHeartbeats 0
theorem results_tc {fn : Func} {p t : Tmp} {ty : TypeId} (h : fn.results = #[.tmp t, .cell p ty]) (tmps : Array Value) (P : Program) (w : World) :
    (results fn tmps).run P w = ((asAddr (tmps.getD p undef)).run P w).andThen fun a w₁ => ((loadVar ty a).run P w₁).andThen fun v w₂ => .ok (.tuple #[tmps.getD t undef, v]) w₂ := by
  simp only [results, h]
  simp [Sem.run_bind, Result.andThen]
theorem results_tct {fn : Func} {p t t2 : Tmp} {ty : TypeId} (h : fn.results = #[.tmp t, .cell p ty, .tmp t2]) (tmps : Array Value) (P : Program) (w : World) :
    (results fn tmps).run P w = ((asAddr (tmps.getD p undef)).run P w).andThen fun a w₁ => ((loadVar ty a).run P w₁).andThen fun v w₂ => .ok (.tuple #[tmps.getD t undef, v, tmps.getD t2 undef]) w₂ := by
  simp only [results, h]
  simp [Sem.run_bind, Result.andThen]
theorem nearest_4 (w : World) :
    Calls Tryd.prog 15 #[.agg #[.int .u64 11743562013128004905, .int .u64 18169587780923219392, .int .u64 15808362127397457985, .int .u64 18325146883770548224]] w fun en w' => en = .returned (.tuple #[.int .i64 3, .agg #[Fv 13825213563187346411, Fv 4351882500388747932]]) ∧ Below w.heap.size w w' := by
  have hSF : ∀ (w : World) (a : Addr) (b : Nat), (store a (Fv b)).run Tryd.prog w = stored Tryd.prog w a (Fv b) .plain := stF
  have br1 : bits BinOp.and IntKind.i64 (3) (3) = 3 := by kernel_rfl
  have br2 : bits BinOp.and IntKind.u64 (5) (1) = 1 := by kernel_rfl
  have wr3 : IntKind.u64.wrap (6) = 6 := by kernel_rfl
  have wr4 : IntKind.i64.wrap (6) = 6 := by kernel_rfl
  go_enter Tryd.func15, Tryd.ntmps15
  go_wp2_with fail
  obtain ⟨W0, hW0⟩ : ∃ W0, W0 = ((w.alloc (.cells #[.int .u64 11743562013128004905, .int .u64 18169587780923219392, .int .u64 15808362127397457985, .int .u64 18325146883770548224] 46)).alloc (.cells #[Fv 0, Fv 0] 35)) := ⟨_, rfl⟩
  have Xq : Hid (B4q W0 (w.heap.size) (.int .u64 11743562013128004905) (.int .u64 18169587780923219392) (.int .u64 15808362127397457985) (.int .u64 18325146883770548224)) := by rw [hW0]; exact ⟨by go_simp, by go_simp, by go_simp, by go_simp, by go_simp, by go_simp, by go_simp, by go_simp⟩
  have Xr : Hid (Box W0 (w.heap.size + 1) (Fv 0) (Fv 0)) := by rw [hW0]; exact ⟨by go_simp, by go_simp, by go_simp, by go_simp⟩
  have hb0 : Below w.heap.size w W0 := by rw [hW0]; exact below2 w _ _
  rw [← hW0]
  clear hW0
  have hbw : Below w.heap.size w w := Below.refl _ _
  obtain ⟨gr, hgr⟩ : ∃ g, g = w.heap.size + 1 := ⟨_, rfl⟩
  have HGr : Hid (w.heap.size ≤ gr) := by rw [hgr]; show _ ≤ _; omega
  rw [← hgr] at Xr
  try rw [← hgr]
  obtain ⟨gq, hgq⟩ : ∃ g, g = w.heap.size := ⟨_, rfl⟩
  have HGq : Hid (w.heap.size ≤ gq) := by rw [hgq]; show _ ≤ _; omega
  rw [← hgq] at Xq
  try rw [← hgq]
  have HGD : Hid (gq ≠ gr ∧ gr ≠ gq) := by rw [hgq, hgr]; exact ⟨by omega, by omega⟩
  clear hgq hgr
  replace hbw := Below.on hbw hb0
  clear hb0
  obtain ⟨hgd0, hgd1⟩ := HGD.out
  refine (doubled_2 _).mono ?_
  rintro e v1 ⟨rfl, hb1⟩
  replace Xq : Hid _ := Xq.out.below hb1
  replace Xr : Hid _ := Xr.out.below hb1
  replace hbw := Below.on hbw hb1
  clear hb1
  obtain ⟨cq0, cq1, cq2, cq3, fq0, fq1, fq2, fq3⟩ := Xq.out
  have hneq : gq < v1.heap.size := World.block_lt_of_cell? v1 _ cq0
  go_wp2_with fail
  clear cq0 cq1 cq2 cq3 fq0 fq1 fq2 fq3 hneq
  have Xp0 : Hid (B4q (v1.alloc (.cells #[.int .u64 10080759905092916391, .int .u64 17338118902564222723, .int .u64 7893216288461177095, .int .u64 17960355313953538048] 46)) v1.heap.size (.int .u64 10080759905092916391) (.int .u64 17338118902564222723) (.int .u64 7893216288461177095) (.int .u64 17960355313953538048)) := B4q.new v1 _ _ _ _ _
  have hbn : Below v1.heap.size v1 (v1.alloc (.cells #[.int .u64 10080759905092916391, .int .u64 17338118902564222723, .int .u64 7893216288461177095, .int .u64 17960355313953538048] 46)) := below1 v1 _
  generalize v1.alloc (.cells #[.int .u64 10080759905092916391, .int .u64 17338118902564222723, .int .u64 7893216288461177095, .int .u64 17960355313953538048] 46) = Wp at *
  have HGp : Hid (w.heap.size ≤ v1.heap.size) := hbw.size
  replace Xq : Hid _ := Xq.out.below hbn
  replace Xr : Hid _ := Xr.out.below hbn
  replace hbw := Below.on hbw hbn
  clear hbn
  generalize v1.heap.size = gp at *
  have Xp := Xp0
  clear Xp0
  refine (opposite_4 _).mono ?_
  rintro e v2 ⟨rfl, hb2⟩
  replace Xq : Hid _ := Xq.out.below hb2
  replace Xr : Hid _ := Xr.out.below hb2
  replace Xp : Hid _ := Xp.out.below hb2
  replace hbw := Below.on hbw hb2
  clear hb2
  obtain ⟨cp0, cp1, cp2, cp3, fp0, fp1, fp2, fp3⟩ := Xp.out
  have hnep : gp < v2.heap.size := World.block_lt_of_cell? v2 _ cp0
  go_wp2_with fail
  clear cp0 cp1 cp2 cp3 fp0 fp1 fp2 fp3 hnep
  refine (fraction_4 _).mono ?_
  rintro e v3 ⟨rfl, hb3⟩
  replace Xq : Hid _ := Xq.out.below hb3
  replace Xr : Hid _ := Xr.out.below hb3
  replace Xp : Hid _ := Xp.out.below hb3
  replace hbw := Below.on hbw hb3
  clear hb3
  obtain ⟨cp0, cp1, cp2, cp3, fp0, fp1, fp2, fp3⟩ := Xp.out
  have hnep : gp < v3.heap.size := World.block_lt_of_cell? v3 _ cp0
  go_wp2_with fail
  clear cp0 cp1 cp2 cp3 fp0 fp1 fp2 fp3 hnep
  refine (ddNeg_f _).mono ?_
  rintro e v4 ⟨rfl, hb4⟩
  replace Xq : Hid _ := Xq.out.below hb4
  replace Xr : Hid _ := Xr.out.below hb4
  replace Xp : Hid _ := Xp.out.below hb4
  replace hbw := Below.on hbw hb4
  clear hb4
  obtain ⟨cr0, cr1, fr0, fr1⟩ := Xr.out
  have hner := Xr.out.lt
  go_wp2_with fail
  refine bodyPost_ret (v := .tuple #[.int .i64 3, .agg #[Fv 13825213563187346411, Fv 4351882500388747932]]) (by rw [results_tc rfl]; go_simp) rfl ⟨rfl, ?_⟩
  exact bSet (bSet (hbw) _ _ _ HGr.out) _ _ _ HGr.out
theorem tp_f_a {h l : Nat} (k : SPR 13825213563187346411 h l) : h = 13825213563158921216 ∧ l = 13698573197388021760 := by
  obtain ⟨c, d, F1, F2, F3, F4⟩ := k
  obtain rfl : c = 13946810753187220349 := F1.some _ (by decide +kernel)
  obtain rfl : d = 13946810753126349803 := F2.some _ (by decide +kernel)
  obtain rfl : h = 13825213563158921216 := F3.some _ (by decide +kernel)
  obtain rfl : l = 13698573197388021760 := F4.some _ (by decide +kernel)
  exact ⟨rfl, rfl⟩
theorem tp_f_b {h l : Nat} (k : SPR 4609753056924675352 h l) : h = 4609753056987316224 ∧ l = 13712861181608198144 := by
  obtain ⟨c, d, F1, F2, F3, F4⟩ := k
  obtain rfl : c = 4731350246916385923 := F1.some _ (by decide +kernel)
  obtain rfl : d = 4731350246863678744 := F2.some _ (by decide +kernel)
  obtain rfl : h = 4609753056987316224 := F3.some _ (by decide +kernel)
  obtain rfl : l = 13712861181608198144 := F4.some _ (by decide +kernel)
  exact ⟨rfl, rfl⟩
theorem tp_f {p e : Nat} (k : TPR 13825213563187346411 4609753056924675352 p e) : p = 13827963885893258898 ∧ e = 4363388651099661808 := by
  obtain ⟨ah, al, bh, bl, x1, e1, x2, e2, x3, e3, x4, F1, S1, S2, F2, F3, F4, F5, F6, F7, F8, F9⟩ := k
  obtain ⟨rfl, rfl⟩ := tp_f_a S1
  obtain ⟨rfl, rfl⟩ := tp_f_b S2
  obtain rfl : p = 13827963885893258898 := F1.some _ (by decide +kernel)
  obtain rfl : x1 = 13827963885927751692 := F2.some _ (by decide +kernel)
  obtain rfl : e1 = 13704579610904100864 := F3.some _ (by decide +kernel)
  obtain rfl : x2 = 4484203997767385248 := F4.some _ (by decide +kernel)
  obtain rfl : e2 = 4478067277415022912 := F5.some _ (by decide +kernel)
  obtain rfl : x3 = 13701439314197577956 := F6.some _ (by decide +kernel)
  obtain rfl : e3 = 4359827493096521728 := F7.some _ (by decide +kernel)
  obtain rfl : x4 = 4357599556046179296 := F8.some _ (by decide +kernel)
  obtain rfl : e = 4363388651099661808 := F9.some _ (by decide +kernel)
  exact ⟨rfl, rfl⟩
theorem fs_f {s r : Nat} (h : FSR 13827963885893258898 4361203091086104535 s r) : s = 13827963885893258898 ∧ r = 4361203091086104535 := by
  obtain ⟨t, F1, F2, F3⟩ := h
  obtain rfl : s = 13827963885893258898 := F1.some _ (by decide +kernel)
  obtain rfl : t = 0 := F2.some _ (by decide +kernel)
  obtain rfl : r = 4361203091086104535 := F3.some _ (by decide +kernel)
  exact ⟨rfl, rfl⟩
theorem ddMul_f (w : World) :
    Calls Tryd.prog 16 #[.agg #[Fv 13825213563187346411, Fv 4351882500388747932], .agg #[Fv 4609753056924675352, Fv 4364452196894661639]] w fun en w' => en = .returned (.agg #[Fv 13827963885893258898, Fv 4361203091086104535]) ∧ Below w.heap.size w w' := by
  have hSF : ∀ (w : World) (a : Addr) (b : Nat), (store a (Fv b)).run Tryd.prog w = stored Tryd.prog w a (Fv b) .plain := stF
  have fl5 : ∀ w, (binOp .mul 33 (Fv 13825213563187346411) (Fv 4364452196894661639)).run Tryd.prog w = .ok (Fv 13582858840422150374) w := fun w => run_float_arith w .mul 33 .f64 13825213563187346411 4364452196894661639 13582858840422150374 (by decide +kernel)
  have fl6 : ∀ w, (binOp .mul 33 (Fv 4351882500388747932) (Fv 4609753056924675352)).run Tryd.prog w = .ok (Fv 4355118047812994458) w := fun w => run_float_arith w .mul 33 .f64 4351882500388747932 4609753056924675352 4355118047812994458 (by decide +kernel)
  have fl7 : ∀ w, (binOp .add 33 (Fv 13582858840422150374) (Fv 4355118047812994458)).run Tryd.prog w = .ok (Fv 13578087917321533540) w := fun w => run_float_arith w .add 33 .f64 13582858840422150374 4355118047812994458 13578087917321533540 (by decide +kernel)
  have fl8 : ∀ w, (binOp .add 33 (Fv 4363388651099661808) (Fv 13578087917321533540)).run Tryd.prog w = .ok (Fv 4361203091086104535) w := fun w => run_float_arith w .add 33 .f64 4363388651099661808 13578087917321533540 4361203091086104535 (by decide +kernel)
  go_enter Tryd.func16, Tryd.ntmps16
  go_wp2_with fail
  obtain ⟨W0, hW0⟩ : ∃ W0, W0 = (((w.alloc (.cells #[Fv 13825213563187346411, Fv 4351882500388747932] 35)).alloc (.cells #[Fv 4609753056924675352, Fv 4364452196894661639] 35)).alloc (.cells #[Fv 0, Fv 0] 35)) := ⟨_, rfl⟩
  have Xa : Hid (Box W0 (w.heap.size) (Fv 13825213563187346411) (Fv 4351882500388747932)) := by rw [hW0]; exact ⟨by go_simp, by go_simp, by go_simp, by go_simp⟩
  have Xb : Hid (Box W0 (w.heap.size + 1) (Fv 4609753056924675352) (Fv 4364452196894661639)) := by rw [hW0]; exact ⟨by go_simp, by go_simp, by go_simp, by go_simp⟩
  have Xr : Hid (Box W0 (w.heap.size + 1 + 1) (Fv 0) (Fv 0)) := by rw [hW0]; exact ⟨by go_simp, by go_simp, by go_simp, by go_simp⟩
  have hb0 : Below w.heap.size w W0 := by rw [hW0]; exact below3 w _ _ _
  rw [← hW0]
  clear hW0
  have hbw : Below w.heap.size w w := Below.refl _ _
  obtain ⟨gr, hgr⟩ : ∃ g, g = w.heap.size + 1 + 1 := ⟨_, rfl⟩
  have HGr : Hid (w.heap.size ≤ gr) := by rw [hgr]; show _ ≤ _; omega
  rw [← hgr] at Xr
  try rw [← hgr]
  obtain ⟨gb, hgb⟩ : ∃ g, g = w.heap.size + 1 := ⟨_, rfl⟩
  have HGb : Hid (w.heap.size ≤ gb) := by rw [hgb]; show _ ≤ _; omega
  rw [← hgb] at Xb
  try rw [← hgb]
  obtain ⟨ga, hga⟩ : ∃ g, g = w.heap.size := ⟨_, rfl⟩
  have HGa : Hid (w.heap.size ≤ ga) := by rw [hga]; show _ ≤ _; omega
  rw [← hga] at Xa
  try rw [← hga]
  have HGD : Hid (ga ≠ gb ∧ ga ≠ gr ∧ gb ≠ ga ∧ gb ≠ gr ∧ gr ≠ ga ∧ gr ≠ gb) := by rw [hga, hgb, hgr]; exact ⟨by omega, by omega, by omega, by omega, by omega, by omega⟩
  clear hga hgb hgr
  replace hbw := Below.on hbw hb0
  clear hb0
  obtain ⟨hgd0, hgd1, hgd2, hgd3, hgd4, hgd5⟩ := HGD.out
  refine (twoProd 13825213563187346411 4609753056924675352 _).mono ?_
  rintro e9 v9 ⟨s9, r9, n9, rfl, rfl, hR⟩
  obtain ⟨rfl, rfl⟩ := tp_f hR
  clear hR
  have hbr := bDrewN (Below.refl W0.heap.size W0) n9
  generalize W0.drewN n9 = V1 at *
  replace Xa : Hid _ := Xa.out.below hbr
  replace Xb : Hid _ := Xb.out.below hbr
  replace Xr : Hid _ := Xr.out.below hbr
  replace hbw := Below.on hbw hbr
  clear hbr
  obtain ⟨ca0, ca1, fa0, fa1⟩ := Xa.out
  have hnea := Xa.out.lt
  obtain ⟨cb0, cb1, fb0, fb1⟩ := Xb.out
  have hneb := Xb.out.lt
  go_wp2_with fail
  clear ca0 ca1 fa0 fa1 hnea
  clear cb0 cb1 fb0 fb1 hneb
  refine (fastTwoSum 13827963885893258898 4361203091086104535 _).mono ?_
  rintro e9 v9 ⟨s9, r9, n9, rfl, rfl, hR⟩
  obtain ⟨rfl, rfl⟩ := fs_f hR
  clear hR
  have hbr := bDrewN (Below.refl V1.heap.size V1) n9
  generalize V1.drewN n9 = V2 at *
  replace Xa : Hid _ := Xa.out.below hbr
  replace Xb : Hid _ := Xb.out.below hbr
  replace Xr : Hid _ := Xr.out.below hbr
  replace hbw := Below.on hbw hbr
  clear hbr
  go_wp2_with fail
  refine (ddpair 13827963885893258898 4361203091086104535 _).mono ?_
  rintro e v3 ⟨rfl, hb3⟩
  replace Xa : Hid _ := Xa.out.below hb3
  replace Xb : Hid _ := Xb.out.below hb3
  replace Xr : Hid _ := Xr.out.below hb3
  replace hbw := Below.on hbw hb3
  clear hb3
  obtain ⟨cr0, cr1, fr0, fr1⟩ := Xr.out
  have hner := Xr.out.lt
  go_wp2_with fail
  refine bodyPost_ret (v := .agg #[Fv 13827963885893258898, Fv 4361203091086104535]) (by rw [results_cell1 rfl]; go_simp) rfl ⟨rfl, ?_⟩
  exact bSet (bSet (hbw) _ _ _ HGr.out) _ _ _ HGr.out
def PW : List Nat := [11743562013128004905, 18169587780923219392, 15808362127397457985, 18325537948574664033, 13196794004601950944, 452944820249399836, 18311050168422213438, 16754012890938950788, 16833452818741296705, 4148332274289687028, 11278244420634880059, 2303758334597371919, 17235013589178936607, 7869616827067468215, 5712322887342352941, 8441921394348257659, 4397547296490951402, 7780917995555872008, 6197850593633725355, 17352294737506481693]
def TabW (w : World) : Prop := ∀ j, j < 20 → w.cell? ⟨0, j, none⟩ = some (U (PW.getD j 0))
theorem TabW.below {w w' : World} (h : TabW w) (hb : Below w.heap.size w w') : TabW w' := by
  intro j hj
  have h1 := h j hj
  have hl : 0 < w.heap.size := World.block_lt_of_cell? w _ h1
  exact (hb.cell (p := ⟨0, j, none⟩) hl).trans h1
theorem kwf {f k : Nat} (h : k = f) (hb : k < 1000) : wrap64 (f : Int) = (k : Int) := by subst h; simp only [wrap64]; omega
theorem kwn {f k : Nat} (n : Nat) (h : k = f + n) (hb : k < 1000) : wrap64 ((f : Int) + (n : Int)) = (k : Int) := by subst h; simp only [wrap64]; omega
theorem jwf {f k : Nat} (h : k = f) (hb : k < 1000) : IntKind.i64.wrap (f : Int) = (k : Int) := by rw [IntKind.wrap_i64]; subst h; omega
theorem jwn {f k : Nat} (n : Nat) (h : k = f + n) (hb : k < 1000) : IntKind.i64.wrap ((f : Int) + (n : Int)) = (k : Int) := by rw [IntKind.wrap_i64]; subst h; omega
theorem pw_lt (k : Nat) : PW.getD k 0 < B64 := by
  by_cases h : k < 20
  · have : ∀ k, k < 20 → PW.getD k 0 < B64 := by decide +kernel
    exact this k h
  · rw [List.getD_eq_getElem?_getD, List.getElem?_eq_none (by show 20 ≤ k; omega)]; decide
theorem wrapU {x : Nat} (h : x < 18446744073709551616) : IntKind.u64.wrap (x : Int) = (x : Int) := by rw [IntKind.wrap_u64]; omega
theorem word_ok (k : Nat) (hk : k < 20) (w : World) (hT : TabW w) : Calls Tryd.prog 6 #[.int .i64 k] w fun en w' => en = .returned (.tuple #[U (PW.getD k 0), .int .i64 0]) ∧ w' = w := by
  have hT0 := hT k hk
  have hi1 : (0 : Int) ≤ (k : Int) := by omega
  have hi2 : (k : Int) < 20 := by omega
  have hi3 : ¬ (k : Int) < 0 := by omega
  have hi4 : ¬ (20 : Int) ≤ (k : Int) := by omega
  generalize PW.getD k 0 = x at *
  go_enter Tryd.func6, Tryd.ntmps6
  go_wp2_with fail
  go_ret2
  exact ⟨rfl, rfl⟩
theorem window_0 (a f : Nat) (ha : a = 64 * f) (hf : f ≤ 16) (w : World) (hT : TabW w) : Calls Tryd.prog 7 #[.int .i64 a] w fun en w' => en = .returned (.tuple #[.agg #[U (PW.getD f 0), U (PW.getD (f + 1) 0), U (PW.getD (f + 2) 0), U (PW.getD (f + 3) 0)], .int .i64 0]) ∧ Below w.heap.size w w' := by
  have hi1 : (a : Int) / 64 = (f : Int) := by omega
  have hi2 : (a : Int) % 64 = 0 := by omega
  have hi3 : decide ((a : Int) < 0) = false := decide_eq_false (by omega)
  have hi4 : decide ((1024 : Int) < (a : Int)) = false := decide_eq_false (by omega)
  have hi5 : (a : Int).tdiv 64 = (f : Int) := by rw [Int.tdiv_eq_ediv_of_nonneg (by omega)]; exact hi1
  have hi6 : (a : Int).tmod 64 = 0 := by rw [Int.tmod_eq_emod_of_nonneg (by omega)]; exact hi2
  obtain ⟨k0, hk0⟩ : ∃ k, k = f + 0 := ⟨_, rfl⟩
  have KB0 : Hid ((0 : Int) ≤ (k0 : Int) ∧ (k0 : Int) < 20) := ⟨by omega, by omega⟩
  have bd0 : k0 = k0 + 0 := by omega
  have be0 : k0 < 1000 := by omega
  obtain ⟨k1, hk1⟩ : ∃ k, k = f + 1 := ⟨_, rfl⟩
  have KB1 : Hid ((0 : Int) ≤ (k1 : Int) ∧ (k1 : Int) < 20) := ⟨by omega, by omega⟩
  have bd1 : k1 = k0 + 1 := by omega
  have be1 : k1 < 1000 := by omega
  obtain ⟨k2, hk2⟩ : ∃ k, k = f + 2 := ⟨_, rfl⟩
  have KB2 : Hid ((0 : Int) ≤ (k2 : Int) ∧ (k2 : Int) < 20) := ⟨by omega, by omega⟩
  have bd2 : k2 = k0 + 2 := by omega
  have be2 : k2 < 1000 := by omega
  obtain ⟨k3, hk3⟩ : ∃ k, k = f + 3 := ⟨_, rfl⟩
  have KB3 : Hid ((0 : Int) ≤ (k3 : Int) ∧ (k3 : Int) < 20) := ⟨by omega, by omega⟩
  have bd3 : k3 = k0 + 3 := by omega
  have be3 : k3 < 1000 := by omega
  have bdf : k0 = f := by omega
  have HA : Hid (a = 64 * f ∧ f ≤ 16 ∧ True ∧ True ∧ k0 < 20 ∧ k1 < 20 ∧ k2 < 20 ∧ k3 < 20 ∧ True) := ⟨ha, hf, trivial, trivial, by omega, by omega, by omega, by omega, trivial⟩
  have kw0 : wrap64 (f : Int) = (k0 : Int) := kwf bdf be0
  have KW0 : Hid (wrap64 (k0 : Int) = (k0 : Int) ∧ IntKind.i64.wrap (k0 : Int) = (k0 : Int)) := ⟨kwf rfl be0, jwf rfl be0⟩
  have KW1 : Hid (wrap64 ((k0 : Int) + 1) = (k1 : Int) ∧ IntKind.i64.wrap ((k0 : Int) + 1) = (k1 : Int)) := ⟨kwn 1 bd1 be1, jwn 1 bd1 be1⟩
  have KW2 : Hid (wrap64 ((k0 : Int) + 2) = (k2 : Int) ∧ IntKind.i64.wrap ((k0 : Int) + 2) = (k2 : Int)) := ⟨kwn 2 bd2 be2, jwn 2 bd2 be2⟩
  have KW3 : Hid (wrap64 ((k0 : Int) + 3) = (k3 : Int) ∧ IntKind.i64.wrap ((k0 : Int) + 3) = (k3 : Int)) := ⟨kwn 3 bd3 be3, jwn 3 bd3 be3⟩
  have HKK : Hid (k0 = f ∧ k1 = f + 1 ∧ k2 = f + 2 ∧ k3 = f + 3) := ⟨hk0, hk1, hk2, hk3⟩
  have TB : Hid (TabW w) := hT
  clear ha hf hT hk0 hk1 hk2 hk3 bd0 bd1 bd2 bd3 be0 be1 be2 be3 bdf
  go_enter Tryd.func7, Tryd.ntmps7
  go_wp2_with fail
  obtain ⟨W0, hW0⟩ : ∃ W0, W0 = ((w.alloc (.cells #[.int .u64 0, .int .u64 0, .int .u64 0, .int .u64 0] 28)).alloc (.cells #[.int .u64 0, .int .u64 0, .int .u64 0, .int .u64 0] 28)) := ⟨_, rfl⟩
  have Xr : Hid (B4q W0 (w.heap.size) (.int .u64 0) (.int .u64 0) (.int .u64 0) (.int .u64 0)) := by rw [hW0]; exact ⟨by go_simp, by go_simp, by go_simp, by go_simp, by go_simp, by go_simp, by go_simp, by go_simp⟩
  have Xu : Hid (B4q W0 (w.heap.size + 1) (.int .u64 0) (.int .u64 0) (.int .u64 0) (.int .u64 0)) := by rw [hW0]; exact ⟨by go_simp, by go_simp, by go_simp, by go_simp, by go_simp, by go_simp, by go_simp, by go_simp⟩
  have hb0 : Below w.heap.size w W0 := by rw [hW0]; exact below2 w _ _
  rw [← hW0]
  clear hW0
  have hbw : Below w.heap.size w w := Below.refl _ _
  obtain ⟨gu, hgu⟩ : ∃ g, g = w.heap.size + 1 := ⟨_, rfl⟩
  have HGu : Hid (w.heap.size ≤ gu) := by rw [hgu]; show _ ≤ _; omega
  rw [← hgu] at Xu
  try rw [← hgu]
  obtain ⟨gr, hgr⟩ : ∃ g, g = w.heap.size := ⟨_, rfl⟩
  have HGr : Hid (w.heap.size ≤ gr) := by rw [hgr]; show _ ≤ _; omega
  rw [← hgr] at Xr
  try rw [← hgr]
  have HGD : Hid (gr ≠ gu ∧ gu ≠ gr) := by rw [hgr, hgu]; exact ⟨by omega, by omega⟩
  clear hgr hgu
  replace hbw := Below.on hbw hb0
  clear hb0
  obtain ⟨hgd0, hgd1⟩ := HGD.out
  refine wp_loop_rounds 5 ?_
  rw [rounds_succ]
  obtain ⟨x0, hx0⟩ : ∃ x, x = PW.getD k0 0 := ⟨_, rfl⟩
  have HX0 : Hid (x0 = PW.getD k0 0 ∧ x0 < B64) := ⟨hx0, by rw [hx0]; exact pw_lt _⟩
  have HU0 : Hid (IntKind.u64.wrap (x0 : Int) = (x0 : Int)) := wrapU (by have := HX0.out.2; rw [B64_eq] at this; exact this)
  clear hx0
  obtain ⟨x1, hx1⟩ : ∃ x, x = PW.getD k1 0 := ⟨_, rfl⟩
  have HX1 : Hid (x1 = PW.getD k1 0 ∧ x1 < B64) := ⟨hx1, by rw [hx1]; exact pw_lt _⟩
  have HU1 : Hid (IntKind.u64.wrap (x1 : Int) = (x1 : Int)) := wrapU (by have := HX1.out.2; rw [B64_eq] at this; exact this)
  clear hx1
  obtain ⟨x2, hx2⟩ : ∃ x, x = PW.getD k2 0 := ⟨_, rfl⟩
  have HX2 : Hid (x2 = PW.getD k2 0 ∧ x2 < B64) := ⟨hx2, by rw [hx2]; exact pw_lt _⟩
  have HU2 : Hid (IntKind.u64.wrap (x2 : Int) = (x2 : Int)) := wrapU (by have := HX2.out.2; rw [B64_eq] at this; exact this)
  clear hx2
  obtain ⟨x3, hx3⟩ : ∃ x, x = PW.getD k3 0 := ⟨_, rfl⟩
  have HX3 : Hid (x3 = PW.getD k3 0 ∧ x3 < B64) := ⟨hx3, by rw [hx3]; exact pw_lt _⟩
  have HU3 : Hid (IntKind.u64.wrap (x3 : Int) = (x3 : Int)) := wrapU (by have := HX3.out.2; rw [B64_eq] at this; exact this)
  clear hx3
  have t0 := (TB.out.below hbw) k0 HA.out.2.2.2.2.1
  rw [← HX0.out.1] at t0
  have hU0 := HU0.out
  obtain ⟨p1, p2⟩ := KW0.out
  obtain ⟨p4, p5⟩ := KB0.out
  obtain ⟨cu0, cu1, cu2, cu3, fu0, fu1, fu2, fu3⟩ := Xu.out
  have hneu : gu < W0.heap.size := World.block_lt_of_cell? W0 _ cu0
  go_wp2_with fail
  clear t0 p1 p2 p4 p5
  obtain ⟨Vc0, hVc0⟩ : ∃ W9, W9 = (W0.setCell ⟨gu, 0, none⟩ (U x0)) := ⟨_, rfl⟩
  have Yu : Hid (B4q Vc0 gu (U x0) (.int .u64 0) (.int .u64 0) (.int .u64 0)) := by rw [hVc0]; exact ⟨by go_simp, by go_simp, by go_simp, by go_simp, by go_simp, by go_simp, by go_simp, by go_simp⟩
  obtain ⟨cr0, cr1, cr2, cr3, fr0, fr1, fr2, fr3⟩ := Xr.out
  have hner : gr < W0.heap.size := World.block_lt_of_cell? W0 _ cr0
  have Yr : Hid (B4q Vc0 gr (.int .u64 0) (.int .u64 0) (.int .u64 0) (.int .u64 0)) := by rw [hVc0]; exact ⟨by go_simp, by go_simp, by go_simp, by go_simp, by go_simp, by go_simp, by go_simp, by go_simp⟩
  clear cr0 cr1 cr2 cr3 fr0 fr1 fr2 fr3 hner
  have hbw2 : Below w.heap.size w Vc0 := by rw [hVc0]; exact bSet (hbw) _ _ _ HGu.out
  clear cu0 cu1 cu2 cu3 fu0 fu1 fu2 fu3 hneu
  rw [← hVc0]
  clear hVc0 hbw Xr Xu
  have hbw := hbw2
  clear hbw2
  have Xr := Yr
  clear Yr
  have Xu := Yu
  clear Yu
  rw [rounds_succ]
  have t1 := (TB.out.below hbw) k1 HA.out.2.2.2.2.2.1
  rw [← HX1.out.1] at t1
  have hU1 := HU1.out
  obtain ⟨p1, p2⟩ := KW1.out
  obtain ⟨p4, p5⟩ := KB1.out
  obtain ⟨cu0, cu1, cu2, cu3, fu0, fu1, fu2, fu3⟩ := Xu.out
  have hneu : gu < Vc0.heap.size := World.block_lt_of_cell? Vc0 _ cu0
  go_wp2_with fail
  clear t1 p1 p2 p4 p5
  obtain ⟨Vc1, hVc1⟩ : ∃ W9, W9 = (Vc0.setCell ⟨gu, 1, none⟩ (U x1)) := ⟨_, rfl⟩
  have Yu : Hid (B4q Vc1 gu (U x0) (U x1) (.int .u64 0) (.int .u64 0)) := by rw [hVc1]; exact ⟨by go_simp, by go_simp, by go_simp, by go_simp, by go_simp, by go_simp, by go_simp, by go_simp⟩
  obtain ⟨cr0, cr1, cr2, cr3, fr0, fr1, fr2, fr3⟩ := Xr.out
  have hner : gr < Vc0.heap.size := World.block_lt_of_cell? Vc0 _ cr0
  have Yr : Hid (B4q Vc1 gr (.int .u64 0) (.int .u64 0) (.int .u64 0) (.int .u64 0)) := by rw [hVc1]; exact ⟨by go_simp, by go_simp, by go_simp, by go_simp, by go_simp, by go_simp, by go_simp, by go_simp⟩
  clear cr0 cr1 cr2 cr3 fr0 fr1 fr2 fr3 hner
  have hbw2 : Below w.heap.size w Vc1 := by rw [hVc1]; exact bSet (hbw) _ _ _ HGu.out
  clear cu0 cu1 cu2 cu3 fu0 fu1 fu2 fu3 hneu
  rw [← hVc1]
  clear hVc1 hbw Xr Xu
  have hbw := hbw2
  clear hbw2
  have Xr := Yr
  clear Yr
  have Xu := Yu
  clear Yu
  rw [rounds_succ]
  have t2 := (TB.out.below hbw) k2 HA.out.2.2.2.2.2.2.1
  rw [← HX2.out.1] at t2
  have hU2 := HU2.out
  obtain ⟨p1, p2⟩ := KW2.out
  obtain ⟨p4, p5⟩ := KB2.out
  obtain ⟨cu0, cu1, cu2, cu3, fu0, fu1, fu2, fu3⟩ := Xu.out
  have hneu : gu < Vc1.heap.size := World.block_lt_of_cell? Vc1 _ cu0
  go_wp2_with fail
  clear t2 p1 p2 p4 p5
  obtain ⟨Vc2, hVc2⟩ : ∃ W9, W9 = (Vc1.setCell ⟨gu, 2, none⟩ (U x2)) := ⟨_, rfl⟩
  have Yu : Hid (B4q Vc2 gu (U x0) (U x1) (U x2) (.int .u64 0)) := by rw [hVc2]; exact ⟨by go_simp, by go_simp, by go_simp, by go_simp, by go_simp, by go_simp, by go_simp, by go_simp⟩
  obtain ⟨cr0, cr1, cr2, cr3, fr0, fr1, fr2, fr3⟩ := Xr.out
  have hner : gr < Vc1.heap.size := World.block_lt_of_cell? Vc1 _ cr0
  have Yr : Hid (B4q Vc2 gr (.int .u64 0) (.int .u64 0) (.int .u64 0) (.int .u64 0)) := by rw [hVc2]; exact ⟨by go_simp, by go_simp, by go_simp, by go_simp, by go_simp, by go_simp, by go_simp, by go_simp⟩
  clear cr0 cr1 cr2 cr3 fr0 fr1 fr2 fr3 hner
  have hbw2 : Below w.heap.size w Vc2 := by rw [hVc2]; exact bSet (hbw) _ _ _ HGu.out
  clear cu0 cu1 cu2 cu3 fu0 fu1 fu2 fu3 hneu
  rw [← hVc2]
  clear hVc2 hbw Xr Xu
  have hbw := hbw2
  clear hbw2
  have Xr := Yr
  clear Yr
  have Xu := Yu
  clear Yu
  rw [rounds_succ]
  have t3 := (TB.out.below hbw) k3 HA.out.2.2.2.2.2.2.2.1
  rw [← HX3.out.1] at t3
  have hU3 := HU3.out
  obtain ⟨p1, p2⟩ := KW3.out
  obtain ⟨p4, p5⟩ := KB3.out
  obtain ⟨cu0, cu1, cu2, cu3, fu0, fu1, fu2, fu3⟩ := Xu.out
  have hneu : gu < Vc2.heap.size := World.block_lt_of_cell? Vc2 _ cu0
  go_wp2_with fail
  clear t3 p1 p2 p4 p5
  obtain ⟨Vc3, hVc3⟩ : ∃ W9, W9 = (Vc2.setCell ⟨gu, 3, none⟩ (U x3)) := ⟨_, rfl⟩
  have Yu : Hid (B4q Vc3 gu (U x0) (U x1) (U x2) (U x3)) := by rw [hVc3]; exact ⟨by go_simp, by go_simp, by go_simp, by go_simp, by go_simp, by go_simp, by go_simp, by go_simp⟩
  obtain ⟨cr0, cr1, cr2, cr3, fr0, fr1, fr2, fr3⟩ := Xr.out
  have hner : gr < Vc2.heap.size := World.block_lt_of_cell? Vc2 _ cr0
  have Yr : Hid (B4q Vc3 gr (.int .u64 0) (.int .u64 0) (.int .u64 0) (.int .u64 0)) := by rw [hVc3]; exact ⟨by go_simp, by go_simp, by go_simp, by go_simp, by go_simp, by go_simp, by go_simp, by go_simp⟩
  clear cr0 cr1 cr2 cr3 fr0 fr1 fr2 fr3 hner
  have hbw2 : Below w.heap.size w Vc3 := by rw [hVc3]; exact bSet (hbw) _ _ _ HGu.out
  clear cu0 cu1 cu2 cu3 fu0 fu1 fu2 fu3 hneu
  rw [← hVc3]
  clear hVc3 hbw Xr Xu
  have hbw := hbw2
  clear hbw2
  have Xr := Yr
  clear Yr
  have Xu := Yu
  clear Yu
  rw [rounds_succ]
  obtain ⟨cu0, cu1, cu2, cu3, fu0, fu1, fu2, fu3⟩ := Xu.out
  have hneu : gu < Vc3.heap.size := World.block_lt_of_cell? Vc3 _ cu0
  obtain ⟨cr0, cr1, cr2, cr3, fr0, fr1, fr2, fr3⟩ := Xr.out
  have hner : gr < Vc3.heap.size := World.block_lt_of_cell? Vc3 _ cr0
  go_wp2_with fail
  refine bodyPost_ret (v := .tuple #[.agg #[U x0, U x1, U x2, U x3], .int .i64 0]) (by rw [results_ct rfl]; go_simp) rfl ⟨?_, ?_⟩
  · obtain ⟨e0, e1, e2, e3⟩ := HKK.out
    rw [HX0.out.1, HX1.out.1, HX2.out.1, HX3.out.1, e0, e1, e2, e3]
  · exact bSet (bSet (bSet (bSet (hbw) _ _ _ HGr.out) _ _ _ HGr.out) _ _ _ HGr.out) _ _ _ HGr.out
theorem word_e (a : Int) (ha : a < 0 ∨ 19 < a) (w : World) : Calls Tryd.prog 6 #[.int .i64 a] w fun en w' => en = .returned (.tuple #[.int .u64 0, .int .i64 1]) ∧ Below w.heap.size w w' := by
  rcases ha with h | h
  · have h1 : decide (a < 0) = true := decide_eq_true h
    clear h
    go_enter Tryd.func6, Tryd.ntmps6
    go_wp2_with fail
    go_ret2
    exact ⟨rfl, Below.refl _ _⟩
  · have h1 : decide (a < 0) = false := decide_eq_false (by omega)
    have h2 : decide (19 < a) = true := decide_eq_true h
    have h3 : decide (20 ≤ a) = true := decide_eq_true (by omega)
    have h4 : (20 : Int) ≤ a := by omega
    clear h
    go_enter Tryd.func6, Tryd.ntmps6
    go_wp2_with fail
    go_ret2
    exact ⟨rfl, Below.refl _ _⟩
theorem window_e (a : Int) (ha : a < 0 ∨ 1024 < a) (w : World) : Calls Tryd.prog 7 #[.int .i64 a] w fun en w' => en = .returned (.tuple #[.agg #[.int .u64 0, .int .u64 0, .int .u64 0, .int .u64 0], .int .i64 1]) ∧ Below w.heap.size w w' := by
  rcases ha with h | h
  · have h1 : decide (a < 0) = true := decide_eq_true h
    clear h
    go_enter Tryd.func7, Tryd.ntmps7
    go_wp2_with fail
    refine bodyPost_ret (v := .tuple #[.agg #[.int .u64 0, .int .u64 0, .int .u64 0, .int .u64 0], .int .i64 1]) (by rw [results_ct rfl]; go_simp) rfl ⟨rfl, below1 w _⟩
  · have h1 : decide (a < 0) = false := decide_eq_false (by omega)
    have h2 : decide (1024 < a) = true := decide_eq_true h
    have h3 : decide (1025 ≤ a) = true := decide_eq_true (by omega)
    have h4 : (1025 : Int) ≤ a := by omega
    clear h
    go_enter Tryd.func7, Tryd.ntmps7
    go_wp2_with fail
    refine bodyPost_ret (v := .tuple #[.agg #[.int .u64 0, .int .u64 0, .int .u64 0, .int .u64 0], .int .i64 1]) (by rw [results_ct rfl]; go_simp) rfl ⟨rfl, below1 w _⟩
theorem ofPower_4 (w : World) (hT : TabW w) :
    Calls Tryd.prog 13 #[.int .i64 (-50)] w fun en w' => en = .returned (.agg #[.int .u64 2607, .int .u64 10968205611507032002, .int .u64 8465957317175414198, .int .u64 2979575099461738469]) ∧ Below w.heap.size w w' := by
  have m1 : max (-52 : Int) 0 = 0 := by decide
  have m2 : max (52 : Int) 0 = 52 := by decide
  go_enter Tryd.func13, Tryd.ntmps13
  go_wp2_with fail
  obtain ⟨W0, hW0⟩ : ∃ W0, W0 = (w.alloc (.cells #[.int .u64 0, .int .u64 0, .int .u64 0, .int .u64 0] 46)) := ⟨_, rfl⟩
  have Xr : Hid (B4q W0 (w.heap.size) (.int .u64 0) (.int .u64 0) (.int .u64 0) (.int .u64 0)) := by rw [hW0]; exact ⟨by go_simp, by go_simp, by go_simp, by go_simp, by go_simp, by go_simp, by go_simp, by go_simp⟩
  have hb0 : Below w.heap.size w W0 := by rw [hW0]; exact below1 w _
  rw [← hW0]
  clear hW0
  have hbw : Below w.heap.size w w := Below.refl _ _
  obtain ⟨gr, hgr⟩ : ∃ g, g = w.heap.size := ⟨_, rfl⟩
  have HGr : Hid (w.heap.size ≤ gr) := by rw [hgr]; show _ ≤ _; omega
  rw [← hgr] at Xr
  try rw [← hgr]
  clear hgr
  replace hbw := Below.on hbw hb0
  clear hb0
  refine (window_0 0 0 rfl (by decide) _ (hT.below hbw)).mono ?_
  rintro e v1 ⟨rfl, hb1⟩
  replace Xr : Hid _ := Xr.out.below hb1
  replace hbw := Below.on hbw hb1
  clear hb1
  rw [show PW.getD 0 0 = 11743562013128004905 from rfl, show PW.getD (0 + 1) 0 = 18169587780923219392 from rfl, show PW.getD (0 + 2) 0 = 15808362127397457985 from rfl, show PW.getD (0 + 3) 0 = 18325537948574664033 from rfl]
  go_wp2_with fail
  have Xu0 : Hid (B4q (v1.alloc (.cells #[.int .u64 11743562013128004905, .int .u64 18169587780923219392, .int .u64 15808362127397457985, .int .u64 18325537948574664033] 28)) v1.heap.size (.int .u64 11743562013128004905) (.int .u64 18169587780923219392) (.int .u64 15808362127397457985) (.int .u64 18325537948574664033)) := B4q.new v1 _ _ _ _ _
  have hbn : Below v1.heap.size v1 (v1.alloc (.cells #[.int .u64 11743562013128004905, .int .u64 18169587780923219392, .int .u64 15808362127397457985, .int .u64 18325537948574664033] 28)) := below1 v1 _
  generalize v1.alloc (.cells #[.int .u64 11743562013128004905, .int .u64 18169587780923219392, .int .u64 15808362127397457985, .int .u64 18325537948574664033] 28) = Wu at *
  have HGu : Hid (w.heap.size ≤ v1.heap.size) := hbw.size
  replace Xr : Hid _ := Xr.out.below hbn
  replace hbw := Below.on hbw hbn
  clear hbn
  generalize v1.heap.size = gu at *
  have Xu := Xu0
  clear Xu0
  refine (halved_52 _).mono ?_
  rintro e v2 ⟨rfl, hb2⟩
  replace Xr : Hid _ := Xr.out.below hb2
  replace Xu : Hid _ := Xu.out.below hb2
  replace hbw := Below.on hbw hb2
  clear hb2
  obtain ⟨cr0, cr1, cr2, cr3, fr0, fr1, fr2, fr3⟩ := Xr.out
  have hner : gr < v2.heap.size := World.block_lt_of_cell? v2 _ cr0
  go_wp2_with fail
  refine bodyPost_ret (v := .agg #[.int .u64 2607, .int .u64 10968205611507032002, .int .u64 8465957317175414198, .int .u64 2979575099461738469]) (by rw [results_cell1 rfl]; go_simp) rfl ⟨rfl, ?_⟩
  exact bSet (bSet (bSet (bSet (hbw) _ _ _ HGr.out) _ _ _ HGr.out) _ _ _ HGr.out) _ _ _ HGr.out
theorem reduce_4 (w : World) (hT : TabW w) :
    Calls Tryd.prog 8 #[Fv 4616189618054758400] w fun en w' => en = .returned (.tuple #[.int .i64 3, .agg #[Fv 13827963885893258898, Fv 4361203091086104535], .int .i64 0]) ∧ Below w.heap.size w w' := by
  have TB : Hid (TabW w) := hT
  clear hT
  have hSF : ∀ (w : World) (a : Addr) (b : Nat), (store a (Fv b)).run Tryd.prog w = stored Tryd.prog w a (Fv b) .plain := stF
  have bo1 : ∀ w, (callFunc 10 #[Fv 4616189618054758400]).run Tryd.prog w = .ok (.value (.int .u64 4616189618054758400)) w := fun w => bitsOf 4616189618054758400 w
  have or2 : FloatKind.f64.format.order 4616189618054758400 4485585228861014016 = some Ordering.gt := by decide +kernel
  have or3 : FloatKind.f64.format.order 4616189618054758400 4605352831451398144 = some Ordering.gt := by decide +kernel
  go_enter Tryd.func8, Tryd.ntmps8
  go_wp2_with fail
  obtain ⟨W0, hW0⟩ : ∃ W0, W0 = (w.alloc (.cells #[Fv 0, Fv 0] 35)) := ⟨_, rfl⟩
  have Xr : Hid (Box W0 (w.heap.size) (Fv 0) (Fv 0)) := by rw [hW0]; exact ⟨by go_simp, by go_simp, by go_simp, by go_simp⟩
  have hb0 : Below w.heap.size w W0 := by rw [hW0]; exact below1 w _
  rw [← hW0]
  clear hW0
  have hbw : Below w.heap.size w w := Below.refl _ _
  obtain ⟨gr, hgr⟩ : ∃ g, g = w.heap.size := ⟨_, rfl⟩
  have HGr : Hid (w.heap.size ≤ gr) := by rw [hgr]; show _ ≤ _; omega
  rw [← hgr] at Xr
  try rw [← hgr]
  clear hgr
  replace TB : Hid (TabW W0) := TB.out.below hb0
  replace hbw := Below.on hbw hb0
  clear hb0
  refine (split_4 _).mono ?_
  rintro e v1 ⟨rfl, hb1⟩
  replace Xr : Hid _ := Xr.out.below hb1
  replace TB : Hid (TabW v1) := TB.out.below hb1
  replace hbw := Below.on hbw hb1
  clear hb1
  go_wp2_with fail
  refine (mabs_4 _).mono ?_
  rintro e v9 ⟨rfl, hw⟩
  obtain rfl := hw.symm
  clear hw
  go_wp2_with fail
  refine (ofPower_4 _ TB.out).mono ?_
  rintro e v2 ⟨rfl, hb2⟩
  replace Xr : Hid _ := Xr.out.below hb2
  replace TB : Hid (TabW v2) := TB.out.below hb2
  replace hbw := Below.on hbw hb2
  clear hb2
  clear TB
  go_wp2_with fail
  refine (times_52 _).mono ?_
  rintro e v3 ⟨rfl, hb3⟩
  replace Xr : Hid _ := Xr.out.below hb3
  replace hbw := Below.on hbw hb3
  clear hb3
  go_wp2_with fail
  refine (nearest_4 _).mono ?_
  rintro e v4 ⟨rfl, hb4⟩
  replace Xr : Hid _ := Xr.out.below hb4
  replace hbw := Below.on hbw hb4
  clear hb4
  go_wp2_with fail
  have Xk0 : Hid (Box (v4.alloc (.cells #[Fv 13825213563187346411, Fv 4351882500388747932] 35)) v4.heap.size (Fv 13825213563187346411) (Fv 4351882500388747932)) := Box.new v4 _ _ _
  have hbn : Below v4.heap.size v4 (v4.alloc (.cells #[Fv 13825213563187346411, Fv 4351882500388747932] 35)) := below1 v4 _
  generalize v4.alloc (.cells #[Fv 13825213563187346411, Fv 4351882500388747932] 35) = Wk at *
  have HGk : Hid (w.heap.size ≤ v4.heap.size) := hbw.size
  replace Xr : Hid _ := Xr.out.below hbn
  replace hbw := Below.on hbw hbn
  clear hbn
  generalize v4.heap.size = gk at *
  have Xk := Xk0
  clear Xk0
  obtain ⟨Vr, hVr⟩ : ∃ W1, W1 = Wk.drew := ⟨_, rfl⟩
  have hbd : Below Wk.heap.size Wk Vr := by rw [hVr]; exact bDrew1 (Below.refl _ _)
  replace Xr : Hid _ := Xr.out.below hbd
  replace Xk : Hid _ := Xk.out.below hbd
  replace hbw := Below.on hbw hbd
  clear hbd
  have HJ : Hid ((fun W' : World => W'.cell? ⟨gk, 0, none⟩ = some (Fv 13825213563187346411) ∧ W'.cell? ⟨gk, 1, none⟩ = some (Fv 4351882500388747932)) Vr) := ⟨Xk.out.c0, Xk.out.c1⟩
  refine wp_region_J (fun W' => W'.cell? ⟨gk, 0, none⟩ = some (Fv 13825213563187346411) ∧ W'.cell? ⟨gk, 1, none⟩ = some (Fv 4351882500388747932)) (by kernel_rfl) ?_
  rw [← hVr]
  clear hVr
  refine wpJ_tq 0 rfl HJ.out ?_
  refine wpJ_two (i := 1) (k := 3) (by kernel_rfl) rfl rfl (by kernel_rfl) (by kernel_rfl) (fun KJ hK => ?_) (fun KJ hK => ?_)
  · go_simp
    refine (halfPi_ _).mono ?_
    rintro e v5 ⟨rfl, hb5⟩
    replace Xr : Hid _ := Xr.out.below hb5
    replace Xk : Hid _ := Xk.out.below hb5
    replace hbw := Below.on hbw hb5
    clear hb5
    clear HJ
    have HJ : Hid ((fun W' : World => W'.cell? ⟨gk, 0, none⟩ = some (Fv 13825213563187346411) ∧ W'.cell? ⟨gk, 1, none⟩ = some (Fv 4351882500388747932)) v5) := ⟨Xk.out.c0, Xk.out.c1⟩
    refine hK _ _ HJ.out ?_
    clear hK
    refine wpJ_two (i := 2) (k := 3) (by kernel_rfl) rfl rfl (by kernel_rfl) (by kernel_rfl) (fun KJ hK => ?_) (fun KJ hK => ?_)
    · go_simp
      refine (ddMul_f _).mono ?_
      rintro e v6 ⟨rfl, hb6⟩
      replace Xr : Hid _ := Xr.out.below hb6
      replace Xk : Hid _ := Xk.out.below hb6
      replace hbw := Below.on hbw hb6
      clear hb6
      refine hK _ _ ⟨Xk.out.c0, Xk.out.c1⟩ ?_
      clear hK
      refine wpJ_on 3 rfl fun KJ hK => ?_
      go_simp
      have HDrt : Hid (gr ≠ v6.heap.size) := Nat.ne_of_lt Xr.out.lt
      have HDkt : Hid (gk ≠ v6.heap.size) := Nat.ne_of_lt Xk.out.lt
      have Xt0 : Hid (Box (v6.alloc (.cells #[Fv 0, Fv 0] 35)) v6.heap.size (Fv 0) (Fv 0)) := Box.new v6 _ _ _
      have hbn : Below v6.heap.size v6 (v6.alloc (.cells #[Fv 0, Fv 0] 35)) := below1 v6 _
      generalize v6.alloc (.cells #[Fv 0, Fv 0] 35) = Wt at *
      have HGt : Hid (w.heap.size ≤ v6.heap.size) := hbw.size
      replace Xr : Hid _ := Xr.out.below hbn
      replace Xk : Hid _ := Xk.out.below hbn
      replace hbw := Below.on hbw hbn
      clear hbn
      generalize v6.heap.size = gt at *
      have Xt := Xt0
      clear Xt0
      refine hK _ _ ⟨Xk.out.c0, Xk.out.c1⟩ ?_
      clear hK
      obtain ⟨ct0, ct1, ft0, ft1⟩ := Xt.out
      have hnet := Xt.out.lt
      obtain ⟨cr0, cr1, fr0, fr1⟩ := Xr.out
      have hner := Xr.out.lt
      obtain ⟨ck0, ck1, fk0, fk1⟩ := Xk.out
      have hnek := Xk.out.lt
      have qar : gr ≠ gt := HDrt.out
      have qbr : gt ≠ gr := fun h => qar h.symm
      have qak : gk ≠ gt := HDkt.out
      have qbk : gt ≠ gk := fun h => qak h.symm
      refine wpJ_on 4 rfl fun KJ hK => ?_
      go_simp
      refine hK _ _ ?_ ?_
      · refine ⟨?_, ?_⟩ <;> go_simp
      clear hK HJ
      refine wpJ_done (by kernel_rfl) ?_ _
      clear cr0 cr1 fr0 fr1 hner
      clear ck0 ck1 fk0 fk1 hnek
      obtain ⟨Wz, hWz⟩ : ∃ W9, W9 = ((Wt.setCell ⟨gt, 0, none⟩ (Fv 13827963885893258898)).setCell ⟨gt, 1, none⟩ (Fv 4361203091086104535)) := ⟨_, rfl⟩
      have Yt : Hid (Box Wz gt (Fv 13827963885893258898) (Fv 4361203091086104535)) := by rw [hWz]; exact ⟨by go_simp, by go_simp, by go_simp, by go_simp⟩
      obtain ⟨cr0, cr1, fr0, fr1⟩ := Xr.out
      have hner := Xr.out.lt
      have Yr : Hid (Box Wz gr (Fv 0) (Fv 0)) := by rw [hWz]; exact ⟨by go_simp, by go_simp, by go_simp, by go_simp⟩
      clear cr0 cr1 fr0 fr1 hner
      obtain ⟨ck0, ck1, fk0, fk1⟩ := Xk.out
      have hnek := Xk.out.lt
      have Yk : Hid (Box Wz gk (Fv 13825213563187346411) (Fv 4351882500388747932)) := by rw [hWz]; exact ⟨by go_simp, by go_simp, by go_simp, by go_simp⟩
      clear ck0 ck1 fk0 fk1 hnek
      have hbw2 : Below w.heap.size w Wz := by rw [hWz]; exact bSet (bSet (hbw) _ _ _ HGt.out) _ _ _ HGt.out
      clear ct0 ct1 ft0 ft1 hnet
      rw [← hWz]
      clear hWz hbw Xr Xk Xt
      have hbw := hbw2
      clear hbw2
      have Xr := Yr
      clear Yr
      have Xk := Yk
      clear Yk
      have Xt := Yt
      clear Yt
      obtain ⟨ct0, ct1, ft0, ft1⟩ := Xt.out
      have hnet := Xt.out.lt
      obtain ⟨cr0, cr1, fr0, fr1⟩ := Xr.out
      have hner := Xr.out.lt
      go_wp2_with fail
      clear ct0 ct1 ft0 ft1 hnet
      clear cr0 cr1 fr0 fr1 hner
      obtain ⟨Vq, hVq⟩ : ∃ W1, W1 = Wz.drew := ⟨_, rfl⟩
      have hbd : Below Wz.heap.size Wz Vq := by rw [hVq]; exact bDrew1 (Below.refl _ _)
      replace Xr : Hid _ := Xr.out.below hbd
      replace Xk : Hid _ := Xk.out.below hbd
      replace Xt : Hid _ := Xt.out.below hbd
      replace hbw := Below.on hbw hbd
      clear hbd
      have HJ : Hid ((fun W' : World => W'.cell? ⟨gt, 0, none⟩ = some (Fv 13827963885893258898) ∧ W'.cell? ⟨gt, 1, none⟩ = some (Fv 4361203091086104535)) Vq) := ⟨Xt.out.c0, Xt.out.c1⟩
      refine wp_region_J (fun W' => W'.cell? ⟨gt, 0, none⟩ = some (Fv 13827963885893258898) ∧ W'.cell? ⟨gt, 1, none⟩ = some (Fv 4361203091086104535)) (by kernel_rfl) ?_
      rw [← hVq]
      clear hVq
      refine wpJ_tq 0 rfl HJ.out ?_
      refine wpJ_tq 1 rfl HJ.out ?_
      refine wpJ_tq 2 rfl HJ.out ?_
      obtain ⟨cr0, cr1, fr0, fr1⟩ := Xr.out
      have hner := Xr.out.lt
      obtain ⟨ct0, ct1, ft0, ft1⟩ := Xt.out
      have hnet := Xt.out.lt
      have za : gt ≠ gr := Ne.symm HDrt.out
      have zb := Ne.symm za
      refine wpJ_on 3 rfl fun KJ hK => ?_
      go_simp
      have HJ2 : Hid ((fun W' : World => W'.cell? ⟨gt, 0, none⟩ = some (Fv 13827963885893258898) ∧ W'.cell? ⟨gt, 1, none⟩ = some (Fv 4361203091086104535)) ((Vq.setCell ⟨gr, 0, none⟩ (Fv 13827963885893258898)).setCell ⟨gr, 1, none⟩ (Fv 4361203091086104535))) := ⟨by go_simp, by go_simp⟩
      refine hK _ _ HJ2.out ?_
      clear hK HJ
      have HJ := HJ2
      clear HJ2
      refine wpJ_tq 4 rfl HJ.out ?_
      refine wpJ_done (by kernel_rfl) ?_ _
      clear HJ
      go_wp2_with fail
      refine bodyPost_ret (v := .tuple #[.int .i64 3, .agg #[Fv 13827963885893258898, Fv 4361203091086104535], .int .i64 0]) (by rw [results_tct rfl]; go_simp) rfl ⟨rfl, ?_⟩
      exact bSet (bSet (hbw) _ _ _ HGr.out) _ _ _ HGr.out
    · go_simp
      have HDrt : Hid (gr ≠ v5.heap.size) := Nat.ne_of_lt Xr.out.lt
      have HDkt : Hid (gk ≠ v5.heap.size) := Nat.ne_of_lt Xk.out.lt
      have Xt0 : Hid (Box (v5.alloc (.cells #[Fv 0, Fv 0] 35)) v5.heap.size (Fv 0) (Fv 0)) := Box.new v5 _ _ _
      have hbn : Below v5.heap.size v5 (v5.alloc (.cells #[Fv 0, Fv 0] 35)) := below1 v5 _
      generalize v5.alloc (.cells #[Fv 0, Fv 0] 35) = Wt at *
      have HGt : Hid (w.heap.size ≤ v5.heap.size) := hbw.size
      replace Xr : Hid _ := Xr.out.below hbn
      replace Xk : Hid _ := Xk.out.below hbn
      replace hbw := Below.on hbw hbn
      clear hbn
      generalize v5.heap.size = gt at *
      have Xt := Xt0
      clear Xt0
      refine hK _ _ ⟨Xk.out.c0, Xk.out.c1⟩ ?_
      clear hK
      refine wpJ_on 2 rfl fun KJ hK => ?_
      go_simp
      refine (ddMul_f _).mono ?_
      rintro e v6 ⟨rfl, hb6⟩
      replace Xr : Hid _ := Xr.out.below hb6
      replace Xk : Hid _ := Xk.out.below hb6
      replace Xt : Hid _ := Xt.out.below hb6
      replace hbw := Below.on hbw hb6
      clear hb6
      refine hK _ _ ⟨Xk.out.c0, Xk.out.c1⟩ ?_
      clear hK
      obtain ⟨ct0, ct1, ft0, ft1⟩ := Xt.out
      have hnet := Xt.out.lt
      obtain ⟨cr0, cr1, fr0, fr1⟩ := Xr.out
      have hner := Xr.out.lt
      obtain ⟨ck0, ck1, fk0, fk1⟩ := Xk.out
      have hnek := Xk.out.lt
      have qar : gr ≠ gt := HDrt.out
      have qbr : gt ≠ gr := fun h => qar h.symm
      have qak : gk ≠ gt := HDkt.out
      have qbk : gt ≠ gk := fun h => qak h.symm
      refine wpJ_on 4 rfl fun KJ hK => ?_
      go_simp
      refine hK _ _ ?_ ?_
      · refine ⟨?_, ?_⟩ <;> go_simp
      clear hK HJ
      refine wpJ_done (by kernel_rfl) ?_ _
      clear cr0 cr1 fr0 fr1 hner
      clear ck0 ck1 fk0 fk1 hnek
      obtain ⟨Wz, hWz⟩ : ∃ W9, W9 = ((v6.setCell ⟨gt, 0, none⟩ (Fv 13827963885893258898)).setCell ⟨gt, 1, none⟩ (Fv 4361203091086104535)) := ⟨_, rfl⟩
      have Yt : Hid (Box Wz gt (Fv 13827963885893258898) (Fv 4361203091086104535)) := by rw [hWz]; exact ⟨by go_simp, by go_simp, by go_simp, by go_simp⟩
      obtain ⟨cr0, cr1, fr0, fr1⟩ := Xr.out
      have hner := Xr.out.lt
      have Yr : Hid (Box Wz gr (Fv 0) (Fv 0)) := by rw [hWz]; exact ⟨by go_simp, by go_simp, by go_simp, by go_simp⟩
      clear cr0 cr1 fr0 fr1 hner
      obtain ⟨ck0, ck1, fk0, fk1⟩ := Xk.out
      have hnek := Xk.out.lt
      have Yk : Hid (Box Wz gk (Fv 13825213563187346411) (Fv 4351882500388747932)) := by rw [hWz]; exact ⟨by go_simp, by go_simp, by go_simp, by go_simp⟩
      clear ck0 ck1 fk0 fk1 hnek
      have hbw2 : Below w.heap.size w Wz := by rw [hWz]; exact bSet (bSet (hbw) _ _ _ HGt.out) _ _ _ HGt.out
      clear ct0 ct1 ft0 ft1 hnet
      rw [← hWz]
      clear hWz hbw Xr Xk Xt
      have hbw := hbw2
      clear hbw2
      have Xr := Yr
      clear Yr
      have Xk := Yk
      clear Yk
      have Xt := Yt
      clear Yt
      obtain ⟨ct0, ct1, ft0, ft1⟩ := Xt.out
      have hnet := Xt.out.lt
      obtain ⟨cr0, cr1, fr0, fr1⟩ := Xr.out
      have hner := Xr.out.lt
      go_wp2_with fail
      clear ct0 ct1 ft0 ft1 hnet
      clear cr0 cr1 fr0 fr1 hner
      obtain ⟨Vq, hVq⟩ : ∃ W1, W1 = Wz.drew := ⟨_, rfl⟩
      have hbd : Below Wz.heap.size Wz Vq := by rw [hVq]; exact bDrew1 (Below.refl _ _)
      replace Xr : Hid _ := Xr.out.below hbd
      replace Xk : Hid _ := Xk.out.below hbd
      replace Xt : Hid _ := Xt.out.below hbd
      replace hbw := Below.on hbw hbd
      clear hbd
      have HJ : Hid ((fun W' : World => W'.cell? ⟨gt, 0, none⟩ = some (Fv 13827963885893258898) ∧ W'.cell? ⟨gt, 1, none⟩ = some (Fv 4361203091086104535)) Vq) := ⟨Xt.out.c0, Xt.out.c1⟩
      refine wp_region_J (fun W' => W'.cell? ⟨gt, 0, none⟩ = some (Fv 13827963885893258898) ∧ W'.cell? ⟨gt, 1, none⟩ = some (Fv 4361203091086104535)) (by kernel_rfl) ?_
      rw [← hVq]
      clear hVq
      refine wpJ_tq 0 rfl HJ.out ?_
      refine wpJ_tq 1 rfl HJ.out ?_
      refine wpJ_tq 2 rfl HJ.out ?_
      obtain ⟨cr0, cr1, fr0, fr1⟩ := Xr.out
      have hner := Xr.out.lt
      obtain ⟨ct0, ct1, ft0, ft1⟩ := Xt.out
      have hnet := Xt.out.lt
      have za : gt ≠ gr := Ne.symm HDrt.out
      have zb := Ne.symm za
      refine wpJ_on 3 rfl fun KJ hK => ?_
      go_simp
      have HJ2 : Hid ((fun W' : World => W'.cell? ⟨gt, 0, none⟩ = some (Fv 13827963885893258898) ∧ W'.cell? ⟨gt, 1, none⟩ = some (Fv 4361203091086104535)) ((Vq.setCell ⟨gr, 0, none⟩ (Fv 13827963885893258898)).setCell ⟨gr, 1, none⟩ (Fv 4361203091086104535))) := ⟨by go_simp, by go_simp⟩
      refine hK _ _ HJ2.out ?_
      clear hK HJ
      have HJ := HJ2
      clear HJ2
      refine wpJ_tq 4 rfl HJ.out ?_
      refine wpJ_done (by kernel_rfl) ?_ _
      clear HJ
      go_wp2_with fail
      refine bodyPost_ret (v := .tuple #[.int .i64 3, .agg #[Fv 13827963885893258898, Fv 4361203091086104535], .int .i64 0]) (by rw [results_tct rfl]; go_simp) rfl ⟨rfl, ?_⟩
      exact bSet (bSet (hbw) _ _ _ HGr.out) _ _ _ HGr.out
  · go_simp
    have HDrt : Hid (gr ≠ Vr.heap.size) := Nat.ne_of_lt Xr.out.lt
    have HDkt : Hid (gk ≠ Vr.heap.size) := Nat.ne_of_lt Xk.out.lt
    have Xt0 : Hid (Box (Vr.alloc (.cells #[Fv 0, Fv 0] 35)) Vr.heap.size (Fv 0) (Fv 0)) := Box.new Vr _ _ _
    have hbn : Below Vr.heap.size Vr (Vr.alloc (.cells #[Fv 0, Fv 0] 35)) := below1 Vr _
    generalize Vr.alloc (.cells #[Fv 0, Fv 0] 35) = Wt at *
    have HGt : Hid (w.heap.size ≤ Vr.heap.size) := hbw.size
    replace Xr : Hid _ := Xr.out.below hbn
    replace Xk : Hid _ := Xk.out.below hbn
    replace hbw := Below.on hbw hbn
    clear hbn
    generalize Vr.heap.size = gt at *
    have Xt := Xt0
    clear Xt0
    refine hK _ _ ⟨Xk.out.c0, Xk.out.c1⟩ ?_
    clear hK
    refine wpJ_on 1 rfl fun KJ hK => ?_
    go_simp
    refine (halfPi_ _).mono ?_
    rintro e v5 ⟨rfl, hb5⟩
    replace Xr : Hid _ := Xr.out.below hb5
    replace Xk : Hid _ := Xk.out.below hb5
    replace Xt : Hid _ := Xt.out.below hb5
    replace hbw := Below.on hbw hb5
    clear hb5
    refine hK _ _ ⟨Xk.out.c0, Xk.out.c1⟩ ?_
    clear hK
    refine wpJ_on 2 rfl fun KJ hK => ?_
    go_simp
    refine (ddMul_f _).mono ?_
    rintro e v6 ⟨rfl, hb6⟩
    replace Xr : Hid _ := Xr.out.below hb6
    replace Xk : Hid _ := Xk.out.below hb6
    replace Xt : Hid _ := Xt.out.below hb6
    replace hbw := Below.on hbw hb6
    clear hb6
    refine hK _ _ ⟨Xk.out.c0, Xk.out.c1⟩ ?_
    clear hK
    obtain ⟨ct0, ct1, ft0, ft1⟩ := Xt.out
    have hnet := Xt.out.lt
    obtain ⟨cr0, cr1, fr0, fr1⟩ := Xr.out
    have hner := Xr.out.lt
    obtain ⟨ck0, ck1, fk0, fk1⟩ := Xk.out
    have hnek := Xk.out.lt
    have qar : gr ≠ gt := HDrt.out
    have qbr : gt ≠ gr := fun h => qar h.symm
    have qak : gk ≠ gt := HDkt.out
    have qbk : gt ≠ gk := fun h => qak h.symm
    refine wpJ_on 4 rfl fun KJ hK => ?_
    go_simp
    refine hK _ _ ?_ ?_
    · refine ⟨?_, ?_⟩ <;> go_simp
    clear hK HJ
    refine wpJ_done (by kernel_rfl) ?_ _
    clear cr0 cr1 fr0 fr1 hner
    clear ck0 ck1 fk0 fk1 hnek
    obtain ⟨Wz, hWz⟩ : ∃ W9, W9 = ((v6.setCell ⟨gt, 0, none⟩ (Fv 13827963885893258898)).setCell ⟨gt, 1, none⟩ (Fv 4361203091086104535)) := ⟨_, rfl⟩
    have Yt : Hid (Box Wz gt (Fv 13827963885893258898) (Fv 4361203091086104535)) := by rw [hWz]; exact ⟨by go_simp, by go_simp, by go_simp, by go_simp⟩
    obtain ⟨cr0, cr1, fr0, fr1⟩ := Xr.out
    have hner := Xr.out.lt
    have Yr : Hid (Box Wz gr (Fv 0) (Fv 0)) := by rw [hWz]; exact ⟨by go_simp, by go_simp, by go_simp, by go_simp⟩
    clear cr0 cr1 fr0 fr1 hner
    obtain ⟨ck0, ck1, fk0, fk1⟩ := Xk.out
    have hnek := Xk.out.lt
    have Yk : Hid (Box Wz gk (Fv 13825213563187346411) (Fv 4351882500388747932)) := by rw [hWz]; exact ⟨by go_simp, by go_simp, by go_simp, by go_simp⟩
    clear ck0 ck1 fk0 fk1 hnek
    have hbw2 : Below w.heap.size w Wz := by rw [hWz]; exact bSet (bSet (hbw) _ _ _ HGt.out) _ _ _ HGt.out
    clear ct0 ct1 ft0 ft1 hnet
    rw [← hWz]
    clear hWz hbw Xr Xk Xt
    have hbw := hbw2
    clear hbw2
    have Xr := Yr
    clear Yr
    have Xk := Yk
    clear Yk
    have Xt := Yt
    clear Yt
    obtain ⟨ct0, ct1, ft0, ft1⟩ := Xt.out
    have hnet := Xt.out.lt
    obtain ⟨cr0, cr1, fr0, fr1⟩ := Xr.out
    have hner := Xr.out.lt
    go_wp2_with fail
    clear ct0 ct1 ft0 ft1 hnet
    clear cr0 cr1 fr0 fr1 hner
    obtain ⟨Vq, hVq⟩ : ∃ W1, W1 = Wz.drew := ⟨_, rfl⟩
    have hbd : Below Wz.heap.size Wz Vq := by rw [hVq]; exact bDrew1 (Below.refl _ _)
    replace Xr : Hid _ := Xr.out.below hbd
    replace Xk : Hid _ := Xk.out.below hbd
    replace Xt : Hid _ := Xt.out.below hbd
    replace hbw := Below.on hbw hbd
    clear hbd
    have HJ : Hid ((fun W' : World => W'.cell? ⟨gt, 0, none⟩ = some (Fv 13827963885893258898) ∧ W'.cell? ⟨gt, 1, none⟩ = some (Fv 4361203091086104535)) Vq) := ⟨Xt.out.c0, Xt.out.c1⟩
    refine wp_region_J (fun W' => W'.cell? ⟨gt, 0, none⟩ = some (Fv 13827963885893258898) ∧ W'.cell? ⟨gt, 1, none⟩ = some (Fv 4361203091086104535)) (by kernel_rfl) ?_
    rw [← hVq]
    clear hVq
    refine wpJ_tq 0 rfl HJ.out ?_
    refine wpJ_tq 1 rfl HJ.out ?_
    refine wpJ_tq 2 rfl HJ.out ?_
    obtain ⟨cr0, cr1, fr0, fr1⟩ := Xr.out
    have hner := Xr.out.lt
    obtain ⟨ct0, ct1, ft0, ft1⟩ := Xt.out
    have hnet := Xt.out.lt
    have za : gt ≠ gr := Ne.symm HDrt.out
    have zb := Ne.symm za
    refine wpJ_on 3 rfl fun KJ hK => ?_
    go_simp
    have HJ2 : Hid ((fun W' : World => W'.cell? ⟨gt, 0, none⟩ = some (Fv 13827963885893258898) ∧ W'.cell? ⟨gt, 1, none⟩ = some (Fv 4361203091086104535)) ((Vq.setCell ⟨gr, 0, none⟩ (Fv 13827963885893258898)).setCell ⟨gr, 1, none⟩ (Fv 4361203091086104535))) := ⟨by go_simp, by go_simp⟩
    refine hK _ _ HJ2.out ?_
    clear hK HJ
    have HJ := HJ2
    clear HJ2
    refine wpJ_tq 4 rfl HJ.out ?_
    refine wpJ_done (by kernel_rfl) ?_ _
    clear HJ
    go_wp2_with fail
    refine bodyPost_ret (v := .tuple #[.int .i64 3, .agg #[Fv 13827963885893258898, Fv 4361203091086104535], .int .i64 0]) (by rw [results_tct rfl]; go_simp) rfl ⟨rfl, ?_⟩
    exact bSet (bSet (hbw) _ _ _ HGr.out) _ _ _ HGr.out
theorem awake21 (w : World) (hT : TabW w) :
    Calls Tryd.prog 5 #[] w fun en w' => en = .returned (.bool true) ∧ Below w.heap.size w w' := by
  have TB : Hid (TabW w) := hT
  clear hT
  have hSF : ∀ (w : World) (a : Addr) (b : Nat), (store a (Fv b)).run Tryd.prog w = stored Tryd.prog w a (Fv b) .plain := stF
  have or1 : FloatKind.f64.format.order 13827963885893258898 13827942367870918328 = some Ordering.lt := by decide +kernel
  have or2 : FloatKind.f64.format.order 13827963885893258898 13828032439863465738 = some Ordering.gt := by decide +kernel
  go_enter Tryd.func5, Tryd.ntmps5
  go_wp2_with fail
  have hbw : Below w.heap.size w w := Below.refl _ _
  refine (word_ok 0 (by decide) _ TB.out).mono ?_
  rintro e v9 ⟨rfl, hw⟩
  obtain rfl := hw.symm
  clear hw
  rw [show PW.getD 0 0 = 11743562013128004905 from rfl]
  go_wp2_with fail
  refine (reduce_4 _ TB.out).mono ?_
  rintro e v1 ⟨rfl, hb1⟩
  replace hbw := Below.on hbw hb1
  clear hb1
  go_wp2_with fail
  go_ret
  exact ⟨rfl, Below.on hbw (below1 _ _)⟩
theorem kw64 {a i : Nat} (h : a = 64 * i) (hb : i < 2000) : wrap64 (64 * (i : Int)) = (a : Int) := by subst h; simp only [wrap64]; omega
def TA (w : World) (g : Nat) : Prop := ∀ j, j < 20 → w.cell? ⟨g, j, none⟩ = some (U (PW.getD j 0))
theorem TA.below {w w' : World} {g : Nat} (h : TA w g) (hb : Below w.heap.size w w') : TA w' g := by
  intro j hj
  have h1 := h j hj
  have hl : g < w.heap.size := World.block_lt_of_cell? w _ h1
  exact (hb.cell (p := ⟨g, j, none⟩) hl).trans h1
theorem TA.lt {w : World} {g : Nat} (h : TA w g) : g < w.heap.size := World.block_lt_of_cell? w _ (h 0 (by decide))
theorem TA.new (w : World) : TA (w.alloc (.cells #[.int .u64 11743562013128004905, .int .u64 18169587780923219392, .int .u64 15808362127397457985, .int .u64 18325537948574664033, .int .u64 13196794004601950944, .int .u64 452944820249399836, .int .u64 18311050168422213438, .int .u64 16754012890938950788, .int .u64 16833452818741296705, .int .u64 4148332274289687028, .int .u64 11278244420634880059, .int .u64 2303758334597371919, .int .u64 17235013589178936607, .int .u64 7869616827067468215, .int .u64 5712322887342352941, .int .u64 8441921394348257659, .int .u64 4397547296490951402, .int .u64 7780917995555872008, .int .u64 6197850593633725355, .int .u64 17352294737506481693] 23)) w.heap.size := by
  intro j hj
  rcases (by omega : j = 0 ∨ j = 1 ∨ j = 2 ∨ j = 3 ∨ j = 4 ∨ j = 5 ∨ j = 6 ∨ j = 7 ∨ j = 8 ∨ j = 9 ∨ j = 10 ∨ j = 11 ∨ j = 12 ∨ j = 13 ∨ j = 14 ∨ j = 15 ∨ j = 16 ∨ j = 17 ∨ j = 18 ∨ j = 19) with rfl | rfl | rfl | rfl | rfl | rfl | rfl | rfl | rfl | rfl | rfl | rfl | rfl | rfl | rfl | rfl | rfl | rfl | rfl | rfl
  · show (w.alloc (.cells #[.int .u64 11743562013128004905, .int .u64 18169587780923219392, .int .u64 15808362127397457985, .int .u64 18325537948574664033, .int .u64 13196794004601950944, .int .u64 452944820249399836, .int .u64 18311050168422213438, .int .u64 16754012890938950788, .int .u64 16833452818741296705, .int .u64 4148332274289687028, .int .u64 11278244420634880059, .int .u64 2303758334597371919, .int .u64 17235013589178936607, .int .u64 7869616827067468215, .int .u64 5712322887342352941, .int .u64 8441921394348257659, .int .u64 4397547296490951402, .int .u64 7780917995555872008, .int .u64 6197850593633725355, .int .u64 17352294737506481693] 23)).cell? ⟨w.heap.size, 0, none⟩ = some (.int .u64 11743562013128004905)
    go_simp
  · show (w.alloc (.cells #[.int .u64 11743562013128004905, .int .u64 18169587780923219392, .int .u64 15808362127397457985, .int .u64 18325537948574664033, .int .u64 13196794004601950944, .int .u64 452944820249399836, .int .u64 18311050168422213438, .int .u64 16754012890938950788, .int .u64 16833452818741296705, .int .u64 4148332274289687028, .int .u64 11278244420634880059, .int .u64 2303758334597371919, .int .u64 17235013589178936607, .int .u64 7869616827067468215, .int .u64 5712322887342352941, .int .u64 8441921394348257659, .int .u64 4397547296490951402, .int .u64 7780917995555872008, .int .u64 6197850593633725355, .int .u64 17352294737506481693] 23)).cell? ⟨w.heap.size, 1, none⟩ = some (.int .u64 18169587780923219392)
    go_simp
  · show (w.alloc (.cells #[.int .u64 11743562013128004905, .int .u64 18169587780923219392, .int .u64 15808362127397457985, .int .u64 18325537948574664033, .int .u64 13196794004601950944, .int .u64 452944820249399836, .int .u64 18311050168422213438, .int .u64 16754012890938950788, .int .u64 16833452818741296705, .int .u64 4148332274289687028, .int .u64 11278244420634880059, .int .u64 2303758334597371919, .int .u64 17235013589178936607, .int .u64 7869616827067468215, .int .u64 5712322887342352941, .int .u64 8441921394348257659, .int .u64 4397547296490951402, .int .u64 7780917995555872008, .int .u64 6197850593633725355, .int .u64 17352294737506481693] 23)).cell? ⟨w.heap.size, 2, none⟩ = some (.int .u64 15808362127397457985)
    go_simp
  · show (w.alloc (.cells #[.int .u64 11743562013128004905, .int .u64 18169587780923219392, .int .u64 15808362127397457985, .int .u64 18325537948574664033, .int .u64 13196794004601950944, .int .u64 452944820249399836, .int .u64 18311050168422213438, .int .u64 16754012890938950788, .int .u64 16833452818741296705, .int .u64 4148332274289687028, .int .u64 11278244420634880059, .int .u64 2303758334597371919, .int .u64 17235013589178936607, .int .u64 7869616827067468215, .int .u64 5712322887342352941, .int .u64 8441921394348257659, .int .u64 4397547296490951402, .int .u64 7780917995555872008, .int .u64 6197850593633725355, .int .u64 17352294737506481693] 23)).cell? ⟨w.heap.size, 3, none⟩ = some (.int .u64 18325537948574664033)
    go_simp
  · show (w.alloc (.cells #[.int .u64 11743562013128004905, .int .u64 18169587780923219392, .int .u64 15808362127397457985, .int .u64 18325537948574664033, .int .u64 13196794004601950944, .int .u64 452944820249399836, .int .u64 18311050168422213438, .int .u64 16754012890938950788, .int .u64 16833452818741296705, .int .u64 4148332274289687028, .int .u64 11278244420634880059, .int .u64 2303758334597371919, .int .u64 17235013589178936607, .int .u64 7869616827067468215, .int .u64 5712322887342352941, .int .u64 8441921394348257659, .int .u64 4397547296490951402, .int .u64 7780917995555872008, .int .u64 6197850593633725355, .int .u64 17352294737506481693] 23)).cell? ⟨w.heap.size, 4, none⟩ = some (.int .u64 13196794004601950944)
    go_simp
  · show (w.alloc (.cells #[.int .u64 11743562013128004905, .int .u64 18169587780923219392, .int .u64 15808362127397457985, .int .u64 18325537948574664033, .int .u64 13196794004601950944, .int .u64 452944820249399836, .int .u64 18311050168422213438, .int .u64 16754012890938950788, .int .u64 16833452818741296705, .int .u64 4148332274289687028, .int .u64 11278244420634880059, .int .u64 2303758334597371919, .int .u64 17235013589178936607, .int .u64 7869616827067468215, .int .u64 5712322887342352941, .int .u64 8441921394348257659, .int .u64 4397547296490951402, .int .u64 7780917995555872008, .int .u64 6197850593633725355, .int .u64 17352294737506481693] 23)).cell? ⟨w.heap.size, 5, none⟩ = some (.int .u64 452944820249399836)
    go_simp
  · show (w.alloc (.cells #[.int .u64 11743562013128004905, .int .u64 18169587780923219392, .int .u64 15808362127397457985, .int .u64 18325537948574664033, .int .u64 13196794004601950944, .int .u64 452944820249399836, .int .u64 18311050168422213438, .int .u64 16754012890938950788, .int .u64 16833452818741296705, .int .u64 4148332274289687028, .int .u64 11278244420634880059, .int .u64 2303758334597371919, .int .u64 17235013589178936607, .int .u64 7869616827067468215, .int .u64 5712322887342352941, .int .u64 8441921394348257659, .int .u64 4397547296490951402, .int .u64 7780917995555872008, .int .u64 6197850593633725355, .int .u64 17352294737506481693] 23)).cell? ⟨w.heap.size, 6, none⟩ = some (.int .u64 18311050168422213438)
    go_simp
  · show (w.alloc (.cells #[.int .u64 11743562013128004905, .int .u64 18169587780923219392, .int .u64 15808362127397457985, .int .u64 18325537948574664033, .int .u64 13196794004601950944, .int .u64 452944820249399836, .int .u64 18311050168422213438, .int .u64 16754012890938950788, .int .u64 16833452818741296705, .int .u64 4148332274289687028, .int .u64 11278244420634880059, .int .u64 2303758334597371919, .int .u64 17235013589178936607, .int .u64 7869616827067468215, .int .u64 5712322887342352941, .int .u64 8441921394348257659, .int .u64 4397547296490951402, .int .u64 7780917995555872008, .int .u64 6197850593633725355, .int .u64 17352294737506481693] 23)).cell? ⟨w.heap.size, 7, none⟩ = some (.int .u64 16754012890938950788)
    go_simp
  · show (w.alloc (.cells #[.int .u64 11743562013128004905, .int .u64 18169587780923219392, .int .u64 15808362127397457985, .int .u64 18325537948574664033, .int .u64 13196794004601950944, .int .u64 452944820249399836, .int .u64 18311050168422213438, .int .u64 16754012890938950788, .int .u64 16833452818741296705, .int .u64 4148332274289687028, .int .u64 11278244420634880059, .int .u64 2303758334597371919, .int .u64 17235013589178936607, .int .u64 7869616827067468215, .int .u64 5712322887342352941, .int .u64 8441921394348257659, .int .u64 4397547296490951402, .int .u64 7780917995555872008, .int .u64 6197850593633725355, .int .u64 17352294737506481693] 23)).cell? ⟨w.heap.size, 8, none⟩ = some (.int .u64 16833452818741296705)
    go_simp
  · show (w.alloc (.cells #[.int .u64 11743562013128004905, .int .u64 18169587780923219392, .int .u64 15808362127397457985, .int .u64 18325537948574664033, .int .u64 13196794004601950944, .int .u64 452944820249399836, .int .u64 18311050168422213438, .int .u64 16754012890938950788, .int .u64 16833452818741296705, .int .u64 4148332274289687028, .int .u64 11278244420634880059, .int .u64 2303758334597371919, .int .u64 17235013589178936607, .int .u64 7869616827067468215, .int .u64 5712322887342352941, .int .u64 8441921394348257659, .int .u64 4397547296490951402, .int .u64 7780917995555872008, .int .u64 6197850593633725355, .int .u64 17352294737506481693] 23)).cell? ⟨w.heap.size, 9, none⟩ = some (.int .u64 4148332274289687028)
    go_simp
  · show (w.alloc (.cells #[.int .u64 11743562013128004905, .int .u64 18169587780923219392, .int .u64 15808362127397457985, .int .u64 18325537948574664033, .int .u64 13196794004601950944, .int .u64 452944820249399836, .int .u64 18311050168422213438, .int .u64 16754012890938950788, .int .u64 16833452818741296705, .int .u64 4148332274289687028, .int .u64 11278244420634880059, .int .u64 2303758334597371919, .int .u64 17235013589178936607, .int .u64 7869616827067468215, .int .u64 5712322887342352941, .int .u64 8441921394348257659, .int .u64 4397547296490951402, .int .u64 7780917995555872008, .int .u64 6197850593633725355, .int .u64 17352294737506481693] 23)).cell? ⟨w.heap.size, 10, none⟩ = some (.int .u64 11278244420634880059)
    go_simp
  · show (w.alloc (.cells #[.int .u64 11743562013128004905, .int .u64 18169587780923219392, .int .u64 15808362127397457985, .int .u64 18325537948574664033, .int .u64 13196794004601950944, .int .u64 452944820249399836, .int .u64 18311050168422213438, .int .u64 16754012890938950788, .int .u64 16833452818741296705, .int .u64 4148332274289687028, .int .u64 11278244420634880059, .int .u64 2303758334597371919, .int .u64 17235013589178936607, .int .u64 7869616827067468215, .int .u64 5712322887342352941, .int .u64 8441921394348257659, .int .u64 4397547296490951402, .int .u64 7780917995555872008, .int .u64 6197850593633725355, .int .u64 17352294737506481693] 23)).cell? ⟨w.heap.size, 11, none⟩ = some (.int .u64 2303758334597371919)
    go_simp
  · show (w.alloc (.cells #[.int .u64 11743562013128004905, .int .u64 18169587780923219392, .int .u64 15808362127397457985, .int .u64 18325537948574664033, .int .u64 13196794004601950944, .int .u64 452944820249399836, .int .u64 18311050168422213438, .int .u64 16754012890938950788, .int .u64 16833452818741296705, .int .u64 4148332274289687028, .int .u64 11278244420634880059, .int .u64 2303758334597371919, .int .u64 17235013589178936607, .int .u64 7869616827067468215, .int .u64 5712322887342352941, .int .u64 8441921394348257659, .int .u64 4397547296490951402, .int .u64 7780917995555872008, .int .u64 6197850593633725355, .int .u64 17352294737506481693] 23)).cell? ⟨w.heap.size, 12, none⟩ = some (.int .u64 17235013589178936607)
    go_simp
  · show (w.alloc (.cells #[.int .u64 11743562013128004905, .int .u64 18169587780923219392, .int .u64 15808362127397457985, .int .u64 18325537948574664033, .int .u64 13196794004601950944, .int .u64 452944820249399836, .int .u64 18311050168422213438, .int .u64 16754012890938950788, .int .u64 16833452818741296705, .int .u64 4148332274289687028, .int .u64 11278244420634880059, .int .u64 2303758334597371919, .int .u64 17235013589178936607, .int .u64 7869616827067468215, .int .u64 5712322887342352941, .int .u64 8441921394348257659, .int .u64 4397547296490951402, .int .u64 7780917995555872008, .int .u64 6197850593633725355, .int .u64 17352294737506481693] 23)).cell? ⟨w.heap.size, 13, none⟩ = some (.int .u64 7869616827067468215)
    go_simp
  · show (w.alloc (.cells #[.int .u64 11743562013128004905, .int .u64 18169587780923219392, .int .u64 15808362127397457985, .int .u64 18325537948574664033, .int .u64 13196794004601950944, .int .u64 452944820249399836, .int .u64 18311050168422213438, .int .u64 16754012890938950788, .int .u64 16833452818741296705, .int .u64 4148332274289687028, .int .u64 11278244420634880059, .int .u64 2303758334597371919, .int .u64 17235013589178936607, .int .u64 7869616827067468215, .int .u64 5712322887342352941, .int .u64 8441921394348257659, .int .u64 4397547296490951402, .int .u64 7780917995555872008, .int .u64 6197850593633725355, .int .u64 17352294737506481693] 23)).cell? ⟨w.heap.size, 14, none⟩ = some (.int .u64 5712322887342352941)
    go_simp
  · show (w.alloc (.cells #[.int .u64 11743562013128004905, .int .u64 18169587780923219392, .int .u64 15808362127397457985, .int .u64 18325537948574664033, .int .u64 13196794004601950944, .int .u64 452944820249399836, .int .u64 18311050168422213438, .int .u64 16754012890938950788, .int .u64 16833452818741296705, .int .u64 4148332274289687028, .int .u64 11278244420634880059, .int .u64 2303758334597371919, .int .u64 17235013589178936607, .int .u64 7869616827067468215, .int .u64 5712322887342352941, .int .u64 8441921394348257659, .int .u64 4397547296490951402, .int .u64 7780917995555872008, .int .u64 6197850593633725355, .int .u64 17352294737506481693] 23)).cell? ⟨w.heap.size, 15, none⟩ = some (.int .u64 8441921394348257659)
    go_simp
  · show (w.alloc (.cells #[.int .u64 11743562013128004905, .int .u64 18169587780923219392, .int .u64 15808362127397457985, .int .u64 18325537948574664033, .int .u64 13196794004601950944, .int .u64 452944820249399836, .int .u64 18311050168422213438, .int .u64 16754012890938950788, .int .u64 16833452818741296705, .int .u64 4148332274289687028, .int .u64 11278244420634880059, .int .u64 2303758334597371919, .int .u64 17235013589178936607, .int .u64 7869616827067468215, .int .u64 5712322887342352941, .int .u64 8441921394348257659, .int .u64 4397547296490951402, .int .u64 7780917995555872008, .int .u64 6197850593633725355, .int .u64 17352294737506481693] 23)).cell? ⟨w.heap.size, 16, none⟩ = some (.int .u64 4397547296490951402)
    go_simp
  · show (w.alloc (.cells #[.int .u64 11743562013128004905, .int .u64 18169587780923219392, .int .u64 15808362127397457985, .int .u64 18325537948574664033, .int .u64 13196794004601950944, .int .u64 452944820249399836, .int .u64 18311050168422213438, .int .u64 16754012890938950788, .int .u64 16833452818741296705, .int .u64 4148332274289687028, .int .u64 11278244420634880059, .int .u64 2303758334597371919, .int .u64 17235013589178936607, .int .u64 7869616827067468215, .int .u64 5712322887342352941, .int .u64 8441921394348257659, .int .u64 4397547296490951402, .int .u64 7780917995555872008, .int .u64 6197850593633725355, .int .u64 17352294737506481693] 23)).cell? ⟨w.heap.size, 17, none⟩ = some (.int .u64 7780917995555872008)
    go_simp
  · show (w.alloc (.cells #[.int .u64 11743562013128004905, .int .u64 18169587780923219392, .int .u64 15808362127397457985, .int .u64 18325537948574664033, .int .u64 13196794004601950944, .int .u64 452944820249399836, .int .u64 18311050168422213438, .int .u64 16754012890938950788, .int .u64 16833452818741296705, .int .u64 4148332274289687028, .int .u64 11278244420634880059, .int .u64 2303758334597371919, .int .u64 17235013589178936607, .int .u64 7869616827067468215, .int .u64 5712322887342352941, .int .u64 8441921394348257659, .int .u64 4397547296490951402, .int .u64 7780917995555872008, .int .u64 6197850593633725355, .int .u64 17352294737506481693] 23)).cell? ⟨w.heap.size, 18, none⟩ = some (.int .u64 6197850593633725355)
    go_simp
  · show (w.alloc (.cells #[.int .u64 11743562013128004905, .int .u64 18169587780923219392, .int .u64 15808362127397457985, .int .u64 18325537948574664033, .int .u64 13196794004601950944, .int .u64 452944820249399836, .int .u64 18311050168422213438, .int .u64 16754012890938950788, .int .u64 16833452818741296705, .int .u64 4148332274289687028, .int .u64 11278244420634880059, .int .u64 2303758334597371919, .int .u64 17235013589178936607, .int .u64 7869616827067468215, .int .u64 5712322887342352941, .int .u64 8441921394348257659, .int .u64 4397547296490951402, .int .u64 7780917995555872008, .int .u64 6197850593633725355, .int .u64 17352294737506481693] 23)).cell? ⟨w.heap.size, 19, none⟩ = some (.int .u64 17352294737506481693)
    go_simp
theorem payneTable_walk {w : World} (hT : TabW w) : Calls Tryd.prog 3 #[] w fun en w' => en = .returned (.bool true) ∧ Below w.heap.size w w' := by
  have TB : Hid (TabW w) := hT
  clear hT
  go_enter Tryd.func3, Tryd.ntmps3
  go_wp2_with fail
  have hbw : Below w.heap.size w w := Below.refl _ _
  refine (awake21 _ TB.out).mono ?_
  rintro e v1 ⟨rfl, hb1⟩
  replace hbw := Below.on hbw hb1
  clear hb1
  go_wp2_with fail
  have HTA : Hid (TA (v1.alloc (.cells #[.int .u64 11743562013128004905, .int .u64 18169587780923219392, .int .u64 15808362127397457985, .int .u64 18325537948574664033, .int .u64 13196794004601950944, .int .u64 452944820249399836, .int .u64 18311050168422213438, .int .u64 16754012890938950788, .int .u64 16833452818741296705, .int .u64 4148332274289687028, .int .u64 11278244420634880059, .int .u64 2303758334597371919, .int .u64 17235013589178936607, .int .u64 7869616827067468215, .int .u64 5712322887342352941, .int .u64 8441921394348257659, .int .u64 4397547296490951402, .int .u64 7780917995555872008, .int .u64 6197850593633725355, .int .u64 17352294737506481693] 23)) v1.heap.size) := TA.new v1
  have hb2 : Below w.heap.size w (v1.alloc (.cells #[.int .u64 11743562013128004905, .int .u64 18169587780923219392, .int .u64 15808362127397457985, .int .u64 18325537948574664033, .int .u64 13196794004601950944, .int .u64 452944820249399836, .int .u64 18311050168422213438, .int .u64 16754012890938950788, .int .u64 16833452818741296705, .int .u64 4148332274289687028, .int .u64 11278244420634880059, .int .u64 2303758334597371919, .int .u64 17235013589178936607, .int .u64 7869616827067468215, .int .u64 5712322887342352941, .int .u64 8441921394348257659, .int .u64 4397547296490951402, .int .u64 7780917995555872008, .int .u64 6197850593633725355, .int .u64 17352294737506481693] 23)) := Below.on hbw (below1 _ _)
  generalize v1.alloc (.cells #[.int .u64 11743562013128004905, .int .u64 18169587780923219392, .int .u64 15808362127397457985, .int .u64 18325537948574664033, .int .u64 13196794004601950944, .int .u64 452944820249399836, .int .u64 18311050168422213438, .int .u64 16754012890938950788, .int .u64 16833452818741296705, .int .u64 4148332274289687028, .int .u64 11278244420634880059, .int .u64 2303758334597371919, .int .u64 17235013589178936607, .int .u64 7869616827067468215, .int .u64 5712322887342352941, .int .u64 8441921394348257659, .int .u64 4397547296490951402, .int .u64 7780917995555872008, .int .u64 6197850593633725355, .int .u64 17352294737506481693] 23) = V1 at *
  generalize v1.heap.size = ga at *
  clear hbw
  have hbw := hb2
  clear hb2
  go_loopg [2] 20 (fun gk iv wr => ∃ i : Nat, i + gk = 20 ∧ iv = .int .i64 i ∧ TA wr ga ∧ Below w.heap.size w wr)
  case atStart => exact ⟨0, rfl, rfl, HTA.out, hbw⟩
  case round =>
    obtain ⟨i, hig, rfl, xa, hbr⟩ := hrel
    clear HTA hbw
    have HTA : Hid (TA wr ga) := xa
    have hbw := hbr
    clear xa hbr
    cases gk with
    | zero =>
      obtain rfl : i = 20 := by omega
      clear hig
      go_wp2_with fail
      go_loopg [5] 17 (fun gk iv wr => ∃ i : Nat, i + gk = 17 ∧ iv = .int .i64 i ∧ TA wr ga ∧ Below w.heap.size w wr)
      case atStart => exact ⟨0, rfl, rfl, HTA.out, hbw⟩
      case round =>
        obtain ⟨i, hig, rfl, xa, hbr⟩ := hrel
        clear HTA hbw
        have HTA : Hid (TA wr ga) := xa
        have hbw := hbr
        clear xa hbr
        cases gk with
        | zero =>
          obtain rfl : i = 17 := by omega
          clear hig
          go_wp2_with fail
          refine (word_e 20 (by decide) _).mono ?_
          rintro e v10 ⟨rfl, hb10⟩
          replace hbw := Below.on hbw hb10
          clear hb10
          go_wp2_with fail
          refine (word_e (-1) (by decide) _).mono ?_
          rintro e v11 ⟨rfl, hb11⟩
          replace hbw := Below.on hbw hb11
          clear hb11
          go_wp2_with fail
          refine (window_e 1025 (by decide) _).mono ?_
          rintro e v12 ⟨rfl, hb12⟩
          replace hbw := Below.on hbw hb12
          clear hb12
          go_wp2_with fail
          have Xq0 : Hid (B4q (v12.alloc (.cells #[.int .u64 0, .int .u64 0, .int .u64 0, .int .u64 0] 28)) v12.heap.size (.int .u64 0) (.int .u64 0) (.int .u64 0) (.int .u64 0)) := B4q.new v12 _ _ _ _ _
          have hbn : Below v12.heap.size v12 (v12.alloc (.cells #[.int .u64 0, .int .u64 0, .int .u64 0, .int .u64 0] 28)) := below1 v12 _
          generalize v12.alloc (.cells #[.int .u64 0, .int .u64 0, .int .u64 0, .int .u64 0] 28) = Wq at *
          have HGq : Hid (w.heap.size ≤ v12.heap.size) := hbw.size
          replace hbw := Below.on hbw hbn
          clear hbn
          generalize v12.heap.size = gq at *
          have Xq := Xq0
          clear Xq0
          refine (window_e (-1) (by decide) _).mono ?_
          rintro e v13 ⟨rfl, hb13⟩
          replace Xq : Hid _ := Xq.out.below hb13
          replace hbw := Below.on hbw hb13
          clear hb13
          go_wp2_with fail
          go_ret
          exact ⟨rfl, Below.on hbw (below1 _ _)⟩
        | succ m =>
          have HI : Hid (i + (m + 1) = 17 ∧ i < 17) := ⟨hig, by omega⟩
          have h3 : decide ((i : Int) ≤ 16) = true := decide_eq_true (by omega)
          obtain ⟨a, ha⟩ : ∃ a, a = 64 * i := ⟨_, rfl⟩
          have r1 : wrap64 (64 * (i : Int)) = (a : Int) := kw64 ha (by omega)
          have HAI : Hid (a = 64 * i) := ha
          clear ha hig
          go_wp2_with fail
          refine (window_0 a i HAI.out (by have := HI.out.2; omega) _ (TB.out.below hbw)).mono ?_
          rintro e v2 ⟨rfl, hb2⟩
          have HTA2 : Hid (TA v2 ga) := HTA.out.below hb2
          replace hbw := Below.on hbw hb2
          clear hb2
          have hi17 := HI.out.2
          obtain ⟨k0, hk0⟩ : ∃ k, k = i + 0 := ⟨_, rfl⟩
          have ka0 : (0 : Int) ≤ (k0 : Int) := by omega
          have kb0 : (k0 : Int) < 20 := by omega
          obtain ⟨x0, hx0⟩ : ∃ x, x = PW.getD k0 0 := ⟨_, rfl⟩
          have be0 : k0 < 20 := by omega
          obtain ⟨k1, hk1⟩ : ∃ k, k = i + 1 := ⟨_, rfl⟩
          have ka1 : (0 : Int) ≤ (k1 : Int) := by omega
          have kb1 : (k1 : Int) < 20 := by omega
          obtain ⟨x1, hx1⟩ : ∃ x, x = PW.getD k1 0 := ⟨_, rfl⟩
          have be1 : k1 < 20 := by omega
          obtain ⟨k2, hk2⟩ : ∃ k, k = i + 2 := ⟨_, rfl⟩
          have ka2 : (0 : Int) ≤ (k2 : Int) := by omega
          have kb2 : (k2 : Int) < 20 := by omega
          obtain ⟨x2, hx2⟩ : ∃ x, x = PW.getD k2 0 := ⟨_, rfl⟩
          have be2 : k2 < 20 := by omega
          obtain ⟨k3, hk3⟩ : ∃ k, k = i + 3 := ⟨_, rfl⟩
          have ka3 : (0 : Int) ≤ (k3 : Int) := by omega
          have kb3 : (k3 : Int) < 20 := by omega
          obtain ⟨x3, hx3⟩ : ∃ x, x = PW.getD k3 0 := ⟨_, rfl⟩
          have be3 : k3 < 20 := by omega
          rw [show PW.getD i 0 = x0 by rw [hx0, hk0]; rfl, show PW.getD (i + 1) 0 = x1 by rw [hx1, hk1], show PW.getD (i + 2) 0 = x2 by rw [hx2, hk2], show PW.getD (i + 3) 0 = x3 by rw [hx3, hk3]]
          have HXK : Hid (x0 = PW.getD k0 0 ∧ k0 < 20 ∧ x1 = PW.getD k1 0 ∧ k1 < 20 ∧ x2 = PW.getD k2 0 ∧ k2 < 20 ∧ x3 = PW.getD k3 0 ∧ k3 < 20) := ⟨hx0, be0, hx1, be1, hx2, be2, hx3, be3⟩
          have bl1 : k1 < 1000 := by omega
          have bl2 : k2 < 1000 := by omega
          have bl3 : k3 < 1000 := by omega
          obtain rfl : i = k0 := by rw [hk0]; rfl
          clear hk0
          have HW : Hid (wrap64 ((i : Int) + 1) = (k1 : Int) ∧ IntKind.i64.wrap ((i : Int) + 1) = (k1 : Int) ∧ wrap64 ((i : Int) + 2) = (k2 : Int) ∧ IntKind.i64.wrap ((i : Int) + 2) = (k2 : Int) ∧ wrap64 ((i : Int) + 3) = (k3 : Int) ∧ IntKind.i64.wrap ((i : Int) + 3) = (k3 : Int)) := ⟨kwn 1 hk1 bl1, jwn 1 hk1 bl1, kwn 2 hk2 bl2, jwn 2 hk2 bl2, kwn 3 hk3 bl3, jwn 3 hk3 bl3⟩
          have HK1 : Hid (k1 = i + 1) := hk1
          clear hk1 hk2 hk3 hx0 hx1 hx2 hx3 be0 be1 be2 be3 bl1 bl2 bl3 hi17 r1
          go_wp2_with fail
          have HD : Hid (ga ≠ v2.heap.size) := Nat.ne_of_lt HTA2.out.lt
          have Xu0 : Hid (B4q (v2.alloc (.cells #[U x0, U x1, U x2, U x3] 28)) v2.heap.size (U x0) (U x1) (U x2) (U x3)) := B4q.new v2 _ _ _ _ _
          have hbn : Below v2.heap.size v2 (v2.alloc (.cells #[U x0, U x1, U x2, U x3] 28)) := below1 v2 _
          generalize v2.alloc (.cells #[U x0, U x1, U x2, U x3] 28) = Wu at *
          have HGu : Hid (w.heap.size ≤ v2.heap.size) := hbw.size
          replace HTA2 : Hid (TA Wu ga) := HTA2.out.below hbn
          replace hbw := Below.on hbw hbn
          clear hbn
          generalize v2.heap.size = gu at *
          have Xu := Xu0
          clear Xu0
          obtain ⟨p1, p2, p3, p4, p5, p6⟩ := HW.out
          have t0 := HTA2.out i HXK.out.2.1
          rw [← HXK.out.1] at t0
          have t1 := HTA2.out k1 HXK.out.2.2.2.1
          rw [← HXK.out.2.2.1] at t1
          have t2 := HTA2.out k2 HXK.out.2.2.2.2.2.1
          rw [← HXK.out.2.2.2.2.1] at t2
          have t3 := HTA2.out k3 HXK.out.2.2.2.2.2.2.2
          rw [← HXK.out.2.2.2.2.2.2.1] at t3
          obtain ⟨cu0, cu1, cu2, cu3, fu0, fu1, fu2, fu3⟩ := Xu.out
          have hneu : gu < Wu.heap.size := World.block_lt_of_cell? Wu _ cu0
          go_wp2_with fail
          clear cu0 cu1 cu2 cu3 fu0 fu1 fu2 fu3 hneu
          clear t0 t1 t2 t3
          obtain ⟨Vx, hVx⟩ : ∃ W1, W1 = Wu.drew := ⟨_, rfl⟩
          have hbd : Below Wu.heap.size Wu Vx := by rw [hVx]; exact bDrew1 (Below.refl _ _)
          replace Xu : Hid _ := Xu.out.below hbd
          replace HTA2 : Hid (TA Vx ga) := HTA2.out.below hbd
          replace hbw := Below.on hbw hbd
          clear hbd
          have HJ : Hid ((fun W' : World => W'.cell? ⟨gu, 0, none⟩ = some (U x0) ∧ W'.cell? ⟨gu, 1, none⟩ = some (U x1) ∧ W'.cell? ⟨gu, 2, none⟩ = some (U x2) ∧ W'.cell? ⟨gu, 3, none⟩ = some (U x3) ∧ W'.cell? ⟨ga, i, none⟩ = some (U x0) ∧ W'.cell? ⟨ga, k1, none⟩ = some (U x1) ∧ W'.cell? ⟨ga, k2, none⟩ = some (U x2) ∧ W'.cell? ⟨ga, k3, none⟩ = some (U x3)) Vx) := ⟨Xu.out.c0, Xu.out.c1, Xu.out.c2, Xu.out.c3, (HTA2.out i HXK.out.2.1).trans (by rw [HXK.out.1]), (HTA2.out k1 HXK.out.2.2.2.1).trans (by rw [HXK.out.2.2.1]), (HTA2.out k2 HXK.out.2.2.2.2.2.1).trans (by rw [HXK.out.2.2.2.2.1]), (HTA2.out k3 HXK.out.2.2.2.2.2.2.2).trans (by rw [HXK.out.2.2.2.2.2.2.1])⟩
          refine wp_region_J (fun W' => W'.cell? ⟨gu, 0, none⟩ = some (U x0) ∧ W'.cell? ⟨gu, 1, none⟩ = some (U x1) ∧ W'.cell? ⟨gu, 2, none⟩ = some (U x2) ∧ W'.cell? ⟨gu, 3, none⟩ = some (U x3) ∧ W'.cell? ⟨ga, i, none⟩ = some (U x0) ∧ W'.cell? ⟨ga, k1, none⟩ = some (U x1) ∧ W'.cell? ⟨ga, k2, none⟩ = some (U x2) ∧ W'.cell? ⟨ga, k3, none⟩ = some (U x3)) (by kernel_rfl) ?_
          rw [← hVx]
          clear hVx
          refine wpJ_tq 0 rfl HJ.out ?_
          refine wpJ_tq 1 rfl HJ.out ?_
          refine wpJ_tq 2 rfl HJ.out ?_
          refine wpJ_tq 3 rfl HJ.out ?_
          refine wpJ_tq 4 rfl HJ.out ?_
          go_simp
          refine wpJ_tq 5 rfl HJ.out ?_
          refine wpJ_tq 6 rfl HJ.out ?_
          refine wpJ_tq 7 rfl HJ.out ?_
          refine wpJ_tq 8 rfl HJ.out ?_
          refine wpJ_tq 9 rfl HJ.out ?_
          go_simp
          refine wpJ_tq 10 rfl HJ.out ?_
          refine wpJ_tq 11 rfl HJ.out ?_
          refine wpJ_tq 12 rfl HJ.out ?_
          refine wpJ_tq 13 rfl HJ.out ?_
          refine wpJ_tq 14 rfl HJ.out ?_
          go_simp
          refine wpJ_tq 15 rfl HJ.out ?_
          refine wpJ_tq 16 rfl HJ.out ?_
          refine wpJ_tq 17 rfl HJ.out ?_
          refine wpJ_tq 18 rfl HJ.out ?_
          refine wpJ_tq 19 rfl HJ.out ?_
          go_simp
          refine wpJ_tq 20 rfl HJ.out ?_
          refine wpJ_tq 21 rfl HJ.out ?_
          refine wpJ_tq 22 rfl HJ.out ?_
          refine wpJ_tq 23 rfl HJ.out ?_
          refine wpJ_tq 24 rfl HJ.out ?_
          go_simp
          refine wpJ_tq 25 rfl HJ.out ?_
          refine wpJ_tq 26 rfl HJ.out ?_
          refine wpJ_tq 27 rfl HJ.out ?_
          refine wpJ_tq 28 rfl HJ.out ?_
          refine wpJ_tq 29 rfl HJ.out ?_
          go_simp
          refine wpJ_tq 30 rfl HJ.out ?_
          refine wpJ_tq 31 rfl HJ.out ?_
          refine wpJ_tq 32 rfl HJ.out ?_
          refine wpJ_tq 33 rfl HJ.out ?_
          refine wpJ_tq 34 rfl HJ.out ?_
          go_simp
          refine wpJ_tq 35 rfl HJ.out ?_
          refine wpJ_tq 36 rfl HJ.out ?_
          refine wpJ_tq 37 rfl HJ.out ?_
          refine wpJ_tq 38 rfl HJ.out ?_
          refine wpJ_tq 39 rfl HJ.out ?_
          go_simp
          refine wpJ_tq 40 rfl HJ.out ?_
          refine wpJ_done (by kernel_rfl) ?_ _
          clear HJ
          obtain ⟨cu0, cu1, cu2, cu3, fu0, fu1, fu2, fu3⟩ := Xu.out
          have hneu : gu < Vx.heap.size := World.block_lt_of_cell? Vx _ cu0
          go_wp2_with fail
          clear cu0 cu1 cu2 cu3 fu0 fu1 fu2 fu3 hneu
          go_roundg m
          case measure => omega
          case rel => exact ⟨k1, by clear p1 p2 p3 p4 p5 p6; have h1 := HI.out.1; have h2 := HK1.out; omega, rfl, HTA2.out, hbw⟩
    | succ m =>
      have HI : Hid (i + (m + 1) = 20 ∧ i < 20) := ⟨hig, by omega⟩
      have h3 : decide ((i : Int) < 20) = true := decide_eq_true (by omega)
      have ka : (0 : Int) ≤ (i : Int) := by omega
      have kb : (i : Int) < 20 := by omega
      clear hig
      go_wp2_with fail
      refine (word_ok i HI.out.2 _ (TB.out.below hbw)).mono ?_
      rintro e v9 ⟨rfl, hw⟩
      obtain rfl := hw.symm
      clear hw
      have t0 := HTA.out i HI.out.2
      generalize PW.getD i 0 = x0 at *
      go_wp2_with fail
      go_roundg m
      case measure => omega
      case rel => exact ⟨i + 1, by have := HI.out.1; omega, by go_num, HTA.out, hbw⟩
end Go.Proofs.YtjlblndbiggllaaDoor
