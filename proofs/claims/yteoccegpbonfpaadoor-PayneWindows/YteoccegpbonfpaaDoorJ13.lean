import Derived.Test.YteoccegpbonfpaaDoorJ12
import Derived.Test.YteoccegpbonfpaaDoorJ8
import Derived.Test.YteoccegpbonfpaaDoorJ10
import Derived.DeepKeys
namespace Go.Proofs.YteoccegpbonfpaaDoor
open Go.RowKit Go.Shelf
set_option maxRecDepth 100000
set_option maxHeartbeats 0
theorem results_tc {fn : Func} {p t : Tmp} {ty : TypeId} (h : fn.results = #[.tmp t, .cell p ty]) (tmps : Array Value) (P : Program) (w : World) :
    (results fn tmps).run P w = ((asAddr (tmps.getD p undef)).run P w).andThen fun a w₁ => ((loadVar ty a).run P w₁).andThen fun v w₂ => .ok (.tuple #[tmps.getD t undef, v]) w₂ := by
  simp only [results, h]
  simp [Sem.run_bind, Result.andThen]
theorem results_tct {fn : Func} {p t t2 : Tmp} {ty : TypeId} (h : fn.results = #[.tmp t, .cell p ty, .tmp t2]) (tmps : Array Value) (P : Program) (w : World) :
    (results fn tmps).run P w = ((asAddr (tmps.getD p undef)).run P w).andThen fun a w₁ => ((loadVar ty a).run P w₁).andThen fun v w₂ => .ok (.tuple #[tmps.getD t undef, v, tmps.getD t2 undef]) w₂ := by
  simp only [results, h]
  simp [Sem.run_bind, Result.andThen]
theorem nearest_4 (w : World) :
    Calls Tryd.prog 23 #[.agg #[.int .u64 11743562013128004905, .int .u64 18169587780923219392, .int .u64 15808362127397457985, .int .u64 18325146883770548224]] w fun en w' => en = .returned (.tuple #[.int .i64 3, .agg #[Fv 13825213563187346411, Fv 4351882500388747932]]) ∧ Below w.heap.size w w' := by
  have hSF : ∀ (w : World) (a : Addr) (b : Nat), (store a (Fv b)).run Tryd.prog w = stored Tryd.prog w a (Fv b) .plain := stF
  have br1 : bits BinOp.and IntKind.i64 (3) (3) = 3 := by kernel_rfl
  have br2 : bits BinOp.and IntKind.u64 (5) (1) = 1 := by kernel_rfl
  have wr3 : IntKind.u64.wrap (6) = 6 := by kernel_rfl
  have wr4 : IntKind.i64.wrap (6) = 6 := by kernel_rfl
  go_enter Tryd.func23, Tryd.ntmps23
  go_wp2_with fail
  obtain ⟨W0, hW0⟩ : ∃ W0, W0 = ((w.alloc (.cells #[.int .u64 11743562013128004905, .int .u64 18169587780923219392, .int .u64 15808362127397457985, .int .u64 18325146883770548224] 56)).alloc (.cells #[Fv 0, Fv 0] 39)) := ⟨_, rfl⟩
  have Xq : Hid (B4q W0 (w.heap.size) (.int .u64 11743562013128004905) (.int .u64 18169587780923219392) (.int .u64 15808362127397457985) (.int .u64 18325146883770548224)) := by rw [hW0]; exact ⟨by go_simp, by go_simp, by go_simp, by go_simp, by go_simp, by go_simp, by go_simp, by go_simp⟩
  have Xr : Hid (Box W0 (w.heap.size + 1) (Fv 0) (Fv 0)) := by rw [hW0]; exact ⟨by go_simp, by go_simp, by go_simp, by go_simp⟩
  have hb0 : Below w.heap.size w W0 := by rw [hW0]; exact below2 w _ _
  rw [← hW0]
  clear hW0
  have hbw : Below w.heap.size w w := Below.refl _ _
  obtain ⟨gr, hgr⟩ : ∃ g, g = w.heap.size + 1 := ⟨_, rfl⟩
  have HGr : Hid (w.heap.size ≤ gr) := by rw [hgr]; show _ ≤ _; omega
  rw [← hgr] at Xr
  try rw [← hgr]
  obtain ⟨gq, hgq⟩ : ∃ g, g = w.heap.size := ⟨_, rfl⟩
  have HGq : Hid (w.heap.size ≤ gq) := by rw [hgq]; show _ ≤ _; omega
  rw [← hgq] at Xq
  try rw [← hgq]
  have HGD : Hid (gq ≠ gr ∧ gr ≠ gq) := by rw [hgq, hgr]; exact ⟨by omega, by omega⟩
  clear hgq hgr
  replace hbw := Below.on hbw hb0
  clear hb0
  obtain ⟨hgd0, hgd1⟩ := HGD.out
  refine (doubled_2 _).mono ?_
  rintro e v1 ⟨rfl, hb1⟩
  replace Xq : Hid _ := Xq.out.below hb1
  replace Xr : Hid _ := Xr.out.below hb1
  replace hbw := Below.on hbw hb1
  clear hb1
  obtain ⟨cq0, cq1, cq2, cq3, fq0, fq1, fq2, fq3⟩ := Xq.out
  have hneq : gq < v1.heap.size := World.block_lt_of_cell? v1 _ cq0
  go_wp2_with fail
  clear cq0 cq1 cq2 cq3 fq0 fq1 fq2 fq3 hneq
  have Xp0 : Hid (B4q (v1.alloc (.cells #[.int .u64 10080759905092916391, .int .u64 17338118902564222723, .int .u64 7893216288461177095, .int .u64 17960355313953538048] 56)) v1.heap.size (.int .u64 10080759905092916391) (.int .u64 17338118902564222723) (.int .u64 7893216288461177095) (.int .u64 17960355313953538048)) := B4q.new v1 _ _ _ _ _
  have hbn : Below v1.heap.size v1 (v1.alloc (.cells #[.int .u64 10080759905092916391, .int .u64 17338118902564222723, .int .u64 7893216288461177095, .int .u64 17960355313953538048] 56)) := below1 v1 _
  generalize v1.alloc (.cells #[.int .u64 10080759905092916391, .int .u64 17338118902564222723, .int .u64 7893216288461177095, .int .u64 17960355313953538048] 56) = Wp at *
  have HGp : Hid (w.heap.size ≤ v1.heap.size) := hbw.size
  replace Xq : Hid _ := Xq.out.below hbn
  replace Xr : Hid _ := Xr.out.below hbn
  replace hbw := Below.on hbw hbn
  clear hbn
  generalize v1.heap.size = gp at *
  have Xp := Xp0
  clear Xp0
  refine (opposite_4 _).mono ?_
  rintro e v2 ⟨rfl, hb2⟩
  replace Xq : Hid _ := Xq.out.below hb2
  replace Xr : Hid _ := Xr.out.below hb2
  replace Xp : Hid _ := Xp.out.below hb2
  replace hbw := Below.on hbw hb2
  clear hb2
  obtain ⟨cp0, cp1, cp2, cp3, fp0, fp1, fp2, fp3⟩ := Xp.out
  have hnep : gp < v2.heap.size := World.block_lt_of_cell? v2 _ cp0
  go_wp2_with fail
  clear cp0 cp1 cp2 cp3 fp0 fp1 fp2 fp3 hnep
  refine (fraction_4 _).mono ?_
  rintro e v3 ⟨rfl, hb3⟩
  replace Xq : Hid _ := Xq.out.below hb3
  replace Xr : Hid _ := Xr.out.below hb3
  replace Xp : Hid _ := Xp.out.below hb3
  replace hbw := Below.on hbw hb3
  clear hb3
  obtain ⟨cp0, cp1, cp2, cp3, fp0, fp1, fp2, fp3⟩ := Xp.out
  have hnep : gp < v3.heap.size := World.block_lt_of_cell? v3 _ cp0
  go_wp2_with fail
  clear cp0 cp1 cp2 cp3 fp0 fp1 fp2 fp3 hnep
  refine (ddNeg_f _).mono ?_
  rintro e v4 ⟨rfl, hb4⟩
  replace Xq : Hid _ := Xq.out.below hb4
  replace Xr : Hid _ := Xr.out.below hb4
  replace Xp : Hid _ := Xp.out.below hb4
  replace hbw := Below.on hbw hb4
  clear hb4
  obtain ⟨cr0, cr1, fr0, fr1⟩ := Xr.out
  have hner := Xr.out.lt
  go_wp2_with fail
  refine bodyPost_ret (v := .tuple #[.int .i64 3, .agg #[Fv 13825213563187346411, Fv 4351882500388747932]]) (by rw [results_tc rfl]; go_simp) rfl ⟨rfl, ?_⟩
  exact bSet (bSet (hbw) _ _ _ HGr.out) _ _ _ HGr.out
theorem tp_f_a {h l : Nat} (k : SPR 13825213563187346411 h l) : h = 13825213563158921216 ∧ l = 13698573197388021760 := by
  obtain ⟨c, d, F1, F2, F3, F4⟩ := k
  obtain rfl : c = 13946810753187220349 := F1.some _ (by decide +kernel)
  obtain rfl : d = 13946810753126349803 := F2.some _ (by decide +kernel)
  obtain rfl : h = 13825213563158921216 := F3.some _ (by decide +kernel)
  obtain rfl : l = 13698573197388021760 := F4.some _ (by decide +kernel)
  exact ⟨rfl, rfl⟩
theorem tp_f_b {h l : Nat} (k : SPR 4609753056924675352 h l) : h = 4609753056987316224 ∧ l = 13712861181608198144 := by
  obtain ⟨c, d, F1, F2, F3, F4⟩ := k
  obtain rfl : c = 4731350246916385923 := F1.some _ (by decide +kernel)
  obtain rfl : d = 4731350246863678744 := F2.some _ (by decide +kernel)
  obtain rfl : h = 4609753056987316224 := F3.some _ (by decide +kernel)
  obtain rfl : l = 13712861181608198144 := F4.some _ (by decide +kernel)
  exact ⟨rfl, rfl⟩
theorem tp_f {p e : Nat} (k : TPR 13825213563187346411 4609753056924675352 p e) : p = 13827963885893258898 ∧ e = 4363388651099661808 := by
  obtain ⟨ah, al, bh, bl, x1, e1, x2, e2, x3, e3, x4, F1, S1, S2, F2, F3, F4, F5, F6, F7, F8, F9⟩ := k
  obtain ⟨rfl, rfl⟩ := tp_f_a S1
  obtain ⟨rfl, rfl⟩ := tp_f_b S2
  obtain rfl : p = 13827963885893258898 := F1.some _ (by decide +kernel)
  obtain rfl : x1 = 13827963885927751692 := F2.some _ (by decide +kernel)
  obtain rfl : e1 = 13704579610904100864 := F3.some _ (by decide +kernel)
  obtain rfl : x2 = 4484203997767385248 := F4.some _ (by decide +kernel)
  obtain rfl : e2 = 4478067277415022912 := F5.some _ (by decide +kernel)
  obtain rfl : x3 = 13701439314197577956 := F6.some _ (by decide +kernel)
  obtain rfl : e3 = 4359827493096521728 := F7.some _ (by decide +kernel)
  obtain rfl : x4 = 4357599556046179296 := F8.some _ (by decide +kernel)
  obtain rfl : e = 4363388651099661808 := F9.some _ (by decide +kernel)
  exact ⟨rfl, rfl⟩
theorem fs_f {s r : Nat} (h : FSR 13827963885893258898 4361203091086104535 s r) : s = 13827963885893258898 ∧ r = 4361203091086104535 := by
  obtain ⟨t, F1, F2, F3⟩ := h
  obtain rfl : s = 13827963885893258898 := F1.some _ (by decide +kernel)
  obtain rfl : t = 0 := F2.some _ (by decide +kernel)
  obtain rfl : r = 4361203091086104535 := F3.some _ (by decide +kernel)
  exact ⟨rfl, rfl⟩
theorem ddMul_f (w : World) :
    Calls Tryd.prog 24 #[.agg #[Fv 13825213563187346411, Fv 4351882500388747932], .agg #[Fv 4609753056924675352, Fv 4364452196894661639]] w fun en w' => en = .returned (.agg #[Fv 13827963885893258898, Fv 4361203091086104535]) ∧ Below w.heap.size w w' := by
  have hSF : ∀ (w : World) (a : Addr) (b : Nat), (store a (Fv b)).run Tryd.prog w = stored Tryd.prog w a (Fv b) .plain := stF
  have fl5 : ∀ w, (binOp .mul 37 (Fv 13825213563187346411) (Fv 4364452196894661639)).run Tryd.prog w = .ok (Fv 13582858840422150374) w := fun w => run_float_arith w .mul 37 .f64 13825213563187346411 4364452196894661639 13582858840422150374 (by decide +kernel)
  have fl6 : ∀ w, (binOp .mul 37 (Fv 4351882500388747932) (Fv 4609753056924675352)).run Tryd.prog w = .ok (Fv 4355118047812994458) w := fun w => run_float_arith w .mul 37 .f64 4351882500388747932 4609753056924675352 4355118047812994458 (by decide +kernel)
  have fl7 : ∀ w, (binOp .add 37 (Fv 13582858840422150374) (Fv 4355118047812994458)).run Tryd.prog w = .ok (Fv 13578087917321533540) w := fun w => run_float_arith w .add 37 .f64 13582858840422150374 4355118047812994458 13578087917321533540 (by decide +kernel)
  have fl8 : ∀ w, (binOp .add 37 (Fv 4363388651099661808) (Fv 13578087917321533540)).run Tryd.prog w = .ok (Fv 4361203091086104535) w := fun w => run_float_arith w .add 37 .f64 4363388651099661808 13578087917321533540 4361203091086104535 (by decide +kernel)
  go_enter Tryd.func24, Tryd.ntmps24
  go_wp2_with fail
  obtain ⟨W0, hW0⟩ : ∃ W0, W0 = (((w.alloc (.cells #[Fv 13825213563187346411, Fv 4351882500388747932] 39)).alloc (.cells #[Fv 4609753056924675352, Fv 4364452196894661639] 39)).alloc (.cells #[Fv 0, Fv 0] 39)) := ⟨_, rfl⟩
  have Xa : Hid (Box W0 (w.heap.size) (Fv 13825213563187346411) (Fv 4351882500388747932)) := by rw [hW0]; exact ⟨by go_simp, by go_simp, by go_simp, by go_simp⟩
  have Xb : Hid (Box W0 (w.heap.size + 1) (Fv 4609753056924675352) (Fv 4364452196894661639)) := by rw [hW0]; exact ⟨by go_simp, by go_simp, by go_simp, by go_simp⟩
  have Xr : Hid (Box W0 (w.heap.size + 1 + 1) (Fv 0) (Fv 0)) := by rw [hW0]; exact ⟨by go_simp, by go_simp, by go_simp, by go_simp⟩
  have hb0 : Below w.heap.size w W0 := by rw [hW0]; exact below3 w _ _ _
  rw [← hW0]
  clear hW0
  have hbw : Below w.heap.size w w := Below.refl _ _
  obtain ⟨gr, hgr⟩ : ∃ g, g = w.heap.size + 1 + 1 := ⟨_, rfl⟩
  have HGr : Hid (w.heap.size ≤ gr) := by rw [hgr]; show _ ≤ _; omega
  rw [← hgr] at Xr
  try rw [← hgr]
  obtain ⟨gb, hgb⟩ : ∃ g, g = w.heap.size + 1 := ⟨_, rfl⟩
  have HGb : Hid (w.heap.size ≤ gb) := by rw [hgb]; show _ ≤ _; omega
  rw [← hgb] at Xb
  try rw [← hgb]
  obtain ⟨ga, hga⟩ : ∃ g, g = w.heap.size := ⟨_, rfl⟩
  have HGa : Hid (w.heap.size ≤ ga) := by rw [hga]; show _ ≤ _; omega
  rw [← hga] at Xa
  try rw [← hga]
  have HGD : Hid (ga ≠ gb ∧ ga ≠ gr ∧ gb ≠ ga ∧ gb ≠ gr ∧ gr ≠ ga ∧ gr ≠ gb) := by rw [hga, hgb, hgr]; exact ⟨by omega, by omega, by omega, by omega, by omega, by omega⟩
  clear hga hgb hgr
  replace hbw := Below.on hbw hb0
  clear hb0
  obtain ⟨hgd0, hgd1, hgd2, hgd3, hgd4, hgd5⟩ := HGD.out
  refine (twoProd 13825213563187346411 4609753056924675352 _).mono ?_
  rintro e9 v9 ⟨s9, r9, n9, rfl, rfl, hR⟩
  obtain ⟨rfl, rfl⟩ := tp_f hR
  clear hR
  have hbr := bDrewN (Below.refl W0.heap.size W0) n9
  generalize W0.drewN n9 = V1 at *
  replace Xa : Hid _ := Xa.out.below hbr
  replace Xb : Hid _ := Xb.out.below hbr
  replace Xr : Hid _ := Xr.out.below hbr
  replace hbw := Below.on hbw hbr
  clear hbr
  obtain ⟨ca0, ca1, fa0, fa1⟩ := Xa.out
  have hnea := Xa.out.lt
  obtain ⟨cb0, cb1, fb0, fb1⟩ := Xb.out
  have hneb := Xb.out.lt
  go_wp2_with fail
  clear ca0 ca1 fa0 fa1 hnea
  clear cb0 cb1 fb0 fb1 hneb
  refine (fastTwoSum 13827963885893258898 4361203091086104535 _).mono ?_
  rintro e9 v9 ⟨s9, r9, n9, rfl, rfl, hR⟩
  obtain ⟨rfl, rfl⟩ := fs_f hR
  clear hR
  have hbr := bDrewN (Below.refl V1.heap.size V1) n9
  generalize V1.drewN n9 = V2 at *
  replace Xa : Hid _ := Xa.out.below hbr
  replace Xb : Hid _ := Xb.out.below hbr
  replace Xr : Hid _ := Xr.out.below hbr
  replace hbw := Below.on hbw hbr
  clear hbr
  go_wp2_with fail
  refine (ddpair 13827963885893258898 4361203091086104535 _).mono ?_
  rintro e v3 ⟨rfl, hb3⟩
  replace Xa : Hid _ := Xa.out.below hb3
  replace Xb : Hid _ := Xb.out.below hb3
  replace Xr : Hid _ := Xr.out.below hb3
  replace hbw := Below.on hbw hb3
  clear hb3
  obtain ⟨cr0, cr1, fr0, fr1⟩ := Xr.out
  have hner := Xr.out.lt
  go_wp2_with fail
  refine bodyPost_ret (v := .agg #[Fv 13827963885893258898, Fv 4361203091086104535]) (by rw [results_cell1 rfl]; go_simp) rfl ⟨rfl, ?_⟩
  exact bSet (bSet (hbw) _ _ _ HGr.out) _ _ _ HGr.out
def PW : List Nat := [11743562013128004905, 18169587780923219392, 15808362127397457985, 18325537948574664033, 13196794004601950944, 452944820249399836, 18311050168422213438, 16754012890938950788, 16833452818741296705, 4148332274289687028, 11278244420634880059, 2303758334597371919, 17235013589178936607, 7869616827067468215, 5712322887342352941, 8441921394348257659, 4397547296490951402, 7780917995555872008, 6197850593633725355, 17352294737506481693]
def TabW (w : World) : Prop := ∀ j, j < 20 → w.cell? ⟨0, j, none⟩ = some (U (PW.getD j 0))
theorem TabW.below {w w' : World} (h : TabW w) (hb : Below w.heap.size w w') : TabW w' := by
  intro j hj
  have h1 := h j hj
  have hl : 0 < w.heap.size := World.block_lt_of_cell? w _ h1
  exact (hb.cell (p := ⟨0, j, none⟩) hl).trans h1
theorem kwf {f k : Nat} (h : k = f) (hb : k < 1000) : wrap64 (f : Int) = (k : Int) := by subst h; simp only [wrap64]; omega
theorem kwn {f k : Nat} (n : Nat) (h : k = f + n) (hb : k < 1000) : wrap64 ((f : Int) + (n : Int)) = (k : Int) := by subst h; simp only [wrap64]; omega
theorem jwf {f k : Nat} (h : k = f) (hb : k < 1000) : IntKind.i64.wrap (f : Int) = (k : Int) := by rw [IntKind.wrap_i64]; subst h; omega
theorem jwn {f k : Nat} (n : Nat) (h : k = f + n) (hb : k < 1000) : IntKind.i64.wrap ((f : Int) + (n : Int)) = (k : Int) := by rw [IntKind.wrap_i64]; subst h; omega
theorem jsub {s : Nat} (h : s < 64) : IntKind.i64.wrap (64 - (s : Int)) = ((64 - s : Nat) : Int) := by rw [IntKind.wrap_i64]; omega
theorem pw_lt (k : Nat) : PW.getD k 0 < B64 := by
  by_cases h : k < 20
  · have : ∀ k, k < 20 → PW.getD k 0 < B64 := by decide +kernel
    exact this k h
  · rw [List.getD_eq_getElem?_getD, List.getElem?_eq_none (by show 20 ≤ k; omega)]; decide
def wN (f s i : Nat) : Nat := shlW (PW.getD (f + i) 0) s + PW.getD (f + i + 1) 0 * 2 ^ s / B64
theorem wrapU {x : Nat} (h : x < 18446744073709551616) : IntKind.u64.wrap (x : Int) = (x : Int) := by rw [IntKind.wrap_u64]; omega
theorem word_ok (k : Nat) (hk : k < 20) (w : World) (hT : TabW w) : Calls Tryd.prog 8 #[.int .i64 k] w fun en w' => en = .returned (.tuple #[U (PW.getD k 0), .int .i64 0]) ∧ w' = w := by
  have hT0 := hT k hk
  have hi1 : (0 : Int) ≤ (k : Int) := by omega
  have hi2 : (k : Int) < 20 := by omega
  have hi3 : ¬ (k : Int) < 0 := by omega
  have hi4 : ¬ (20 : Int) ≤ (k : Int) := by omega
  generalize PW.getD k 0 = x at *
  go_enter Tryd.func8, Tryd.ntmps8
  go_wp2_with fail
  go_ret2
  exact ⟨rfl, rfl⟩
theorem window_s (a f s : Nat) (ha : a = 64 * f + s) (hf : f ≤ 15) (hs : s < 64) (hs0 : 0 < s) (w : World) (hT : TabW w) : Calls Tryd.prog 9 #[.int .i64 a] w fun en w' => en = .returned (.tuple #[.agg #[U (wN f s 0), U (wN f s 1), U (wN f s 2), U (wN f s 3)], .int .i64 0]) ∧ Below w.heap.size w w' := by
  have hi1 : (a : Int) / 64 = (f : Int) := by omega
  have hi2 : (a : Int) % 64 = (s : Int) := by omega
  have hi3 : decide ((a : Int) < 0) = false := decide_eq_false (by omega)
  have hi4 : decide ((1024 : Int) < (a : Int)) = false := decide_eq_false (by omega)
  have hi5 : (a : Int).tdiv 64 = (f : Int) := by rw [Int.tdiv_eq_ediv_of_nonneg (by omega)]; exact hi1
  have hi6 : (a : Int).tmod 64 = (s : Int) := by rw [Int.tmod_eq_emod_of_nonneg (by omega)]; exact hi2
  obtain ⟨k0, hk0⟩ : ∃ k, k = f + 0 := ⟨_, rfl⟩
  have ka0 : (0 : Int) ≤ (k0 : Int) := by omega
  have kb0 : (k0 : Int) < 20 := by omega
  obtain ⟨k1, hk1⟩ : ∃ k, k = f + 1 := ⟨_, rfl⟩
  have ka1 : (0 : Int) ≤ (k1 : Int) := by omega
  have kb1 : (k1 : Int) < 20 := by omega
  obtain ⟨k2, hk2⟩ : ∃ k, k = f + 2 := ⟨_, rfl⟩
  have ka2 : (0 : Int) ≤ (k2 : Int) := by omega
  have kb2 : (k2 : Int) < 20 := by omega
  obtain ⟨k3, hk3⟩ : ∃ k, k = f + 3 := ⟨_, rfl⟩
  have ka3 : (0 : Int) ≤ (k3 : Int) := by omega
  have kb3 : (k3 : Int) < 20 := by omega
  obtain ⟨k4, hk4⟩ : ∃ k, k = f + 4 := ⟨_, rfl⟩
  have ka4 : (0 : Int) ≤ (k4 : Int) := by omega
  have kb4 : (k4 : Int) < 20 := by omega
  have hs1 : (0 : Int) < (s : Int) := by omega
  have HA : Hid (a = 64 * f + s ∧ f ≤ 15 ∧ s < 64 ∧ 0 < s ∧ k0 < 20 ∧ k1 < 20 ∧ k2 < 20 ∧ k3 < 20 ∧ k4 < 20) := ⟨ha, hf, hs, hs0, by omega, by omega, by omega, by omega, by omega⟩
  have bd0 : k0 = f := by omega
  have bd1 : k1 = k0 + 1 := by omega
  have be1 : k1 < 1000 := by omega
  have bd2 : k2 = k0 + 2 := by omega
  have be2 : k2 < 1000 := by omega
  have bd3 : k3 = k0 + 3 := by omega
  have be3 : k3 < 1000 := by omega
  have bd4 : k4 = k0 + 4 := by omega
  have be4 : k4 < 1000 := by omega
  have bf1 : k2 = k1 + 1 := by omega
  have bf2 : k3 = k2 + 1 := by omega
  have bf3 : k4 = k3 + 1 := by omega
  have be0 : k0 < 1000 := by omega
  have bs : s < 64 := hs
  have kw0 : wrap64 (f : Int) = (k0 : Int) := kwf bd0 be0
  have KW0 : Hid (wrap64 (k0 : Int) = (k0 : Int) ∧ IntKind.i64.wrap (k0 : Int) = (k0 : Int) ∧ IntKind.i64.wrap ((k0 : Int) + 1) = (k1 : Int)) := ⟨kwf rfl be0, jwf rfl be0, jwn 1 bd1 be1⟩
  have KW1 : Hid (wrap64 ((k0 : Int) + 1) = (k1 : Int) ∧ IntKind.i64.wrap ((k0 : Int) + 1) = (k1 : Int) ∧ IntKind.i64.wrap ((k1 : Int) + 1) = (k2 : Int)) := ⟨kwn 1 bd1 be1, jwn 1 bd1 be1, jwn 1 bf1 be2⟩
  have KW2 : Hid (wrap64 ((k0 : Int) + 2) = (k2 : Int) ∧ IntKind.i64.wrap ((k0 : Int) + 2) = (k2 : Int) ∧ IntKind.i64.wrap ((k2 : Int) + 1) = (k3 : Int)) := ⟨kwn 2 bd2 be2, jwn 2 bd2 be2, jwn 1 bf2 be3⟩
  have KW3 : Hid (wrap64 ((k0 : Int) + 3) = (k3 : Int) ∧ IntKind.i64.wrap ((k0 : Int) + 3) = (k3 : Int) ∧ IntKind.i64.wrap ((k3 : Int) + 1) = (k4 : Int)) := ⟨kwn 3 bd3 be3, jwn 3 bd3 be3, jwn 1 bf3 be4⟩
  have KS : Hid (IntKind.i64.wrap (64 - (s : Int)) = ((64 - s : Nat) : Int)) := jsub bs
  have KB0 : Hid ((0 : Int) ≤ (k0 : Int) ∧ (k0 : Int) < 20) := ⟨ka0, kb0⟩
  clear ka0 kb0
  have KB1 : Hid ((0 : Int) ≤ (k1 : Int) ∧ (k1 : Int) < 20) := ⟨ka1, kb1⟩
  clear ka1 kb1
  have KB2 : Hid ((0 : Int) ≤ (k2 : Int) ∧ (k2 : Int) < 20) := ⟨ka2, kb2⟩
  clear ka2 kb2
  have KB3 : Hid ((0 : Int) ≤ (k3 : Int) ∧ (k3 : Int) < 20) := ⟨ka3, kb3⟩
  clear ka3 kb3
  have KB4 : Hid ((0 : Int) ≤ (k4 : Int) ∧ (k4 : Int) < 20) := ⟨ka4, kb4⟩
  clear ka4 kb4
  have HKK : Hid (k0 = f ∧ k1 = f + 1 ∧ k2 = f + 2 ∧ k3 = f + 3 ∧ k4 = f + 4) := ⟨hk0, hk1, hk2, hk3, hk4⟩
  clear hk0 hk1 hk2 hk3 hk4 bd0 bd1 bd2 bd3 bd4 be0 be1 be2 be3 be4 bf1 bf2 bf3 bs
  have TB : Hid (TabW w) := hT
  clear ha hf hs hs0 hT
  go_enter Tryd.func9, Tryd.ntmps9
  go_wp2_with fail
  obtain ⟨W0, hW0⟩ : ∃ W0, W0 = ((w.alloc (.cells #[.int .u64 0, .int .u64 0, .int .u64 0, .int .u64 0] 28)).alloc (.cells #[.int .u64 0, .int .u64 0, .int .u64 0, .int .u64 0] 28)) := ⟨_, rfl⟩
  have Xr : Hid (B4q W0 (w.heap.size) (.int .u64 0) (.int .u64 0) (.int .u64 0) (.int .u64 0)) := by rw [hW0]; exact ⟨by go_simp, by go_simp, by go_simp, by go_simp, by go_simp, by go_simp, by go_simp, by go_simp⟩
  have Xu : Hid (B4q W0 (w.heap.size + 1) (.int .u64 0) (.int .u64 0) (.int .u64 0) (.int .u64 0)) := by rw [hW0]; exact ⟨by go_simp, by go_simp, by go_simp, by go_simp, by go_simp, by go_simp, by go_simp, by go_simp⟩
  have hb0 : Below w.heap.size w W0 := by rw [hW0]; exact below2 w _ _
  rw [← hW0]
  clear hW0
  have hbw : Below w.heap.size w w := Below.refl _ _
  obtain ⟨gu, hgu⟩ : ∃ g, g = w.heap.size + 1 := ⟨_, rfl⟩
  have HGu : Hid (w.heap.size ≤ gu) := by rw [hgu]; show _ ≤ _; omega
  rw [← hgu] at Xu
  try rw [← hgu]
  obtain ⟨gr, hgr⟩ : ∃ g, g = w.heap.size := ⟨_, rfl⟩
  have HGr : Hid (w.heap.size ≤ gr) := by rw [hgr]; show _ ≤ _; omega
  rw [← hgr] at Xr
  try rw [← hgr]
  have HGD : Hid (gr ≠ gu ∧ gu ≠ gr) := by rw [hgr, hgu]; exact ⟨by omega, by omega⟩
  clear hgr hgu
  replace hbw := Below.on hbw hb0
  clear hb0
  obtain ⟨hgd0, hgd1⟩ := HGD.out
  refine wp_loop_rounds 5 ?_
  rw [rounds_succ]
  obtain ⟨x0, hx0⟩ : ∃ x, x = PW.getD k0 0 := ⟨_, rfl⟩
  have HX0 : Hid (x0 = PW.getD k0 0 ∧ x0 < B64) := ⟨hx0, by rw [hx0]; exact pw_lt _⟩
  clear hx0
  obtain ⟨x1, hx1⟩ : ∃ x, x = PW.getD k1 0 := ⟨_, rfl⟩
  have HX1 : Hid (x1 = PW.getD k1 0 ∧ x1 < B64) := ⟨hx1, by rw [hx1]; exact pw_lt _⟩
  clear hx1
  obtain ⟨x2, hx2⟩ : ∃ x, x = PW.getD k2 0 := ⟨_, rfl⟩
  have HX2 : Hid (x2 = PW.getD k2 0 ∧ x2 < B64) := ⟨hx2, by rw [hx2]; exact pw_lt _⟩
  clear hx2
  obtain ⟨x3, hx3⟩ : ∃ x, x = PW.getD k3 0 := ⟨_, rfl⟩
  have HX3 : Hid (x3 = PW.getD k3 0 ∧ x3 < B64) := ⟨hx3, by rw [hx3]; exact pw_lt _⟩
  clear hx3
  obtain ⟨x4, hx4⟩ : ∃ x, x = PW.getD k4 0 := ⟨_, rfl⟩
  have HX4 : Hid (x4 = PW.getD k4 0 ∧ x4 < B64) := ⟨hx4, by rw [hx4]; exact pw_lt _⟩
  clear hx4
  have t0 := (TB.out.below hbw) k0 HA.out.2.2.2.2.1
  rw [← HX0.out.1] at t0
  obtain ⟨p1, p2, p3⟩ := KW0.out
  obtain ⟨p4, p5⟩ := KB0.out
  obtain ⟨cu0, cu1, cu2, cu3, fu0, fu1, fu2, fu3⟩ := Xu.out
  have hneu : gu < W0.heap.size := World.block_lt_of_cell? W0 _ cu0
  go_wp2_with fail
  clear t0 p1 p2 p3 p4 p5
  obtain ⟨Vc0, hVc0⟩ : ∃ W9, W9 = (W0.setCell ⟨gu, 0, none⟩ (.int .u64 (IntKind.u64.wrap ((x0 : Int) * 2 ^ s)))) := ⟨_, rfl⟩
  have Yu : Hid (B4q Vc0 gu (.int .u64 (IntKind.u64.wrap ((x0 : Int) * 2 ^ s))) (.int .u64 0) (.int .u64 0) (.int .u64 0)) := by rw [hVc0]; exact ⟨by go_simp, by go_simp, by go_simp, by go_simp, by go_simp, by go_simp, by go_simp, by go_simp⟩
  obtain ⟨cr0, cr1, cr2, cr3, fr0, fr1, fr2, fr3⟩ := Xr.out
  have hner : gr < W0.heap.size := World.block_lt_of_cell? W0 _ cr0
  have Yr : Hid (B4q Vc0 gr (.int .u64 0) (.int .u64 0) (.int .u64 0) (.int .u64 0)) := by rw [hVc0]; exact ⟨by go_simp, by go_simp, by go_simp, by go_simp, by go_simp, by go_simp, by go_simp, by go_simp⟩
  clear cr0 cr1 cr2 cr3 fr0 fr1 fr2 fr3 hner
  have hbw2 : Below w.heap.size w Vc0 := by rw [hVc0]; exact bSet (hbw) _ _ _ HGu.out
  clear cu0 cu1 cu2 cu3 fu0 fu1 fu2 fu3 hneu
  rw [← hVc0]
  clear hVc0 hbw Xr Xu
  have hbw := hbw2
  clear hbw2
  have Xr := Yr
  clear Yr
  have Xu := Yu
  clear Yu
  have t1 := (TB.out.below hbw) k1 HA.out.2.2.2.2.2.1
  rw [← HX1.out.1] at t1
  obtain ⟨p1, p2, p3⟩ := KW0.out
  obtain ⟨p4, p5⟩ := KB1.out
  have p6 := KS.out
  obtain ⟨Vd0, hVd0⟩ : ∃ W9, W9 = Vc0.drew := ⟨_, rfl⟩
  have hbd : Below Vc0.heap.size Vc0 Vd0 := by rw [hVd0]; exact bDrew1 (Below.refl _ _)
  replace Xr : Hid _ := Xr.out.below hbd
  replace Xu : Hid _ := Xu.out.below hbd
  replace hbw := Below.on hbw hbd
  clear hbd
  have HJ : Hid ((fun W' : World => W'.cell? ⟨gu, 0, none⟩ = some (.int .u64 (IntKind.u64.wrap ((x0 : Int) * 2 ^ s))) ∧ W'.cell? ⟨0, k1, none⟩ = some (U x1)) Vd0) := ⟨Xu.out.c0, ((TB.out.below hbw) k1 HA.out.2.2.2.2.2.1).trans (by rw [HX1.out.1])⟩
  refine wp_region_L (fun W' => W'.cell? ⟨gu, 0, none⟩ = some (.int .u64 (IntKind.u64.wrap ((x0 : Int) * 2 ^ s))) ∧ W'.cell? ⟨0, k1, none⟩ = some (U x1)) 14 (by kernel_rfl) ?_
  rw [← hVd0]
  clear hVd0
  refine wpL_take (i := 0) (v := ?v1x0) rfl (by kernel_rfl) (by kernel_rfl) (by kernel_rfl) (fun _ _ _ h => h) (by kernel_rfl) ?hy1x0 HJ.out ?rest1x0
  case hy1x0 => (intro W' hJ; obtain ⟨j0, j1⟩ := hJ; go_simp; first | done | with_reducible rfl)
  refine wpL_take (i := 1) (v := ?v2x1) rfl (by kernel_rfl) (by kernel_rfl) (by kernel_rfl) (fun _ _ _ h => h) (by kernel_rfl) ?hy2x1 HJ.out ?rest2x1
  case hy2x1 => (intro W' hJ; obtain ⟨j0, j1⟩ := hJ; go_simp; first | done | with_reducible rfl)
  refine wpL_take (i := 2) (v := ?v3x2) rfl (by kernel_rfl) (by kernel_rfl) (by kernel_rfl) (fun _ _ _ h => h) (by kernel_rfl) ?hy3x2 HJ.out ?rest3x2
  case hy3x2 => (intro W' hJ; obtain ⟨j0, j1⟩ := hJ; go_simp; first | done | with_reducible rfl)
  refine wpL_take (i := 3) (v := ?v4x3) rfl (by kernel_rfl) (by kernel_rfl) (by kernel_rfl) (fun _ _ _ h => h) (by kernel_rfl) ?hy4x3 HJ.out ?rest4x3
  case hy4x3 => (intro W' hJ; obtain ⟨j0, j1⟩ := hJ; go_simp; first | done | with_reducible rfl)
  refine wpL_take (i := 4) (v := ?v5x4) rfl (by kernel_rfl) (by kernel_rfl) (by kernel_rfl) (fun _ _ _ h => h) (by kernel_rfl) ?hy5x4 HJ.out ?rest5x4
  case hy5x4 => (intro W' hJ; obtain ⟨j0, j1⟩ := hJ; go_simp; first | done | with_reducible rfl)
  go_simp
  refine wpL_take (i := 5) (v := ?v6x5) rfl (by kernel_rfl) (by kernel_rfl) (by kernel_rfl) (fun _ _ _ h => h) (by kernel_rfl) ?hy6x5 HJ.out ?rest6x5
  case hy6x5 => (intro W' hJ; obtain ⟨j0, j1⟩ := hJ; go_simp; first | done | with_reducible rfl)
  refine wpL_take (i := 6) (v := ?v7x6) rfl (by kernel_rfl) (by kernel_rfl) (by kernel_rfl) (fun _ _ _ h => h) (by kernel_rfl) ?hy7x6 HJ.out ?rest7x6
  case hy7x6 => (intro W' hJ; obtain ⟨j0, j1⟩ := hJ; go_simp; first | done | with_reducible rfl)
  refine wpL_take (i := 7) (v := ?v8x7) rfl (by kernel_rfl) (by kernel_rfl) (by kernel_rfl) (fun _ _ _ h => h) (by kernel_rfl) ?hy8x7 HJ.out ?rest8x7
  case hy8x7 => (intro W' hJ; obtain ⟨j0, j1⟩ := hJ; go_simp; first | done | with_reducible rfl)
  refine wpL_take (i := 8) (v := ?v9x8) rfl (by kernel_rfl) (by kernel_rfl) (by kernel_rfl) (fun _ _ _ h => h) (by kernel_rfl) ?hy9x8 HJ.out ?rest9x8
  case hy9x8 => (intro W' hJ; obtain ⟨j0, j1⟩ := hJ; go_simp; first | done | with_reducible rfl)
  refine wpL_take (i := 9) (v := ?v10x9) rfl (by kernel_rfl) (by kernel_rfl) (by kernel_rfl) (fun _ _ _ h => h) (by kernel_rfl) ?hy10x9 HJ.out ?rest10x9
  case hy10x9 => (intro W' hJ; obtain ⟨j0, j1⟩ := hJ; go_simp; first | done | with_reducible rfl)
  go_simp
  refine wpL_take (i := 10) (v := ?v11x10) rfl (by kernel_rfl) (by kernel_rfl) (by kernel_rfl) (fun _ _ _ h => h) (by kernel_rfl) ?hy11x10 HJ.out ?rest11x10
  case hy11x10 => (intro W' hJ; obtain ⟨j0, j1⟩ := hJ; go_simp; first | done | with_reducible rfl)
  refine wpL_take (i := 11) (v := ?v12x11) rfl (by kernel_rfl) (by kernel_rfl) (by kernel_rfl) (fun _ _ _ h => h) (by kernel_rfl) ?hy12x11 HJ.out ?rest12x11
  case hy12x11 => (intro W' hJ; obtain ⟨j0, j1⟩ := hJ; go_simp; first | done | with_reducible rfl)
  refine wpL_take (i := 12) (v := ?v13x12) rfl (by kernel_rfl) (by kernel_rfl) (by kernel_rfl) (fun _ _ _ h => h) (by kernel_rfl) ?hy13x12 HJ.out ?rest13x12
  case hy13x12 => (intro W' hJ; obtain ⟨j0, j1⟩ := hJ; go_simp; first | done | with_reducible rfl)
  refine wpL_take (i := 13) (v := ?v14x13) rfl (by kernel_rfl) (by kernel_rfl) (by kernel_rfl) (fun _ _ _ h => h) (by kernel_rfl) ?hy14x13 HJ.out ?rest14x13
  case hy14x13 => (intro W' hJ; obtain ⟨j0, j1⟩ := hJ; go_simp; first | done | with_reducible rfl)
  go_simp
  obtain ⟨cu0, cu1, cu2, cu3, fu0, fu1, fu2, fu3⟩ := Xu.out
  have hneu : gu < Vd0.heap.size := World.block_lt_of_cell? Vd0 _ cu0
  refine wpL_last (by kernel_rfl) rfl (by kernel_rfl) (fun KJ hK => ?_)
  go_simp
  refine hK _ _ ?_
  clear hK HJ
  refine wpL_done (by kernel_rfl) ?_ _
  clear t1 p1 p2 p3 p4 p5 p6
  obtain ⟨Ve0, hVe0⟩ : ∃ W9, W9 = (Vd0.setCell ⟨gu, 0, none⟩ (.int .u64 (bits .or .u64 (IntKind.u64.wrap ((x0 : Int) * 2 ^ s)) ((x1 : Int) / 2 ^ (64 - s))))) := ⟨_, rfl⟩
  have Yu : Hid (B4q Ve0 gu (.int .u64 (bits .or .u64 (IntKind.u64.wrap ((x0 : Int) * 2 ^ s)) ((x1 : Int) / 2 ^ (64 - s)))) (.int .u64 0) (.int .u64 0) (.int .u64 0)) := by rw [hVe0]; exact ⟨by go_simp, by go_simp, by go_simp, by go_simp, by go_simp, by go_simp, by go_simp, by go_simp⟩
  obtain ⟨cr0, cr1, cr2, cr3, fr0, fr1, fr2, fr3⟩ := Xr.out
  have hner : gr < Vd0.heap.size := World.block_lt_of_cell? Vd0 _ cr0
  have Yr : Hid (B4q Ve0 gr (.int .u64 0) (.int .u64 0) (.int .u64 0) (.int .u64 0)) := by rw [hVe0]; exact ⟨by go_simp, by go_simp, by go_simp, by go_simp, by go_simp, by go_simp, by go_simp, by go_simp⟩
  clear cr0 cr1 cr2 cr3 fr0 fr1 fr2 fr3 hner
  have hbw2 : Below w.heap.size w Ve0 := by rw [hVe0]; exact bSet (hbw) _ _ _ HGu.out
  clear cu0 cu1 cu2 cu3 fu0 fu1 fu2 fu3 hneu
  rw [← hVe0]
  clear hVe0 hbw Xr Xu
  have hbw := hbw2
  clear hbw2
  have Xr := Yr
  clear Yr
  have Xu := Yu
  clear Yu
  obtain ⟨cu0, cu1, cu2, cu3, fu0, fu1, fu2, fu3⟩ := Xu.out
  have hneu : gu < Ve0.heap.size := World.block_lt_of_cell? Ve0 _ cu0
  go_wp2_with fail
  clear cu0 cu1 cu2 cu3 fu0 fu1 fu2 fu3 hneu
  rw [rounds_succ]
  have t1 := (TB.out.below hbw) k1 HA.out.2.2.2.2.2.1
  rw [← HX1.out.1] at t1
  obtain ⟨p1, p2, p3⟩ := KW1.out
  obtain ⟨p4, p5⟩ := KB1.out
  obtain ⟨cu0, cu1, cu2, cu3, fu0, fu1, fu2, fu3⟩ := Xu.out
  have hneu : gu < Ve0.heap.size := World.block_lt_of_cell? Ve0 _ cu0
  go_wp2_with fail
  clear t1 p1 p2 p3 p4 p5
  obtain ⟨Vc1, hVc1⟩ : ∃ W9, W9 = (Ve0.setCell ⟨gu, 1, none⟩ (.int .u64 (IntKind.u64.wrap ((x1 : Int) * 2 ^ s)))) := ⟨_, rfl⟩
  have Yu : Hid (B4q Vc1 gu (.int .u64 (bits .or .u64 (IntKind.u64.wrap ((x0 : Int) * 2 ^ s)) ((x1 : Int) / 2 ^ (64 - s)))) (.int .u64 (IntKind.u64.wrap ((x1 : Int) * 2 ^ s))) (.int .u64 0) (.int .u64 0)) := by rw [hVc1]; exact ⟨by go_simp, by go_simp, by go_simp, by go_simp, by go_simp, by go_simp, by go_simp, by go_simp⟩
  obtain ⟨cr0, cr1, cr2, cr3, fr0, fr1, fr2, fr3⟩ := Xr.out
  have hner : gr < Ve0.heap.size := World.block_lt_of_cell? Ve0 _ cr0
  have Yr : Hid (B4q Vc1 gr (.int .u64 0) (.int .u64 0) (.int .u64 0) (.int .u64 0)) := by rw [hVc1]; exact ⟨by go_simp, by go_simp, by go_simp, by go_simp, by go_simp, by go_simp, by go_simp, by go_simp⟩
  clear cr0 cr1 cr2 cr3 fr0 fr1 fr2 fr3 hner
  have hbw2 : Below w.heap.size w Vc1 := by rw [hVc1]; exact bSet (hbw) _ _ _ HGu.out
  clear cu0 cu1 cu2 cu3 fu0 fu1 fu2 fu3 hneu
  rw [← hVc1]
  clear hVc1 hbw Xr Xu
  have hbw := hbw2
  clear hbw2
  have Xr := Yr
  clear Yr
  have Xu := Yu
  clear Yu
  have t2 := (TB.out.below hbw) k2 HA.out.2.2.2.2.2.2.1
  rw [← HX2.out.1] at t2
  obtain ⟨p1, p2, p3⟩ := KW1.out
  obtain ⟨p4, p5⟩ := KB2.out
  have p6 := KS.out
  obtain ⟨Vd1, hVd1⟩ : ∃ W9, W9 = Vc1.drew := ⟨_, rfl⟩
  have hbd : Below Vc1.heap.size Vc1 Vd1 := by rw [hVd1]; exact bDrew1 (Below.refl _ _)
  replace Xr : Hid _ := Xr.out.below hbd
  replace Xu : Hid _ := Xu.out.below hbd
  replace hbw := Below.on hbw hbd
  clear hbd
  have HJ : Hid ((fun W' : World => W'.cell? ⟨gu, 1, none⟩ = some (.int .u64 (IntKind.u64.wrap ((x1 : Int) * 2 ^ s))) ∧ W'.cell? ⟨0, k2, none⟩ = some (U x2)) Vd1) := ⟨Xu.out.c1, ((TB.out.below hbw) k2 HA.out.2.2.2.2.2.2.1).trans (by rw [HX2.out.1])⟩
  refine wp_region_L (fun W' => W'.cell? ⟨gu, 1, none⟩ = some (.int .u64 (IntKind.u64.wrap ((x1 : Int) * 2 ^ s))) ∧ W'.cell? ⟨0, k2, none⟩ = some (U x2)) 14 (by kernel_rfl) ?_
  rw [← hVd1]
  clear hVd1
  refine wpL_take (i := 0) (v := ?v15x0) rfl (by kernel_rfl) (by kernel_rfl) (by kernel_rfl) (fun _ _ _ h => h) (by kernel_rfl) ?hy15x0 HJ.out ?rest15x0
  case hy15x0 => (intro W' hJ; obtain ⟨j0, j1⟩ := hJ; go_simp; first | done | with_reducible rfl)
  refine wpL_take (i := 1) (v := ?v16x1) rfl (by kernel_rfl) (by kernel_rfl) (by kernel_rfl) (fun _ _ _ h => h) (by kernel_rfl) ?hy16x1 HJ.out ?rest16x1
  case hy16x1 => (intro W' hJ; obtain ⟨j0, j1⟩ := hJ; go_simp; first | done | with_reducible rfl)
  refine wpL_take (i := 2) (v := ?v17x2) rfl (by kernel_rfl) (by kernel_rfl) (by kernel_rfl) (fun _ _ _ h => h) (by kernel_rfl) ?hy17x2 HJ.out ?rest17x2
  case hy17x2 => (intro W' hJ; obtain ⟨j0, j1⟩ := hJ; go_simp; first | done | with_reducible rfl)
  refine wpL_take (i := 3) (v := ?v18x3) rfl (by kernel_rfl) (by kernel_rfl) (by kernel_rfl) (fun _ _ _ h => h) (by kernel_rfl) ?hy18x3 HJ.out ?rest18x3
  case hy18x3 => (intro W' hJ; obtain ⟨j0, j1⟩ := hJ; go_simp; first | done | with_reducible rfl)
  refine wpL_take (i := 4) (v := ?v19x4) rfl (by kernel_rfl) (by kernel_rfl) (by kernel_rfl) (fun _ _ _ h => h) (by kernel_rfl) ?hy19x4 HJ.out ?rest19x4
  case hy19x4 => (intro W' hJ; obtain ⟨j0, j1⟩ := hJ; go_simp; first | done | with_reducible rfl)
  go_simp
  refine wpL_take (i := 5) (v := ?v20x5) rfl (by kernel_rfl) (by kernel_rfl) (by kernel_rfl) (fun _ _ _ h => h) (by kernel_rfl) ?hy20x5 HJ.out ?rest20x5
  case hy20x5 => (intro W' hJ; obtain ⟨j0, j1⟩ := hJ; go_simp; first | done | with_reducible rfl)
  refine wpL_take (i := 6) (v := ?v21x6) rfl (by kernel_rfl) (by kernel_rfl) (by kernel_rfl) (fun _ _ _ h => h) (by kernel_rfl) ?hy21x6 HJ.out ?rest21x6
  case hy21x6 => (intro W' hJ; obtain ⟨j0, j1⟩ := hJ; go_simp; first | done | with_reducible rfl)
  refine wpL_take (i := 7) (v := ?v22x7) rfl (by kernel_rfl) (by kernel_rfl) (by kernel_rfl) (fun _ _ _ h => h) (by kernel_rfl) ?hy22x7 HJ.out ?rest22x7
  case hy22x7 => (intro W' hJ; obtain ⟨j0, j1⟩ := hJ; go_simp; first | done | with_reducible rfl)
  refine wpL_take (i := 8) (v := ?v23x8) rfl (by kernel_rfl) (by kernel_rfl) (by kernel_rfl) (fun _ _ _ h => h) (by kernel_rfl) ?hy23x8 HJ.out ?rest23x8
  case hy23x8 => (intro W' hJ; obtain ⟨j0, j1⟩ := hJ; go_simp; first | done | with_reducible rfl)
  refine wpL_take (i := 9) (v := ?v24x9) rfl (by kernel_rfl) (by kernel_rfl) (by kernel_rfl) (fun _ _ _ h => h) (by kernel_rfl) ?hy24x9 HJ.out ?rest24x9
  case hy24x9 => (intro W' hJ; obtain ⟨j0, j1⟩ := hJ; go_simp; first | done | with_reducible rfl)
  go_simp
  refine wpL_take (i := 10) (v := ?v25x10) rfl (by kernel_rfl) (by kernel_rfl) (by kernel_rfl) (fun _ _ _ h => h) (by kernel_rfl) ?hy25x10 HJ.out ?rest25x10
  case hy25x10 => (intro W' hJ; obtain ⟨j0, j1⟩ := hJ; go_simp; first | done | with_reducible rfl)
  refine wpL_take (i := 11) (v := ?v26x11) rfl (by kernel_rfl) (by kernel_rfl) (by kernel_rfl) (fun _ _ _ h => h) (by kernel_rfl) ?hy26x11 HJ.out ?rest26x11
  case hy26x11 => (intro W' hJ; obtain ⟨j0, j1⟩ := hJ; go_simp; first | done | with_reducible rfl)
  refine wpL_take (i := 12) (v := ?v27x12) rfl (by kernel_rfl) (by kernel_rfl) (by kernel_rfl) (fun _ _ _ h => h) (by kernel_rfl) ?hy27x12 HJ.out ?rest27x12
  case hy27x12 => (intro W' hJ; obtain ⟨j0, j1⟩ := hJ; go_simp; first | done | with_reducible rfl)
  refine wpL_take (i := 13) (v := ?v28x13) rfl (by kernel_rfl) (by kernel_rfl) (by kernel_rfl) (fun _ _ _ h => h) (by kernel_rfl) ?hy28x13 HJ.out ?rest28x13
  case hy28x13 => (intro W' hJ; obtain ⟨j0, j1⟩ := hJ; go_simp; first | done | with_reducible rfl)
  go_simp
  obtain ⟨cu0, cu1, cu2, cu3, fu0, fu1, fu2, fu3⟩ := Xu.out
  have hneu : gu < Vd1.heap.size := World.block_lt_of_cell? Vd1 _ cu0
  refine wpL_last (by kernel_rfl) rfl (by kernel_rfl) (fun KJ hK => ?_)
  go_simp
  refine hK _ _ ?_
  clear hK HJ
  refine wpL_done (by kernel_rfl) ?_ _
  clear t2 p1 p2 p3 p4 p5 p6
  obtain ⟨Ve1, hVe1⟩ : ∃ W9, W9 = (Vd1.setCell ⟨gu, 1, none⟩ (.int .u64 (bits .or .u64 (IntKind.u64.wrap ((x1 : Int) * 2 ^ s)) ((x2 : Int) / 2 ^ (64 - s))))) := ⟨_, rfl⟩
  have Yu : Hid (B4q Ve1 gu (.int .u64 (bits .or .u64 (IntKind.u64.wrap ((x0 : Int) * 2 ^ s)) ((x1 : Int) / 2 ^ (64 - s)))) (.int .u64 (bits .or .u64 (IntKind.u64.wrap ((x1 : Int) * 2 ^ s)) ((x2 : Int) / 2 ^ (64 - s)))) (.int .u64 0) (.int .u64 0)) := by rw [hVe1]; exact ⟨by go_simp, by go_simp, by go_simp, by go_simp, by go_simp, by go_simp, by go_simp, by go_simp⟩
  obtain ⟨cr0, cr1, cr2, cr3, fr0, fr1, fr2, fr3⟩ := Xr.out
  have hner : gr < Vd1.heap.size := World.block_lt_of_cell? Vd1 _ cr0
  have Yr : Hid (B4q Ve1 gr (.int .u64 0) (.int .u64 0) (.int .u64 0) (.int .u64 0)) := by rw [hVe1]; exact ⟨by go_simp, by go_simp, by go_simp, by go_simp, by go_simp, by go_simp, by go_simp, by go_simp⟩
  clear cr0 cr1 cr2 cr3 fr0 fr1 fr2 fr3 hner
  have hbw2 : Below w.heap.size w Ve1 := by rw [hVe1]; exact bSet (hbw) _ _ _ HGu.out
  clear cu0 cu1 cu2 cu3 fu0 fu1 fu2 fu3 hneu
  rw [← hVe1]
  clear hVe1 hbw Xr Xu
  have hbw := hbw2
  clear hbw2
  have Xr := Yr
  clear Yr
  have Xu := Yu
  clear Yu
  obtain ⟨cu0, cu1, cu2, cu3, fu0, fu1, fu2, fu3⟩ := Xu.out
  have hneu : gu < Ve1.heap.size := World.block_lt_of_cell? Ve1 _ cu0
  go_wp2_with fail
  clear cu0 cu1 cu2 cu3 fu0 fu1 fu2 fu3 hneu
  rw [rounds_succ]
  have t2 := (TB.out.below hbw) k2 HA.out.2.2.2.2.2.2.1
  rw [← HX2.out.1] at t2
  obtain ⟨p1, p2, p3⟩ := KW2.out
  obtain ⟨p4, p5⟩ := KB2.out
  obtain ⟨cu0, cu1, cu2, cu3, fu0, fu1, fu2, fu3⟩ := Xu.out
  have hneu : gu < Ve1.heap.size := World.block_lt_of_cell? Ve1 _ cu0
  go_wp2_with fail
  clear t2 p1 p2 p3 p4 p5
  obtain ⟨Vc2, hVc2⟩ : ∃ W9, W9 = (Ve1.setCell ⟨gu, 2, none⟩ (.int .u64 (IntKind.u64.wrap ((x2 : Int) * 2 ^ s)))) := ⟨_, rfl⟩
  have Yu : Hid (B4q Vc2 gu (.int .u64 (bits .or .u64 (IntKind.u64.wrap ((x0 : Int) * 2 ^ s)) ((x1 : Int) / 2 ^ (64 - s)))) (.int .u64 (bits .or .u64 (IntKind.u64.wrap ((x1 : Int) * 2 ^ s)) ((x2 : Int) / 2 ^ (64 - s)))) (.int .u64 (IntKind.u64.wrap ((x2 : Int) * 2 ^ s))) (.int .u64 0)) := by rw [hVc2]; exact ⟨by go_simp, by go_simp, by go_simp, by go_simp, by go_simp, by go_simp, by go_simp, by go_simp⟩
  obtain ⟨cr0, cr1, cr2, cr3, fr0, fr1, fr2, fr3⟩ := Xr.out
  have hner : gr < Ve1.heap.size := World.block_lt_of_cell? Ve1 _ cr0
  have Yr : Hid (B4q Vc2 gr (.int .u64 0) (.int .u64 0) (.int .u64 0) (.int .u64 0)) := by rw [hVc2]; exact ⟨by go_simp, by go_simp, by go_simp, by go_simp, by go_simp, by go_simp, by go_simp, by go_simp⟩
  clear cr0 cr1 cr2 cr3 fr0 fr1 fr2 fr3 hner
  have hbw2 : Below w.heap.size w Vc2 := by rw [hVc2]; exact bSet (hbw) _ _ _ HGu.out
  clear cu0 cu1 cu2 cu3 fu0 fu1 fu2 fu3 hneu
  rw [← hVc2]
  clear hVc2 hbw Xr Xu
  have hbw := hbw2
  clear hbw2
  have Xr := Yr
  clear Yr
  have Xu := Yu
  clear Yu
  have t3 := (TB.out.below hbw) k3 HA.out.2.2.2.2.2.2.2.1
  rw [← HX3.out.1] at t3
  obtain ⟨p1, p2, p3⟩ := KW2.out
  obtain ⟨p4, p5⟩ := KB3.out
  have p6 := KS.out
  obtain ⟨Vd2, hVd2⟩ : ∃ W9, W9 = Vc2.drew := ⟨_, rfl⟩
  have hbd : Below Vc2.heap.size Vc2 Vd2 := by rw [hVd2]; exact bDrew1 (Below.refl _ _)
  replace Xr : Hid _ := Xr.out.below hbd
  replace Xu : Hid _ := Xu.out.below hbd
  replace hbw := Below.on hbw hbd
  clear hbd
  have HJ : Hid ((fun W' : World => W'.cell? ⟨gu, 2, none⟩ = some (.int .u64 (IntKind.u64.wrap ((x2 : Int) * 2 ^ s))) ∧ W'.cell? ⟨0, k3, none⟩ = some (U x3)) Vd2) := ⟨Xu.out.c2, ((TB.out.below hbw) k3 HA.out.2.2.2.2.2.2.2.1).trans (by rw [HX3.out.1])⟩
  refine wp_region_L (fun W' => W'.cell? ⟨gu, 2, none⟩ = some (.int .u64 (IntKind.u64.wrap ((x2 : Int) * 2 ^ s))) ∧ W'.cell? ⟨0, k3, none⟩ = some (U x3)) 14 (by kernel_rfl) ?_
  rw [← hVd2]
  clear hVd2
  refine wpL_take (i := 0) (v := ?v29x0) rfl (by kernel_rfl) (by kernel_rfl) (by kernel_rfl) (fun _ _ _ h => h) (by kernel_rfl) ?hy29x0 HJ.out ?rest29x0
  case hy29x0 => (intro W' hJ; obtain ⟨j0, j1⟩ := hJ; go_simp; first | done | with_reducible rfl)
  refine wpL_take (i := 1) (v := ?v30x1) rfl (by kernel_rfl) (by kernel_rfl) (by kernel_rfl) (fun _ _ _ h => h) (by kernel_rfl) ?hy30x1 HJ.out ?rest30x1
  case hy30x1 => (intro W' hJ; obtain ⟨j0, j1⟩ := hJ; go_simp; first | done | with_reducible rfl)
  refine wpL_take (i := 2) (v := ?v31x2) rfl (by kernel_rfl) (by kernel_rfl) (by kernel_rfl) (fun _ _ _ h => h) (by kernel_rfl) ?hy31x2 HJ.out ?rest31x2
  case hy31x2 => (intro W' hJ; obtain ⟨j0, j1⟩ := hJ; go_simp; first | done | with_reducible rfl)
  refine wpL_take (i := 3) (v := ?v32x3) rfl (by kernel_rfl) (by kernel_rfl) (by kernel_rfl) (fun _ _ _ h => h) (by kernel_rfl) ?hy32x3 HJ.out ?rest32x3
  case hy32x3 => (intro W' hJ; obtain ⟨j0, j1⟩ := hJ; go_simp; first | done | with_reducible rfl)
  refine wpL_take (i := 4) (v := ?v33x4) rfl (by kernel_rfl) (by kernel_rfl) (by kernel_rfl) (fun _ _ _ h => h) (by kernel_rfl) ?hy33x4 HJ.out ?rest33x4
  case hy33x4 => (intro W' hJ; obtain ⟨j0, j1⟩ := hJ; go_simp; first | done | with_reducible rfl)
  go_simp
  refine wpL_take (i := 5) (v := ?v34x5) rfl (by kernel_rfl) (by kernel_rfl) (by kernel_rfl) (fun _ _ _ h => h) (by kernel_rfl) ?hy34x5 HJ.out ?rest34x5
  case hy34x5 => (intro W' hJ; obtain ⟨j0, j1⟩ := hJ; go_simp; first | done | with_reducible rfl)
  refine wpL_take (i := 6) (v := ?v35x6) rfl (by kernel_rfl) (by kernel_rfl) (by kernel_rfl) (fun _ _ _ h => h) (by kernel_rfl) ?hy35x6 HJ.out ?rest35x6
  case hy35x6 => (intro W' hJ; obtain ⟨j0, j1⟩ := hJ; go_simp; first | done | with_reducible rfl)
  refine wpL_take (i := 7) (v := ?v36x7) rfl (by kernel_rfl) (by kernel_rfl) (by kernel_rfl) (fun _ _ _ h => h) (by kernel_rfl) ?hy36x7 HJ.out ?rest36x7
  case hy36x7 => (intro W' hJ; obtain ⟨j0, j1⟩ := hJ; go_simp; first | done | with_reducible rfl)
  refine wpL_take (i := 8) (v := ?v37x8) rfl (by kernel_rfl) (by kernel_rfl) (by kernel_rfl) (fun _ _ _ h => h) (by kernel_rfl) ?hy37x8 HJ.out ?rest37x8
  case hy37x8 => (intro W' hJ; obtain ⟨j0, j1⟩ := hJ; go_simp; first | done | with_reducible rfl)
  refine wpL_take (i := 9) (v := ?v38x9) rfl (by kernel_rfl) (by kernel_rfl) (by kernel_rfl) (fun _ _ _ h => h) (by kernel_rfl) ?hy38x9 HJ.out ?rest38x9
  case hy38x9 => (intro W' hJ; obtain ⟨j0, j1⟩ := hJ; go_simp; first | done | with_reducible rfl)
  go_simp
  refine wpL_take (i := 10) (v := ?v39x10) rfl (by kernel_rfl) (by kernel_rfl) (by kernel_rfl) (fun _ _ _ h => h) (by kernel_rfl) ?hy39x10 HJ.out ?rest39x10
  case hy39x10 => (intro W' hJ; obtain ⟨j0, j1⟩ := hJ; go_simp; first | done | with_reducible rfl)
  refine wpL_take (i := 11) (v := ?v40x11) rfl (by kernel_rfl) (by kernel_rfl) (by kernel_rfl) (fun _ _ _ h => h) (by kernel_rfl) ?hy40x11 HJ.out ?rest40x11
  case hy40x11 => (intro W' hJ; obtain ⟨j0, j1⟩ := hJ; go_simp; first | done | with_reducible rfl)
  refine wpL_take (i := 12) (v := ?v41x12) rfl (by kernel_rfl) (by kernel_rfl) (by kernel_rfl) (fun _ _ _ h => h) (by kernel_rfl) ?hy41x12 HJ.out ?rest41x12
  case hy41x12 => (intro W' hJ; obtain ⟨j0, j1⟩ := hJ; go_simp; first | done | with_reducible rfl)
  refine wpL_take (i := 13) (v := ?v42x13) rfl (by kernel_rfl) (by kernel_rfl) (by kernel_rfl) (fun _ _ _ h => h) (by kernel_rfl) ?hy42x13 HJ.out ?rest42x13
  case hy42x13 => (intro W' hJ; obtain ⟨j0, j1⟩ := hJ; go_simp; first | done | with_reducible rfl)
  go_simp
  obtain ⟨cu0, cu1, cu2, cu3, fu0, fu1, fu2, fu3⟩ := Xu.out
  have hneu : gu < Vd2.heap.size := World.block_lt_of_cell? Vd2 _ cu0
  refine wpL_last (by kernel_rfl) rfl (by kernel_rfl) (fun KJ hK => ?_)
  go_simp
  refine hK _ _ ?_
  clear hK HJ
  refine wpL_done (by kernel_rfl) ?_ _
  clear t3 p1 p2 p3 p4 p5 p6
  obtain ⟨Ve2, hVe2⟩ : ∃ W9, W9 = (Vd2.setCell ⟨gu, 2, none⟩ (.int .u64 (bits .or .u64 (IntKind.u64.wrap ((x2 : Int) * 2 ^ s)) ((x3 : Int) / 2 ^ (64 - s))))) := ⟨_, rfl⟩
  have Yu : Hid (B4q Ve2 gu (.int .u64 (bits .or .u64 (IntKind.u64.wrap ((x0 : Int) * 2 ^ s)) ((x1 : Int) / 2 ^ (64 - s)))) (.int .u64 (bits .or .u64 (IntKind.u64.wrap ((x1 : Int) * 2 ^ s)) ((x2 : Int) / 2 ^ (64 - s)))) (.int .u64 (bits .or .u64 (IntKind.u64.wrap ((x2 : Int) * 2 ^ s)) ((x3 : Int) / 2 ^ (64 - s)))) (.int .u64 0)) := by rw [hVe2]; exact ⟨by go_simp, by go_simp, by go_simp, by go_simp, by go_simp, by go_simp, by go_simp, by go_simp⟩
  obtain ⟨cr0, cr1, cr2, cr3, fr0, fr1, fr2, fr3⟩ := Xr.out
  have hner : gr < Vd2.heap.size := World.block_lt_of_cell? Vd2 _ cr0
  have Yr : Hid (B4q Ve2 gr (.int .u64 0) (.int .u64 0) (.int .u64 0) (.int .u64 0)) := by rw [hVe2]; exact ⟨by go_simp, by go_simp, by go_simp, by go_simp, by go_simp, by go_simp, by go_simp, by go_simp⟩
  clear cr0 cr1 cr2 cr3 fr0 fr1 fr2 fr3 hner
  have hbw2 : Below w.heap.size w Ve2 := by rw [hVe2]; exact bSet (hbw) _ _ _ HGu.out
  clear cu0 cu1 cu2 cu3 fu0 fu1 fu2 fu3 hneu
  rw [← hVe2]
  clear hVe2 hbw Xr Xu
  have hbw := hbw2
  clear hbw2
  have Xr := Yr
  clear Yr
  have Xu := Yu
  clear Yu
  obtain ⟨cu0, cu1, cu2, cu3, fu0, fu1, fu2, fu3⟩ := Xu.out
  have hneu : gu < Ve2.heap.size := World.block_lt_of_cell? Ve2 _ cu0
  go_wp2_with fail
  clear cu0 cu1 cu2 cu3 fu0 fu1 fu2 fu3 hneu
  rw [rounds_succ]
  have t3 := (TB.out.below hbw) k3 HA.out.2.2.2.2.2.2.2.1
  rw [← HX3.out.1] at t3
  obtain ⟨p1, p2, p3⟩ := KW3.out
  obtain ⟨p4, p5⟩ := KB3.out
  obtain ⟨cu0, cu1, cu2, cu3, fu0, fu1, fu2, fu3⟩ := Xu.out
  have hneu : gu < Ve2.heap.size := World.block_lt_of_cell? Ve2 _ cu0
  go_wp2_with fail
  clear t3 p1 p2 p3 p4 p5
  obtain ⟨Vc3, hVc3⟩ : ∃ W9, W9 = (Ve2.setCell ⟨gu, 3, none⟩ (.int .u64 (IntKind.u64.wrap ((x3 : Int) * 2 ^ s)))) := ⟨_, rfl⟩
  have Yu : Hid (B4q Vc3 gu (.int .u64 (bits .or .u64 (IntKind.u64.wrap ((x0 : Int) * 2 ^ s)) ((x1 : Int) / 2 ^ (64 - s)))) (.int .u64 (bits .or .u64 (IntKind.u64.wrap ((x1 : Int) * 2 ^ s)) ((x2 : Int) / 2 ^ (64 - s)))) (.int .u64 (bits .or .u64 (IntKind.u64.wrap ((x2 : Int) * 2 ^ s)) ((x3 : Int) / 2 ^ (64 - s)))) (.int .u64 (IntKind.u64.wrap ((x3 : Int) * 2 ^ s)))) := by rw [hVc3]; exact ⟨by go_simp, by go_simp, by go_simp, by go_simp, by go_simp, by go_simp, by go_simp, by go_simp⟩
  obtain ⟨cr0, cr1, cr2, cr3, fr0, fr1, fr2, fr3⟩ := Xr.out
  have hner : gr < Ve2.heap.size := World.block_lt_of_cell? Ve2 _ cr0
  have Yr : Hid (B4q Vc3 gr (.int .u64 0) (.int .u64 0) (.int .u64 0) (.int .u64 0)) := by rw [hVc3]; exact ⟨by go_simp, by go_simp, by go_simp, by go_simp, by go_simp, by go_simp, by go_simp, by go_simp⟩
  clear cr0 cr1 cr2 cr3 fr0 fr1 fr2 fr3 hner
  have hbw2 : Below w.heap.size w Vc3 := by rw [hVc3]; exact bSet (hbw) _ _ _ HGu.out
  clear cu0 cu1 cu2 cu3 fu0 fu1 fu2 fu3 hneu
  rw [← hVc3]
  clear hVc3 hbw Xr Xu
  have hbw := hbw2
  clear hbw2
  have Xr := Yr
  clear Yr
  have Xu := Yu
  clear Yu
  have t4 := (TB.out.below hbw) k4 HA.out.2.2.2.2.2.2.2.2
  rw [← HX4.out.1] at t4
  obtain ⟨p1, p2, p3⟩ := KW3.out
  obtain ⟨p4, p5⟩ := KB4.out
  have p6 := KS.out
  obtain ⟨Vd3, hVd3⟩ : ∃ W9, W9 = Vc3.drew := ⟨_, rfl⟩
  have hbd : Below Vc3.heap.size Vc3 Vd3 := by rw [hVd3]; exact bDrew1 (Below.refl _ _)
  replace Xr : Hid _ := Xr.out.below hbd
  replace Xu : Hid _ := Xu.out.below hbd
  replace hbw := Below.on hbw hbd
  clear hbd
  have HJ : Hid ((fun W' : World => W'.cell? ⟨gu, 3, none⟩ = some (.int .u64 (IntKind.u64.wrap ((x3 : Int) * 2 ^ s))) ∧ W'.cell? ⟨0, k4, none⟩ = some (U x4)) Vd3) := ⟨Xu.out.c3, ((TB.out.below hbw) k4 HA.out.2.2.2.2.2.2.2.2).trans (by rw [HX4.out.1])⟩
  refine wp_region_L (fun W' => W'.cell? ⟨gu, 3, none⟩ = some (.int .u64 (IntKind.u64.wrap ((x3 : Int) * 2 ^ s))) ∧ W'.cell? ⟨0, k4, none⟩ = some (U x4)) 14 (by kernel_rfl) ?_
  rw [← hVd3]
  clear hVd3
  refine wpL_take (i := 0) (v := ?v43x0) rfl (by kernel_rfl) (by kernel_rfl) (by kernel_rfl) (fun _ _ _ h => h) (by kernel_rfl) ?hy43x0 HJ.out ?rest43x0
  case hy43x0 => (intro W' hJ; obtain ⟨j0, j1⟩ := hJ; go_simp; first | done | with_reducible rfl)
  refine wpL_take (i := 1) (v := ?v44x1) rfl (by kernel_rfl) (by kernel_rfl) (by kernel_rfl) (fun _ _ _ h => h) (by kernel_rfl) ?hy44x1 HJ.out ?rest44x1
  case hy44x1 => (intro W' hJ; obtain ⟨j0, j1⟩ := hJ; go_simp; first | done | with_reducible rfl)
  refine wpL_take (i := 2) (v := ?v45x2) rfl (by kernel_rfl) (by kernel_rfl) (by kernel_rfl) (fun _ _ _ h => h) (by kernel_rfl) ?hy45x2 HJ.out ?rest45x2
  case hy45x2 => (intro W' hJ; obtain ⟨j0, j1⟩ := hJ; go_simp; first | done | with_reducible rfl)
  refine wpL_take (i := 3) (v := ?v46x3) rfl (by kernel_rfl) (by kernel_rfl) (by kernel_rfl) (fun _ _ _ h => h) (by kernel_rfl) ?hy46x3 HJ.out ?rest46x3
  case hy46x3 => (intro W' hJ; obtain ⟨j0, j1⟩ := hJ; go_simp; first | done | with_reducible rfl)
  refine wpL_take (i := 4) (v := ?v47x4) rfl (by kernel_rfl) (by kernel_rfl) (by kernel_rfl) (fun _ _ _ h => h) (by kernel_rfl) ?hy47x4 HJ.out ?rest47x4
  case hy47x4 => (intro W' hJ; obtain ⟨j0, j1⟩ := hJ; go_simp; first | done | with_reducible rfl)
  go_simp
  refine wpL_take (i := 5) (v := ?v48x5) rfl (by kernel_rfl) (by kernel_rfl) (by kernel_rfl) (fun _ _ _ h => h) (by kernel_rfl) ?hy48x5 HJ.out ?rest48x5
  case hy48x5 => (intro W' hJ; obtain ⟨j0, j1⟩ := hJ; go_simp; first | done | with_reducible rfl)
  refine wpL_take (i := 6) (v := ?v49x6) rfl (by kernel_rfl) (by kernel_rfl) (by kernel_rfl) (fun _ _ _ h => h) (by kernel_rfl) ?hy49x6 HJ.out ?rest49x6
  case hy49x6 => (intro W' hJ; obtain ⟨j0, j1⟩ := hJ; go_simp; first | done | with_reducible rfl)
  refine wpL_take (i := 7) (v := ?v50x7) rfl (by kernel_rfl) (by kernel_rfl) (by kernel_rfl) (fun _ _ _ h => h) (by kernel_rfl) ?hy50x7 HJ.out ?rest50x7
  case hy50x7 => (intro W' hJ; obtain ⟨j0, j1⟩ := hJ; go_simp; first | done | with_reducible rfl)
  refine wpL_take (i := 8) (v := ?v51x8) rfl (by kernel_rfl) (by kernel_rfl) (by kernel_rfl) (fun _ _ _ h => h) (by kernel_rfl) ?hy51x8 HJ.out ?rest51x8
  case hy51x8 => (intro W' hJ; obtain ⟨j0, j1⟩ := hJ; go_simp; first | done | with_reducible rfl)
  refine wpL_take (i := 9) (v := ?v52x9) rfl (by kernel_rfl) (by kernel_rfl) (by kernel_rfl) (fun _ _ _ h => h) (by kernel_rfl) ?hy52x9 HJ.out ?rest52x9
  case hy52x9 => (intro W' hJ; obtain ⟨j0, j1⟩ := hJ; go_simp; first | done | with_reducible rfl)
  go_simp
  refine wpL_take (i := 10) (v := ?v53x10) rfl (by kernel_rfl) (by kernel_rfl) (by kernel_rfl) (fun _ _ _ h => h) (by kernel_rfl) ?hy53x10 HJ.out ?rest53x10
  case hy53x10 => (intro W' hJ; obtain ⟨j0, j1⟩ := hJ; go_simp; first | done | with_reducible rfl)
  refine wpL_take (i := 11) (v := ?v54x11) rfl (by kernel_rfl) (by kernel_rfl) (by kernel_rfl) (fun _ _ _ h => h) (by kernel_rfl) ?hy54x11 HJ.out ?rest54x11
  case hy54x11 => (intro W' hJ; obtain ⟨j0, j1⟩ := hJ; go_simp; first | done | with_reducible rfl)
  refine wpL_take (i := 12) (v := ?v55x12) rfl (by kernel_rfl) (by kernel_rfl) (by kernel_rfl) (fun _ _ _ h => h) (by kernel_rfl) ?hy55x12 HJ.out ?rest55x12
  case hy55x12 => (intro W' hJ; obtain ⟨j0, j1⟩ := hJ; go_simp; first | done | with_reducible rfl)
  refine wpL_take (i := 13) (v := ?v56x13) rfl (by kernel_rfl) (by kernel_rfl) (by kernel_rfl) (fun _ _ _ h => h) (by kernel_rfl) ?hy56x13 HJ.out ?rest56x13
  case hy56x13 => (intro W' hJ; obtain ⟨j0, j1⟩ := hJ; go_simp; first | done | with_reducible rfl)
  go_simp
  obtain ⟨cu0, cu1, cu2, cu3, fu0, fu1, fu2, fu3⟩ := Xu.out
  have hneu : gu < Vd3.heap.size := World.block_lt_of_cell? Vd3 _ cu0
  refine wpL_last (by kernel_rfl) rfl (by kernel_rfl) (fun KJ hK => ?_)
  go_simp
  refine hK _ _ ?_
  clear hK HJ
  refine wpL_done (by kernel_rfl) ?_ _
  clear t4 p1 p2 p3 p4 p5 p6
  obtain ⟨Ve3, hVe3⟩ : ∃ W9, W9 = (Vd3.setCell ⟨gu, 3, none⟩ (.int .u64 (bits .or .u64 (IntKind.u64.wrap ((x3 : Int) * 2 ^ s)) ((x4 : Int) / 2 ^ (64 - s))))) := ⟨_, rfl⟩
  have Yu : Hid (B4q Ve3 gu (.int .u64 (bits .or .u64 (IntKind.u64.wrap ((x0 : Int) * 2 ^ s)) ((x1 : Int) / 2 ^ (64 - s)))) (.int .u64 (bits .or .u64 (IntKind.u64.wrap ((x1 : Int) * 2 ^ s)) ((x2 : Int) / 2 ^ (64 - s)))) (.int .u64 (bits .or .u64 (IntKind.u64.wrap ((x2 : Int) * 2 ^ s)) ((x3 : Int) / 2 ^ (64 - s)))) (.int .u64 (bits .or .u64 (IntKind.u64.wrap ((x3 : Int) * 2 ^ s)) ((x4 : Int) / 2 ^ (64 - s))))) := by rw [hVe3]; exact ⟨by go_simp, by go_simp, by go_simp, by go_simp, by go_simp, by go_simp, by go_simp, by go_simp⟩
  obtain ⟨cr0, cr1, cr2, cr3, fr0, fr1, fr2, fr3⟩ := Xr.out
  have hner : gr < Vd3.heap.size := World.block_lt_of_cell? Vd3 _ cr0
  have Yr : Hid (B4q Ve3 gr (.int .u64 0) (.int .u64 0) (.int .u64 0) (.int .u64 0)) := by rw [hVe3]; exact ⟨by go_simp, by go_simp, by go_simp, by go_simp, by go_simp, by go_simp, by go_simp, by go_simp⟩
  clear cr0 cr1 cr2 cr3 fr0 fr1 fr2 fr3 hner
  have hbw2 : Below w.heap.size w Ve3 := by rw [hVe3]; exact bSet (hbw) _ _ _ HGu.out
  clear cu0 cu1 cu2 cu3 fu0 fu1 fu2 fu3 hneu
  rw [← hVe3]
  clear hVe3 hbw Xr Xu
  have hbw := hbw2
  clear hbw2
  have Xr := Yr
  clear Yr
  have Xu := Yu
  clear Yu
  obtain ⟨cu0, cu1, cu2, cu3, fu0, fu1, fu2, fu3⟩ := Xu.out
  have hneu : gu < Ve3.heap.size := World.block_lt_of_cell? Ve3 _ cu0
  go_wp2_with fail
  clear cu0 cu1 cu2 cu3 fu0 fu1 fu2 fu3 hneu
  rw [rounds_succ]
  obtain ⟨cu0, cu1, cu2, cu3, fu0, fu1, fu2, fu3⟩ := Xu.out
  have hneu : gu < Ve3.heap.size := World.block_lt_of_cell? Ve3 _ cu0
  obtain ⟨cr0, cr1, cr2, cr3, fr0, fr1, fr2, fr3⟩ := Xr.out
  have hner : gr < Ve3.heap.size := World.block_lt_of_cell? Ve3 _ cr0
  go_wp2_with fail
  refine bodyPost_ret (v := .tuple #[.agg #[.int .u64 (bits .or .u64 (IntKind.u64.wrap ((x0 : Int) * 2 ^ s)) ((x1 : Int) / 2 ^ (64 - s))), .int .u64 (bits .or .u64 (IntKind.u64.wrap ((x1 : Int) * 2 ^ s)) ((x2 : Int) / 2 ^ (64 - s))), .int .u64 (bits .or .u64 (IntKind.u64.wrap ((x2 : Int) * 2 ^ s)) ((x3 : Int) / 2 ^ (64 - s))), .int .u64 (bits .or .u64 (IntKind.u64.wrap ((x3 : Int) * 2 ^ s)) ((x4 : Int) / 2 ^ (64 - s)))], .int .i64 0]) (by rw [results_ct rfl]; go_simp) rfl ⟨?_, ?_⟩
  · rw [walk_up x0 x1 s (Nat.le_of_lt HA.out.2.2.1) HX1.out.2, walk_up x1 x2 s (Nat.le_of_lt HA.out.2.2.1) HX2.out.2, walk_up x2 x3 s (Nat.le_of_lt HA.out.2.2.1) HX3.out.2, walk_up x3 x4 s (Nat.le_of_lt HA.out.2.2.1) HX4.out.2]
    obtain ⟨e0, e1, e2, e3, e4⟩ := HKK.out
    unfold wN
    rw [HX0.out.1, HX1.out.1, HX2.out.1, HX3.out.1, HX4.out.1, e0, e1, e2, e3, e4]
    first | done | rfl
  · exact bSet (bSet (bSet (bSet (hbw) _ _ _ HGr.out) _ _ _ HGr.out) _ _ _ HGr.out) _ _ _ HGr.out
theorem window_0 (a f : Nat) (ha : a = 64 * f) (hf : f ≤ 16) (w : World) (hT : TabW w) : Calls Tryd.prog 9 #[.int .i64 a] w fun en w' => en = .returned (.tuple #[.agg #[U (PW.getD f 0), U (PW.getD (f + 1) 0), U (PW.getD (f + 2) 0), U (PW.getD (f + 3) 0)], .int .i64 0]) ∧ Below w.heap.size w w' := by
  have hi1 : (a : Int) / 64 = (f : Int) := by omega
  have hi2 : (a : Int) % 64 = 0 := by omega
  have hi3 : decide ((a : Int) < 0) = false := decide_eq_false (by omega)
  have hi4 : decide ((1024 : Int) < (a : Int)) = false := decide_eq_false (by omega)
  have hi5 : (a : Int).tdiv 64 = (f : Int) := by rw [Int.tdiv_eq_ediv_of_nonneg (by omega)]; exact hi1
  have hi6 : (a : Int).tmod 64 = 0 := by rw [Int.tmod_eq_emod_of_nonneg (by omega)]; exact hi2
  obtain ⟨k0, hk0⟩ : ∃ k, k = f + 0 := ⟨_, rfl⟩
  have KB0 : Hid ((0 : Int) ≤ (k0 : Int) ∧ (k0 : Int) < 20) := ⟨by omega, by omega⟩
  have bd0 : k0 = k0 + 0 := by omega
  have be0 : k0 < 1000 := by omega
  obtain ⟨k1, hk1⟩ : ∃ k, k = f + 1 := ⟨_, rfl⟩
  have KB1 : Hid ((0 : Int) ≤ (k1 : Int) ∧ (k1 : Int) < 20) := ⟨by omega, by omega⟩
  have bd1 : k1 = k0 + 1 := by omega
  have be1 : k1 < 1000 := by omega
  obtain ⟨k2, hk2⟩ : ∃ k, k = f + 2 := ⟨_, rfl⟩
  have KB2 : Hid ((0 : Int) ≤ (k2 : Int) ∧ (k2 : Int) < 20) := ⟨by omega, by omega⟩
  have bd2 : k2 = k0 + 2 := by omega
  have be2 : k2 < 1000 := by omega
  obtain ⟨k3, hk3⟩ : ∃ k, k = f + 3 := ⟨_, rfl⟩
  have KB3 : Hid ((0 : Int) ≤ (k3 : Int) ∧ (k3 : Int) < 20) := ⟨by omega, by omega⟩
  have bd3 : k3 = k0 + 3 := by omega
  have be3 : k3 < 1000 := by omega
  have bdf : k0 = f := by omega
  have HA : Hid (a = 64 * f ∧ f ≤ 16 ∧ True ∧ True ∧ k0 < 20 ∧ k1 < 20 ∧ k2 < 20 ∧ k3 < 20 ∧ True) := ⟨ha, hf, trivial, trivial, by omega, by omega, by omega, by omega, trivial⟩
  have kw0 : wrap64 (f : Int) = (k0 : Int) := kwf bdf be0
  have KW0 : Hid (wrap64 (k0 : Int) = (k0 : Int) ∧ IntKind.i64.wrap (k0 : Int) = (k0 : Int)) := ⟨kwf rfl be0, jwf rfl be0⟩
  have KW1 : Hid (wrap64 ((k0 : Int) + 1) = (k1 : Int) ∧ IntKind.i64.wrap ((k0 : Int) + 1) = (k1 : Int)) := ⟨kwn 1 bd1 be1, jwn 1 bd1 be1⟩
  have KW2 : Hid (wrap64 ((k0 : Int) + 2) = (k2 : Int) ∧ IntKind.i64.wrap ((k0 : Int) + 2) = (k2 : Int)) := ⟨kwn 2 bd2 be2, jwn 2 bd2 be2⟩
  have KW3 : Hid (wrap64 ((k0 : Int) + 3) = (k3 : Int) ∧ IntKind.i64.wrap ((k0 : Int) + 3) = (k3 : Int)) := ⟨kwn 3 bd3 be3, jwn 3 bd3 be3⟩
  have HKK : Hid (k0 = f ∧ k1 = f + 1 ∧ k2 = f + 2 ∧ k3 = f + 3) := ⟨hk0, hk1, hk2, hk3⟩
  have TB : Hid (TabW w) := hT
  clear ha hf hT hk0 hk1 hk2 hk3 bd0 bd1 bd2 bd3 be0 be1 be2 be3 bdf
  go_enter Tryd.func9, Tryd.ntmps9
  go_wp2_with fail
  obtain ⟨W0, hW0⟩ : ∃ W0, W0 = ((w.alloc (.cells #[.int .u64 0, .int .u64 0, .int .u64 0, .int .u64 0] 28)).alloc (.cells #[.int .u64 0, .int .u64 0, .int .u64 0, .int .u64 0] 28)) := ⟨_, rfl⟩
  have Xr : Hid (B4q W0 (w.heap.size) (.int .u64 0) (.int .u64 0) (.int .u64 0) (.int .u64 0)) := by rw [hW0]; exact ⟨by go_simp, by go_simp, by go_simp, by go_simp, by go_simp, by go_simp, by go_simp, by go_simp⟩
  have Xu : Hid (B4q W0 (w.heap.size + 1) (.int .u64 0) (.int .u64 0) (.int .u64 0) (.int .u64 0)) := by rw [hW0]; exact ⟨by go_simp, by go_simp, by go_simp, by go_simp, by go_simp, by go_simp, by go_simp, by go_simp⟩
  have hb0 : Below w.heap.size w W0 := by rw [hW0]; exact below2 w _ _
  rw [← hW0]
  clear hW0
  have hbw : Below w.heap.size w w := Below.refl _ _
  obtain ⟨gu, hgu⟩ : ∃ g, g = w.heap.size + 1 := ⟨_, rfl⟩
  have HGu : Hid (w.heap.size ≤ gu) := by rw [hgu]; show _ ≤ _; omega
  rw [← hgu] at Xu
  try rw [← hgu]
  obtain ⟨gr, hgr⟩ : ∃ g, g = w.heap.size := ⟨_, rfl⟩
  have HGr : Hid (w.heap.size ≤ gr) := by rw [hgr]; show _ ≤ _; omega
  rw [← hgr] at Xr
  try rw [← hgr]
  have HGD : Hid (gr ≠ gu ∧ gu ≠ gr) := by rw [hgr, hgu]; exact ⟨by omega, by omega⟩
  clear hgr hgu
  replace hbw := Below.on hbw hb0
  clear hb0
  obtain ⟨hgd0, hgd1⟩ := HGD.out
  refine wp_loop_rounds 5 ?_
  rw [rounds_succ]
  obtain ⟨x0, hx0⟩ : ∃ x, x = PW.getD k0 0 := ⟨_, rfl⟩
  have HX0 : Hid (x0 = PW.getD k0 0 ∧ x0 < B64) := ⟨hx0, by rw [hx0]; exact pw_lt _⟩
  have HU0 : Hid (IntKind.u64.wrap (x0 : Int) = (x0 : Int)) := wrapU (by have := HX0.out.2; rw [B64_eq] at this; exact this)
  clear hx0
  obtain ⟨x1, hx1⟩ : ∃ x, x = PW.getD k1 0 := ⟨_, rfl⟩
  have HX1 : Hid (x1 = PW.getD k1 0 ∧ x1 < B64) := ⟨hx1, by rw [hx1]; exact pw_lt _⟩
  have HU1 : Hid (IntKind.u64.wrap (x1 : Int) = (x1 : Int)) := wrapU (by have := HX1.out.2; rw [B64_eq] at this; exact this)
  clear hx1
  obtain ⟨x2, hx2⟩ : ∃ x, x = PW.getD k2 0 := ⟨_, rfl⟩
  have HX2 : Hid (x2 = PW.getD k2 0 ∧ x2 < B64) := ⟨hx2, by rw [hx2]; exact pw_lt _⟩
  have HU2 : Hid (IntKind.u64.wrap (x2 : Int) = (x2 : Int)) := wrapU (by have := HX2.out.2; rw [B64_eq] at this; exact this)
  clear hx2
  obtain ⟨x3, hx3⟩ : ∃ x, x = PW.getD k3 0 := ⟨_, rfl⟩
  have HX3 : Hid (x3 = PW.getD k3 0 ∧ x3 < B64) := ⟨hx3, by rw [hx3]; exact pw_lt _⟩
  have HU3 : Hid (IntKind.u64.wrap (x3 : Int) = (x3 : Int)) := wrapU (by have := HX3.out.2; rw [B64_eq] at this; exact this)
  clear hx3
  have t0 := (TB.out.below hbw) k0 HA.out.2.2.2.2.1
  rw [← HX0.out.1] at t0
  have hU0 := HU0.out
  obtain ⟨p1, p2⟩ := KW0.out
  obtain ⟨p4, p5⟩ := KB0.out
  obtain ⟨cu0, cu1, cu2, cu3, fu0, fu1, fu2, fu3⟩ := Xu.out
  have hneu : gu < W0.heap.size := World.block_lt_of_cell? W0 _ cu0
  go_wp2_with fail
  clear t0 p1 p2 p4 p5
  obtain ⟨Vc0, hVc0⟩ : ∃ W9, W9 = (W0.setCell ⟨gu, 0, none⟩ (U x0)) := ⟨_, rfl⟩
  have Yu : Hid (B4q Vc0 gu (U x0) (.int .u64 0) (.int .u64 0) (.int .u64 0)) := by rw [hVc0]; exact ⟨by go_simp, by go_simp, by go_simp, by go_simp, by go_simp, by go_simp, by go_simp, by go_simp⟩
  obtain ⟨cr0, cr1, cr2, cr3, fr0, fr1, fr2, fr3⟩ := Xr.out
  have hner : gr < W0.heap.size := World.block_lt_of_cell? W0 _ cr0
  have Yr : Hid (B4q Vc0 gr (.int .u64 0) (.int .u64 0) (.int .u64 0) (.int .u64 0)) := by rw [hVc0]; exact ⟨by go_simp, by go_simp, by go_simp, by go_simp, by go_simp, by go_simp, by go_simp, by go_simp⟩
  clear cr0 cr1 cr2 cr3 fr0 fr1 fr2 fr3 hner
  have hbw2 : Below w.heap.size w Vc0 := by rw [hVc0]; exact bSet (hbw) _ _ _ HGu.out
  clear cu0 cu1 cu2 cu3 fu0 fu1 fu2 fu3 hneu
  rw [← hVc0]
  clear hVc0 hbw Xr Xu
  have hbw := hbw2
  clear hbw2
  have Xr := Yr
  clear Yr
  have Xu := Yu
  clear Yu
  rw [rounds_succ]
  have t1 := (TB.out.below hbw) k1 HA.out.2.2.2.2.2.1
  rw [← HX1.out.1] at t1
  have hU1 := HU1.out
  obtain ⟨p1, p2⟩ := KW1.out
  obtain ⟨p4, p5⟩ := KB1.out
  obtain ⟨cu0, cu1, cu2, cu3, fu0, fu1, fu2, fu3⟩ := Xu.out
  have hneu : gu < Vc0.heap.size := World.block_lt_of_cell? Vc0 _ cu0
  go_wp2_with fail
  clear t1 p1 p2 p4 p5
  obtain ⟨Vc1, hVc1⟩ : ∃ W9, W9 = (Vc0.setCell ⟨gu, 1, none⟩ (U x1)) := ⟨_, rfl⟩
  have Yu : Hid (B4q Vc1 gu (U x0) (U x1) (.int .u64 0) (.int .u64 0)) := by rw [hVc1]; exact ⟨by go_simp, by go_simp, by go_simp, by go_simp, by go_simp, by go_simp, by go_simp, by go_simp⟩
  obtain ⟨cr0, cr1, cr2, cr3, fr0, fr1, fr2, fr3⟩ := Xr.out
  have hner : gr < Vc0.heap.size := World.block_lt_of_cell? Vc0 _ cr0
  have Yr : Hid (B4q Vc1 gr (.int .u64 0) (.int .u64 0) (.int .u64 0) (.int .u64 0)) := by rw [hVc1]; exact ⟨by go_simp, by go_simp, by go_simp, by go_simp, by go_simp, by go_simp, by go_simp, by go_simp⟩
  clear cr0 cr1 cr2 cr3 fr0 fr1 fr2 fr3 hner
  have hbw2 : Below w.heap.size w Vc1 := by rw [hVc1]; exact bSet (hbw) _ _ _ HGu.out
  clear cu0 cu1 cu2 cu3 fu0 fu1 fu2 fu3 hneu
  rw [← hVc1]
  clear hVc1 hbw Xr Xu
  have hbw := hbw2
  clear hbw2
  have Xr := Yr
  clear Yr
  have Xu := Yu
  clear Yu
  rw [rounds_succ]
  have t2 := (TB.out.below hbw) k2 HA.out.2.2.2.2.2.2.1
  rw [← HX2.out.1] at t2
  have hU2 := HU2.out
  obtain ⟨p1, p2⟩ := KW2.out
  obtain ⟨p4, p5⟩ := KB2.out
  obtain ⟨cu0, cu1, cu2, cu3, fu0, fu1, fu2, fu3⟩ := Xu.out
  have hneu : gu < Vc1.heap.size := World.block_lt_of_cell? Vc1 _ cu0
  go_wp2_with fail
  clear t2 p1 p2 p4 p5
  obtain ⟨Vc2, hVc2⟩ : ∃ W9, W9 = (Vc1.setCell ⟨gu, 2, none⟩ (U x2)) := ⟨_, rfl⟩
  have Yu : Hid (B4q Vc2 gu (U x0) (U x1) (U x2) (.int .u64 0)) := by rw [hVc2]; exact ⟨by go_simp, by go_simp, by go_simp, by go_simp, by go_simp, by go_simp, by go_simp, by go_simp⟩
  obtain ⟨cr0, cr1, cr2, cr3, fr0, fr1, fr2, fr3⟩ := Xr.out
  have hner : gr < Vc1.heap.size := World.block_lt_of_cell? Vc1 _ cr0
  have Yr : Hid (B4q Vc2 gr (.int .u64 0) (.int .u64 0) (.int .u64 0) (.int .u64 0)) := by rw [hVc2]; exact ⟨by go_simp, by go_simp, by go_simp, by go_simp, by go_simp, by go_simp, by go_simp, by go_simp⟩
  clear cr0 cr1 cr2 cr3 fr0 fr1 fr2 fr3 hner
  have hbw2 : Below w.heap.size w Vc2 := by rw [hVc2]; exact bSet (hbw) _ _ _ HGu.out
  clear cu0 cu1 cu2 cu3 fu0 fu1 fu2 fu3 hneu
  rw [← hVc2]
  clear hVc2 hbw Xr Xu
  have hbw := hbw2
  clear hbw2
  have Xr := Yr
  clear Yr
  have Xu := Yu
  clear Yu
  rw [rounds_succ]
  have t3 := (TB.out.below hbw) k3 HA.out.2.2.2.2.2.2.2.1
  rw [← HX3.out.1] at t3
  have hU3 := HU3.out
  obtain ⟨p1, p2⟩ := KW3.out
  obtain ⟨p4, p5⟩ := KB3.out
  obtain ⟨cu0, cu1, cu2, cu3, fu0, fu1, fu2, fu3⟩ := Xu.out
  have hneu : gu < Vc2.heap.size := World.block_lt_of_cell? Vc2 _ cu0
  go_wp2_with fail
  clear t3 p1 p2 p4 p5
  obtain ⟨Vc3, hVc3⟩ : ∃ W9, W9 = (Vc2.setCell ⟨gu, 3, none⟩ (U x3)) := ⟨_, rfl⟩
  have Yu : Hid (B4q Vc3 gu (U x0) (U x1) (U x2) (U x3)) := by rw [hVc3]; exact ⟨by go_simp, by go_simp, by go_simp, by go_simp, by go_simp, by go_simp, by go_simp, by go_simp⟩
  obtain ⟨cr0, cr1, cr2, cr3, fr0, fr1, fr2, fr3⟩ := Xr.out
  have hner : gr < Vc2.heap.size := World.block_lt_of_cell? Vc2 _ cr0
  have Yr : Hid (B4q Vc3 gr (.int .u64 0) (.int .u64 0) (.int .u64 0) (.int .u64 0)) := by rw [hVc3]; exact ⟨by go_simp, by go_simp, by go_simp, by go_simp, by go_simp, by go_simp, by go_simp, by go_simp⟩
  clear cr0 cr1 cr2 cr3 fr0 fr1 fr2 fr3 hner
  have hbw2 : Below w.heap.size w Vc3 := by rw [hVc3]; exact bSet (hbw) _ _ _ HGu.out
  clear cu0 cu1 cu2 cu3 fu0 fu1 fu2 fu3 hneu
  rw [← hVc3]
  clear hVc3 hbw Xr Xu
  have hbw := hbw2
  clear hbw2
  have Xr := Yr
  clear Yr
  have Xu := Yu
  clear Yu
  rw [rounds_succ]
  obtain ⟨cu0, cu1, cu2, cu3, fu0, fu1, fu2, fu3⟩ := Xu.out
  have hneu : gu < Vc3.heap.size := World.block_lt_of_cell? Vc3 _ cu0
  obtain ⟨cr0, cr1, cr2, cr3, fr0, fr1, fr2, fr3⟩ := Xr.out
  have hner : gr < Vc3.heap.size := World.block_lt_of_cell? Vc3 _ cr0
  go_wp2_with fail
  refine bodyPost_ret (v := .tuple #[.agg #[U x0, U x1, U x2, U x3], .int .i64 0]) (by rw [results_ct rfl]; go_simp) rfl ⟨?_, ?_⟩
  · obtain ⟨e0, e1, e2, e3⟩ := HKK.out
    rw [HX0.out.1, HX1.out.1, HX2.out.1, HX3.out.1, e0, e1, e2, e3]
  · exact bSet (bSet (bSet (bSet (hbw) _ _ _ HGr.out) _ _ _ HGr.out) _ _ _ HGr.out) _ _ _ HGr.out
def PN : Nat := 13251790849168942109612193564237285510574518571617059678496723384145870806859859435686276441620781402849332694742024761255273538807538682593506644434241105882616071464297529494277474383182443908304918445910366742700125653237641914110187843538649843155020586987044906594964439354304862046326799620084390378707649808410401539323558882109796595731766708511136152951336230699275587719280157
def winT (a i : Nat) : Bool := wN (a / 64) (a % 64) i == PN / 2 ^ (1280 - a - 64 * (i + 1)) % 18446744073709551616
def winR : Nat → Bool
  | 0 => true
  | a + 1 => (winT a 0 && winT a 1 && winT a 2 && winT a 3) && winR a
theorem winR_spec : ∀ {n : Nat}, winR n = true → ∀ a, a < n → ∀ i, i < 4 → winT a i = true
  | 0, _, a, ha, _, _ => by omega
  | n + 1, h, a, ha, i, hi => by
    have h2 : ((winT n 0 && winT n 1 && winT n 2 && winT n 3) && winR n) = true := h
    simp only [Bool.and_eq_true] at h2
    by_cases e : a = n
    · subst e
      obtain ⟨⟨⟨⟨h3, h4⟩, h5⟩, h6⟩, _⟩ := h2
      rcases (by omega : i = 0 ∨ i = 1 ∨ i = 2 ∨ i = 3) with rfl | rfl | rfl | rfl <;> assumption
    · exact winR_spec h2.2 a (by omega) i hi
theorem win_all : winR 1025 = true := by decide +kernel
theorem win_pn {a i : Nat} (ha : a ≤ 1024) (hi : i < 4) : wN (a / 64) (a % 64) i = PN / 2 ^ (1280 - a - 64 * (i + 1)) % 18446744073709551616 := eq_of_beq (winR_spec win_all a (by omega) i hi)
structure InvP (p V : Nat) : Prop where
  a3 : (arc0 3 (p + 64)).1 ≠ 0
  a7 : (arc0 7 (p + 64)).1 ≠ 0
  lo : 4294967296 ≤ loN (p + 64)
  hi : 4294967296 ≤ hiN (p + 64)
  lt : loN (p + 64) ≤ 2 ^ (2 * p + 65)
  ht : hiN (p + 64) ≤ 2 ^ (2 * p + 65)
  dl : 2 ^ (2 * p + 65) / loN (p + 64) = V
  dh : 2 ^ (2 * p + 65) / hiN (p + 64) = V
def invB (A B C D T V : Nat) : Bool := !Nat.beq A 0 && !Nat.beq C 0 && Nat.ble 4294967296 (A * 8 + C * 4) && Nat.ble ((A + B) * 8 + (C + D) * 4) T && Nat.beq (T / (A * 8 + C * 4)) V && Nat.beq (T / ((A + B) * 8 + (C + D) * 4)) V
def invQ (a c : Nat × Nat) (p : Nat) : Bool := invB a.1 a.2 c.1 c.2 (2 ^ (2 * p + 65)) (PN / 2 ^ (1280 - p))
def invT (p : Nat) : Bool := invQ (arc0 3 (p + 64)) (arc0 7 (p + 64)) p
theorem invT_spec {p : Nat} (h : invT p = true) : InvP p (PN / 2 ^ (1280 - p)) := by
  have h1 : invB (arc0 3 (p + 64)).1 (arc0 3 (p + 64)).2 (arc0 7 (p + 64)).1 (arc0 7 (p + 64)).2 (2 ^ (2 * p + 65)) (PN / 2 ^ (1280 - p)) = true := h
  have hl : loN (p + 64) = (arc0 3 (p + 64)).1 * 8 + (arc0 7 (p + 64)).1 * 4 := rfl
  have hh : hiN (p + 64) = ((arc0 3 (p + 64)).1 + (arc0 3 (p + 64)).2) * 8 + ((arc0 7 (p + 64)).1 + (arc0 7 (p + 64)).2) * 4 := rfl
  unfold invB at h1
  simp only [Bool.and_eq_true, Bool.not_eq_true'] at h1
  obtain ⟨⟨⟨⟨⟨h2, h3⟩, h4⟩, h5⟩, h6⟩, h7⟩ := h1
  have h4 := Nat.le_of_ble_eq_true h4
  have h5 := Nat.le_of_ble_eq_true h5
  have h6 := Nat.eq_of_beq_eq_true h6
  have h7 := Nat.eq_of_beq_eq_true h7
  refine ⟨fun e => (by rw [e] at h2; cases h2), fun e => (by rw [e] at h3; cases h3), by rw [hl]; exact h4, by rw [hh]; omega, by rw [hl]; omega, by rw [hh]; exact h5, by rw [hl]; exact h6, by rw [hh]; exact h7⟩
def invR (b : Nat) : Nat → Bool
  | 0 => true
  | n + 1 => invT (b + n) && invR b n
theorem invR_spec {b : Nat} : ∀ {n : Nat}, invR b n = true → ∀ p, b ≤ p → p < b + n → invT p = true
  | 0, _, p, h1, h2 => by omega
  | n + 1, h, p, h1, h2 => by
    have h3 : (invT (b + n) && invR b n) = true := h
    rw [Bool.and_eq_true] at h3
    by_cases e : p = b + n
    · rw [e]; exact h3.1
    · exact invR_spec h3.2 p h1 (by omega)
theorem kx1 {p x : Nat} (h : x = p + 64) (hb : p ≤ 1300) : wrap64 ((p : Int) + 64) = (x : Int) := by subst h; simp only [wrap64]; omega
theorem kx2 {p x : Nat} (h : x = 2 * p) (hb : p ≤ 1300) : wrap64 (2 * (p : Int)) = (x : Int) := by subst h; simp only [wrap64]; omega
theorem kx3 {x y : Nat} (h : y = x + 64) (hb : x ≤ 2600) : wrap64 ((x : Int) + 64) = (y : Int) := by subst h; simp only [wrap64]; omega
theorem kx4 {x y : Nat} (h : y = x + 1) (hb : x ≤ 2700) : wrap64 ((x : Int) + 1) = (y : Int) := by subst h; simp only [wrap64]; omega
theorem inv_ok (p V : Nat) (hp : p ≤ 1300) (h : InvP p V) {w : World} : Calls Tryd.prog 15 #[.int .i64 p] w fun en w' => RNs w w' en V := by
  have HI : Hid (p ≤ 1300 ∧ InvP p V) := ⟨hp, h⟩
  obtain ⟨n, hn⟩ : ∃ n, n = p + 64 := ⟨_, rfl⟩
  obtain ⟨x2, hx2⟩ : ∃ n, n = 2 * p := ⟨_, rfl⟩
  obtain ⟨x3, hx3⟩ : ∃ n, n = x2 + 64 := ⟨_, rfl⟩
  obtain ⟨x4, hx4⟩ : ∃ n, n = x3 + 1 := ⟨_, rfl⟩
  have b2 : x2 ≤ 2600 := by omega
  have b3 : x3 ≤ 2700 := by omega
  have HE : Hid (n = p + 64 ∧ x4 = 2 * p + 65) := ⟨hn, by omega⟩
  have q1 := kx1 hn hp
  have q2 := kx2 hx2 hp
  have q3 := kx3 hx3 b2
  have q4 := kx4 hx4 b3
  clear h hp hn hx2 hx3 hx4 b2 b3
  go_enter Tryd.func15, Tryd.ntmps15
  go_wp2_with fail
  have hbw : Below w.heap.size w w := Below.refl _ _
  refine wp_loop_rounds 1 ?_
  rw [rounds_succ]
  go_wp2_with fail
  have HB : Hid ((arc0 3 n).1 ≠ 0 ∧ (arc0 7 n).1 ≠ 0 ∧ n ≤ 1400) := by obtain ⟨e1, e2⟩ := HE.out; obtain ⟨e3, e4⟩ := HI.out; rw [e1]; exact ⟨e4.a3, e4.a7, by clear q1 q2 q3 q4; omega⟩
  refine (bounds_ok n HB.out.2.2 HB.out.1 HB.out.2.1).mono ?_
  rintro e v1 ⟨p1, m1, p2, m2, rfl, hR1, hR2, hb1⟩
  have RN1 : Hid (RN v1 p1 m1 (loN n)) := hR1
  have RN2 : Hid (RN v1 p2 m2 (hiN n)) := hR2
  clear hR1 hR2
  replace hbw := Below.on hbw hb1
  clear hb1
  go_wp2_with fail
  refine (rn_pow2 x4 (by clear q1 q2 q3 q4; have h1 := HE.out; have h2 := HI.out.1; omega)).mono ?_
  rintro e v3 ⟨p3, m3, rfl, hR, hb3⟩
  have RN3 : Hid (RN v3 p3 m3 (2 ^ x4)) := hR
  clear hR
  replace RN1 : Hid (RN v3 p1 m1 (loN n)) := RN1.out.below hb3
  replace RN2 : Hid (RN v3 p2 m2 (hiN n)) := RN2.out.below hb3
  replace hbw := Below.on hbw hb3
  clear hb3
  go_wp2_with fail
  have HD4 : Hid (hiN n ≠ 0 ∧ hiN n ≤ 2 ^ x4 ∧ 4294967296 ≤ hiN n) := by obtain ⟨e1, e2⟩ := HE.out; obtain ⟨e3, e4⟩ := HI.out; rw [e1, e2]; exact ⟨by have := e4.hi; omega, e4.ht, e4.hi⟩
  refine (rn_divmod RN3.out RN2.out HD4.out.1 HD4.out.2.1 HD4.out.2.2).mono ?_
  rintro e v4 ⟨p4, m4, p42, m42, rfl, hR, hb4⟩
  have RN4 : Hid (RN v4 p4 m4 (2 ^ x4 / hiN n)) := hR
  clear hR
  replace RN1 : Hid (RN v4 p1 m1 (loN n)) := RN1.out.below hb4
  replace RN2 : Hid (RN v4 p2 m2 (hiN n)) := RN2.out.below hb4
  replace RN3 : Hid (RN v4 p3 m3 (2 ^ x4)) := RN3.out.below hb4
  replace hbw := Below.on hbw hb4
  clear hb4
  go_wp2_with fail
  have HD5 : Hid (loN n ≠ 0 ∧ loN n ≤ 2 ^ x4 ∧ 4294967296 ≤ loN n) := by obtain ⟨e1, e2⟩ := HE.out; obtain ⟨e3, e4⟩ := HI.out; rw [e1, e2]; exact ⟨by have := e4.lo; omega, e4.lt, e4.lo⟩
  refine (rn_divmod RN3.out RN1.out HD5.out.1 HD5.out.2.1 HD5.out.2.2).mono ?_
  rintro e v5 ⟨p5, m5, p52, m52, rfl, hR, hb5⟩
  have RN5 : Hid (RN v5 p5 m5 (2 ^ x4 / loN n)) := hR
  clear hR
  replace RN1 : Hid (RN v5 p1 m1 (loN n)) := RN1.out.below hb5
  replace RN2 : Hid (RN v5 p2 m2 (hiN n)) := RN2.out.below hb5
  replace RN3 : Hid (RN v5 p3 m3 (2 ^ x4)) := RN3.out.below hb5
  replace RN4 : Hid (RN v5 p4 m4 (2 ^ x4 / hiN n)) := RN4.out.below hb5
  replace hbw := Below.on hbw hb5
  clear hb5
  go_wp2_with fail
  have HV : Hid (2 ^ x4 / hiN n = V ∧ 2 ^ x4 / loN n = V) := by obtain ⟨e1, e2⟩ := HE.out; obtain ⟨e3, e4⟩ := HI.out; rw [e1, e2]; exact ⟨e4.dh, e4.dl⟩
  rw [HV.out.1] at RN4
  rw [HV.out.2] at RN5
  refine (rn_cmp RN4.out RN5.out).mono ?_
  rintro e v6 ⟨rfl, hb6⟩
  rw [cmpN_eq (rfl : V = V)]
  replace RN1 : Hid (RN v6 p1 m1 (loN n)) := RN1.out.below hb6
  replace RN2 : Hid (RN v6 p2 m2 (hiN n)) := RN2.out.below hb6
  replace RN3 : Hid (RN v6 p3 m3 (2 ^ x4)) := RN3.out.below hb6
  replace RN4 : Hid (RN v6 p4 m4 V) := RN4.out.below hb6
  replace RN5 : Hid (RN v6 p5 m5 V) := RN5.out.below hb6
  replace hbw := Below.on hbw hb6
  clear hb6
  go_wp2_with fail
  go_ret
  exact ⟨_, _, rfl, RN4.out, hbw⟩
theorem inv_c0 : invR 64 200 = true := by decide +kernel
theorem inv_c1 : invR 264 120 = true := by decide +kernel
theorem inv_c2 : invR 384 110 = true := by decide +kernel
theorem inv_c3 : invR 494 100 = true := by decide +kernel
theorem inv_c4 : invR 594 90 = true := by decide +kernel
theorem inv_c5 : invR 684 85 = true := by decide +kernel
theorem inv_c6 : invR 769 80 = true := by decide +kernel
theorem inv_c7 : invR 849 75 = true := by decide +kernel
theorem inv_c8 : invR 924 70 = true := by decide +kernel
theorem inv_c9 : invR 994 65 = true := by decide +kernel
theorem inv_c10 : invR 1059 60 = true := by decide +kernel
theorem inv_c11 : invR 1119 57 = true := by decide +kernel
theorem inv_c12 : invR 1176 54 = true := by decide +kernel
theorem inv_c13 : invR 1230 51 = true := by decide +kernel
theorem inv_all {p : Nat} (h1 : 64 ≤ p) (h2 : p ≤ 1280) : InvP p (PN / 2 ^ (1280 - p)) := by
  refine invT_spec ?_
  by_cases c0 : p < 264
  · exact invR_spec inv_c0 p (by omega) (by omega)
  by_cases c1 : p < 384
  · exact invR_spec inv_c1 p (by omega) (by omega)
  by_cases c2 : p < 494
  · exact invR_spec inv_c2 p (by omega) (by omega)
  by_cases c3 : p < 594
  · exact invR_spec inv_c3 p (by omega) (by omega)
  by_cases c4 : p < 684
  · exact invR_spec inv_c4 p (by omega) (by omega)
  by_cases c5 : p < 769
  · exact invR_spec inv_c5 p (by omega) (by omega)
  by_cases c6 : p < 849
  · exact invR_spec inv_c6 p (by omega) (by omega)
  by_cases c7 : p < 924
  · exact invR_spec inv_c7 p (by omega) (by omega)
  by_cases c8 : p < 994
  · exact invR_spec inv_c8 p (by omega) (by omega)
  by_cases c9 : p < 1059
  · exact invR_spec inv_c9 p (by omega) (by omega)
  by_cases c10 : p < 1119
  · exact invR_spec inv_c10 p (by omega) (by omega)
  by_cases c11 : p < 1176
  · exact invR_spec inv_c11 p (by omega) (by omega)
  by_cases c12 : p < 1230
  · exact invR_spec inv_c12 p (by omega) (by omega)
  exact invR_spec inv_c13 p (by omega) (by omega)
theorem window_e (a : Int) (ha : a < 0 ∨ 1024 < a) (w : World) : Calls Tryd.prog 9 #[.int .i64 a] w fun en w' => en = .returned (.tuple #[.agg #[.int .u64 0, .int .u64 0, .int .u64 0, .int .u64 0], .int .i64 1]) ∧ Below w.heap.size w w' := by
  rcases ha with h | h
  · have h1 : decide (a < 0) = true := decide_eq_true h
    clear h
    go_enter Tryd.func9, Tryd.ntmps9
    go_wp2_with fail
    refine bodyPost_ret (v := .tuple #[.agg #[.int .u64 0, .int .u64 0, .int .u64 0, .int .u64 0], .int .i64 1]) (by rw [results_ct rfl]; go_simp) rfl ⟨rfl, below1 w _⟩
  · have h1 : decide (a < 0) = false := decide_eq_false (by omega)
    have h2 : decide (1024 < a) = true := decide_eq_true h
    have h3 : decide (1025 ≤ a) = true := decide_eq_true (by omega)
    have h4 : (1025 : Int) ≤ a := by omega
    clear h
    go_enter Tryd.func9, Tryd.ntmps9
    go_wp2_with fail
    refine bodyPost_ret (v := .tuple #[.agg #[.int .u64 0, .int .u64 0, .int .u64 0, .int .u64 0], .int .i64 1]) (by rw [results_ct rfl]; go_simp) rfl ⟨rfl, below1 w _⟩
theorem ofPower_4 (w : World) (hT : TabW w) :
    Calls Tryd.prog 21 #[.int .i64 (-50)] w fun en w' => en = .returned (.agg #[.int .u64 2607, .int .u64 10968205611507032002, .int .u64 8465957317175414198, .int .u64 2979575099461738469]) ∧ Below w.heap.size w w' := by
  have m1 : max (-52 : Int) 0 = 0 := by decide
  have m2 : max (52 : Int) 0 = 52 := by decide
  go_enter Tryd.func21, Tryd.ntmps21
  go_wp2_with fail
  obtain ⟨W0, hW0⟩ : ∃ W0, W0 = (w.alloc (.cells #[.int .u64 0, .int .u64 0, .int .u64 0, .int .u64 0] 56)) := ⟨_, rfl⟩
  have Xr : Hid (B4q W0 (w.heap.size) (.int .u64 0) (.int .u64 0) (.int .u64 0) (.int .u64 0)) := by rw [hW0]; exact ⟨by go_simp, by go_simp, by go_simp, by go_simp, by go_simp, by go_simp, by go_simp, by go_simp⟩
  have hb0 : Below w.heap.size w W0 := by rw [hW0]; exact below1 w _
  rw [← hW0]
  clear hW0
  have hbw : Below w.heap.size w w := Below.refl _ _
  obtain ⟨gr, hgr⟩ : ∃ g, g = w.heap.size := ⟨_, rfl⟩
  have HGr : Hid (w.heap.size ≤ gr) := by rw [hgr]; show _ ≤ _; omega
  rw [← hgr] at Xr
  try rw [← hgr]
  clear hgr
  replace hbw := Below.on hbw hb0
  clear hb0
  refine (window_0 0 0 rfl (by decide) _ (hT.below hbw)).mono ?_
  rintro e v1 ⟨rfl, hb1⟩
  replace Xr : Hid _ := Xr.out.below hb1
  replace hbw := Below.on hbw hb1
  clear hb1
  rw [show PW.getD 0 0 = 11743562013128004905 from rfl, show PW.getD (0 + 1) 0 = 18169587780923219392 from rfl, show PW.getD (0 + 2) 0 = 15808362127397457985 from rfl, show PW.getD (0 + 3) 0 = 18325537948574664033 from rfl]
  go_wp2_with fail
  have Xu0 : Hid (B4q (v1.alloc (.cells #[.int .u64 11743562013128004905, .int .u64 18169587780923219392, .int .u64 15808362127397457985, .int .u64 18325537948574664033] 28)) v1.heap.size (.int .u64 11743562013128004905) (.int .u64 18169587780923219392) (.int .u64 15808362127397457985) (.int .u64 18325537948574664033)) := B4q.new v1 _ _ _ _ _
  have hbn : Below v1.heap.size v1 (v1.alloc (.cells #[.int .u64 11743562013128004905, .int .u64 18169587780923219392, .int .u64 15808362127397457985, .int .u64 18325537948574664033] 28)) := below1 v1 _
  generalize v1.alloc (.cells #[.int .u64 11743562013128004905, .int .u64 18169587780923219392, .int .u64 15808362127397457985, .int .u64 18325537948574664033] 28) = Wu at *
  have HGu : Hid (w.heap.size ≤ v1.heap.size) := hbw.size
  replace Xr : Hid _ := Xr.out.below hbn
  replace hbw := Below.on hbw hbn
  clear hbn
  generalize v1.heap.size = gu at *
  have Xu := Xu0
  clear Xu0
  refine (halved_52 _).mono ?_
  rintro e v2 ⟨rfl, hb2⟩
  replace Xr : Hid _ := Xr.out.below hb2
  replace Xu : Hid _ := Xu.out.below hb2
  replace hbw := Below.on hbw hb2
  clear hb2
  obtain ⟨cr0, cr1, cr2, cr3, fr0, fr1, fr2, fr3⟩ := Xr.out
  have hner : gr < v2.heap.size := World.block_lt_of_cell? v2 _ cr0
  go_wp2_with fail
  refine bodyPost_ret (v := .agg #[.int .u64 2607, .int .u64 10968205611507032002, .int .u64 8465957317175414198, .int .u64 2979575099461738469]) (by rw [results_cell1 rfl]; go_simp) rfl ⟨rfl, ?_⟩
  exact bSet (bSet (bSet (bSet (hbw) _ _ _ HGr.out) _ _ _ HGr.out) _ _ _ HGr.out) _ _ _ HGr.out
theorem reduce_4 (w : World) (hT : TabW w) :
    Calls Tryd.prog 12 #[Fv 4616189618054758400] w fun en w' => en = .returned (.tuple #[.int .i64 3, .agg #[Fv 13827963885893258898, Fv 4361203091086104535], .int .i64 0]) ∧ Below w.heap.size w w' := by
  have TB : Hid (TabW w) := hT
  clear hT
  have hSF : ∀ (w : World) (a : Addr) (b : Nat), (store a (Fv b)).run Tryd.prog w = stored Tryd.prog w a (Fv b) .plain := stF
  have bo1 : ∀ w, (callFunc 18 #[Fv 4616189618054758400]).run Tryd.prog w = .ok (.value (.int .u64 4616189618054758400)) w := fun w => bitsOf 4616189618054758400 w
  have or2 : FloatKind.f64.format.order 4616189618054758400 4485585228861014016 = some Ordering.gt := by decide +kernel
  have or3 : FloatKind.f64.format.order 4616189618054758400 4605352831451398144 = some Ordering.gt := by decide +kernel
  go_enter Tryd.func12, Tryd.ntmps12
  go_wp2_with fail
  obtain ⟨W0, hW0⟩ : ∃ W0, W0 = (w.alloc (.cells #[Fv 0, Fv 0] 39)) := ⟨_, rfl⟩
  have Xr : Hid (Box W0 (w.heap.size) (Fv 0) (Fv 0)) := by rw [hW0]; exact ⟨by go_simp, by go_simp, by go_simp, by go_simp⟩
  have hb0 : Below w.heap.size w W0 := by rw [hW0]; exact below1 w _
  rw [← hW0]
  clear hW0
  have hbw : Below w.heap.size w w := Below.refl _ _
  obtain ⟨gr, hgr⟩ : ∃ g, g = w.heap.size := ⟨_, rfl⟩
  have HGr : Hid (w.heap.size ≤ gr) := by rw [hgr]; show _ ≤ _; omega
  rw [← hgr] at Xr
  try rw [← hgr]
  clear hgr
  replace TB : Hid (TabW W0) := TB.out.below hb0
  replace hbw := Below.on hbw hb0
  clear hb0
  refine (split_4 _).mono ?_
  rintro e v1 ⟨rfl, hb1⟩
  replace Xr : Hid _ := Xr.out.below hb1
  replace TB : Hid (TabW v1) := TB.out.below hb1
  replace hbw := Below.on hbw hb1
  clear hb1
  go_wp2_with fail
  refine (mabs_4 _).mono ?_
  rintro e v9 ⟨rfl, hw⟩
  obtain rfl := hw.symm
  clear hw
  go_wp2_with fail
  refine (ofPower_4 _ TB.out).mono ?_
  rintro e v2 ⟨rfl, hb2⟩
  replace Xr : Hid _ := Xr.out.below hb2
  replace TB : Hid (TabW v2) := TB.out.below hb2
  replace hbw := Below.on hbw hb2
  clear hb2
  clear TB
  go_wp2_with fail
  refine (times_52 _).mono ?_
  rintro e v3 ⟨rfl, hb3⟩
  replace Xr : Hid _ := Xr.out.below hb3
  replace hbw := Below.on hbw hb3
  clear hb3
  go_wp2_with fail
  refine (nearest_4 _).mono ?_
  rintro e v4 ⟨rfl, hb4⟩
  replace Xr : Hid _ := Xr.out.below hb4
  replace hbw := Below.on hbw hb4
  clear hb4
  go_wp2_with fail
  have Xk0 : Hid (Box (v4.alloc (.cells #[Fv 13825213563187346411, Fv 4351882500388747932] 39)) v4.heap.size (Fv 13825213563187346411) (Fv 4351882500388747932)) := Box.new v4 _ _ _
  have hbn : Below v4.heap.size v4 (v4.alloc (.cells #[Fv 13825213563187346411, Fv 4351882500388747932] 39)) := below1 v4 _
  generalize v4.alloc (.cells #[Fv 13825213563187346411, Fv 4351882500388747932] 39) = Wk at *
  have HGk : Hid (w.heap.size ≤ v4.heap.size) := hbw.size
  replace Xr : Hid _ := Xr.out.below hbn
  replace hbw := Below.on hbw hbn
  clear hbn
  generalize v4.heap.size = gk at *
  have Xk := Xk0
  clear Xk0
  obtain ⟨Vr, hVr⟩ : ∃ W1, W1 = Wk.drew := ⟨_, rfl⟩
  have hbd : Below Wk.heap.size Wk Vr := by rw [hVr]; exact bDrew1 (Below.refl _ _)
  replace Xr : Hid _ := Xr.out.below hbd
  replace Xk : Hid _ := Xk.out.below hbd
  replace hbw := Below.on hbw hbd
  clear hbd
  have HJ : Hid ((fun W' : World => W'.cell? ⟨gk, 0, none⟩ = some (Fv 13825213563187346411) ∧ W'.cell? ⟨gk, 1, none⟩ = some (Fv 4351882500388747932)) Vr) := ⟨Xk.out.c0, Xk.out.c1⟩
  refine wp_region_J (fun W' => W'.cell? ⟨gk, 0, none⟩ = some (Fv 13825213563187346411) ∧ W'.cell? ⟨gk, 1, none⟩ = some (Fv 4351882500388747932)) (by kernel_rfl) ?_
  rw [← hVr]
  clear hVr
  refine wpJ_tq 0 rfl HJ.out ?_
  refine wpJ_two (i := 1) (k := 3) (by kernel_rfl) rfl rfl (by kernel_rfl) (by kernel_rfl) (fun KJ hK => ?_) (fun KJ hK => ?_)
  · go_simp
    refine (halfPi_ _).mono ?_
    rintro e v5 ⟨rfl, hb5⟩
    replace Xr : Hid _ := Xr.out.below hb5
    replace Xk : Hid _ := Xk.out.below hb5
    replace hbw := Below.on hbw hb5
    clear hb5
    clear HJ
    have HJ : Hid ((fun W' : World => W'.cell? ⟨gk, 0, none⟩ = some (Fv 13825213563187346411) ∧ W'.cell? ⟨gk, 1, none⟩ = some (Fv 4351882500388747932)) v5) := ⟨Xk.out.c0, Xk.out.c1⟩
    refine hK _ _ HJ.out ?_
    clear hK
    refine wpJ_two (i := 2) (k := 3) (by kernel_rfl) rfl rfl (by kernel_rfl) (by kernel_rfl) (fun KJ hK => ?_) (fun KJ hK => ?_)
    · go_simp
      refine (ddMul_f _).mono ?_
      rintro e v6 ⟨rfl, hb6⟩
      replace Xr : Hid _ := Xr.out.below hb6
      replace Xk : Hid _ := Xk.out.below hb6
      replace hbw := Below.on hbw hb6
      clear hb6
      refine hK _ _ ⟨Xk.out.c0, Xk.out.c1⟩ ?_
      clear hK
      refine wpJ_on 3 rfl fun KJ hK => ?_
      go_simp
      have HDrt : Hid (gr ≠ v6.heap.size) := Nat.ne_of_lt Xr.out.lt
      have HDkt : Hid (gk ≠ v6.heap.size) := Nat.ne_of_lt Xk.out.lt
      have Xt0 : Hid (Box (v6.alloc (.cells #[Fv 0, Fv 0] 39)) v6.heap.size (Fv 0) (Fv 0)) := Box.new v6 _ _ _
      have hbn : Below v6.heap.size v6 (v6.alloc (.cells #[Fv 0, Fv 0] 39)) := below1 v6 _
      generalize v6.alloc (.cells #[Fv 0, Fv 0] 39) = Wt at *
      have HGt : Hid (w.heap.size ≤ v6.heap.size) := hbw.size
      replace Xr : Hid _ := Xr.out.below hbn
      replace Xk : Hid _ := Xk.out.below hbn
      replace hbw := Below.on hbw hbn
      clear hbn
      generalize v6.heap.size = gt at *
      have Xt := Xt0
      clear Xt0
      refine hK _ _ ⟨Xk.out.c0, Xk.out.c1⟩ ?_
      clear hK
      obtain ⟨ct0, ct1, ft0, ft1⟩ := Xt.out
      have hnet := Xt.out.lt
      obtain ⟨cr0, cr1, fr0, fr1⟩ := Xr.out
      have hner := Xr.out.lt
      obtain ⟨ck0, ck1, fk0, fk1⟩ := Xk.out
      have hnek := Xk.out.lt
      have qar : gr ≠ gt := HDrt.out
      have qbr : gt ≠ gr := fun h => qar h.symm
      have qak : gk ≠ gt := HDkt.out
      have qbk : gt ≠ gk := fun h => qak h.symm
      refine wpJ_on 4 rfl fun KJ hK => ?_
      go_simp
      refine hK _ _ ?_ ?_
      · refine ⟨?_, ?_⟩ <;> go_simp
      clear hK HJ
      refine wpJ_done (by kernel_rfl) ?_ _
      clear cr0 cr1 fr0 fr1 hner
      clear ck0 ck1 fk0 fk1 hnek
      obtain ⟨Wz, hWz⟩ : ∃ W9, W9 = ((Wt.setCell ⟨gt, 0, none⟩ (Fv 13827963885893258898)).setCell ⟨gt, 1, none⟩ (Fv 4361203091086104535)) := ⟨_, rfl⟩
      have Yt : Hid (Box Wz gt (Fv 13827963885893258898) (Fv 4361203091086104535)) := by rw [hWz]; exact ⟨by go_simp, by go_simp, by go_simp, by go_simp⟩
      obtain ⟨cr0, cr1, fr0, fr1⟩ := Xr.out
      have hner := Xr.out.lt
      have Yr : Hid (Box Wz gr (Fv 0) (Fv 0)) := by rw [hWz]; exact ⟨by go_simp, by go_simp, by go_simp, by go_simp⟩
      clear cr0 cr1 fr0 fr1 hner
      obtain ⟨ck0, ck1, fk0, fk1⟩ := Xk.out
      have hnek := Xk.out.lt
      have Yk : Hid (Box Wz gk (Fv 13825213563187346411) (Fv 4351882500388747932)) := by rw [hWz]; exact ⟨by go_simp, by go_simp, by go_simp, by go_simp⟩
      clear ck0 ck1 fk0 fk1 hnek
      have hbw2 : Below w.heap.size w Wz := by rw [hWz]; exact bSet (bSet (hbw) _ _ _ HGt.out) _ _ _ HGt.out
      clear ct0 ct1 ft0 ft1 hnet
      rw [← hWz]
      clear hWz hbw Xr Xk Xt
      have hbw := hbw2
      clear hbw2
      have Xr := Yr
      clear Yr
      have Xk := Yk
      clear Yk
      have Xt := Yt
      clear Yt
      obtain ⟨ct0, ct1, ft0, ft1⟩ := Xt.out
      have hnet := Xt.out.lt
      obtain ⟨cr0, cr1, fr0, fr1⟩ := Xr.out
      have hner := Xr.out.lt
      go_wp2_with fail
      clear ct0 ct1 ft0 ft1 hnet
      clear cr0 cr1 fr0 fr1 hner
      obtain ⟨Vq, hVq⟩ : ∃ W1, W1 = Wz.drew := ⟨_, rfl⟩
      have hbd : Below Wz.heap.size Wz Vq := by rw [hVq]; exact bDrew1 (Below.refl _ _)
      replace Xr : Hid _ := Xr.out.below hbd
      replace Xk : Hid _ := Xk.out.below hbd
      replace Xt : Hid _ := Xt.out.below hbd
      replace hbw := Below.on hbw hbd
      clear hbd
      have HJ : Hid ((fun W' : World => W'.cell? ⟨gt, 0, none⟩ = some (Fv 13827963885893258898) ∧ W'.cell? ⟨gt, 1, none⟩ = some (Fv 4361203091086104535)) Vq) := ⟨Xt.out.c0, Xt.out.c1⟩
      refine wp_region_J (fun W' => W'.cell? ⟨gt, 0, none⟩ = some (Fv 13827963885893258898) ∧ W'.cell? ⟨gt, 1, none⟩ = some (Fv 4361203091086104535)) (by kernel_rfl) ?_
      rw [← hVq]
      clear hVq
      refine wpJ_tq 0 rfl HJ.out ?_
      refine wpJ_tq 1 rfl HJ.out ?_
      refine wpJ_tq 2 rfl HJ.out ?_
      obtain ⟨cr0, cr1, fr0, fr1⟩ := Xr.out
      have hner := Xr.out.lt
      obtain ⟨ct0, ct1, ft0, ft1⟩ := Xt.out
      have hnet := Xt.out.lt
      have za : gt ≠ gr := Ne.symm HDrt.out
      have zb := Ne.symm za
      refine wpJ_on 3 rfl fun KJ hK => ?_
      go_simp
      have HJ2 : Hid ((fun W' : World => W'.cell? ⟨gt, 0, none⟩ = some (Fv 13827963885893258898) ∧ W'.cell? ⟨gt, 1, none⟩ = some (Fv 4361203091086104535)) ((Vq.setCell ⟨gr, 0, none⟩ (Fv 13827963885893258898)).setCell ⟨gr, 1, none⟩ (Fv 4361203091086104535))) := ⟨by go_simp, by go_simp⟩
      refine hK _ _ HJ2.out ?_
      clear hK HJ
      have HJ := HJ2
      clear HJ2
      refine wpJ_tq 4 rfl HJ.out ?_
      refine wpJ_done (by kernel_rfl) ?_ _
      clear HJ
      go_wp2_with fail
      refine bodyPost_ret (v := .tuple #[.int .i64 3, .agg #[Fv 13827963885893258898, Fv 4361203091086104535], .int .i64 0]) (by rw [results_tct rfl]; go_simp) rfl ⟨rfl, ?_⟩
      exact bSet (bSet (hbw) _ _ _ HGr.out) _ _ _ HGr.out
    · go_simp
      have HDrt : Hid (gr ≠ v5.heap.size) := Nat.ne_of_lt Xr.out.lt
      have HDkt : Hid (gk ≠ v5.heap.size) := Nat.ne_of_lt Xk.out.lt
      have Xt0 : Hid (Box (v5.alloc (.cells #[Fv 0, Fv 0] 39)) v5.heap.size (Fv 0) (Fv 0)) := Box.new v5 _ _ _
      have hbn : Below v5.heap.size v5 (v5.alloc (.cells #[Fv 0, Fv 0] 39)) := below1 v5 _
      generalize v5.alloc (.cells #[Fv 0, Fv 0] 39) = Wt at *
      have HGt : Hid (w.heap.size ≤ v5.heap.size) := hbw.size
      replace Xr : Hid _ := Xr.out.below hbn
      replace Xk : Hid _ := Xk.out.below hbn
      replace hbw := Below.on hbw hbn
      clear hbn
      generalize v5.heap.size = gt at *
      have Xt := Xt0
      clear Xt0
      refine hK _ _ ⟨Xk.out.c0, Xk.out.c1⟩ ?_
      clear hK
      refine wpJ_on 2 rfl fun KJ hK => ?_
      go_simp
      refine (ddMul_f _).mono ?_
      rintro e v6 ⟨rfl, hb6⟩
      replace Xr : Hid _ := Xr.out.below hb6
      replace Xk : Hid _ := Xk.out.below hb6
      replace Xt : Hid _ := Xt.out.below hb6
      replace hbw := Below.on hbw hb6
      clear hb6
      refine hK _ _ ⟨Xk.out.c0, Xk.out.c1⟩ ?_
      clear hK
      obtain ⟨ct0, ct1, ft0, ft1⟩ := Xt.out
      have hnet := Xt.out.lt
      obtain ⟨cr0, cr1, fr0, fr1⟩ := Xr.out
      have hner := Xr.out.lt
      obtain ⟨ck0, ck1, fk0, fk1⟩ := Xk.out
      have hnek := Xk.out.lt
      have qar : gr ≠ gt := HDrt.out
      have qbr : gt ≠ gr := fun h => qar h.symm
      have qak : gk ≠ gt := HDkt.out
      have qbk : gt ≠ gk := fun h => qak h.symm
      refine wpJ_on 4 rfl fun KJ hK => ?_
      go_simp
      refine hK _ _ ?_ ?_
      · refine ⟨?_, ?_⟩ <;> go_simp
      clear hK HJ
      refine wpJ_done (by kernel_rfl) ?_ _
      clear cr0 cr1 fr0 fr1 hner
      clear ck0 ck1 fk0 fk1 hnek
      obtain ⟨Wz, hWz⟩ : ∃ W9, W9 = ((v6.setCell ⟨gt, 0, none⟩ (Fv 13827963885893258898)).setCell ⟨gt, 1, none⟩ (Fv 4361203091086104535)) := ⟨_, rfl⟩
      have Yt : Hid (Box Wz gt (Fv 13827963885893258898) (Fv 4361203091086104535)) := by rw [hWz]; exact ⟨by go_simp, by go_simp, by go_simp, by go_simp⟩
      obtain ⟨cr0, cr1, fr0, fr1⟩ := Xr.out
      have hner := Xr.out.lt
      have Yr : Hid (Box Wz gr (Fv 0) (Fv 0)) := by rw [hWz]; exact ⟨by go_simp, by go_simp, by go_simp, by go_simp⟩
      clear cr0 cr1 fr0 fr1 hner
      obtain ⟨ck0, ck1, fk0, fk1⟩ := Xk.out
      have hnek := Xk.out.lt
      have Yk : Hid (Box Wz gk (Fv 13825213563187346411) (Fv 4351882500388747932)) := by rw [hWz]; exact ⟨by go_simp, by go_simp, by go_simp, by go_simp⟩
      clear ck0 ck1 fk0 fk1 hnek
      have hbw2 : Below w.heap.size w Wz := by rw [hWz]; exact bSet (bSet (hbw) _ _ _ HGt.out) _ _ _ HGt.out
      clear ct0 ct1 ft0 ft1 hnet
      rw [← hWz]
      clear hWz hbw Xr Xk Xt
      have hbw := hbw2
      clear hbw2
      have Xr := Yr
      clear Yr
      have Xk := Yk
      clear Yk
      have Xt := Yt
      clear Yt
      obtain ⟨ct0, ct1, ft0, ft1⟩ := Xt.out
      have hnet := Xt.out.lt
      obtain ⟨cr0, cr1, fr0, fr1⟩ := Xr.out
      have hner := Xr.out.lt
      go_wp2_with fail
      clear ct0 ct1 ft0 ft1 hnet
      clear cr0 cr1 fr0 fr1 hner
      obtain ⟨Vq, hVq⟩ : ∃ W1, W1 = Wz.drew := ⟨_, rfl⟩
      have hbd : Below Wz.heap.size Wz Vq := by rw [hVq]; exact bDrew1 (Below.refl _ _)
      replace Xr : Hid _ := Xr.out.below hbd
      replace Xk : Hid _ := Xk.out.below hbd
      replace Xt : Hid _ := Xt.out.below hbd
      replace hbw := Below.on hbw hbd
      clear hbd
      have HJ : Hid ((fun W' : World => W'.cell? ⟨gt, 0, none⟩ = some (Fv 13827963885893258898) ∧ W'.cell? ⟨gt, 1, none⟩ = some (Fv 4361203091086104535)) Vq) := ⟨Xt.out.c0, Xt.out.c1⟩
      refine wp_region_J (fun W' => W'.cell? ⟨gt, 0, none⟩ = some (Fv 13827963885893258898) ∧ W'.cell? ⟨gt, 1, none⟩ = some (Fv 4361203091086104535)) (by kernel_rfl) ?_
      rw [← hVq]
      clear hVq
      refine wpJ_tq 0 rfl HJ.out ?_
      refine wpJ_tq 1 rfl HJ.out ?_
      refine wpJ_tq 2 rfl HJ.out ?_
      obtain ⟨cr0, cr1, fr0, fr1⟩ := Xr.out
      have hner := Xr.out.lt
      obtain ⟨ct0, ct1, ft0, ft1⟩ := Xt.out
      have hnet := Xt.out.lt
      have za : gt ≠ gr := Ne.symm HDrt.out
      have zb := Ne.symm za
      refine wpJ_on 3 rfl fun KJ hK => ?_
      go_simp
      have HJ2 : Hid ((fun W' : World => W'.cell? ⟨gt, 0, none⟩ = some (Fv 13827963885893258898) ∧ W'.cell? ⟨gt, 1, none⟩ = some (Fv 4361203091086104535)) ((Vq.setCell ⟨gr, 0, none⟩ (Fv 13827963885893258898)).setCell ⟨gr, 1, none⟩ (Fv 4361203091086104535))) := ⟨by go_simp, by go_simp⟩
      refine hK _ _ HJ2.out ?_
      clear hK HJ
      have HJ := HJ2
      clear HJ2
      refine wpJ_tq 4 rfl HJ.out ?_
      refine wpJ_done (by kernel_rfl) ?_ _
      clear HJ
      go_wp2_with fail
      refine bodyPost_ret (v := .tuple #[.int .i64 3, .agg #[Fv 13827963885893258898, Fv 4361203091086104535], .int .i64 0]) (by rw [results_tct rfl]; go_simp) rfl ⟨rfl, ?_⟩
      exact bSet (bSet (hbw) _ _ _ HGr.out) _ _ _ HGr.out
  · go_simp
    have HDrt : Hid (gr ≠ Vr.heap.size) := Nat.ne_of_lt Xr.out.lt
    have HDkt : Hid (gk ≠ Vr.heap.size) := Nat.ne_of_lt Xk.out.lt
    have Xt0 : Hid (Box (Vr.alloc (.cells #[Fv 0, Fv 0] 39)) Vr.heap.size (Fv 0) (Fv 0)) := Box.new Vr _ _ _
    have hbn : Below Vr.heap.size Vr (Vr.alloc (.cells #[Fv 0, Fv 0] 39)) := below1 Vr _
    generalize Vr.alloc (.cells #[Fv 0, Fv 0] 39) = Wt at *
    have HGt : Hid (w.heap.size ≤ Vr.heap.size) := hbw.size
    replace Xr : Hid _ := Xr.out.below hbn
    replace Xk : Hid _ := Xk.out.below hbn
    replace hbw := Below.on hbw hbn
    clear hbn
    generalize Vr.heap.size = gt at *
    have Xt := Xt0
    clear Xt0
    refine hK _ _ ⟨Xk.out.c0, Xk.out.c1⟩ ?_
    clear hK
    refine wpJ_on 1 rfl fun KJ hK => ?_
    go_simp
    refine (halfPi_ _).mono ?_
    rintro e v5 ⟨rfl, hb5⟩
    replace Xr : Hid _ := Xr.out.below hb5
    replace Xk : Hid _ := Xk.out.below hb5
    replace Xt : Hid _ := Xt.out.below hb5
    replace hbw := Below.on hbw hb5
    clear hb5
    refine hK _ _ ⟨Xk.out.c0, Xk.out.c1⟩ ?_
    clear hK
    refine wpJ_on 2 rfl fun KJ hK => ?_
    go_simp
    refine (ddMul_f _).mono ?_
    rintro e v6 ⟨rfl, hb6⟩
    replace Xr : Hid _ := Xr.out.below hb6
    replace Xk : Hid _ := Xk.out.below hb6
    replace Xt : Hid _ := Xt.out.below hb6
    replace hbw := Below.on hbw hb6
    clear hb6
    refine hK _ _ ⟨Xk.out.c0, Xk.out.c1⟩ ?_
    clear hK
    obtain ⟨ct0, ct1, ft0, ft1⟩ := Xt.out
    have hnet := Xt.out.lt
    obtain ⟨cr0, cr1, fr0, fr1⟩ := Xr.out
    have hner := Xr.out.lt
    obtain ⟨ck0, ck1, fk0, fk1⟩ := Xk.out
    have hnek := Xk.out.lt
    have qar : gr ≠ gt := HDrt.out
    have qbr : gt ≠ gr := fun h => qar h.symm
    have qak : gk ≠ gt := HDkt.out
    have qbk : gt ≠ gk := fun h => qak h.symm
    refine wpJ_on 4 rfl fun KJ hK => ?_
    go_simp
    refine hK _ _ ?_ ?_
    · refine ⟨?_, ?_⟩ <;> go_simp
    clear hK HJ
    refine wpJ_done (by kernel_rfl) ?_ _
    clear cr0 cr1 fr0 fr1 hner
    clear ck0 ck1 fk0 fk1 hnek
    obtain ⟨Wz, hWz⟩ : ∃ W9, W9 = ((v6.setCell ⟨gt, 0, none⟩ (Fv 13827963885893258898)).setCell ⟨gt, 1, none⟩ (Fv 4361203091086104535)) := ⟨_, rfl⟩
    have Yt : Hid (Box Wz gt (Fv 13827963885893258898) (Fv 4361203091086104535)) := by rw [hWz]; exact ⟨by go_simp, by go_simp, by go_simp, by go_simp⟩
    obtain ⟨cr0, cr1, fr0, fr1⟩ := Xr.out
    have hner := Xr.out.lt
    have Yr : Hid (Box Wz gr (Fv 0) (Fv 0)) := by rw [hWz]; exact ⟨by go_simp, by go_simp, by go_simp, by go_simp⟩
    clear cr0 cr1 fr0 fr1 hner
    obtain ⟨ck0, ck1, fk0, fk1⟩ := Xk.out
    have hnek := Xk.out.lt
    have Yk : Hid (Box Wz gk (Fv 13825213563187346411) (Fv 4351882500388747932)) := by rw [hWz]; exact ⟨by go_simp, by go_simp, by go_simp, by go_simp⟩
    clear ck0 ck1 fk0 fk1 hnek
    have hbw2 : Below w.heap.size w Wz := by rw [hWz]; exact bSet (bSet (hbw) _ _ _ HGt.out) _ _ _ HGt.out
    clear ct0 ct1 ft0 ft1 hnet
    rw [← hWz]
    clear hWz hbw Xr Xk Xt
    have hbw := hbw2
    clear hbw2
    have Xr := Yr
    clear Yr
    have Xk := Yk
    clear Yk
    have Xt := Yt
    clear Yt
    obtain ⟨ct0, ct1, ft0, ft1⟩ := Xt.out
    have hnet := Xt.out.lt
    obtain ⟨cr0, cr1, fr0, fr1⟩ := Xr.out
    have hner := Xr.out.lt
    go_wp2_with fail
    clear ct0 ct1 ft0 ft1 hnet
    clear cr0 cr1 fr0 fr1 hner
    obtain ⟨Vq, hVq⟩ : ∃ W1, W1 = Wz.drew := ⟨_, rfl⟩
    have hbd : Below Wz.heap.size Wz Vq := by rw [hVq]; exact bDrew1 (Below.refl _ _)
    replace Xr : Hid _ := Xr.out.below hbd
    replace Xk : Hid _ := Xk.out.below hbd
    replace Xt : Hid _ := Xt.out.below hbd
    replace hbw := Below.on hbw hbd
    clear hbd
    have HJ : Hid ((fun W' : World => W'.cell? ⟨gt, 0, none⟩ = some (Fv 13827963885893258898) ∧ W'.cell? ⟨gt, 1, none⟩ = some (Fv 4361203091086104535)) Vq) := ⟨Xt.out.c0, Xt.out.c1⟩
    refine wp_region_J (fun W' => W'.cell? ⟨gt, 0, none⟩ = some (Fv 13827963885893258898) ∧ W'.cell? ⟨gt, 1, none⟩ = some (Fv 4361203091086104535)) (by kernel_rfl) ?_
    rw [← hVq]
    clear hVq
    refine wpJ_tq 0 rfl HJ.out ?_
    refine wpJ_tq 1 rfl HJ.out ?_
    refine wpJ_tq 2 rfl HJ.out ?_
    obtain ⟨cr0, cr1, fr0, fr1⟩ := Xr.out
    have hner := Xr.out.lt
    obtain ⟨ct0, ct1, ft0, ft1⟩ := Xt.out
    have hnet := Xt.out.lt
    have za : gt ≠ gr := Ne.symm HDrt.out
    have zb := Ne.symm za
    refine wpJ_on 3 rfl fun KJ hK => ?_
    go_simp
    have HJ2 : Hid ((fun W' : World => W'.cell? ⟨gt, 0, none⟩ = some (Fv 13827963885893258898) ∧ W'.cell? ⟨gt, 1, none⟩ = some (Fv 4361203091086104535)) ((Vq.setCell ⟨gr, 0, none⟩ (Fv 13827963885893258898)).setCell ⟨gr, 1, none⟩ (Fv 4361203091086104535))) := ⟨by go_simp, by go_simp⟩
    refine hK _ _ HJ2.out ?_
    clear hK HJ
    have HJ := HJ2
    clear HJ2
    refine wpJ_tq 4 rfl HJ.out ?_
    refine wpJ_done (by kernel_rfl) ?_ _
    clear HJ
    go_wp2_with fail
    refine bodyPost_ret (v := .tuple #[.int .i64 3, .agg #[Fv 13827963885893258898, Fv 4361203091086104535], .int .i64 0]) (by rw [results_tct rfl]; go_simp) rfl ⟨rfl, ?_⟩
    exact bSet (bSet (hbw) _ _ _ HGr.out) _ _ _ HGr.out
theorem pw_s0 (f i : Nat) : wN f 0 i = PW.getD (f + i) 0 := by
  unfold wN shlW
  have h1 := pw_lt (f + i)
  have h2 := pw_lt (f + i + 1)
  rw [Nat.pow_zero, Nat.mul_one, Nat.mul_one, Nat.mod_eq_of_lt h1, Nat.div_eq_of_lt h2]; rfl
theorem window_ok (a f s : Nat) (ha : a = 64 * f + s) (ha2 : a ≤ 1024) (hs : s < 64) (w : World) (hT : TabW w) : Calls Tryd.prog 9 #[.int .i64 a] w fun en w' => en = .returned (.tuple #[.agg #[U (wN f s 0), U (wN f s 1), U (wN f s 2), U (wN f s 3)], .int .i64 0]) ∧ Below w.heap.size w w' := by
  by_cases h : s = 0
  · subst h
    rw [pw_s0, pw_s0, pw_s0, pw_s0]
    exact window_0 a f ha (by omega) w hT
  · exact window_s a f s ha (by omega) hs (by omega) w hT
theorem wn_lt (f s i : Nat) (hs : s ≤ 64) : wN f s i < B64 := up_lt _ _ s hs (pw_lt _)
theorem awake21 (w : World) (hT : TabW w) :
    Calls Tryd.prog 7 #[] w fun en w' => en = .returned (.bool true) ∧ Below w.heap.size w w' := by
  have TB : Hid (TabW w) := hT
  clear hT
  have hSF : ∀ (w : World) (a : Addr) (b : Nat), (store a (Fv b)).run Tryd.prog w = stored Tryd.prog w a (Fv b) .plain := stF
  have or1 : FloatKind.f64.format.order 13827963885893258898 13827942367870918328 = some Ordering.lt := by decide +kernel
  have or2 : FloatKind.f64.format.order 13827963885893258898 13828032439863465738 = some Ordering.gt := by decide +kernel
  go_enter Tryd.func7, Tryd.ntmps7
  go_wp2_with fail
  have hbw : Below w.heap.size w w := Below.refl _ _
  refine (word_ok 0 (by decide) _ TB.out).mono ?_
  rintro e v9 ⟨rfl, hw⟩
  obtain rfl := hw.symm
  clear hw
  rw [show PW.getD 0 0 = 11743562013128004905 from rfl]
  go_wp2_with fail
  refine (reduce_4 _ TB.out).mono ?_
  rintro e v1 ⟨rfl, hb1⟩
  replace hbw := Below.on hbw hb1
  clear hb1
  go_wp2_with fail
  go_ret
  exact ⟨rfl, Below.on hbw (below1 _ _)⟩
theorem inv_okx (p V : Nat) (z : Int) (hz : z = (p : Int)) (hp : p ≤ 1300) (h : InvP p V) {w : World} : Calls Tryd.prog 15 #[.int .i64 z] w fun en w' => RNs w w' en V := by subst hz; exact inv_ok p V hp h
theorem wf64 {a : Nat} (h : a < B64) : (Lit.int .u64 (a : Int)).wf = true := by
  rw [B64_eq] at h
  simp [Lit.wf, IntKind.min, IntKind.max, IntKind.signed, IntKind.bits]
  omega
theorem kl1 {a : Nat} (h : a < B64) (D : Nat) : Tryd.prog.keyLits (D + 1) 23 [U a] = some [.int .u64 a] := by
  unfold Program.keyLits
  rw [Tryd.underlying23]
  simp [wf64 h]
theorem eq4 (a b c d : Nat) (ha : a < B64) (hb : b < B64) (hc : c < B64) (hd : d < B64) (w : World) : (Op.equalIn 10000 28 (.agg #[U a, U b, U c, U d]) (.agg #[U a, U b, U c, U d])).run Tryd.prog w = .ok true w := by
  have hk : Tryd.prog.keyLits 5 28 (Value.cells (.agg #[U a, U b, U c, U d])).toList = some [.int .u64 a, .int .u64 b, .int .u64 c, .int .u64 d] := by
    show Tryd.prog.keyLits 5 28 [U a, U b, U c, U d] = _
    unfold Program.keyLits
    rw [Tryd.underlying28]
    have e1 : Tryd.prog.cellsOf 28 = 4 := by kernel_rfl
    have e2 : Tryd.prog.cellsOf 23 = 1 := by kernel_rfl
    simp only [e1, e2]
    simp [List.range, List.range.loop, kl1 ha, kl1 hb, kl1 hc, kl1 hd]
  obtain ⟨r, hr, hiff⟩ := run_equalIn_deep (P := Tryd.prog) 9998 2 28 (by kernel_rfl) w 5 5 (.agg #[U a, U b, U c, U d]) (.agg #[U a, U b, U c, U d]) _ _ (by kernel_rfl) (by kernel_rfl) hk hk
  rw [hr, hiff.2 rfl]
theorem kw256 {a p : Nat} (h : p = a + 256) (hb : a ≤ 1024) : wrap64 ((a : Int) + 256) = (p : Int) := by subst h; simp only [wrap64]; omega
def winZ : Nat → Bool
  | 0 => true
  | a + 1 => !Nat.beq (wN (a / 64) (a % 64) 0) 0 && winZ a
theorem winZ_spec : ∀ {n : Nat}, winZ n = true → ∀ a, a < n → wN (a / 64) (a % 64) 0 ≠ 0
  | 0, _, a, ha => by omega
  | n + 1, h, a, ha => by
    have h2 : (!Nat.beq (wN (n / 64) (n % 64) 0) 0 && winZ n) = true := h
    simp only [Bool.and_eq_true, Bool.not_eq_true'] at h2
    by_cases e : a = n
    · subst e
      intro e2
      rw [e2] at h2
      exact absurd h2.1 (by decide)
    · exact winZ_spec h2.2 a (by omega)
theorem win_z : winZ 1025 = true := by decide +kernel
theorem mod4 (X : Nat) : X % 2 ^ 256 = X % 18446744073709551616 + 18446744073709551616 * (X / 18446744073709551616 % 18446744073709551616 + 18446744073709551616 * (X / 18446744073709551616 / 18446744073709551616 % 18446744073709551616 + 18446744073709551616 * (X / 18446744073709551616 / 18446744073709551616 / 18446744073709551616 % 18446744073709551616))) := by
  rw [show (2 : Nat) ^ 256 = 18446744073709551616 * (18446744073709551616 * (18446744073709551616 * 18446744073709551616)) by decide, Nat.mod_mul, Nat.mod_mul, Nat.mod_mul]
theorem win_nf {a p : Nat} (ha : a ≤ 1024) (hp : p = a + 256) : Nf B64 [wN (a / 64) (a % 64) 3, wN (a / 64) (a % 64) 2, wN (a / 64) (a % 64) 1, wN (a / 64) (a % 64) 0] (PN / 2 ^ (1280 - p) % 2 ^ 256) := by
  have hs : a % 64 ≤ 64 := by omega
  refine ⟨?_, ?_, ?_⟩
  · intro x hx
    simp only [List.mem_cons, List.not_mem_nil, or_false] at hx
    rcases hx with rfl | rfl | rfl | rfl <;> exact wn_lt _ _ _ hs
  · intro x hx
    simp at hx
    subst hx
    exact winZ_spec win_z a (by omega)
  · have e : ∀ i, i < 4 → wN (a / 64) (a % 64) i = PN / 2 ^ (1280 - a - 64 * (i + 1)) % 18446744073709551616 := fun i hi => win_pn ha hi
    rw [e 0 (by omega), e 1 (by omega), e 2 (by omega), e 3 (by omega), mod4]
    rw [show 1280 - a - 64 * (3 + 1) = 1280 - p by omega, show 1280 - a - 64 * (2 + 1) = 1280 - p + 64 by omega, show 1280 - a - 64 * (1 + 1) = 1280 - p + 64 + 64 by omega, show 1280 - a - 64 * (0 + 1) = 1280 - p + 64 + 64 + 64 by omega]
    have d : ∀ q, PN / 2 ^ (q + 64) = PN / 2 ^ q / 18446744073709551616 := fun q => by rw [Nat.pow_add, ← Nat.div_div_eq_div_mul]
    simp only [d]
    generalize PN / 2 ^ (1280 - p) = X
    simp only [valB, B64_eq, Nat.mul_zero, Nat.add_zero]
theorem rn_to {w : World} {p : Option Addr} {m v : Nat} (h : RN w p m v) {us : List Nat} (hN : Nf B64 us v) : Calls Tryd.prog 13 #[.slice p m m] w fun e w' => ∃ g N, e = .returned (.slice (some ⟨g, 0, none⟩) us.length N) ∧ w.heap.size ≤ g ∧ us.length ≤ N ∧ (∀ j, j < us.length → w'.cell? ⟨g, j, none⟩ = some (U (us.getD j 0))) ∧ Below w.heap.size w w' := by
  obtain ⟨⟨zs, h1, h2⟩, h3⟩ := h
  refine (rto_any h1 (by omega)).mono ?_
  rintro e w' ⟨g, k, N, ys, rfl, hg, hA, hN2, hb⟩
  rw [h2.val] at hN2
  obtain rfl := hN2.inj B64_one hN
  have hl := hA.len
  subst hl
  refine ⟨g, N, rfl, hg, hA.cap, fun j hj => ?_, hb⟩
  obtain ⟨g', off, hg', hc⟩ := hA.cells.resolve_left (by omega)
  simp only [Option.some.injEq, Addr.mk.injEq] at hg'
  obtain ⟨rfl, rfl, _⟩ := hg'
  have := hc j hj
  rw [Nat.zero_add] at this
  exact this
theorem docWindow_ok (a : Nat) (ha : a ≤ 1024) {w : World} : Calls Tryd.prog 10 #[.int .i64 a] w fun en w' => en = .returned (.tuple #[.agg #[U (wN (a / 64) (a % 64) 0), U (wN (a / 64) (a % 64) 1), U (wN (a / 64) (a % 64) 2), U (wN (a / 64) (a % 64) 3)], .int .i64 0]) ∧ Below w.heap.size w w' := by
  obtain ⟨p, hp⟩ : ∃ p, p = a + 256 := ⟨_, rfl⟩
  have HZ : Hid ((a : Int) + 256 = (p : Int) ∧ 64 ≤ p ∧ p ≤ 1280) := ⟨by omega, by omega, by omega⟩
  have HNF := win_nf ha hp
  generalize wN (a / 64) (a % 64) 0 = y0 at *
  generalize wN (a / 64) (a % 64) 1 = y1 at *
  generalize wN (a / 64) (a % 64) 2 = y2 at *
  generalize wN (a / 64) (a % 64) 3 = y3 at *
  have NF : Hid (Nf B64 [y3, y2, y1, y0] (PN / 2 ^ (1280 - p) % 2 ^ 256)) := HNF
  have h1 : decide ((a : Int) < 0) = false := decide_eq_false (by omega)
  have h2 : decide ((1024 : Int) < (a : Int)) = false := decide_eq_false (by omega)
  have h3 : wrap64 ((a : Int) + 256) = (p : Int) := kw256 hp ha
  clear HNF hp ha
  go_enter Tryd.func10, Tryd.ntmps10
  go_wp2_with fail
  obtain ⟨W0, hW0⟩ : ∃ W0, W0 = ((w.alloc (.cells #[.int .u64 0, .int .u64 0, .int .u64 0, .int .u64 0] 28)).alloc (.cells #[.int .u64 0, .int .u64 0, .int .u64 0, .int .u64 0] 28)) := ⟨_, rfl⟩
  have Xr : Hid (B4q W0 (w.heap.size) (.int .u64 0) (.int .u64 0) (.int .u64 0) (.int .u64 0)) := by rw [hW0]; exact ⟨by go_simp, by go_simp, by go_simp, by go_simp, by go_simp, by go_simp, by go_simp, by go_simp⟩
  have Xu : Hid (B4q W0 (w.heap.size + 1) (.int .u64 0) (.int .u64 0) (.int .u64 0) (.int .u64 0)) := by rw [hW0]; exact ⟨by go_simp, by go_simp, by go_simp, by go_simp, by go_simp, by go_simp, by go_simp, by go_simp⟩
  have hb0 : Below w.heap.size w W0 := by rw [hW0]; exact below2 w _ _
  rw [← hW0]
  clear hW0
  have hbw : Below w.heap.size w w := Below.refl _ _
  obtain ⟨gu, hgu⟩ : ∃ g, g = w.heap.size + 1 := ⟨_, rfl⟩
  have HGu : Hid (w.heap.size ≤ gu) := by rw [hgu]; show _ ≤ _; omega
  rw [← hgu] at Xu
  try rw [← hgu]
  obtain ⟨gr, hgr⟩ : ∃ g, g = w.heap.size := ⟨_, rfl⟩
  have HGr : Hid (w.heap.size ≤ gr) := by rw [hgr]; show _ ≤ _; omega
  rw [← hgr] at Xr
  try rw [← hgr]
  have HGD : Hid (gr ≠ gu ∧ gu ≠ gr) := by rw [hgr, hgu]; exact ⟨by omega, by omega⟩
  clear hgr hgu
  replace hbw := Below.on hbw hb0
  clear hb0
  obtain ⟨hgd0, hgd1⟩ := HGD.out
  refine (inv_okx p _ _ rfl (by have := HZ.out; omega) (inv_all HZ.out.2.1 HZ.out.2.2)).mono ?_
  rintro e v1 ⟨p1, m1, rfl, hR, hb1⟩
  have RN1 : Hid (RN v1 p1 m1 (PN / 2 ^ (1280 - p))) := hR
  clear hR
  replace Xr : Hid _ := Xr.out.below hb1
  replace Xu : Hid _ := Xu.out.below hb1
  replace hbw := Below.on hbw hb1
  clear hb1
  go_wp2_with fail
  refine (rn_low RN1.out 256 (by decide) (by decide)).mono ?_
  rintro e v2 ⟨p2, m2, rfl, hR, hb2⟩
  have RN2 : Hid (RN v2 p2 m2 (PN / 2 ^ (1280 - p) % 2 ^ 256)) := hR
  clear hR
  replace Xr : Hid _ := Xr.out.below hb2
  replace Xu : Hid _ := Xu.out.below hb2
  replace RN1 : Hid (RN v2 p1 m1 (PN / 2 ^ (1280 - p))) := RN1.out.below hb2
  replace hbw := Below.on hbw hb2
  clear hb2
  go_wp2_with fail
  have HLU : Hid (gu < v2.heap.size ∧ gr < v2.heap.size) := ⟨Xu.out.lt, Xr.out.lt⟩
  refine (rn_to RN2.out NF.out).mono ?_
  rintro e v3 ⟨gd, N, rfl, hgd, hcap, hcs, hb3⟩
  have DL : Hid (v3.cell? ⟨gd, 0, none⟩ = some (U y3) ∧ v3.cell? ⟨gd, 1, none⟩ = some (U y2) ∧ v3.cell? ⟨gd, 2, none⟩ = some (U y1) ∧ v3.cell? ⟨gd, 3, none⟩ = some (U y0)) := ⟨hcs 0 (show 0 < 4 by decide), hcs 1 (show 1 < 4 by decide), hcs 2 (show 2 < 4 by decide), hcs 3 (show 3 < 4 by decide)⟩
  have hne1 : gd ≠ gu := by have := HLU.out; omega
  have hne2 : gu ≠ gd := Ne.symm hne1
  have hne3 : gd ≠ gr := by have := HLU.out; omega
  have hne4 := Ne.symm hne3
  have hcp : 4 ≤ N := hcap
  clear hcs hgd hcap HLU
  clear RN1
  clear RN2
  replace Xr : Hid _ := Xr.out.below hb3
  replace Xu : Hid _ := Xu.out.below hb3
  replace hbw := Below.on hbw hb3
  clear hb3
  go_wp2_with fail
  refine wp_loop_rounds 5 ?_
  rw [rounds_succ]
  obtain ⟨kd0, kd1, kd2, kd3⟩ := DL.out
  obtain ⟨cu0, cu1, cu2, cu3, fu0, fu1, fu2, fu3⟩ := Xu.out
  have hneu : gu < v3.heap.size := World.block_lt_of_cell? v3 _ cu0
  go_wp2_with fail
  clear kd0 kd1 kd2 kd3
  obtain ⟨Vb0, hVb0⟩ : ∃ W9, W9 = (v3.setCell ⟨gu, 3, none⟩ (U y3)) := ⟨_, rfl⟩
  have Yu : Hid (B4q Vb0 gu (.int .u64 0) (.int .u64 0) (.int .u64 0) (U y3)) := by rw [hVb0]; exact ⟨by go_simp, by go_simp, by go_simp, by go_simp, by go_simp, by go_simp, by go_simp, by go_simp⟩
  obtain ⟨cr0, cr1, cr2, cr3, fr0, fr1, fr2, fr3⟩ := Xr.out
  have hner : gr < v3.heap.size := World.block_lt_of_cell? v3 _ cr0
  have Yr : Hid (B4q Vb0 gr (.int .u64 0) (.int .u64 0) (.int .u64 0) (.int .u64 0)) := by rw [hVb0]; exact ⟨by go_simp, by go_simp, by go_simp, by go_simp, by go_simp, by go_simp, by go_simp, by go_simp⟩
  clear cr0 cr1 cr2 cr3 fr0 fr1 fr2 fr3 hner
  have DL' : Hid (Vb0.cell? ⟨gd, 0, none⟩ = some (U y3) ∧ Vb0.cell? ⟨gd, 1, none⟩ = some (U y2) ∧ Vb0.cell? ⟨gd, 2, none⟩ = some (U y1) ∧ Vb0.cell? ⟨gd, 3, none⟩ = some (U y0)) := by rw [hVb0]; obtain ⟨kc0, kc1, kc2, kc3⟩ := DL.out; exact ⟨by go_simp, by go_simp, by go_simp, by go_simp⟩
  have hbw2 : Below w.heap.size w Vb0 := by rw [hVb0]; exact bSet (hbw) _ _ _ HGu.out
  clear cu0 cu1 cu2 cu3 fu0 fu1 fu2 fu3 hneu
  rw [← hVb0]
  clear hVb0 hbw Xr Xu
  have hbw := hbw2
  clear hbw2
  have Xr := Yr
  clear Yr
  have Xu := Yu
  clear Yu
  clear DL
  have DL := DL'
  clear DL'
  rw [rounds_succ]
  obtain ⟨kd0, kd1, kd2, kd3⟩ := DL.out
  obtain ⟨cu0, cu1, cu2, cu3, fu0, fu1, fu2, fu3⟩ := Xu.out
  have hneu : gu < Vb0.heap.size := World.block_lt_of_cell? Vb0 _ cu0
  go_wp2_with fail
  clear kd0 kd1 kd2 kd3
  obtain ⟨Vb1, hVb1⟩ : ∃ W9, W9 = (Vb0.setCell ⟨gu, 2, none⟩ (U y2)) := ⟨_, rfl⟩
  have Yu : Hid (B4q Vb1 gu (.int .u64 0) (.int .u64 0) (U y2) (U y3)) := by rw [hVb1]; exact ⟨by go_simp, by go_simp, by go_simp, by go_simp, by go_simp, by go_simp, by go_simp, by go_simp⟩
  obtain ⟨cr0, cr1, cr2, cr3, fr0, fr1, fr2, fr3⟩ := Xr.out
  have hner : gr < Vb0.heap.size := World.block_lt_of_cell? Vb0 _ cr0
  have Yr : Hid (B4q Vb1 gr (.int .u64 0) (.int .u64 0) (.int .u64 0) (.int .u64 0)) := by rw [hVb1]; exact ⟨by go_simp, by go_simp, by go_simp, by go_simp, by go_simp, by go_simp, by go_simp, by go_simp⟩
  clear cr0 cr1 cr2 cr3 fr0 fr1 fr2 fr3 hner
  have DL' : Hid (Vb1.cell? ⟨gd, 0, none⟩ = some (U y3) ∧ Vb1.cell? ⟨gd, 1, none⟩ = some (U y2) ∧ Vb1.cell? ⟨gd, 2, none⟩ = some (U y1) ∧ Vb1.cell? ⟨gd, 3, none⟩ = some (U y0)) := by rw [hVb1]; obtain ⟨kc0, kc1, kc2, kc3⟩ := DL.out; exact ⟨by go_simp, by go_simp, by go_simp, by go_simp⟩
  have hbw2 : Below w.heap.size w Vb1 := by rw [hVb1]; exact bSet (hbw) _ _ _ HGu.out
  clear cu0 cu1 cu2 cu3 fu0 fu1 fu2 fu3 hneu
  rw [← hVb1]
  clear hVb1 hbw Xr Xu
  have hbw := hbw2
  clear hbw2
  have Xr := Yr
  clear Yr
  have Xu := Yu
  clear Yu
  clear DL
  have DL := DL'
  clear DL'
  rw [rounds_succ]
  obtain ⟨kd0, kd1, kd2, kd3⟩ := DL.out
  obtain ⟨cu0, cu1, cu2, cu3, fu0, fu1, fu2, fu3⟩ := Xu.out
  have hneu : gu < Vb1.heap.size := World.block_lt_of_cell? Vb1 _ cu0
  go_wp2_with fail
  clear kd0 kd1 kd2 kd3
  obtain ⟨Vb2, hVb2⟩ : ∃ W9, W9 = (Vb1.setCell ⟨gu, 1, none⟩ (U y1)) := ⟨_, rfl⟩
  have Yu : Hid (B4q Vb2 gu (.int .u64 0) (U y1) (U y2) (U y3)) := by rw [hVb2]; exact ⟨by go_simp, by go_simp, by go_simp, by go_simp, by go_simp, by go_simp, by go_simp, by go_simp⟩
  obtain ⟨cr0, cr1, cr2, cr3, fr0, fr1, fr2, fr3⟩ := Xr.out
  have hner : gr < Vb1.heap.size := World.block_lt_of_cell? Vb1 _ cr0
  have Yr : Hid (B4q Vb2 gr (.int .u64 0) (.int .u64 0) (.int .u64 0) (.int .u64 0)) := by rw [hVb2]; exact ⟨by go_simp, by go_simp, by go_simp, by go_simp, by go_simp, by go_simp, by go_simp, by go_simp⟩
  clear cr0 cr1 cr2 cr3 fr0 fr1 fr2 fr3 hner
  have DL' : Hid (Vb2.cell? ⟨gd, 0, none⟩ = some (U y3) ∧ Vb2.cell? ⟨gd, 1, none⟩ = some (U y2) ∧ Vb2.cell? ⟨gd, 2, none⟩ = some (U y1) ∧ Vb2.cell? ⟨gd, 3, none⟩ = some (U y0)) := by rw [hVb2]; obtain ⟨kc0, kc1, kc2, kc3⟩ := DL.out; exact ⟨by go_simp, by go_simp, by go_simp, by go_simp⟩
  have hbw2 : Below w.heap.size w Vb2 := by rw [hVb2]; exact bSet (hbw) _ _ _ HGu.out
  clear cu0 cu1 cu2 cu3 fu0 fu1 fu2 fu3 hneu
  rw [← hVb2]
  clear hVb2 hbw Xr Xu
  have hbw := hbw2
  clear hbw2
  have Xr := Yr
  clear Yr
  have Xu := Yu
  clear Yu
  clear DL
  have DL := DL'
  clear DL'
  rw [rounds_succ]
  obtain ⟨kd0, kd1, kd2, kd3⟩ := DL.out
  obtain ⟨cu0, cu1, cu2, cu3, fu0, fu1, fu2, fu3⟩ := Xu.out
  have hneu : gu < Vb2.heap.size := World.block_lt_of_cell? Vb2 _ cu0
  go_wp2_with fail
  clear kd0 kd1 kd2 kd3
  obtain ⟨Vb3, hVb3⟩ : ∃ W9, W9 = (Vb2.setCell ⟨gu, 0, none⟩ (U y0)) := ⟨_, rfl⟩
  have Yu : Hid (B4q Vb3 gu (U y0) (U y1) (U y2) (U y3)) := by rw [hVb3]; exact ⟨by go_simp, by go_simp, by go_simp, by go_simp, by go_simp, by go_simp, by go_simp, by go_simp⟩
  obtain ⟨cr0, cr1, cr2, cr3, fr0, fr1, fr2, fr3⟩ := Xr.out
  have hner : gr < Vb2.heap.size := World.block_lt_of_cell? Vb2 _ cr0
  have Yr : Hid (B4q Vb3 gr (.int .u64 0) (.int .u64 0) (.int .u64 0) (.int .u64 0)) := by rw [hVb3]; exact ⟨by go_simp, by go_simp, by go_simp, by go_simp, by go_simp, by go_simp, by go_simp, by go_simp⟩
  clear cr0 cr1 cr2 cr3 fr0 fr1 fr2 fr3 hner
  have DL' : Hid (Vb3.cell? ⟨gd, 0, none⟩ = some (U y3) ∧ Vb3.cell? ⟨gd, 1, none⟩ = some (U y2) ∧ Vb3.cell? ⟨gd, 2, none⟩ = some (U y1) ∧ Vb3.cell? ⟨gd, 3, none⟩ = some (U y0)) := by rw [hVb3]; obtain ⟨kc0, kc1, kc2, kc3⟩ := DL.out; exact ⟨by go_simp, by go_simp, by go_simp, by go_simp⟩
  have hbw2 : Below w.heap.size w Vb3 := by rw [hVb3]; exact bSet (hbw) _ _ _ HGu.out
  clear cu0 cu1 cu2 cu3 fu0 fu1 fu2 fu3 hneu
  rw [← hVb3]
  clear hVb3 hbw Xr Xu
  have hbw := hbw2
  clear hbw2
  have Xr := Yr
  clear Yr
  have Xu := Yu
  clear Yu
  clear DL
  have DL := DL'
  clear DL'
  rw [rounds_succ]
  obtain ⟨cu0, cu1, cu2, cu3, fu0, fu1, fu2, fu3⟩ := Xu.out
  have hneu : gu < Vb3.heap.size := World.block_lt_of_cell? Vb3 _ cu0
  obtain ⟨cr0, cr1, cr2, cr3, fr0, fr1, fr2, fr3⟩ := Xr.out
  have hner : gr < Vb3.heap.size := World.block_lt_of_cell? Vb3 _ cr0
  go_wp2_with fail
  refine bodyPost_ret (v := .tuple #[.agg #[U y0, U y1, U y2, U y3], .int .i64 0]) (by rw [results_ct rfl]; go_simp) rfl ⟨rfl, ?_⟩
  exact bSet (bSet (bSet (bSet (hbw) _ _ _ HGr.out) _ _ _ HGr.out) _ _ _ HGr.out) _ _ _ HGr.out
end Go.Proofs.YteoccegpbonfpaaDoor
