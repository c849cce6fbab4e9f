import Derived.Test.YthobkfkeaealhaaGreatDoorJ13
import Derived.Test.YthobkfkeaealhaaGreatDoorJ12
import Derived.Test.YthobkfkeaealhaaGreatDoorJ11
namespace Go.Proofs.YthobkfkeaealhaaGreatDoor
open Go.RowKit Go.Shelf
set_option maxRecDepth 20000
set_option maxHeartbeats 0
theorem results_tct {fn : Func} {q p r : Tmp} {ty : TypeId} (h : fn.results = #[.tmp q, .cell p ty, .tmp r]) (tmps : Array Value) (P : Program) (w : World) :
    (results fn tmps).run P w = ((asAddr (tmps.getD p undef)).run P w).andThen fun a w₁ => ((loadVar ty a).run P w₁).andThen fun v w₂ => .ok (.tuple #[tmps.getD q undef, v, tmps.getD r undef]) w₂ := by
  simp only [results, h]
  simp [Sem.run_bind, Result.andThen]
theorem ux_le {a b : Nat} (ha : a < 9218868437227405312) (h : a < b) (hb : b < 9218868437227405312) : compare (ux a) (ux b) = .lt := by
  have h1 := vs_mono (H := 4503599627370496) (by decide) h
  rw [ux_pos (by omega), ux_pos (by omega)]
  show compareOfLessAndEq _ _ = _
  unfold compareOfLessAndEq
  rw [if_pos (by omega)]
theorem ord_lt {a b : Nat} (h : a < b) (hb : b < 9218868437227405312) : FloatKind.f64.format.order a b = some .lt := by
  have h1 : Ieee.double.order a b = some (compare (ux a) (ux b)) := order_fin ⟨by omega, by omega⟩ ⟨by omega, by omega⟩
  rw [ux_le (by omega) h hb] at h1
  exact h1
theorem ord_ge {a b : Nat} (h : b ≤ a) (ha : a < 9218868437227405312) : FloatKind.f64.format.order a b = some .gt ∨ FloatKind.f64.format.order a b = some .eq := by
  have h1 : Ieee.double.order a b = some (compare (ux a) (ux b)) := order_fin ⟨by omega, by omega⟩ ⟨by omega, by omega⟩
  rcases Nat.lt_or_eq_of_le h with k | k
  · left
    have h2 := vs_mono (H := 4503599627370496) (by decide) k
    have h3 : compare (ux a) (ux b) = .gt := by
      rw [ux_pos (by omega), ux_pos (by omega)]
      show compareOfLessAndEq _ _ = _
      unfold compareOfLessAndEq
      rw [if_neg (by omega), if_neg (by omega)]
    rw [h3] at h1
    exact h1
  · right
    subst k
    have h3 : compare (ux b) (ux b) = .eq := by
      show compareOfLessAndEq _ _ = _
      unfold compareOfLessAndEq
      rw [if_neg (by omega), if_pos rfl]
    rw [h3] at h1
    exact h1
theorem cody_a (w : World) :
    Calls Tryz.prog 12 #[Fv 4613937818241073152] w fun en w' => en = .returned (.tuple #[.int .i64 2, .agg #[Fv 13817641470120874372, Fv 13576772204829720686], .bool true]) ∧ Below w.heap.size w w' := by
  have hSF : ∀ (w : World) (a : Addr) (b : Nat), (store a (Fv b)).run Tryz.prog w = stored Tryz.prog w a (Fv b) .plain := stF
  have m1 := mabs 4613937818241073152 (by decide)
  rw [show 4613937818241073152 % 9223372036854775808 = 4613937818241073152 by decide] at m1
  have m2 := mabs 13817641470120874372 (by decide)
  rw [show 13817641470120874372 % 9223372036854775808 = 4594269433266098564 by decide] at m2
  have or1 : FloatKind.f64.format.order 4613937818241073152 4485585228861014016 = some .gt := by decide +kernel
  have or2 : FloatKind.f64.format.order 4613937818241073152 4697254411347427328 = some .lt := by decide +kernel
  have or3 : FloatKind.f64.format.order 4613937818241073152 4605352831451398144 = some .gt := by decide +kernel
  have or4 : FloatKind.f64.format.order 4594269433266098564 4548635623644200960 = some .gt := by decide +kernel
  have cv1 : ∀ w, (convert 25 3 (Fv 4611686018427387904)).run Tryz.prog w = .ok (.int .i64 (2)) w := fun w => by kernel_rfl
  have br5 : bits BinOp.and IntKind.i64 (2) (3) = 2 := by kernel_rfl
  go_enter Tryz.func12, Tryz.ntmps12
  go_wp2_with fail
  obtain ⟨W0, hW0⟩ : ∃ W0, W0 = (w.alloc (.cells #[Fv 0, Fv 0] 28)) := ⟨_, rfl⟩
  have Xr : Hid (Box W0 (w.heap.size) (Fv 0) (Fv 0)) := by rw [hW0]; exact ⟨by go_simp, by go_simp, by go_simp, by go_simp⟩
  have hb0 : Below w.heap.size w W0 := by rw [hW0]; exact below1 w _
  rw [← hW0]
  clear hW0
  have hbw : Below w.heap.size w w := Below.refl _ _
  obtain ⟨gr, hgr⟩ : ∃ g, g = w.heap.size := ⟨_, rfl⟩
  have HGr : Hid (w.heap.size ≤ gr) := by rw [hgr]; show _ ≤ _; omega
  rw [← hgr] at Xr
  try rw [← hgr]
  clear hgr
  replace hbw := Below.on hbw hb0
  clear hb0
  refine (m1 _).mono ?_
  rintro e v9 ⟨rfl, hw⟩
  obtain rfl := hw.symm
  clear hw
  go_wp2_with fail
  refine (fnear_a _).mono ?_
  rintro e v1 ⟨rfl, hb1⟩
  replace Xr : Hid _ := Xr.out.below hb1
  replace hbw := Below.on hbw hb1
  clear hb1
  go_wp2_with fail
  refine (frem_a _).mono ?_
  rintro e v2 ⟨rfl, hb2⟩
  replace Xr : Hid _ := Xr.out.below hb2
  replace hbw := Below.on hbw hb2
  clear hb2
  go_wp2_with fail
  have HDrt : Hid (gr ≠ v2.heap.size) := Nat.ne_of_lt Xr.out.lt
  have Xt0 : Hid (Box (v2.alloc (.cells #[Fv 13817641470120874372, Fv 13576772204829720686] 28)) v2.heap.size (Fv 13817641470120874372) (Fv 13576772204829720686)) := Box.new v2 _ _ _
  have hbn : Below v2.heap.size v2 (v2.alloc (.cells #[Fv 13817641470120874372, Fv 13576772204829720686] 28)) := below1 v2 _
  generalize v2.alloc (.cells #[Fv 13817641470120874372, Fv 13576772204829720686] 28) = Wt at *
  have HGt : Hid (w.heap.size ≤ v2.heap.size) := hbw.size
  replace Xr : Hid _ := Xr.out.below hbn
  replace hbw := Below.on hbw hbn
  clear hbn
  generalize v2.heap.size = gt at *
  have Xt := Xt0
  clear Xt0
  refine (m2 _).mono ?_
  rintro e v9 ⟨rfl, hw⟩
  obtain rfl := hw.symm
  clear hw
  obtain ⟨ct0, ct1, ft0, ft1⟩ := Xt.out
  have hnet := Xt.out.lt
  go_wp2_with fail
  clear ct0 ct1 ft0 ft1 hnet
  obtain ⟨V1, hV1⟩ : ∃ W1, W1 = Wt.drew := ⟨_, rfl⟩
  have hbd : Below Wt.heap.size Wt V1 := by rw [hV1]; exact bDrew1 (Below.refl _ _)
  replace Xr : Hid _ := Xr.out.below hbd
  replace Xt : Hid _ := Xt.out.below hbd
  replace hbw := Below.on hbw hbd
  clear hbd
  have HJ : Hid ((fun W' : World => W'.cell? ⟨gt, 0, none⟩ = some (Fv 13817641470120874372) ∧ W'.cell? ⟨gt, 1, none⟩ = some (Fv 13576772204829720686)) V1) := ⟨Xt.out.c0, Xt.out.c1⟩
  refine wp_region_J (fun W' => W'.cell? ⟨gt, 0, none⟩ = some (Fv 13817641470120874372) ∧ W'.cell? ⟨gt, 1, none⟩ = some (Fv 13576772204829720686)) (by kernel_rfl) ?_
  rw [← hV1]
  clear hV1
  refine wpJ_tq 0 rfl HJ.out ?_
  refine wpJ_tq 1 rfl HJ.out ?_
  refine wpJ_tq 2 rfl HJ.out ?_
  refine wpJ_tq 3 rfl HJ.out ?_
  refine wpJ_tq 4 rfl HJ.out ?_
  obtain ⟨cr0, cr1, fr0, fr1⟩ := Xr.out
  have hner := Xr.out.lt
  obtain ⟨ct0, ct1, ft0, ft1⟩ := Xt.out
  have hnet := Xt.out.lt
  have za : gt ≠ gr := Ne.symm HDrt.out
  have zb := Ne.symm za
  refine wpJ_on 5 rfl fun KJ hK => ?_
  go_simp
  have HJ2 : Hid ((fun W' : World => W'.cell? ⟨gt, 0, none⟩ = some (Fv 13817641470120874372) ∧ W'.cell? ⟨gt, 1, none⟩ = some (Fv 13576772204829720686)) ((V1.setCell ⟨gr, 0, none⟩ (Fv 13817641470120874372)).setCell ⟨gr, 1, none⟩ (Fv 13576772204829720686))) := ⟨by go_simp, by go_simp⟩
  refine hK _ _ HJ2.out ?_
  clear hK HJ
  have HJ := HJ2
  clear HJ2
  refine wpJ_tq 6 rfl HJ.out ?_
  refine wpJ_done (by kernel_rfl) ?_ _
  clear HJ
  go_wp2_with fail
  refine bodyPost_ret (v := .tuple #[.int .i64 2, .agg #[Fv 13817641470120874372, Fv 13576772204829720686], .bool true]) (by rw [results_tct rfl]; go_simp) rfl ⟨rfl, ?_⟩
  exact bSet (bSet (hbw) _ _ _ HGr.out) _ _ _ HGr.out
theorem cody_b (w : World) :
    Calls Tryz.prog 12 #[Fv 13839561654909534208] w fun en w' => en = .returned (.tuple #[.int .i64 1, .agg #[Fv 4604591849038483090, Fv 13584575127940880343], .bool true]) ∧ Below w.heap.size w w' := by
  have hSF : ∀ (w : World) (a : Addr) (b : Nat), (store a (Fv b)).run Tryz.prog w = stored Tryz.prog w a (Fv b) .plain := stF
  have m1 := mabs 13839561654909534208 (by decide)
  rw [show 13839561654909534208 % 9223372036854775808 = 4616189618054758400 by decide] at m1
  have m2 := mabs 4604591849038483090 (by decide)
  rw [show 4604591849038483090 % 9223372036854775808 = 4604591849038483090 by decide] at m2
  have or6 : FloatKind.f64.format.order 4616189618054758400 4485585228861014016 = some .gt := by decide +kernel
  have or7 : FloatKind.f64.format.order 4616189618054758400 4697254411347427328 = some .lt := by decide +kernel
  have or8 : FloatKind.f64.format.order 4616189618054758400 4605352831451398144 = some .gt := by decide +kernel
  have or9 : FloatKind.f64.format.order 4604591849038483090 4548635623644200960 = some .gt := by decide +kernel
  have cv1 : ∀ w, (convert 25 3 (Fv 13837309855095848960)).run Tryz.prog w = .ok (.int .i64 (-3)) w := fun w => by kernel_rfl
  have br10 : bits BinOp.and IntKind.i64 (-3) (3) = 1 := by kernel_rfl
  go_enter Tryz.func12, Tryz.ntmps12
  go_wp2_with fail
  obtain ⟨W0, hW0⟩ : ∃ W0, W0 = (w.alloc (.cells #[Fv 0, Fv 0] 28)) := ⟨_, rfl⟩
  have Xr : Hid (Box W0 (w.heap.size) (Fv 0) (Fv 0)) := by rw [hW0]; exact ⟨by go_simp, by go_simp, by go_simp, by go_simp⟩
  have hb0 : Below w.heap.size w W0 := by rw [hW0]; exact below1 w _
  rw [← hW0]
  clear hW0
  have hbw : Below w.heap.size w w := Below.refl _ _
  obtain ⟨gr, hgr⟩ : ∃ g, g = w.heap.size := ⟨_, rfl⟩
  have HGr : Hid (w.heap.size ≤ gr) := by rw [hgr]; show _ ≤ _; omega
  rw [← hgr] at Xr
  try rw [← hgr]
  clear hgr
  replace hbw := Below.on hbw hb0
  clear hb0
  refine (m1 _).mono ?_
  rintro e v9 ⟨rfl, hw⟩
  obtain rfl := hw.symm
  clear hw
  go_wp2_with fail
  refine (fnear_b _).mono ?_
  rintro e v1 ⟨rfl, hb1⟩
  replace Xr : Hid _ := Xr.out.below hb1
  replace hbw := Below.on hbw hb1
  clear hb1
  go_wp2_with fail
  refine (frem_b _).mono ?_
  rintro e v2 ⟨rfl, hb2⟩
  replace Xr : Hid _ := Xr.out.below hb2
  replace hbw := Below.on hbw hb2
  clear hb2
  go_wp2_with fail
  have HDrt : Hid (gr ≠ v2.heap.size) := Nat.ne_of_lt Xr.out.lt
  have Xt0 : Hid (Box (v2.alloc (.cells #[Fv 4604591849038483090, Fv 13584575127940880343] 28)) v2.heap.size (Fv 4604591849038483090) (Fv 13584575127940880343)) := Box.new v2 _ _ _
  have hbn : Below v2.heap.size v2 (v2.alloc (.cells #[Fv 4604591849038483090, Fv 13584575127940880343] 28)) := below1 v2 _
  generalize v2.alloc (.cells #[Fv 4604591849038483090, Fv 13584575127940880343] 28) = Wt at *
  have HGt : Hid (w.heap.size ≤ v2.heap.size) := hbw.size
  replace Xr : Hid _ := Xr.out.below hbn
  replace hbw := Below.on hbw hbn
  clear hbn
  generalize v2.heap.size = gt at *
  have Xt := Xt0
  clear Xt0
  refine (m2 _).mono ?_
  rintro e v9 ⟨rfl, hw⟩
  obtain rfl := hw.symm
  clear hw
  obtain ⟨ct0, ct1, ft0, ft1⟩ := Xt.out
  have hnet := Xt.out.lt
  go_wp2_with fail
  clear ct0 ct1 ft0 ft1 hnet
  obtain ⟨V1, hV1⟩ : ∃ W1, W1 = Wt.drew := ⟨_, rfl⟩
  have hbd : Below Wt.heap.size Wt V1 := by rw [hV1]; exact bDrew1 (Below.refl _ _)
  replace Xr : Hid _ := Xr.out.below hbd
  replace Xt : Hid _ := Xt.out.below hbd
  replace hbw := Below.on hbw hbd
  clear hbd
  have HJ : Hid ((fun W' : World => W'.cell? ⟨gt, 0, none⟩ = some (Fv 4604591849038483090) ∧ W'.cell? ⟨gt, 1, none⟩ = some (Fv 13584575127940880343)) V1) := ⟨Xt.out.c0, Xt.out.c1⟩
  refine wp_region_J (fun W' => W'.cell? ⟨gt, 0, none⟩ = some (Fv 4604591849038483090) ∧ W'.cell? ⟨gt, 1, none⟩ = some (Fv 13584575127940880343)) (by kernel_rfl) ?_
  rw [← hV1]
  clear hV1
  refine wpJ_tq 0 rfl HJ.out ?_
  refine wpJ_tq 1 rfl HJ.out ?_
  refine wpJ_tq 2 rfl HJ.out ?_
  refine wpJ_tq 3 rfl HJ.out ?_
  refine wpJ_tq 4 rfl HJ.out ?_
  obtain ⟨cr0, cr1, fr0, fr1⟩ := Xr.out
  have hner := Xr.out.lt
  obtain ⟨ct0, ct1, ft0, ft1⟩ := Xt.out
  have hnet := Xt.out.lt
  have za : gt ≠ gr := Ne.symm HDrt.out
  have zb := Ne.symm za
  refine wpJ_on 5 rfl fun KJ hK => ?_
  go_simp
  have HJ2 : Hid ((fun W' : World => W'.cell? ⟨gt, 0, none⟩ = some (Fv 4604591849038483090) ∧ W'.cell? ⟨gt, 1, none⟩ = some (Fv 13584575127940880343)) ((V1.setCell ⟨gr, 0, none⟩ (Fv 4604591849038483090)).setCell ⟨gr, 1, none⟩ (Fv 13584575127940880343))) := ⟨by go_simp, by go_simp⟩
  refine hK _ _ HJ2.out ?_
  clear hK HJ
  have HJ := HJ2
  clear HJ2
  refine wpJ_tq 6 rfl HJ.out ?_
  refine wpJ_done (by kernel_rfl) ?_ _
  clear HJ
  go_wp2_with fail
  refine bodyPost_ret (v := .tuple #[.int .i64 1, .agg #[Fv 4604591849038483090, Fv 13584575127940880343], .bool true]) (by rw [results_tct rfl]; go_simp) rfl ⟨rfl, ?_⟩
  exact bSet (bSet (hbw) _ _ _ HGr.out) _ _ _ HGr.out
theorem cody_s {x : Nat} (hx : x < 18446744073709551616) (h1 : 4485585228861014016 ≤ x % 9223372036854775808) (h2 : x % 9223372036854775808 ≤ 4604930618986332160) (w : World) :
    Calls Tryz.prog 12 #[Fv x] w fun en w' => en = .returned (.tuple #[.int .i64 0, .agg #[Fv x, Fv 0], .bool true]) ∧ Below w.heap.size w w' := by
  have hSF : ∀ (w : World) (a : Addr) (b : Nat), (store a (Fv b)).run Tryz.prog w = stored Tryz.prog w a (Fv b) .plain := stF
  have m1 := mabs x hx
  have O1 := ddOf (x := x) ⟨hx, by omega⟩
  obtain ⟨y, hy⟩ : ∃ y, y = x % 9223372036854775808 := ⟨_, rfl⟩
  rw [← hy] at m1 h1 h2
  have o2 : FloatKind.f64.format.order y 4697254411347427328 = some .lt := ord_lt (by omega) (by decide)
  have o3 : FloatKind.f64.format.order y 4605352831451398144 = some .lt := ord_lt (by omega) (by decide)
  have o1 : FloatKind.f64.format.order y 4485585228861014016 = some .gt ∨ FloatKind.f64.format.order y 4485585228861014016 = some .eq := ord_ge h1 (by omega)
  clear hx hy h1 h2
  go_enter Tryz.func12, Tryz.ntmps12
  go_wp2_with fail
  obtain ⟨W0, hW0⟩ : ∃ W0, W0 = (w.alloc (.cells #[Fv 0, Fv 0] 28)) := ⟨_, rfl⟩
  have Xr : Hid (Box W0 (w.heap.size) (Fv 0) (Fv 0)) := by rw [hW0]; exact ⟨by go_simp, by go_simp, by go_simp, by go_simp⟩
  have hb0 : Below w.heap.size w W0 := by rw [hW0]; exact below1 w _
  rw [← hW0]
  clear hW0
  have hbw : Below w.heap.size w w := Below.refl _ _
  obtain ⟨gr, hgr⟩ : ∃ g, g = w.heap.size := ⟨_, rfl⟩
  have HGr : Hid (w.heap.size ≤ gr) := by rw [hgr]; show _ ≤ _; omega
  rw [← hgr] at Xr
  try rw [← hgr]
  clear hgr
  replace hbw := Below.on hbw hb0
  clear hb0
  refine (m1 _).mono ?_
  rintro e v9 ⟨rfl, hw⟩
  obtain rfl := hw.symm
  clear hw
  rcases o1 with o1 | o1
  · go_wp2_with fail
    refine (O1 _).mono ?_
    rintro e v1 ⟨rfl, hb1⟩
    replace Xr : Hid _ := Xr.out.below hb1
    replace hbw := Below.on hbw hb1
    clear hb1
    obtain ⟨cr0, cr1, fr0, fr1⟩ := Xr.out
    have hner := Xr.out.lt
    go_wp2_with fail
    refine bodyPost_ret (v := .tuple #[.int .i64 0, .agg #[Fv x, Fv 0], .bool true]) (by rw [results_tct rfl]; go_simp) rfl ⟨rfl, ?_⟩
    exact bSet (bSet (hbw) _ _ _ HGr.out) _ _ _ HGr.out
  · go_wp2_with fail
    refine (O1 _).mono ?_
    rintro e v1 ⟨rfl, hb1⟩
    replace Xr : Hid _ := Xr.out.below hb1
    replace hbw := Below.on hbw hb1
    clear hb1
    obtain ⟨cr0, cr1, fr0, fr1⟩ := Xr.out
    have hner := Xr.out.lt
    go_wp2_with fail
    refine bodyPost_ret (v := .tuple #[.int .i64 0, .agg #[Fv x, Fv 0], .bool true]) (by rw [results_tct rfl]; go_simp) rfl ⟨rfl, ?_⟩
    exact bSet (bSet (hbw) _ _ _ HGr.out) _ _ _ HGr.out
theorem fred_b (w : World) :
    Calls Tryz.prog 7 #[Fv 13839561654909534208] w fun en w' => en = .returned (.tuple #[.int .i64 1, .agg #[Fv 4604591849038483090, Fv 13584575127940880343], .int .i64 0]) ∧ Below w.heap.size w w' := by
  have hSF : ∀ (w : World) (a : Addr) (b : Nat), (store a (Fv b)).run Tryz.prog w = stored Tryz.prog w a (Fv b) .plain := stF
  go_enter Tryz.func7, Tryz.ntmps7
  go_wp2_with fail
  obtain ⟨W0, hW0⟩ : ∃ W0, W0 = (w.alloc (.cells #[Fv 0, Fv 0] 28)) := ⟨_, rfl⟩
  have Xr : Hid (Box W0 (w.heap.size) (Fv 0) (Fv 0)) := by rw [hW0]; exact ⟨by go_simp, by go_simp, by go_simp, by go_simp⟩
  have hb0 : Below w.heap.size w W0 := by rw [hW0]; exact below1 w _
  rw [← hW0]
  clear hW0
  have hbw : Below w.heap.size w w := Below.refl _ _
  obtain ⟨gr, hgr⟩ : ∃ g, g = w.heap.size := ⟨_, rfl⟩
  have HGr : Hid (w.heap.size ≤ gr) := by rw [hgr]; show _ ≤ _; omega
  rw [← hgr] at Xr
  try rw [← hgr]
  clear hgr
  replace hbw := Below.on hbw hb0
  clear hb0
  refine (cody_b _).mono ?_
  rintro e v1 ⟨rfl, hb1⟩
  replace Xr : Hid _ := Xr.out.below hb1
  replace hbw := Below.on hbw hb1
  clear hb1
  go_wp2_with fail
  have HDrt : Hid (gr ≠ v1.heap.size) := Nat.ne_of_lt Xr.out.lt
  have Xt0 : Hid (Box (v1.alloc (.cells #[Fv 4604591849038483090, Fv 13584575127940880343] 28)) v1.heap.size (Fv 4604591849038483090) (Fv 13584575127940880343)) := Box.new v1 _ _ _
  have hbn : Below v1.heap.size v1 (v1.alloc (.cells #[Fv 4604591849038483090, Fv 13584575127940880343] 28)) := below1 v1 _
  generalize v1.alloc (.cells #[Fv 4604591849038483090, Fv 13584575127940880343] 28) = Wt at *
  have HGt : Hid (w.heap.size ≤ v1.heap.size) := hbw.size
  replace Xr : Hid _ := Xr.out.below hbn
  replace hbw := Below.on hbw hbn
  clear hbn
  generalize v1.heap.size = gt at *
  have Xt := Xt0
  clear Xt0
  obtain ⟨V1, hV1⟩ : ∃ W1, W1 = Wt.drew := ⟨_, rfl⟩
  have hbd : Below Wt.heap.size Wt V1 := by rw [hV1]; exact bDrew1 (Below.refl _ _)
  replace Xr : Hid _ := Xr.out.below hbd
  replace Xt : Hid _ := Xt.out.below hbd
  replace hbw := Below.on hbw hbd
  clear hbd
  have HJ : Hid ((fun W' : World => W'.cell? ⟨gt, 0, none⟩ = some (Fv 4604591849038483090) ∧ W'.cell? ⟨gt, 1, none⟩ = some (Fv 13584575127940880343)) V1) := ⟨Xt.out.c0, Xt.out.c1⟩
  refine wp_region_J (fun W' => W'.cell? ⟨gt, 0, none⟩ = some (Fv 4604591849038483090) ∧ W'.cell? ⟨gt, 1, none⟩ = some (Fv 13584575127940880343)) (by kernel_rfl) ?_
  rw [← hV1]
  clear hV1
  refine wpJ_tq 0 rfl HJ.out ?_
  refine wpJ_tq 1 rfl HJ.out ?_
  refine wpJ_tq 2 rfl HJ.out ?_
  obtain ⟨cr0, cr1, fr0, fr1⟩ := Xr.out
  have hner := Xr.out.lt
  obtain ⟨ct0, ct1, ft0, ft1⟩ := Xt.out
  have hnet := Xt.out.lt
  have za : gt ≠ gr := Ne.symm HDrt.out
  have zb := Ne.symm za
  refine wpJ_on 3 rfl fun KJ hK => ?_
  go_simp
  have HJ2 : Hid ((fun W' : World => W'.cell? ⟨gt, 0, none⟩ = some (Fv 4604591849038483090) ∧ W'.cell? ⟨gt, 1, none⟩ = some (Fv 13584575127940880343)) ((V1.setCell ⟨gr, 0, none⟩ (Fv 4604591849038483090)).setCell ⟨gr, 1, none⟩ (Fv 13584575127940880343))) := ⟨by go_simp, by go_simp⟩
  refine hK _ _ HJ2.out ?_
  clear hK HJ
  have HJ := HJ2
  clear HJ2
  refine wpJ_tq 4 rfl HJ.out ?_
  refine wpJ_done (by kernel_rfl) ?_ _
  clear HJ
  go_wp2_with fail
  refine bodyPost_ret (v := .tuple #[.int .i64 1, .agg #[Fv 4604591849038483090, Fv 13584575127940880343], .int .i64 0]) (by rw [results_tct rfl]; go_simp) rfl ⟨rfl, ?_⟩
  exact bSet (bSet (hbw) _ _ _ HGr.out) _ _ _ HGr.out
theorem fred_s {x : Nat} (hx : x < 18446744073709551616) (h1 : 4485585228861014016 ≤ x % 9223372036854775808) (h2 : x % 9223372036854775808 ≤ 4604930618986332160) (w : World) :
    Calls Tryz.prog 7 #[Fv x] w fun en w' => en = .returned (.tuple #[.int .i64 0, .agg #[Fv x, Fv 0], .int .i64 0]) ∧ Below w.heap.size w w' := by
  have hSF : ∀ (w : World) (a : Addr) (b : Nat), (store a (Fv b)).run Tryz.prog w = stored Tryz.prog w a (Fv b) .plain := stF
  have GC := cody_s hx h1 h2
  clear hx h1 h2
  go_enter Tryz.func7, Tryz.ntmps7
  go_wp2_with fail
  obtain ⟨W0, hW0⟩ : ∃ W0, W0 = (w.alloc (.cells #[Fv 0, Fv 0] 28)) := ⟨_, rfl⟩
  have Xr : Hid (Box W0 (w.heap.size) (Fv 0) (Fv 0)) := by rw [hW0]; exact ⟨by go_simp, by go_simp, by go_simp, by go_simp⟩
  have hb0 : Below w.heap.size w W0 := by rw [hW0]; exact below1 w _
  rw [← hW0]
  clear hW0
  have hbw : Below w.heap.size w w := Below.refl _ _
  obtain ⟨gr, hgr⟩ : ∃ g, g = w.heap.size := ⟨_, rfl⟩
  have HGr : Hid (w.heap.size ≤ gr) := by rw [hgr]; show _ ≤ _; omega
  rw [← hgr] at Xr
  try rw [← hgr]
  clear hgr
  replace hbw := Below.on hbw hb0
  clear hb0
  refine (GC _).mono ?_
  rintro e v1 ⟨rfl, hb1⟩
  replace Xr : Hid _ := Xr.out.below hb1
  replace hbw := Below.on hbw hb1
  clear hb1
  go_wp2_with fail
  have HDrt : Hid (gr ≠ v1.heap.size) := Nat.ne_of_lt Xr.out.lt
  have Xt0 : Hid (Box (v1.alloc (.cells #[Fv x, Fv 0] 28)) v1.heap.size (Fv x) (Fv 0)) := Box.new v1 _ _ _
  have hbn : Below v1.heap.size v1 (v1.alloc (.cells #[Fv x, Fv 0] 28)) := below1 v1 _
  generalize v1.alloc (.cells #[Fv x, Fv 0] 28) = Wt at *
  have HGt : Hid (w.heap.size ≤ v1.heap.size) := hbw.size
  replace Xr : Hid _ := Xr.out.below hbn
  replace hbw := Below.on hbw hbn
  clear hbn
  generalize v1.heap.size = gt at *
  have Xt := Xt0
  clear Xt0
  obtain ⟨V1, hV1⟩ : ∃ W1, W1 = Wt.drew := ⟨_, rfl⟩
  have hbd : Below Wt.heap.size Wt V1 := by rw [hV1]; exact bDrew1 (Below.refl _ _)
  replace Xr : Hid _ := Xr.out.below hbd
  replace Xt : Hid _ := Xt.out.below hbd
  replace hbw := Below.on hbw hbd
  clear hbd
  have HJ : Hid ((fun W' : World => W'.cell? ⟨gt, 0, none⟩ = some (Fv x) ∧ W'.cell? ⟨gt, 1, none⟩ = some (Fv 0)) V1) := ⟨Xt.out.c0, Xt.out.c1⟩
  refine wp_region_J (fun W' => W'.cell? ⟨gt, 0, none⟩ = some (Fv x) ∧ W'.cell? ⟨gt, 1, none⟩ = some (Fv 0)) (by kernel_rfl) ?_
  rw [← hV1]
  clear hV1
  refine wpJ_tq 0 rfl HJ.out ?_
  refine wpJ_tq 1 rfl HJ.out ?_
  refine wpJ_tq 2 rfl HJ.out ?_
  obtain ⟨cr0, cr1, fr0, fr1⟩ := Xr.out
  have hner := Xr.out.lt
  obtain ⟨ct0, ct1, ft0, ft1⟩ := Xt.out
  have hnet := Xt.out.lt
  have za : gt ≠ gr := Ne.symm HDrt.out
  have zb := Ne.symm za
  refine wpJ_on 3 rfl fun KJ hK => ?_
  go_simp
  have HJ2 : Hid ((fun W' : World => W'.cell? ⟨gt, 0, none⟩ = some (Fv x) ∧ W'.cell? ⟨gt, 1, none⟩ = some (Fv 0)) ((V1.setCell ⟨gr, 0, none⟩ (Fv x)).setCell ⟨gr, 1, none⟩ (Fv 0))) := ⟨by go_simp, by go_simp⟩
  refine hK _ _ HJ2.out ?_
  clear hK HJ
  have HJ := HJ2
  clear HJ2
  refine wpJ_tq 4 rfl HJ.out ?_
  refine wpJ_done (by kernel_rfl) ?_ _
  clear HJ
  go_wp2_with fail
  refine bodyPost_ret (v := .tuple #[.int .i64 0, .agg #[Fv x, Fv 0], .int .i64 0]) (by rw [results_tct rfl]; go_simp) rfl ⟨rfl, ?_⟩
  exact bSet (bSet (hbw) _ _ _ HGr.out) _ _ _ HGr.out
theorem lpair22 (h l : Nat) (w : World) :
    Calls Tryz.prog 19 #[.agg #[Fv h, Fv l]] w fun en w' => en = .returned (.agg #[.int .u64 (h : Int), .int .u64 (l : Int)]) ∧ Below w.heap.size w w' := by
  have hSF : ∀ (w : World) (a : Addr) (b : Nat), (store a (Fv b)).run Tryz.prog w = stored Tryz.prog w a (Fv b) .plain := stF
  have b1 : ∀ w, (callFunc 18 #[Fv h]).run Tryz.prog w = .ok (.value (.int .u64 (h : Int))) w := fun w => bitsOf _ w
  have b2 : ∀ w, (callFunc 18 #[Fv l]).run Tryz.prog w = .ok (.value (.int .u64 (l : Int))) w := fun w => bitsOf _ w
  go_enter Tryz.func19, Tryz.ntmps19
  go_wp2_with fail
  obtain ⟨W0, hW0⟩ : ∃ W0, W0 = ((w.alloc (.cells #[Fv h, Fv l] 28)).alloc (.cells #[.int .u64 0, .int .u64 0] 35)) := ⟨_, rfl⟩
  have Xa : Hid (Box W0 (w.heap.size) (Fv h) (Fv l)) := by rw [hW0]; exact ⟨by go_simp, by go_simp, by go_simp, by go_simp⟩
  have Xr : Hid (Box W0 (w.heap.size + 1) (.int .u64 0) (.int .u64 0)) := by rw [hW0]; exact ⟨by go_simp, by go_simp, by go_simp, by go_simp⟩
  have hb0 : Below w.heap.size w W0 := by rw [hW0]; exact below2 w _ _
  rw [← hW0]
  clear hW0
  have hbw : Below w.heap.size w w := Below.refl _ _
  obtain ⟨gr, hgr⟩ : ∃ g, g = w.heap.size + 1 := ⟨_, rfl⟩
  have HGr : Hid (w.heap.size ≤ gr) := by rw [hgr]; show _ ≤ _; omega
  rw [← hgr] at Xr
  try rw [← hgr]
  obtain ⟨ga, hga⟩ : ∃ g, g = w.heap.size := ⟨_, rfl⟩
  have HGa : Hid (w.heap.size ≤ ga) := by rw [hga]; show _ ≤ _; omega
  rw [← hga] at Xa
  try rw [← hga]
  have HGD : Hid (ga ≠ gr ∧ gr ≠ ga) := by rw [hga, hgr]; exact ⟨by omega, by omega⟩
  clear hga hgr
  replace hbw := Below.on hbw hb0
  clear hb0
  obtain ⟨V1, hV1⟩ : ∃ W1, W1 = W0.drew := ⟨_, rfl⟩
  have hbd : Below W0.heap.size W0 V1 := by rw [hV1]; exact bDrew1 (Below.refl _ _)
  replace Xa : Hid _ := Xa.out.below hbd
  replace Xr : Hid _ := Xr.out.below hbd
  replace hbw := Below.on hbw hbd
  clear hbd
  have HJ : Hid ((fun W' : World => W'.cell? ⟨ga, 0, none⟩ = some (Fv h) ∧ W'.cell? ⟨ga, 1, none⟩ = some (Fv l)) V1) := ⟨Xa.out.c0, Xa.out.c1⟩
  refine wp_region_J (fun W' => W'.cell? ⟨ga, 0, none⟩ = some (Fv h) ∧ W'.cell? ⟨ga, 1, none⟩ = some (Fv l)) (by kernel_rfl) ?_
  rw [← hV1]
  clear hV1
  refine wpJ_tq 0 rfl HJ.out ?_
  refine wpJ_tq 1 rfl HJ.out ?_
  refine wpJ_tq 3 rfl HJ.out ?_
  refine wpJ_tq 4 rfl HJ.out ?_
  refine wpJ_on 2 rfl fun KJ hK => ?_
  go_simp
  refine hK _ _ ⟨Xa.out.c0, Xa.out.c1⟩ ?_
  clear hK
  refine wpJ_on 5 rfl fun KJ hK => ?_
  go_simp
  clear HJ
  have HJ : Hid ((fun W' : World => W'.cell? ⟨ga, 0, none⟩ = some (Fv h) ∧ W'.cell? ⟨ga, 1, none⟩ = some (Fv l)) V1) := ⟨Xa.out.c0, Xa.out.c1⟩
  refine hK _ _ HJ.out ?_
  clear hK
  refine wpJ_tq 6 rfl HJ.out ?_
  obtain ⟨cr0, cr1, fr0, fr1⟩ := Xr.out
  have hner := Xr.out.lt
  obtain ⟨ca0, ca1, fa0, fa1⟩ := Xa.out
  have hnea := Xa.out.lt
  obtain ⟨hgd0, hgd1⟩ := HGD.out
  refine wpJ_on 7 rfl fun KJ hK => ?_
  go_simp
  have HJ2 : Hid ((fun W' : World => W'.cell? ⟨ga, 0, none⟩ = some (Fv h) ∧ W'.cell? ⟨ga, 1, none⟩ = some (Fv l)) ((V1.setCell ⟨gr, 0, none⟩ (.int .u64 (h : Int))).setCell ⟨gr, 1, none⟩ (.int .u64 (l : Int)))) := ⟨by go_simp, by go_simp⟩
  refine hK _ _ HJ2.out ?_
  clear hK HJ
  have HJ := HJ2
  clear HJ2
  refine wpJ_done (by kernel_rfl) ?_ _
  clear HJ
  go_wp2_with fail
  refine bodyPost_ret (v := .agg #[.int .u64 (h : Int), .int .u64 (l : Int)]) (by rw [results_cell1 rfl]; go_simp) rfl ⟨rfl, ?_⟩
  exact bSet (bSet (hbw) _ _ _ HGr.out) _ _ _ HGr.out
theorem lcody_a (w : World) :
    Calls Tryz.prog 10 #[.int .u64 4613937818241073152] w fun en w' => en = .returned (.tuple #[.int .i64 2, .agg #[.int .u64 13817641470120874372, .int .u64 13576772204829720686], .bool true]) ∧ Below w.heap.size w w' := by
  have hSF : ∀ (w : World) (a : Addr) (b : Nat), (store a (Fv b)).run Tryz.prog w = stored Tryz.prog w a (Fv b) .plain := stF
  have fb1 : ∀ w, (callFunc 6 #[.int .u64 4613937818241073152]).run Tryz.prog w = .ok (.value (Fv 4613937818241073152)) w := fun w => frombits 4613937818241073152 w
  have LP := lpair22 13817641470120874372 13576772204829720686
  rw [show ((13817641470120874372 : Nat) : Int) = 13817641470120874372 from rfl, show ((13576772204829720686 : Nat) : Int) = 13576772204829720686 from rfl] at LP
  go_enter Tryz.func10, Tryz.ntmps10
  go_wp2_with fail
  obtain ⟨W0, hW0⟩ : ∃ W0, W0 = (w.alloc (.cells #[.int .u64 0, .int .u64 0] 35)) := ⟨_, rfl⟩
  have Xr : Hid (Box W0 (w.heap.size) (.int .u64 0) (.int .u64 0)) := by rw [hW0]; exact ⟨by go_simp, by go_simp, by go_simp, by go_simp⟩
  have hb0 : Below w.heap.size w W0 := by rw [hW0]; exact below1 w _
  rw [← hW0]
  clear hW0
  have hbw : Below w.heap.size w w := Below.refl _ _
  obtain ⟨gr, hgr⟩ : ∃ g, g = w.heap.size := ⟨_, rfl⟩
  have HGr : Hid (w.heap.size ≤ gr) := by rw [hgr]; show _ ≤ _; omega
  rw [← hgr] at Xr
  try rw [← hgr]
  clear hgr
  replace hbw := Below.on hbw hb0
  clear hb0
  refine (cody_a _).mono ?_
  rintro e v1 ⟨rfl, hb1⟩
  replace Xr : Hid _ := Xr.out.below hb1
  replace hbw := Below.on hbw hb1
  clear hb1
  go_wp2_with fail
  have HDrt : Hid (gr ≠ v1.heap.size) := Nat.ne_of_lt Xr.out.lt
  have Xv0 : Hid (Box (v1.alloc (.cells #[Fv 13817641470120874372, Fv 13576772204829720686] 28)) v1.heap.size (Fv 13817641470120874372) (Fv 13576772204829720686)) := Box.new v1 _ _ _
  have hbn : Below v1.heap.size v1 (v1.alloc (.cells #[Fv 13817641470120874372, Fv 13576772204829720686] 28)) := below1 v1 _
  generalize v1.alloc (.cells #[Fv 13817641470120874372, Fv 13576772204829720686] 28) = Wv at *
  have HGv : Hid (w.heap.size ≤ v1.heap.size) := hbw.size
  replace Xr : Hid _ := Xr.out.below hbn
  replace hbw := Below.on hbw hbn
  clear hbn
  generalize v1.heap.size = gv at *
  have Xv := Xv0
  clear Xv0
  obtain ⟨cv0, cv1, fv0, fv1⟩ := Xv.out
  have hnev := Xv.out.lt
  go_wp2_with fail
  clear cv0 cv1 fv0 fv1 hnev
  refine (LP _).mono ?_
  rintro e v2 ⟨rfl, hb2⟩
  replace Xr : Hid _ := Xr.out.below hb2
  replace Xv : Hid _ := Xv.out.below hb2
  replace hbw := Below.on hbw hb2
  clear hb2
  obtain ⟨cr0, cr1, fr0, fr1⟩ := Xr.out
  have hner := Xr.out.lt
  go_wp2_with fail
  refine bodyPost_ret (v := .tuple #[.int .i64 2, .agg #[.int .u64 13817641470120874372, .int .u64 13576772204829720686], .bool true]) (by rw [results_tct rfl]; go_simp) rfl ⟨rfl, ?_⟩
  exact bSet (bSet (hbw) _ _ _ HGr.out) _ _ _ HGr.out
theorem lreduce_b (w : World) :
    Calls Tryz.prog 11 #[.int .u64 13839561654909534208] w fun en w' => en = .returned (.tuple #[.int .i64 1, .agg #[.int .u64 4604591849038483090, .int .u64 13584575127940880343], .int .i64 0]) ∧ Below w.heap.size w w' := by
  have hSF : ∀ (w : World) (a : Addr) (b : Nat), (store a (Fv b)).run Tryz.prog w = stored Tryz.prog w a (Fv b) .plain := stF
  have fb2 : ∀ w, (callFunc 6 #[.int .u64 13839561654909534208]).run Tryz.prog w = .ok (.value (Fv 13839561654909534208)) w := fun w => frombits 13839561654909534208 w
  have LP := lpair22 4604591849038483090 13584575127940880343
  rw [show ((4604591849038483090 : Nat) : Int) = 4604591849038483090 from rfl, show ((13584575127940880343 : Nat) : Int) = 13584575127940880343 from rfl] at LP
  go_enter Tryz.func11, Tryz.ntmps11
  go_wp2_with fail
  obtain ⟨W0, hW0⟩ : ∃ W0, W0 = (w.alloc (.cells #[.int .u64 0, .int .u64 0] 35)) := ⟨_, rfl⟩
  have Xr : Hid (Box W0 (w.heap.size) (.int .u64 0) (.int .u64 0)) := by rw [hW0]; exact ⟨by go_simp, by go_simp, by go_simp, by go_simp⟩
  have hb0 : Below w.heap.size w W0 := by rw [hW0]; exact below1 w _
  rw [← hW0]
  clear hW0
  have hbw : Below w.heap.size w w := Below.refl _ _
  obtain ⟨gr, hgr⟩ : ∃ g, g = w.heap.size := ⟨_, rfl⟩
  have HGr : Hid (w.heap.size ≤ gr) := by rw [hgr]; show _ ≤ _; omega
  rw [← hgr] at Xr
  try rw [← hgr]
  clear hgr
  replace hbw := Below.on hbw hb0
  clear hb0
  refine (fred_b _).mono ?_
  rintro e v1 ⟨rfl, hb1⟩
  replace Xr : Hid _ := Xr.out.below hb1
  replace hbw := Below.on hbw hb1
  clear hb1
  go_wp2_with fail
  have HDrt : Hid (gr ≠ v1.heap.size) := Nat.ne_of_lt Xr.out.lt
  have Xv0 : Hid (Box (v1.alloc (.cells #[Fv 4604591849038483090, Fv 13584575127940880343] 28)) v1.heap.size (Fv 4604591849038483090) (Fv 13584575127940880343)) := Box.new v1 _ _ _
  have hbn : Below v1.heap.size v1 (v1.alloc (.cells #[Fv 4604591849038483090, Fv 13584575127940880343] 28)) := below1 v1 _
  generalize v1.alloc (.cells #[Fv 4604591849038483090, Fv 13584575127940880343] 28) = Wv at *
  have HGv : Hid (w.heap.size ≤ v1.heap.size) := hbw.size
  replace Xr : Hid _ := Xr.out.below hbn
  replace hbw := Below.on hbw hbn
  clear hbn
  generalize v1.heap.size = gv at *
  have Xv := Xv0
  clear Xv0
  obtain ⟨cv0, cv1, fv0, fv1⟩ := Xv.out
  have hnev := Xv.out.lt
  go_wp2_with fail
  clear cv0 cv1 fv0 fv1 hnev
  refine (LP _).mono ?_
  rintro e v2 ⟨rfl, hb2⟩
  replace Xr : Hid _ := Xr.out.below hb2
  replace Xv : Hid _ := Xv.out.below hb2
  replace hbw := Below.on hbw hb2
  clear hb2
  obtain ⟨cr0, cr1, fr0, fr1⟩ := Xr.out
  have hner := Xr.out.lt
  go_wp2_with fail
  refine bodyPost_ret (v := .tuple #[.int .i64 1, .agg #[.int .u64 4604591849038483090, .int .u64 13584575127940880343], .int .i64 0]) (by rw [results_tct rfl]; go_simp) rfl ⟨rfl, ?_⟩
  exact bSet (bSet (hbw) _ _ _ HGr.out) _ _ _ HGr.out
theorem awake22 (w : World) :
    Calls Tryz.prog 4 #[] w fun en w' => en = .returned (.bool true) ∧ Below w.heap.size w w' := by
  have hbw : Below w.heap.size w w := Below.refl _ _
  go_enter Tryz.func4, Tryz.ntmps4
  go_wp2_with fail
  refine (lcody_a _).mono ?_
  rintro e v1 ⟨rfl, hb1⟩
  replace hbw := Below.on hbw hb1
  clear hb1
  go_wp2_with fail
  have Xv0 : Hid (Box (v1.alloc (.cells #[.int .u64 13817641470120874372, .int .u64 13576772204829720686] 35)) v1.heap.size (.int .u64 13817641470120874372) (.int .u64 13576772204829720686)) := Box.new v1 _ _ _
  have hbn : Below v1.heap.size v1 (v1.alloc (.cells #[.int .u64 13817641470120874372, .int .u64 13576772204829720686] 35)) := below1 v1 _
  generalize v1.alloc (.cells #[.int .u64 13817641470120874372, .int .u64 13576772204829720686] 35) = Wv at *
  have HGv : Hid (w.heap.size ≤ v1.heap.size) := hbw.size
  replace hbw := Below.on hbw hbn
  clear hbn
  generalize v1.heap.size = gv at *
  have Xv := Xv0
  clear Xv0
  obtain ⟨cv0, cv1, fv0, fv1⟩ := Xv.out
  have hnev := Xv.out.lt
  go_wp2_with fail
  clear cv0 cv1 fv0 fv1 hnev
  refine (lreduce_b _).mono ?_
  rintro e v2 ⟨rfl, hb2⟩
  replace Xv : Hid _ := Xv.out.below hb2
  replace hbw := Below.on hbw hb2
  clear hb2
  obtain ⟨cv0, cv1, fv0, fv1⟩ := Xv.out
  have hnev := Xv.out.lt
  go_wp2_with fail
  clear cv0 cv1 fv0 fv1 hnev
  have Xx0 : Hid (Box (v2.alloc (.cells #[.int .u64 4604591849038483090, .int .u64 13584575127940880343] 35)) v2.heap.size (.int .u64 4604591849038483090) (.int .u64 13584575127940880343)) := Box.new v2 _ _ _
  have hbn : Below v2.heap.size v2 (v2.alloc (.cells #[.int .u64 4604591849038483090, .int .u64 13584575127940880343] 35)) := below1 v2 _
  generalize v2.alloc (.cells #[.int .u64 4604591849038483090, .int .u64 13584575127940880343] 35) = Wx at *
  have HGx : Hid (w.heap.size ≤ v2.heap.size) := hbw.size
  replace Xv : Hid _ := Xv.out.below hbn
  replace hbw := Below.on hbw hbn
  clear hbn
  generalize v2.heap.size = gx at *
  have Xx := Xx0
  clear Xx0
  obtain ⟨cv0, cv1, fv0, fv1⟩ := Xv.out
  have hnev := Xv.out.lt
  obtain ⟨cx0, cx1, fx0, fx1⟩ := Xx.out
  have hnex := Xx.out.lt
  go_wp2_with fail
  clear cv0 cv1 fv0 fv1 hnev
  clear cx0 cx1 fx0 fx1 hnex
  go_ret
  exact ⟨rfl, hbw⟩
theorem DN.abs22 {w : World} {s : Bool} {p : Option Addr} {m c : Nat} {e z : Int} (h : DN w s p m c e z) : DN w false p m c e (z.natAbs : Int) := by
  refine ⟨⟨?_, (decide_eq_false (by omega)).symm⟩, ?_⟩
  · obtain ⟨xs, hX⟩ := h.zn.ex
    exact ⟨xs, by rw [Int.natAbs_natCast]; exact hX⟩
  · rcases h.fm with ⟨a, b⟩ | ⟨a, b⟩
    · exact .inl ⟨by omega, b⟩
    · exact .inr ⟨by omega, b⟩
def OkQ (en : Ending) (c : Prop) : Prop := ∃ r, en = .returned (.bool r) ∧ (r = true → c)
structure BU22 (n : Nat) (a w : World) : Prop where
  b : Below a.heap.size a w
  h : a.heap.size = n
theorem BU22.below {n : Nat} {a w w' : World} (h : BU22 n a w) (hb : Below w.heap.size w w') : BU22 n a w' := ⟨Below.on h.b hb, h.h⟩
theorem DN.z22 {w w' : World} {s : Bool} {p : Option Addr} {m c : Nat} {e : Int} (h : DN w s p m c e 0) : DN w' s p m c e 0 := by
  obtain ⟨⟨⟨xs, hX⟩, hs⟩, hf⟩ := h
  obtain rfl : m = 0 := hX.zero.2 rfl
  obtain ⟨⟨a1, a2, a3, a4, _⟩, hN, hl⟩ := hX
  exact ⟨⟨⟨xs, ⟨a1, a2, a3, a4, .inl rfl⟩, hN, hl⟩, hs⟩, hf⟩
theorem db_of22 {z e X : Int} {K : Nat} (hf : DFm z e) (h : dv z e = dv X (-1074)) (hX : X.natAbs < 2 ^ K) : DB z e K (K + 1074) := by
  rcases hf with ⟨h0, h1⟩ | ⟨h0, h1, h2⟩
  · refine ⟨.inl ⟨h0, h1⟩, ?_, by omega, by omega⟩
    rw [h0]; exact Nat.two_pow_pos K
  · have hz : z ≠ 0 := by omega
    have he : -1074 ≤ e := by
      refine Int.le_of_not_gt fun k => ?_
      rw [dv_shift (z := X) (e := -1074) (f := e) (by omega) (by omega)] at h
      have h3 : z = X * ((2 ^ (-1074 - e).toNat : Nat) : Int) := by
        unfold dv at h
        exact Int.eq_of_mul_eq_mul_right (pow_pos_int _) h
      obtain ⟨j, hj⟩ : ∃ j, (-1074 - e).toNat = j + 1 := ⟨(-1074 - e).toNat - 1, by omega⟩
      rw [hj, Nat.pow_succ, Nat.mul_comm, Int.natCast_mul, ← Int.mul_assoc, Int.mul_comm X] at h3
      have h4 : ((2 : Nat) : Int) = 2 := rfl
      rw [h4, Int.mul_assoc] at h3
      omega
    rw [dv_shift (z := z) (e := e) (f := -1074) he (by omega)] at h
    have h3 : z * ((2 ^ (e - -1074).toNat : Nat) : Int) = X := by
      unfold dv at h
      exact Int.eq_of_mul_eq_mul_right (pow_pos_int _) h
    have h4 : z.natAbs * 2 ^ (e - -1074).toNat = X.natAbs := by rw [← h3, Int.natAbs_mul, Int.natAbs_natCast]
    have h5 : 0 < z.natAbs := by omega
    refine ⟨.inr ⟨h0, h1, h2⟩, ?_, by omega, ?_⟩
    · have := Nat.le_mul_of_pos_right z.natAbs (Nat.two_pow_pos (e - -1074).toNat)
      omega
    · have h6 := Nat.le_mul_of_pos_left (2 ^ (e - -1074).toNat) h5
      have h7 : (e - -1074).toNat < K := (Nat.pow_lt_pow_iff_right (by decide)).1 (Nat.lt_of_le_of_lt (Nat.le_trans h6 (Nat.le_of_eq h4)) hX)
      omega
theorem fin_sum22 {h l K : Nat} (hK : K = 2100) (d : DdF h l) : (ux h + ux l).natAbs < 2 ^ K := by
  obtain ⟨J, hJ⟩ : ∃ J, J = 2046 := ⟨_, rfl⟩
  have h1 := ux_pow (b := h) (K := J) (by have := d.hi.fin; omega)
  have h2 := ux_pow (b := l) (K := J) (by have := d.lo.fin; omega)
  have h3 : 2 * 2 ^ (52 + J) = 2 ^ (52 + J + 1) := by rw [Nat.pow_succ, Nat.mul_comm]
  have h4 : 2 ^ (52 + J + 1) < 2 ^ K := Nat.pow_lt_pow_right (by decide) (by omega)
  omega
theorem cmp_z22 {z e : Int} (h : 0 ≤ z) : cmpI (dv 0 0) (dv z e) ≤ 0 := by
  rw [dv_zero]
  have h1 : 0 ≤ dv z e := Int.mul_nonneg h (Int.natCast_nonneg _)
  unfold cmpI
  split
  · decide
  · split <;> omega
theorem beside22 {x : Nat} (d : DdF x 0) (w : World) (hT : Tab w) :
    Calls Tryz.prog 8 #[.agg #[Fv x, Fv 0], .agg #[Fv x, Fv 0]] w fun en w' => en = .returned (.bool true) ∧ Below w.heap.size w w' := by
  have hSF : ∀ (w : World) (a : Addr) (b : Nat), (store a (Fv b)).run Tryz.prog w = stored Tryz.prog w a (Fv b) .plain := stF
  have HD := Hid.mk9 d
  have TB : Hid (Tab w) := hT
  clear d hT
  go_enter Tryz.func8, Tryz.ntmps8
  go_wp2_with fail
  obtain ⟨W0, hW0⟩ : ∃ W0, W0 = ((w.alloc (.cells #[Fv x, Fv 0] 28)).alloc (.cells #[Fv x, Fv 0] 28)) := ⟨_, rfl⟩
  have Xv : Hid (Box W0 (w.heap.size) (Fv x) (Fv 0)) := by rw [hW0]; exact ⟨by go_simp, by go_simp, by go_simp, by go_simp⟩
  have Xy : Hid (Box W0 (w.heap.size + 1) (Fv x) (Fv 0)) := by rw [hW0]; exact ⟨by go_simp, by go_simp, by go_simp, by go_simp⟩
  have hb0 : Below w.heap.size w W0 := by rw [hW0]; exact below2 w _ _
  rw [← hW0]
  clear hW0
  have hbw : Below w.heap.size w w := Below.refl _ _
  obtain ⟨gy, hgy⟩ : ∃ g, g = w.heap.size + 1 := ⟨_, rfl⟩
  have HGy : Hid (w.heap.size ≤ gy) := by rw [hgy]; show _ ≤ _; omega
  rw [← hgy] at Xy
  try rw [← hgy]
  obtain ⟨gv, hgv⟩ : ∃ g, g = w.heap.size := ⟨_, rfl⟩
  have HGv : Hid (w.heap.size ≤ gv) := by rw [hgv]; show _ ≤ _; omega
  rw [← hgv] at Xv
  try rw [← hgv]
  have HGD : Hid (gv ≠ gy ∧ gy ≠ gv) := by rw [hgv, hgy]; exact ⟨by omega, by omega⟩
  clear hgv hgy
  replace hbw := Below.on hbw hb0
  clear hb0
  obtain ⟨cv0, cv1, fv0, fv1⟩ := Xv.out
  have hnev := Xv.out.lt
  go_wp2_with fail
  clear cv0 cv1 fv0 fv1 hnev
  refine (ddvalue x 0 HD.out _ (TB.out.below hbw)).mono ?_
  rintro en v1 ⟨s1, p1, m1, z1, e1, rfl, hd1, hv1, hb1⟩
  obtain ⟨K9, hK9⟩ : ∃ K9, K9 = 2100 := ⟨_, rfl⟩
  have HV1 : Hid (dv z1 e1 = dv (ux x + ux 0) (-1074) ∧ DB z1 e1 2100 3174) := by
    have q := db_of22 hd1.fm hv1 (fin_sum22 hK9 HD.out)
    rw [hK9] at q
    exact ⟨hv1, q⟩
  clear hv1 hK9
  replace Xv : Hid _ := Xv.out.below hb1
  replace Xy : Hid _ := Xy.out.below hb1
  replace hbw := Below.on hbw hb1
  clear hb1
  have D1 : Hid (DN v1 s1 p1 m1 m1 e1 z1) := hd1.dn
  clear hd1
  have D1v : Hid (DN v1 s1 p1 m1 m1 e1 z1) := D1.out
  have BU : Hid (BU22 (v1.heap.size) v1 v1) := ⟨Below.refl _ _, rfl⟩
  obtain ⟨cy0, cy1, fy0, fy1⟩ := Xy.out
  have hney := Xy.out.lt
  go_wp2_with fail
  clear cy0 cy1 fy0 fy1 hney
  have Xa0 : Hid (B3q (v1.alloc (.cells #[.bool s1, .slice p1 m1 m1, .int .i64 e1] 47)) v1.heap.size (.bool s1) (.slice p1 m1 m1) (.int .i64 e1)) := B3q.new v1 _ _ _ _
  have hbn : Below v1.heap.size v1 (v1.alloc (.cells #[.bool s1, .slice p1 m1 m1, .int .i64 e1] 47)) := below1 v1 _
  generalize v1.alloc (.cells #[.bool s1, .slice p1 m1 m1, .int .i64 e1] 47) = Wa at *
  have HGa : Hid (w.heap.size ≤ v1.heap.size) := hbw.size
  replace Xv : Hid _ := Xv.out.below hbn
  replace Xy : Hid _ := Xy.out.below hbn
  replace D1 : Hid _ := D1.out.below hbn
  replace BU : Hid (BU22 (v1.heap.size) v1 Wa) := BU.out.below hbn
  replace hbw := Below.on hbw hbn
  clear hbn
  generalize v1.heap.size = ga at *
  have Xa := Xa0
  clear Xa0
  refine (ddvalue x 0 HD.out _ (TB.out.below hbw)).mono ?_
  rintro en v2 ⟨s2, p2, m2, z2, e2, rfl, hd2, hv2, hb2⟩
  obtain ⟨K9, hK9⟩ : ∃ K9, K9 = 2100 := ⟨_, rfl⟩
  have HV2 : Hid (dv z2 e2 = dv (ux x + ux 0) (-1074) ∧ DB z2 e2 2100 3174) := by
    have q := db_of22 hd2.fm hv2 (fin_sum22 hK9 HD.out)
    rw [hK9] at q
    exact ⟨hv2, q⟩
  clear hv2 hK9
  replace Xv : Hid _ := Xv.out.below hb2
  replace Xy : Hid _ := Xy.out.below hb2
  replace Xa : Hid _ := Xa.out.below hb2
  replace D1 : Hid _ := D1.out.below hb2
  replace BU : Hid (BU22 ga v1 v2) := BU.out.below hb2
  replace hbw := Below.on hbw hb2
  clear hb2
  have D2 : Hid (DN v2 s2 p2 m2 m2 e2 z2) := hd2.dn
  clear hd2
  obtain ⟨ca0, ca1, ca2, fa0, fa1, fa2⟩ := Xa.out
  have hnea : ga < v2.heap.size := World.block_lt_of_cell? v2 _ ca0
  go_wp2_with fail
  clear ca0 ca1 ca2 fa0 fa1 fa2 hnea
  have Xb0 : Hid (B3q (v2.alloc (.cells #[.bool s2, .slice p2 m2 m2, .int .i64 e2] 47)) v2.heap.size (.bool s2) (.slice p2 m2 m2) (.int .i64 e2)) := B3q.new v2 _ _ _ _
  have hbn : Below v2.heap.size v2 (v2.alloc (.cells #[.bool s2, .slice p2 m2 m2, .int .i64 e2] 47)) := below1 v2 _
  generalize v2.alloc (.cells #[.bool s2, .slice p2 m2 m2, .int .i64 e2] 47) = Wb at *
  have HGb : Hid (w.heap.size ≤ v2.heap.size) := hbw.size
  replace Xv : Hid _ := Xv.out.below hbn
  replace Xy : Hid _ := Xy.out.below hbn
  replace Xa : Hid _ := Xa.out.below hbn
  replace D1 : Hid _ := D1.out.below hbn
  replace BU : Hid (BU22 ga v1 Wb) := BU.out.below hbn
  replace D2 : Hid _ := D2.out.below hbn
  replace hbw := Below.on hbw hbn
  clear hbn
  generalize v2.heap.size = gb at *
  have Xb := Xb0
  clear Xb0
  obtain ⟨ca0, ca1, ca2, fa0, fa1, fa2⟩ := Xa.out
  have hnea : ga < Wb.heap.size := World.block_lt_of_cell? Wb _ ca0
  obtain ⟨cb0, cb1, cb2, fb0, fb1, fb2⟩ := Xb.out
  have hneb : gb < Wb.heap.size := World.block_lt_of_cell? Wb _ cb0
  go_wp2_with fail
  clear ca0 ca1 ca2 fa0 fa1 fa2 hnea
  clear cb0 cb1 cb2 fb0 fb1 fb2 hneb
  refine (dsub_b (K := 2100) (E := 3174) D1.out D2.out HV1.out.2 HV2.out.2 (by decide) (TB.out.below hbw)).mono ?_
  rintro e9 v3 ⟨v9, z3, e3, rfl, ha, hdb, hdv, hb3⟩
  obtain ⟨s3, p3, m3, rfl, hd3⟩ := ha.dn hdb.fm
  clear ha
  have HZ3 : z3 = 0 ∧ e3 = 0 := dv_inj hdb.fm (.inl ⟨rfl, rfl⟩) (by rw [hdv, HV1.out.1, HV2.out.1, Int.sub_self, dv_zero])
  obtain ⟨rfl, rfl⟩ := HZ3
  clear hdb hdv
  replace Xv : Hid _ := Xv.out.below hb3
  replace Xy : Hid _ := Xy.out.below hb3
  replace Xa : Hid _ := Xa.out.below hb3
  replace Xb : Hid _ := Xb.out.below hb3
  replace D1 : Hid _ := D1.out.below hb3
  replace BU : Hid (BU22 ga v1 v3) := BU.out.below hb3
  replace D2 : Hid _ := D2.out.below hb3
  replace hbw := Below.on hbw hb3
  clear hb3
  have D3 : Hid (DN v3 s3 p3 m3 m3 0 0) := hd3
  clear hd3
  go_wp2_with fail
  have Xd0 : Hid (B3q (v3.alloc (.cells #[.bool s3, .slice p3 m3 m3, .int .i64 0] 47)) v3.heap.size (.bool s3) (.slice p3 m3 m3) (.int .i64 0)) := B3q.new v3 _ _ _ _
  have hbn : Below v3.heap.size v3 (v3.alloc (.cells #[.bool s3, .slice p3 m3 m3, .int .i64 0] 47)) := below1 v3 _
  generalize v3.alloc (.cells #[.bool s3, .slice p3 m3 m3, .int .i64 0] 47) = Wd at *
  have HGd : Hid (w.heap.size ≤ v3.heap.size) := hbw.size
  replace Xv : Hid _ := Xv.out.below hbn
  replace Xy : Hid _ := Xy.out.below hbn
  replace Xa : Hid _ := Xa.out.below hbn
  replace Xb : Hid _ := Xb.out.below hbn
  replace D1 : Hid _ := D1.out.below hbn
  replace BU : Hid (BU22 ga v1 Wd) := BU.out.below hbn
  replace D2 : Hid _ := D2.out.below hbn
  replace D3 : Hid _ := D3.out.below hbn
  replace hbw := Below.on hbw hbn
  clear hbn
  generalize v3.heap.size = gd at *
  have Xd := Xd0
  clear Xd0
  obtain ⟨cd0, cd1, cd2, fd0, fd1, fd2⟩ := Xd.out
  have hned : gd < Wd.heap.size := World.block_lt_of_cell? Wd _ cd0
  go_wp2_with fail
  clear cd0 cd1 cd2 fd0 fd1 fd2 hned
  refine (dscale_v (N := 78) D3.out (fun h => absurd rfl h)).mono ?_
  rintro e9 v4 ⟨s4, p4, m4, z4, e4, rfl, hd4, hor, hb4⟩
  obtain ⟨rfl, rfl⟩ : z4 = 0 ∧ e4 = 0 := by
    rcases hor with ⟨_, h2, h3⟩ | ⟨h1, _⟩
    · exact ⟨h2, h3⟩
    · exact absurd rfl h1
  clear hor
  replace Xv : Hid _ := Xv.out.below hb4
  replace Xy : Hid _ := Xy.out.below hb4
  replace Xa : Hid _ := Xa.out.below hb4
  replace Xb : Hid _ := Xb.out.below hb4
  replace Xd : Hid _ := Xd.out.below hb4
  replace D1 : Hid _ := D1.out.below hb4
  replace BU : Hid (BU22 ga v1 v4) := BU.out.below hb4
  replace D2 : Hid _ := D2.out.below hb4
  replace D3 : Hid _ := D3.out.below hb4
  replace hbw := Below.on hbw hb4
  clear hb4
  have D4 : Hid (DN v4 s4 p4 m4 m4 0 0) := hd4.dn
  clear hd4
  have hls : ga ≠ v4.heap.size := Nat.ne_of_lt Xa.out.lt
  have hls2 := Ne.symm hls
  obtain ⟨ca0, ca1, ca2, fa0, fa1, fa2⟩ := Xa.out
  have hnea : ga < v4.heap.size := World.block_lt_of_cell? v4 _ ca0
  go_wp2_with fail
  have hW5 : Below w.heap.size w ((v4.setCell ⟨ga, 0, none⟩ (.bool false)).alloc (.cells #[.bool false, .slice p4 m4 m4, .int .i64 0] 47)) := Below.on (bSet hbw _ _ _ HGa.out) (below1 _ _)
  have hV5 : Below v1.heap.size v1 ((v4.setCell ⟨ga, 0, none⟩ (.bool false)).alloc (.cells #[.bool false, .slice p4 m4 m4, .int .i64 0] 47)) := Below.on (bSet BU.out.b _ _ _ (Nat.le_of_eq BU.out.h)) (below1 _ _)
  refine (dcmp (D4.out.abs22.z22) (D1v.out.below hV5).abs22).mono ?_
  rintro e9 v5 ⟨rfl, hb5⟩
  have hbw5 := Below.on hW5 hb5
  clear hW5 hV5 hb5 hbw
  clear ca0 ca1 ca2 fa0 fa1 fa2 hnea
  have hbw := hbw5
  clear hbw5 hls hls2
  have hle := cmp_z22 (z := (z1.natAbs : Int)) (e := e1) (by omega)
  have hd9 : decide (cmpI (dv 0 0) (dv (z1.natAbs : Int) e1) ≤ 0) = true := decide_eq_true hle
  generalize cmpI (dv 0 0) (dv (z1.natAbs : Int) e1) = cc at *
  clear hle
  go_wp2_with fail
  go_ret
  exact ⟨rfl, hbw⟩
theorem ddf_of22 {x : Nat} (f : Fin64 x) : DdF x 0 := by
  have u0 : ux 0 = 0 := by rw [ux_eq]; decide
  have h0 : (ux x).natAbs ≤ MaxU := by
    rw [ux_eq]
    have := vs_max f.fin
    split <;> omega
  have h2 : rg 0 (ux x + ux 0).natAbs < 9218868437227405312 := by rw [u0, Int.add_zero]; exact rg_fin h0
  refine ⟨f, ⟨by decide, by decide⟩, h2, ?_⟩
  have h3 := (sm_word2 (neg := decide (ux x + ux 0 < 0)) h2 fun _ => rfl).2.2
  have h4 := h3.ex (by rw [u0, Int.add_zero]; exact f.fl)
  rw [h4, u0, Int.add_zero]
theorem mul_c52 {y : Nat} (hy : y ≤ 4604930618986332160) : ∃ P, floatBits .mul .f64 y 4372995238176751616 = some P ∧ Fin64 P ∧ 0 ≤ ux P := by
  obtain ⟨K, hK⟩ : ∃ K, K = 1022 := ⟨_, rfl⟩
  obtain ⟨L, hL⟩ : ∃ L, L = 972 := ⟨_, rfl⟩
  obtain ⟨c, hc⟩ : ∃ c, c = 1074 := ⟨_, rfl⟩
  obtain ⟨M, hM⟩ : ∃ M, M = 2096 := ⟨_, rfl⟩
  have h1 := fmul_any (a := y) (b := 4372995238176751616) ⟨by omega, by omega⟩ ⟨by decide, by decide⟩
  rw [← hc] at h1
  have a1 := ux_pow (b := y) (K := K) (by omega)
  have a2 := ux_pow (b := 4372995238176751616) (K := L) (by omega)
  have h2 : (ux y).natAbs * (ux 4372995238176751616).natAbs < 2 ^ (M + c) := by
    refine Nat.lt_of_le_of_lt (Nat.mul_le_mul a1 a2) ?_
    rw [← Nat.pow_add]
    exact Nat.pow_lt_pow_right (by decide) (by omega)
  have h3 := rgc_lt hM h2
  rw [show (decide (9223372036854775808 ≤ y) ^^ decide (9223372036854775808 ≤ 4372995238176751616)) = false by rw [decide_eq_false (by omega)]; rfl] at h1
  obtain ⟨w1, w2, w3⟩ := word_facts false h3
  refine ⟨_, h1, ⟨w1, by rw [w2]; exact h3⟩, ?_⟩
  rw [w3, if_neg (by decide)]
  exact Int.natCast_nonneg _
theorem sub_same {b : Nat} (f : Fin64 b) : ∃ r, floatBits .sub .f64 b b = some r ∧ r < 18446744073709551616 ∧ r % 9223372036854775808 = 0 := by
  obtain ⟨r, h1, h2⟩ := fl_sub_fin f f (by rw [Int.sub_self]; exact Nat.zero_le _)
  refine ⟨r, h1, h2.fin.lt, ?_⟩
  rw [h2.size, Int.sub_self]
  rfl
theorem ord_0 {P : Nat} (f : Fin64 P) (h : 0 ≤ ux P) : FloatKind.f64.format.order 0 P = some .lt ∨ FloatKind.f64.format.order 0 P = some .eq := by
  have h1 : Ieee.double.order 0 P = some (compare (ux 0) (ux P)) := order_fin ⟨by decide, by decide⟩ f
  rw [show ux 0 = 0 by rw [ux_eq]; decide] at h1
  have e : compare (0 : Int) (ux P) = compareOfLessAndEq 0 (ux P) := rfl
  rw [e] at h1
  unfold compareOfLessAndEq at h1
  by_cases h2 : 0 < ux P
  · rw [if_pos h2] at h1; exact .inl h1
  · rw [if_neg h2, if_pos (by omega)] at h1; exact .inr h1
theorem lreducible (b : Nat) (w : World) :
    Calls Tryz.prog 5 #[.int .u64 (b : Int)] w fun en w' => OkQ en (4485585228861014016 ≤ b % 9223372036854775808) ∧ Below w.heap.size w w' := by
  obtain ⟨s, hs⟩ : ∃ s, s = b % 9223372036854775808 := ⟨_, rfl⟩
  have hm : (b : Int) % 9223372036854775808 = (s : Int) := by omega
  rw [← hs]
  clear hs
  have hbw : Below w.heap.size w w := Below.refl _ _
  go_enter Tryz.func5, Tryz.ntmps5
  go_wp2_with fail
  all_goals
    go_ret
    refine ⟨⟨_, rfl, fun h9 => ?_⟩, hbw⟩
    first | (simp at h9; omega) | simp at h9
theorem fastreduceSmall_w {b : Nat} (hb : b < 18446744073709551616) (w : World) (hT : Tab w) :
    Calls Tryz.prog 3 #[.int .u64 (b : Int)] w fun en w' => en = .returned (.bool true) ∧ Below w.heap.size w w' := by
  have hSF : ∀ (w : World) (a : Addr) (b : Nat), (store a (Fv b)).run Tryz.prog w = stored Tryz.prog w a (Fv b) .plain := stF
  have TB : Hid (Tab w) := hT
  have HL : Hid (b < 18446744073709551616) := hb
  have fb1 : ∀ w, (callFunc 6 #[.int .u64 (b : Int)]).run Tryz.prog w = .ok (.value (Fv b)) w := fun w => frombits _ w
  have hbw : Below w.heap.size w w := Below.refl _ _
  clear hb hT
  go_enter Tryz.func3, Tryz.ntmps3
  go_wp2_with fail
  refine (awake22 _).mono ?_
  rintro e v1 ⟨rfl, hb1⟩
  replace hbw := Below.on hbw hb1
  clear hb1
  go_wp2_with fail
  refine (lreducible b _).mono ?_
  rintro en v2 ⟨⟨r, rfl, hr⟩, hb2⟩
  replace hbw := Below.on hbw hb2
  clear hb2
  cases r
  · clear hr
    go_wp2_with fail
    go_ret
    exact ⟨rfl, hbw⟩
  have HR := Hid.mk9 (hr rfl)
  clear hr
  obtain ⟨y, hy⟩ : ∃ y, y = b % 9223372036854775808 := ⟨_, rfl⟩
  have hm : (b : Int) % 9223372036854775808 = (y : Int) := by omega
  by_cases hg : 4604930618986332160 < y
  · have hg2 : (4604930618986332160 : Int) < (y : Int) := by omega
    have HY := Hid.mk9 hy
    clear hy hg
    go_wp2_with fail
    go_ret
    exact ⟨rfl, hbw⟩
  have hg2 : ¬ (4604930618986332160 : Int) < (y : Int) := by omega
  have HY : Hid (y = b % 9223372036854775808 ∧ y ≤ 4604930618986332160 ∧ 4485585228861014016 ≤ y) := ⟨hy, by omega, by have := HR.out; omega⟩
  clear hy hg
  go_wp2_with fail
  refine (fred_s HL.out (by have := HY.out; omega) (by have := HY.out; omega) _).mono ?_
  rintro e v3 ⟨rfl, hb3⟩
  replace hbw := Below.on hbw hb3
  clear hb3
  go_wp2_with fail
  have Xv0 : Hid (Box (v3.alloc (.cells #[Fv b, Fv 0] 28)) v3.heap.size (Fv b) (Fv 0)) := Box.new v3 _ _ _
  have hbn : Below v3.heap.size v3 (v3.alloc (.cells #[Fv b, Fv 0] 28)) := below1 v3 _
  generalize v3.alloc (.cells #[Fv b, Fv 0] 28) = Wv at *
  have HGv : Hid (w.heap.size ≤ v3.heap.size) := hbw.size
  replace hbw := Below.on hbw hbn
  clear hbn
  generalize v3.heap.size = gv at *
  have Xv := Xv0
  clear Xv0
  obtain ⟨cv0, cv1, fv0, fv1⟩ := Xv.out
  have hnev := Xv.out.lt
  go_wp2_with fail
  clear cv0 cv1 fv0 fv1 hnev
  have HF : Hid (Fin64 b) := ⟨HL.out, by have := HY.out; omega⟩
  refine (beside22 (ddf_of22 HF.out) _ (TB.out.below hbw)).mono ?_
  rintro e v4 ⟨rfl, hb4⟩
  replace Xv : Hid _ := Xv.out.below hb4
  replace hbw := Below.on hbw hb4
  clear hb4
  obtain ⟨r0, hr0, hr1, hr2⟩ := sub_same HF.out
  obtain ⟨P, hP, hP1, hP2⟩ := mul_c52 HY.out.2.1
  have hsub : ∀ w, (binOp .sub 25 (Fv b) (Fv b)).run Tryz.prog w = .ok (Fv r0) w := fun w => run_float_arith w .sub 25 .f64 b b r0 hr0
  have hmul : ∀ w, (binOp .mul 25 (Fv y) (Fv 4372995238176751616)).run Tryz.prog w = .ok (Fv P) w := fun w => run_float_arith w .mul 25 .f64 y 4372995238176751616 P hP
  have M1 := mabs r0 hr1
  rw [hr2] at M1
  have M2 := mabs b HL.out
  rw [← HY.out.1] at M2
  have ho := ord_0 hP1 hP2
  clear hr0 hr1 hr2 hP hP1 hP2
  obtain ⟨cv0, cv1, fv0, fv1⟩ := Xv.out
  have hnev := Xv.out.lt
  go_wp2_with fail
  clear cv0 cv1 fv0 fv1 hnev
  refine (M1 _).mono ?_
  rintro e v9 ⟨rfl, hw⟩
  obtain rfl := hw.symm
  clear hw
  go_wp2_with fail
  refine (M2 _).mono ?_
  rintro e v9 ⟨rfl, hw⟩
  obtain rfl := hw.symm
  clear hw
  rcases ho with ho | ho
  · go_wp2_with fail
    go_ret
    exact ⟨by first | rfl | simp, hbw⟩
  · go_wp2_with fail
    go_ret
    exact ⟨by first | rfl | simp, hbw⟩
end Go.Proofs.YthobkfkeaealhaaGreatDoor
