import Derived.Test.YtfofoookdlaipaaGreatDoorJ21
import Derived.Test.YtfofoookdlaipaaGreatDoorJ16
import Derived.Test.YtfofoookdlaipaaGreatDoorJ20
import Derived.Test.YtfofoookdlaipaaGreatDoorJ10
import Derived.Test.YtfofoookdlaipaaGreatDoorJ6
import Derived.Test.YtfofoookdlaipaaGreatDoorBb3
import Derived.Test.YtfofoookdlaipaaGreatDoorJ11
namespace Go.Proofs.YtfofoookdlaipaaGreatDoor
open Go.RowKit Go.Shelf

theorem ZN.nil (w : World) : ZN w false none 0 0 0 := ⟨⟨[], ⟨rfl, Nat.le_refl _, by unfold maxLen; omega, Dig.nil _, .inl rfl⟩, Nf.nil _, by decide⟩, rfl⟩
set_option maxRecDepth 20000 in
set_option maxHeartbeats 8000000 in
theorem ssize_p {p : Option Addr} {m c : Nat} {w : World} {e : Int} {a : Option Addr} {x : Int} (_h : DN w false p m c e x) :
    Calls Tryz.prog 17 #[.pointer a, DV false p m c e] w fun en w' => en = .returned (DV false p m c e) ∧ Below w.heap.size w w' := by
  clear _h
  go_enter Tryz.func17, Tryz.ntmps17
  go_wp2_with fail
  refine bodyPost_ret (v := DV false p m c e) (by rw [results_cell1 rfl]; go_simp) rfl ⟨rfl, ?_⟩
  first | exact below2 w _ _ | exact below1 w _
set_option maxRecDepth 20000 in
set_option maxHeartbeats 8000000 in
theorem ssize_n {p : Option Addr} {m c : Nat} {w : World} {e : Int} {a : Option Addr} {x : Int} (h : DN w true p m c e x) :
    Calls Tryz.prog 17 #[.pointer a, DV true p m c e] w fun en w' => ∃ s1 p1 m1, en = .returned (DV s1 p1 m1 m1 e) ∧ DO w.heap.size w' s1 p1 m1 e (-x) ∧ Below w.heap.size w w' := by
  have A : Hid (DN w true p m c e x) := h
  clear h
  go_enter Tryz.func17, Tryz.ntmps17
  go_wp2_with fail
  obtain ⟨W0, hW0⟩ : ∃ W0, W0 = ((w.alloc (.cells #[.bool true, .slice p m c, .int .i64 e] 34)).alloc (.cells #[.bool false, .slice none 0 0, .int .i64 0] 34)) := ⟨_, rfl⟩
  have Xd : Hid (B3q W0 (w.heap.size) (.bool true) (.slice p m c) (.int .i64 e)) := by rw [hW0]; exact ⟨by go_simp, by go_simp, by go_simp, by go_simp, by go_simp, by go_simp⟩
  have Xr : Hid (B3q W0 (w.heap.size + 1) (.bool false) (.slice none 0 0) (.int .i64 0)) := by rw [hW0]; exact ⟨by go_simp, by go_simp, by go_simp, by go_simp, by go_simp, by go_simp⟩
  have hb0 : Below w.heap.size w W0 := by rw [hW0]; exact below2 w _ _
  rw [← hW0]
  clear hW0
  have hbw : Below w.heap.size w w := Below.refl _ _
  obtain ⟨gr, hgr⟩ : ∃ g, g = w.heap.size + 1 := ⟨_, rfl⟩
  have HGr : Hid (w.heap.size ≤ gr) := by rw [hgr]; show _ ≤ _; omega
  rw [← hgr] at Xr
  try rw [← hgr]
  obtain ⟨gd, hgd⟩ : ∃ g, g = w.heap.size := ⟨_, rfl⟩
  have HGd : Hid (w.heap.size ≤ gd) := by rw [hgd]; show _ ≤ _; omega
  rw [← hgd] at Xd
  try rw [← hgd]
  have HGD : Hid (gd ≠ gr ∧ gr ≠ gd) := by rw [hgd, hgr]; exact ⟨by omega, by omega⟩
  clear hgd hgr
  replace hbw := Below.on hbw hb0
  clear hb0
  have HRL : Hid (gr < W0.heap.size ∧ w.heap.size ≤ W0.heap.size) := ⟨Xr.out.lt, hbw.size⟩
  refine (dneg (A.out.below hbw)).mono ?_
  rintro e9 v1 ⟨v, rfl, hv, hf, hb1⟩
  obtain ⟨s1, p1, m1, rfl, hd1⟩ := DO.of hv hf
  clear hv hf
  replace Xd : Hid _ := Xd.out.below hb1
  replace Xr : Hid _ := Xr.out.below hb1
  replace hbw := Below.on hbw hb1
  clear hb1
  have D1 : Hid (DO W0.heap.size v1 s1 p1 m1 e (-x)) := hd1
  clear hd1
  go_wp2_with fail
  refine (stake).mono ?_
  rintro e v2 ⟨rfl, hb2⟩
  replace Xd : Hid _ := Xd.out.below hb2
  replace Xr : Hid _ := Xr.out.below hb2
  replace D1 : Hid (DO W0.heap.size v2 s1 p1 m1 e (-x)) := D1.out.below hb2
  replace hbw := Below.on hbw hb2
  clear hb2
  obtain ⟨cr0, cr1, cr2, fr0, fr1, fr2⟩ := Xr.out
  have hner : gr < v2.heap.size := World.block_lt_of_cell? v2 _ cr0
  go_wp2_with fail
  refine bodyPost_ret (v := DV s1 p1 m1 m1 e) (by rw [results_cell1 rfl]; go_simp) rfl ⟨s1, p1, m1, rfl, ?_, ?_⟩
  · exact ((((D1.out.set _ _ _ HRL.out.1).set _ _ _ HRL.out.1).set _ _ _ HRL.out.1).mono HRL.out.2)
  · exact (bSet (bSet (bSet hbw _ _ _ HGr.out) _ _ _ HGr.out) _ _ _ HGr.out)
theorem wide_ex {hi : Int} {lo r : Nat} (h1 : -9223372036854775808 ≤ hi ∧ hi ≤ 9223372036854775807) (h2 : lo < B64) (h3 : r < 2600) : ∃ zd ed, DB zd ed 128 1430 ∧ dv zd ed = dv (hi * 2 ^ 64 + (lo : Int)) ((r : Int) - 1300) := by
  rw [B64_eq] at h2
  obtain ⟨z, hz⟩ : ∃ z : Int, z = hi * 2 ^ 64 + (lo : Int) := ⟨_, rfl⟩
  rw [← hz]
  have h64 : (2 : Int) ^ 64 = 18446744073709551616 := by decide
  rw [h64] at hz
  have hb : z.natAbs < 2 ^ 128 := by
    have : (2 : Nat) ^ 128 = 340282366920938463463374607431768211456 := by decide
    rw [this]
    omega
  by_cases h0 : z = 0
  · exact ⟨0, 0, ⟨.inl ⟨rfl, rfl⟩, by decide, by decide, by decide⟩, by rw [h0, dv_zero, dv_zero]⟩
  · obtain ⟨zo, eo, g1, g2, _, g4, g5, g6⟩ := form_ex (z := z) (e := (r : Int) - 1300) (L := 128) h0 (by omega) (by omega) (by omega)
    exact ⟨zo, eo, ⟨g1, by omega, by omega, by omega⟩, g2⟩
set_option maxRecDepth 20000 in
set_option maxHeartbeats 8000000 in
theorem wide_z {w : World} {a : Option Addr} (hi : Int) (lo : Nat) (ex : Int) (h1 : -9223372036854775808 ≤ hi ∧ hi ≤ 9223372036854775807) (h2 : lo < B64) (h3 : lo = 0) (hT : Tab w) :
    Calls Tryz.prog 11 #[.pointer a, .int .i64 hi, U lo, .int .i64 ex] w fun en w' => ∃ r zd ed s1 p1 m1, (r : Nat) < 2600 ∧ en = .returned (DV s1 p1 m1 m1 ed) ∧ DO w.heap.size w' s1 p1 m1 ed zd ∧ DB zd ed 128 1430 ∧ dv zd ed = dv (hi * 2 ^ 64 + (lo : Int)) ((r : Int) - 1300) ∧ Below w.heap.size w w' := by
  have TB : Hid (Tab w) := hT
  have HH1 : Hid ((-9223372036854775808 ≤ hi ∧ hi ≤ 9223372036854775807) ∧ lo < B64 ∧ (lo = 0)) := ⟨h1, h2, h3⟩
  have k1 : decide ((0 : Int) < (lo : Int)) = false := decide_eq_false (by omega)
  have HLM2 : Hid ((hi * 2 ^ 64 + (lo : Int)).natAbs < LIM) := by
    refine lt_LIM (L := 128) ?_ (by decide)
    have h64 : (2 : Int) ^ 64 = 18446744073709551616 := by decide
    have : (2 : Nat) ^ 128 = 340282366920938463463374607431768211456 := by decide
    rw [B64_eq] at h2
    rw [h64, this]
    omega
  have HLM : Hid ((hi * 2 ^ 64).natAbs < LIM) := by
    refine lt_LIM (L := 128) ?_ (by decide)
    have h64 : (2 : Int) ^ 64 = 18446744073709551616 := by decide
    have : (2 : Nat) ^ 128 = 340282366920938463463374607431768211456 := by decide
    rw [h64, this]
    omega
  subst h3
  clear h1 h2 hT
  go_enter Tryz.func11, Tryz.ntmps11
  go_wp2_with fail
  obtain ⟨W0, hW0⟩ : ∃ W0, W0 = (w.alloc (.cells #[.bool false, .slice none 0 0, .int .i64 0] 34)) := ⟨_, rfl⟩
  have Xr : Hid (B3q W0 (w.heap.size) (.bool false) (.slice none 0 0) (.int .i64 0)) := by rw [hW0]; exact ⟨by go_simp, by go_simp, by go_simp, by go_simp, by go_simp, by go_simp⟩
  have hb0 : Below w.heap.size w W0 := by rw [hW0]; exact below1 w _
  rw [← hW0]
  clear hW0
  have hbw : Below w.heap.size w w := Below.refl _ _
  obtain ⟨gr, hgr⟩ : ∃ g, g = w.heap.size := ⟨_, rfl⟩
  have HGr : Hid (w.heap.size ≤ gr) := by rw [hgr]; show _ ≤ _; omega
  rw [← hgr] at Xr
  try rw [← hgr]
  clear hgr
  replace hbw := Below.on hbw hb0
  clear hb0
  refine (zof hi _ HH1.out.1.1 HH1.out.1.2).mono ?_
  rintro e9 v1 ⟨s1, p1, m1, rfl, hz, hb1⟩
  replace Xr : Hid _ := Xr.out.below hb1
  replace hbw := Below.on hbw hb1
  clear hb1
  have Z1 : Hid (ZN v1 s1 p1 m1 m1 hi) := hz
  clear hz
  go_wp2_with fail
  refine (zshl Z1.out 64 (by decide)).mono ?_
  rintro e9 v2 ⟨ha, hb2⟩
  obtain ⟨s2, p2, m2, rfl, hz⟩ := ha.got HLM.out
  clear ha
  replace Xr : Hid _ := Xr.out.below hb2
  replace Z1 : Hid _ := Z1.out.below hb2
  replace hbw := Below.on hbw hb2
  clear hb2
  have Z2 : Hid (ZN v2 s2 p2 m2 m2 (hi * 2 ^ 64)) := hz
  clear hz
  clear Z1
  go_wp2_with fail
  have Xm0 : Hid (Box (v2.alloc (.cells #[.bool s2, .slice p2 m2 m2] 32)) v2.heap.size (.bool s2) (.slice p2 m2 m2)) := Box.new v2 _ _ _
  have hbn : Below v2.heap.size v2 (v2.alloc (.cells #[.bool s2, .slice p2 m2 m2] 32)) := below1 v2 _
  generalize v2.alloc (.cells #[.bool s2, .slice p2 m2 m2] 32) = Wm at *
  have HGm : Hid (w.heap.size ≤ v2.heap.size) := hbw.size
  replace Xr : Hid _ := Xr.out.below hbn
  replace Z2 : Hid _ := Z2.out.below hbn
  replace hbw := Below.on hbw hbn
  clear hbn
  generalize v2.heap.size = gm at *
  have Xm := Xm0
  clear Xm0
  refine (zadd Z2.out (ZN.nil Wm)).mono ?_
  rintro e9 v3 ⟨ha, hb3⟩
  obtain ⟨s3, p3, m3, rfl, hz⟩ := ha.got (by rw [Int.add_zero]; exact HLM.out)
  rw [Int.add_zero] at hz
  clear ha
  replace Xr : Hid _ := Xr.out.below hb3
  replace Xm : Hid _ := Xm.out.below hb3
  replace Z2 : Hid _ := Z2.out.below hb3
  replace hbw := Below.on hbw hb3
  clear hb3
  have Z3 : Hid (ZN v3 s3 p3 m3 m3 (hi * 2 ^ 64)) := hz
  clear hz
  clear Z2
  obtain ⟨cm0, cm1, fm0, fm1⟩ := Xm.out
  have hnem := Xm.out.lt
  go_wp2_with fail
  clear cm0 cm1 fm0 fm1 hnem
  have HDrt : Hid (gr ≠ v3.heap.size) := Nat.ne_of_lt Xr.out.lt
  have Xt0 : Hid (Box (v3.alloc (.cells #[.bool s3, .slice p3 m3 m3] 32)) v3.heap.size (.bool s3) (.slice p3 m3 m3)) := Box.new v3 _ _ _
  have hbn : Below v3.heap.size v3 (v3.alloc (.cells #[.bool s3, .slice p3 m3 m3] 32)) := below1 v3 _
  generalize v3.alloc (.cells #[.bool s3, .slice p3 m3 m3] 32) = Wt at *
  have HGt : Hid (w.heap.size ≤ v3.heap.size) := hbw.size
  replace Xr : Hid _ := Xr.out.below hbn
  replace Xm : Hid _ := Xm.out.below hbn
  replace Z3 : Hid _ := Z3.out.below hbn
  replace hbw := Below.on hbw hbn
  clear hbn
  generalize v3.heap.size = gt at *
  have Xt := Xt0
  clear Xt0
  obtain ⟨xw, hxw⟩ : ∃ x : Int, x = IntKind.i64.wrap (ex + 1300) := ⟨_, rfl⟩
  have HXW : Hid (-9223372036854775808 ≤ xw ∧ xw ≤ 9223372036854775807) := by rw [hxw]; show _ ∧ _; simp only [IntKind.wrap, IntKind.signed, IntKind.bits]; simp; omega
  have a1 : IntKind.i64.wrap (ex + 1300) = xw := hxw.symm
  have a2 : wrap64 (ex + 1300) = xw := by rw [hxw, IntKind.wrap_i64]; simp only [wrap64]
  clear hxw
  obtain ⟨W5, hW5⟩ : ∃ W1, W1 = Wt.drew := ⟨_, rfl⟩
  have hbd : Below Wt.heap.size Wt W5 := by rw [hW5]; exact bDrew1 (Below.refl _ _)
  replace Xr : Hid _ := Xr.out.below hbd
  replace Xm : Hid _ := Xm.out.below hbd
  replace Xt : Hid _ := Xt.out.below hbd
  replace Z3 : Hid _ := Z3.out.below hbd
  replace hbw := Below.on hbw hbd
  clear hbd
  have HJ : Hid ((fun W' : World => W'.cell? ⟨gt, 0, none⟩ = some (.bool s3) ∧ W'.cell? ⟨gt, 1, none⟩ = some (.slice p3 m3 m3)) W5) := ⟨Xt.out.c0, Xt.out.c1⟩
  refine wp_region_J (fun W' => W'.cell? ⟨gt, 0, none⟩ = some (.bool s3) ∧ W'.cell? ⟨gt, 1, none⟩ = some (.slice p3 m3 m3)) (by kernel_rfl) ?_
  rw [← hW5]
  clear hW5
  refine wpJ_take (i := 0) (v := ?v1x0) rfl (by kernel_rfl) (by kernel_rfl) (by kernel_rfl) (fun _ _ _ h => h) (by kernel_rfl) ?hy1x0 HJ.out ?rest1x0
  case hy1x0 => (intro W' hJ; obtain ⟨j0, j1⟩ := hJ; go_simp; first | done | with_reducible rfl)
  refine wpJ_take (i := 1) (v := ?v2x1) rfl (by kernel_rfl) (by kernel_rfl) (by kernel_rfl) (fun _ _ _ h => h) (by kernel_rfl) ?hy2x1 HJ.out ?rest2x1
  case hy2x1 => (intro W' hJ; obtain ⟨j0, j1⟩ := hJ; go_simp; first | done | with_reducible rfl)
  refine wpJ_take (i := 2) (v := ?v3x2) rfl (by kernel_rfl) (by kernel_rfl) (by kernel_rfl) (fun _ _ _ h => h) (by kernel_rfl) ?hy3x2 HJ.out ?rest3x2
  case hy3x2 => (intro W' hJ; obtain ⟨j0, j1⟩ := hJ; go_simp; first | done | with_reducible rfl)
  refine wpJ_take (i := 3) (v := ?v4x3) rfl (by kernel_rfl) (by kernel_rfl) (by kernel_rfl) (fun _ _ _ h => h) (by kernel_rfl) ?hy4x3 HJ.out ?rest4x3
  case hy4x3 => (intro W' hJ; obtain ⟨j0, j1⟩ := hJ; go_simp; first | done | with_reducible rfl)
  refine wpJ_one (i := 4) (by kernel_rfl) rfl (by kernel_rfl) (fun KJ hK => ?_)
  go_simp
  refine (among_any xw 2600 _ HXW.out (by decide)).mono ?_
  rintro e9 v5 ⟨r, rfl, hr, hw⟩
  obtain rfl := hw.symm
  clear hw
  have HRR : Hid (r < 2600) := by show r < 2600; omega
  clear hr
  obtain ⟨zd, ed, hdb, hdv⟩ := wide_ex (hi := hi) (lo := 0) (r := r) HH1.out.1 (by decide) HRR.out
  have HDB : Hid (DB zd ed 128 1430 ∧ dv zd ed = dv (hi * 2 ^ 64) ((r : Int) - 1300)) := ⟨hdb, by rw [hdv]; congr 1; omega⟩
  clear hdb hdv
  obtain ⟨er, her⟩ : ∃ er : Int, er = (r : Int) - 1300 := ⟨_, rfl⟩
  have a3 : IntKind.i64.wrap ((r : Int) - 1300) = er := by have := HRR.out; rw [her]; simp [IntKind.wrap, IntKind.signed, IntKind.bits]; omega
  have a4 : wrap64 ((r : Int) - 1300) = er := by have := HRR.out; rw [her]; simp only [wrap64]; omega
  have HER : Hid (er = (r : Int) - 1300 ∧ -3145728 ≤ er ∧ er ≤ 3145728) := by have := HRR.out; exact ⟨her, by omega, by omega⟩
  clear her
  clear HJ
  have HJ : Hid ((fun W' : World => W'.cell? ⟨gt, 0, none⟩ = some (.bool s3) ∧ W'.cell? ⟨gt, 1, none⟩ = some (.slice p3 m3 m3)) W5) := ⟨Xt.out.c0, Xt.out.c1⟩
  refine hK _ _ HJ.out ?_
  clear hK
  refine wpJ_take (i := 5) (v := ?v5x5) rfl (by kernel_rfl) (by kernel_rfl) (by kernel_rfl) (fun _ _ _ h => h) (by kernel_rfl) ?hy5x5 HJ.out ?rest5x5
  case hy5x5 => (intro W' hJ; obtain ⟨j0, j1⟩ := hJ; go_simp; first | done | with_reducible rfl)
  refine wpJ_one (i := 6) (by kernel_rfl) rfl (by kernel_rfl) (fun KJ hK => ?_)
  go_simp
  have HRL : Hid (gr < W5.heap.size ∧ w.heap.size ≤ W5.heap.size) := ⟨Xr.out.lt, hbw.size⟩
  refine (makep Z3.out HER.out.2 (TB.out.below hbw)).mono ?_
  rintro e9 v6 ⟨hv, hb6⟩
  obtain ⟨v, rfl, hv2⟩ := hv.form HDB.out.1.fm (by rw [HDB.out.2, HER.out.1])
  obtain ⟨s6, p6, m6, rfl, hd6⟩ := DO.of hv2 HDB.out.1.fm
  clear hv hv2
  replace Xr : Hid _ := Xr.out.below hb6
  replace Xm : Hid _ := Xm.out.below hb6
  replace Xt : Hid _ := Xt.out.below hb6
  replace Z3 : Hid _ := Z3.out.below hb6
  replace hbw := Below.on hbw hb6
  clear hb6
  have D6 : Hid (DO W5.heap.size v6 s6 p6 m6 ed zd) := hd6
  clear hd6
  clear HJ
  have HJ : Hid ((fun W' : World => W'.cell? ⟨gt, 0, none⟩ = some (.bool s3) ∧ W'.cell? ⟨gt, 1, none⟩ = some (.slice p3 m3 m3)) v6) := ⟨Xt.out.c0, Xt.out.c1⟩
  refine hK _ _ HJ.out ?_
  clear hK
  refine wpJ_take (i := 7) (v := ?v6x7) rfl (by kernel_rfl) (by kernel_rfl) (by kernel_rfl) (fun _ _ _ h => h) (by kernel_rfl) ?hy6x7 HJ.out ?rest6x7
  case hy6x7 => (intro W' hJ; obtain ⟨j0, j1⟩ := hJ; go_simp; first | done | with_reducible rfl)
  refine wpJ_take (i := 8) (v := ?v7x8) rfl (by kernel_rfl) (by kernel_rfl) (by kernel_rfl) (fun _ _ _ h => h) (by kernel_rfl) ?hy7x8 HJ.out ?rest7x8
  case hy7x8 => (intro W' hJ; obtain ⟨j0, j1⟩ := hJ; go_simp; first | done | with_reducible rfl)
  refine wpJ_one (i := 9) (by kernel_rfl) rfl (by kernel_rfl) (fun KJ hK => ?_)
  go_simp
  refine (stake).mono ?_
  rintro e v7 ⟨rfl, hb7⟩
  replace Xr : Hid _ := Xr.out.below hb7
  replace Xm : Hid _ := Xm.out.below hb7
  replace Xt : Hid _ := Xt.out.below hb7
  replace Z3 : Hid _ := Z3.out.below hb7
  replace D6 : Hid (DO W5.heap.size v7 s6 p6 m6 ed zd) := D6.out.below hb7
  replace hbw := Below.on hbw hb7
  clear hb7
  refine hK _ _ ⟨Xt.out.c0, Xt.out.c1⟩ ?_
  clear hK
  obtain ⟨cr0, cr1, cr2, fr0, fr1, fr2⟩ := Xr.out
  have hner : gr < v7.heap.size := World.block_lt_of_cell? v7 _ cr0
  obtain ⟨ct0, ct1, ft0, ft1⟩ := Xt.out
  have hnet := Xt.out.lt
  have qa := HDrt.out
  have qb : gt ≠ gr := fun h => qa h.symm
  refine wpJ_one (i := 10) (by kernel_rfl) rfl (by kernel_rfl) (fun KJ hK => ?_)
  go_simp
  have HJ2 : Hid ((fun W' : World => W'.cell? ⟨gt, 0, none⟩ = some (.bool s3) ∧ W'.cell? ⟨gt, 1, none⟩ = some (.slice p3 m3 m3)) (((v7.setCell ⟨gr, 0, none⟩ (.bool s6)).setCell ⟨gr, 1, none⟩ (.slice p6 m6 m6)).setCell ⟨gr, 2, none⟩ (.int .i64 ed))) := ⟨by go_simp, by go_simp⟩
  refine hK _ _ HJ2.out ?_
  clear hK HJ
  have HJ := HJ2
  clear HJ2
  refine wpJ_done (by kernel_rfl) ?_ _
  clear HJ
  go_wp2_with fail
  refine bodyPost_ret (v := DV s6 p6 m6 m6 ed) (by rw [results_cell1 rfl]; go_simp) rfl ⟨r, zd, ed, s6, p6, m6, HRR.out, rfl, ?_, HDB.out.1, ?_, ?_⟩
  · exact (((D6.out.set _ _ _ HRL.out.1).set _ _ _ HRL.out.1).set _ _ _ HRL.out.1).mono HRL.out.2
  · rw [HDB.out.2]; congr 1; omega
  · exact (bSet (bSet (bSet hbw _ _ _ HGr.out) _ _ _ HGr.out) _ _ _ HGr.out)
set_option maxRecDepth 20000 in
set_option maxHeartbeats 8000000 in
theorem wide_l {w : World} {a : Option Addr} (hi : Int) (lo : Nat) (ex : Int) (h1 : -9223372036854775808 ≤ hi ∧ hi ≤ 9223372036854775807) (h2 : lo < B64) (h3 : lo ≠ 0) (hT : Tab w) :
    Calls Tryz.prog 11 #[.pointer a, .int .i64 hi, U lo, .int .i64 ex] w fun en w' => ∃ r zd ed s1 p1 m1, (r : Nat) < 2600 ∧ en = .returned (DV s1 p1 m1 m1 ed) ∧ DO w.heap.size w' s1 p1 m1 ed zd ∧ DB zd ed 128 1430 ∧ dv zd ed = dv (hi * 2 ^ 64 + (lo : Int)) ((r : Int) - 1300) ∧ Below w.heap.size w w' := by
  have TB : Hid (Tab w) := hT
  have HH1 : Hid ((-9223372036854775808 ≤ hi ∧ hi ≤ 9223372036854775807) ∧ lo < B64 ∧ (lo ≠ 0)) := ⟨h1, h2, h3⟩
  have k1 : decide ((0 : Int) < (lo : Int)) = true := decide_eq_true (by omega)
  have HLM2 : Hid ((hi * 2 ^ 64 + (lo : Int)).natAbs < LIM) := by
    refine lt_LIM (L := 128) ?_ (by decide)
    have h64 : (2 : Int) ^ 64 = 18446744073709551616 := by decide
    have : (2 : Nat) ^ 128 = 340282366920938463463374607431768211456 := by decide
    rw [B64_eq] at h2
    rw [h64, this]
    omega
  have HLM : Hid ((hi * 2 ^ 64).natAbs < LIM) := by
    refine lt_LIM (L := 128) ?_ (by decide)
    have h64 : (2 : Int) ^ 64 = 18446744073709551616 := by decide
    have : (2 : Nat) ^ 128 = 340282366920938463463374607431768211456 := by decide
    rw [h64, this]
    omega
  have k2 : 0 < lo := by omega
  clear h3
  clear h1 h2 hT
  go_enter Tryz.func11, Tryz.ntmps11
  go_wp2_with fail
  obtain ⟨W0, hW0⟩ : ∃ W0, W0 = (w.alloc (.cells #[.bool false, .slice none 0 0, .int .i64 0] 34)) := ⟨_, rfl⟩
  have Xr : Hid (B3q W0 (w.heap.size) (.bool false) (.slice none 0 0) (.int .i64 0)) := by rw [hW0]; exact ⟨by go_simp, by go_simp, by go_simp, by go_simp, by go_simp, by go_simp⟩
  have hb0 : Below w.heap.size w W0 := by rw [hW0]; exact below1 w _
  rw [← hW0]
  clear hW0
  have hbw : Below w.heap.size w w := Below.refl _ _
  obtain ⟨gr, hgr⟩ : ∃ g, g = w.heap.size := ⟨_, rfl⟩
  have HGr : Hid (w.heap.size ≤ gr) := by rw [hgr]; show _ ≤ _; omega
  rw [← hgr] at Xr
  try rw [← hgr]
  clear hgr
  replace hbw := Below.on hbw hb0
  clear hb0
  refine (zof hi _ HH1.out.1.1 HH1.out.1.2).mono ?_
  rintro e9 v1 ⟨s1, p1, m1, rfl, hz, hb1⟩
  replace Xr : Hid _ := Xr.out.below hb1
  replace hbw := Below.on hbw hb1
  clear hb1
  have Z1 : Hid (ZN v1 s1 p1 m1 m1 hi) := hz
  clear hz
  go_wp2_with fail
  refine (zshl Z1.out 64 (by decide)).mono ?_
  rintro e9 v2 ⟨ha, hb2⟩
  obtain ⟨s2, p2, m2, rfl, hz⟩ := ha.got HLM.out
  clear ha
  replace Xr : Hid _ := Xr.out.below hb2
  replace Z1 : Hid _ := Z1.out.below hb2
  replace hbw := Below.on hbw hb2
  clear hb2
  have Z2 : Hid (ZN v2 s2 p2 m2 m2 (hi * 2 ^ 64)) := hz
  clear hz
  clear Z1
  go_wp2_with fail
  rw [show v2.heap.size + 1 = (v2.alloc (.cells #[.bool s2, .slice p2 m2 m2] 32)).heap.size from by simp]
  have Xm0 : Hid (Box (v2.alloc (.cells #[.bool s2, .slice p2 m2 m2] 32)) v2.heap.size (.bool s2) (.slice p2 m2 m2)) := Box.new v2 _ _ _
  have hbn : Below v2.heap.size v2 (v2.alloc (.cells #[.bool s2, .slice p2 m2 m2] 32)) := below1 v2 _
  generalize v2.alloc (.cells #[.bool s2, .slice p2 m2 m2] 32) = Wm at *
  have HGm : Hid (w.heap.size ≤ v2.heap.size) := hbw.size
  replace Xr : Hid _ := Xr.out.below hbn
  replace Z2 : Hid _ := Z2.out.below hbn
  replace hbw := Below.on hbw hbn
  clear hbn
  generalize v2.heap.size = gm at *
  have Xm := Xm0
  clear Xm0
  have hla : At (Wm.alloc (.cells #[U lo] 22)) (some ⟨Wm.heap.size, 0, none⟩) 1 1 [lo] := lit_at Wm _ [lo] 1 rfl rfl (dig1 HH1.out.2.1) (by decide)
  have hbl := below1 Wm (.cells #[U lo] 22)
  generalize Wm.alloc (.cells #[U lo] 22) = Wl at *
  replace Xr : Hid _ := Xr.out.below hbl
  replace Xm : Hid _ := Xm.out.below hbl
  replace Z2 : Hid _ := Z2.out.below hbl
  replace hbw := Below.on hbw hbl
  clear hbl
  generalize Wm.heap.size = gl at *
  have ZL : Hid (ZN Wl false (some ⟨gl, 0, none⟩) 1 1 (lo : Int)) := ⟨⟨[lo], hla, by rw [Int.natAbs_natCast]; exact nf_one HH1.out.2.1 (by omega), by decide⟩, (decide_eq_false (by omega)).symm⟩
  clear hla
  refine (zadd Z2.out ZL.out).mono ?_
  rintro e9 v3 ⟨ha, hb3⟩
  obtain ⟨s3, p3, m3, rfl, hz⟩ := ha.got HLM2.out
  clear ha
  replace Xr : Hid _ := Xr.out.below hb3
  replace Xm : Hid _ := Xm.out.below hb3
  replace Z2 : Hid _ := Z2.out.below hb3
  replace hbw := Below.on hbw hb3
  clear hb3
  have Z3 : Hid (ZN v3 s3 p3 m3 m3 (hi * 2 ^ 64 + (lo : Int))) := hz
  clear hz
  clear Z2
  obtain ⟨cm0, cm1, fm0, fm1⟩ := Xm.out
  have hnem := Xm.out.lt
  go_wp2_with fail
  clear cm0 cm1 fm0 fm1 hnem
  have HDrt : Hid (gr ≠ v3.heap.size) := Nat.ne_of_lt Xr.out.lt
  have Xt0 : Hid (Box (v3.alloc (.cells #[.bool s3, .slice p3 m3 m3] 32)) v3.heap.size (.bool s3) (.slice p3 m3 m3)) := Box.new v3 _ _ _
  have hbn : Below v3.heap.size v3 (v3.alloc (.cells #[.bool s3, .slice p3 m3 m3] 32)) := below1 v3 _
  generalize v3.alloc (.cells #[.bool s3, .slice p3 m3 m3] 32) = Wt at *
  have HGt : Hid (w.heap.size ≤ v3.heap.size) := hbw.size
  replace Xr : Hid _ := Xr.out.below hbn
  replace Xm : Hid _ := Xm.out.below hbn
  replace Z3 : Hid _ := Z3.out.below hbn
  replace hbw := Below.on hbw hbn
  clear hbn
  generalize v3.heap.size = gt at *
  have Xt := Xt0
  clear Xt0
  obtain ⟨xw, hxw⟩ : ∃ x : Int, x = IntKind.i64.wrap (ex + 1300) := ⟨_, rfl⟩
  have HXW : Hid (-9223372036854775808 ≤ xw ∧ xw ≤ 9223372036854775807) := by rw [hxw]; show _ ∧ _; simp only [IntKind.wrap, IntKind.signed, IntKind.bits]; simp; omega
  have a1 : IntKind.i64.wrap (ex + 1300) = xw := hxw.symm
  have a2 : wrap64 (ex + 1300) = xw := by rw [hxw, IntKind.wrap_i64]; simp only [wrap64]
  clear hxw
  obtain ⟨W5, hW5⟩ : ∃ W1, W1 = Wt.drew := ⟨_, rfl⟩
  have hbd : Below Wt.heap.size Wt W5 := by rw [hW5]; exact bDrew1 (Below.refl _ _)
  replace Xr : Hid _ := Xr.out.below hbd
  replace Xm : Hid _ := Xm.out.below hbd
  replace Xt : Hid _ := Xt.out.below hbd
  replace Z3 : Hid _ := Z3.out.below hbd
  replace hbw := Below.on hbw hbd
  clear hbd
  have HJ : Hid ((fun W' : World => W'.cell? ⟨gt, 0, none⟩ = some (.bool s3) ∧ W'.cell? ⟨gt, 1, none⟩ = some (.slice p3 m3 m3)) W5) := ⟨Xt.out.c0, Xt.out.c1⟩
  refine wp_region_J (fun W' => W'.cell? ⟨gt, 0, none⟩ = some (.bool s3) ∧ W'.cell? ⟨gt, 1, none⟩ = some (.slice p3 m3 m3)) (by kernel_rfl) ?_
  rw [← hW5]
  clear hW5
  refine wpJ_take (i := 0) (v := ?v8x0) rfl (by kernel_rfl) (by kernel_rfl) (by kernel_rfl) (fun _ _ _ h => h) (by kernel_rfl) ?hy8x0 HJ.out ?rest8x0
  case hy8x0 => (intro W' hJ; obtain ⟨j0, j1⟩ := hJ; go_simp; first | done | with_reducible rfl)
  refine wpJ_take (i := 1) (v := ?v9x1) rfl (by kernel_rfl) (by kernel_rfl) (by kernel_rfl) (fun _ _ _ h => h) (by kernel_rfl) ?hy9x1 HJ.out ?rest9x1
  case hy9x1 => (intro W' hJ; obtain ⟨j0, j1⟩ := hJ; go_simp; first | done | with_reducible rfl)
  refine wpJ_take (i := 2) (v := ?v10x2) rfl (by kernel_rfl) (by kernel_rfl) (by kernel_rfl) (fun _ _ _ h => h) (by kernel_rfl) ?hy10x2 HJ.out ?rest10x2
  case hy10x2 => (intro W' hJ; obtain ⟨j0, j1⟩ := hJ; go_simp; first | done | with_reducible rfl)
  refine wpJ_take (i := 3) (v := ?v11x3) rfl (by kernel_rfl) (by kernel_rfl) (by kernel_rfl) (fun _ _ _ h => h) (by kernel_rfl) ?hy11x3 HJ.out ?rest11x3
  case hy11x3 => (intro W' hJ; obtain ⟨j0, j1⟩ := hJ; go_simp; first | done | with_reducible rfl)
  refine wpJ_one (i := 4) (by kernel_rfl) rfl (by kernel_rfl) (fun KJ hK => ?_)
  go_simp
  refine (among_any xw 2600 _ HXW.out (by decide)).mono ?_
  rintro e9 v5 ⟨r, rfl, hr, hw⟩
  obtain rfl := hw.symm
  clear hw
  have HRR : Hid (r < 2600) := by show r < 2600; omega
  clear hr
  obtain ⟨zd, ed, hdb, hdv⟩ := wide_ex (hi := hi) (lo := lo) (r := r) HH1.out.1 HH1.out.2.1 HRR.out
  have HDB : Hid (DB zd ed 128 1430 ∧ dv zd ed = dv (hi * 2 ^ 64 + (lo : Int)) ((r : Int) - 1300)) := ⟨hdb, by rw [hdv]⟩
  clear hdb hdv
  obtain ⟨er, her⟩ : ∃ er : Int, er = (r : Int) - 1300 := ⟨_, rfl⟩
  have a3 : IntKind.i64.wrap ((r : Int) - 1300) = er := by have := HRR.out; rw [her]; simp [IntKind.wrap, IntKind.signed, IntKind.bits]; omega
  have a4 : wrap64 ((r : Int) - 1300) = er := by have := HRR.out; rw [her]; simp only [wrap64]; omega
  have HER : Hid (er = (r : Int) - 1300 ∧ -3145728 ≤ er ∧ er ≤ 3145728) := by have := HRR.out; exact ⟨her, by omega, by omega⟩
  clear her
  clear HJ
  have HJ : Hid ((fun W' : World => W'.cell? ⟨gt, 0, none⟩ = some (.bool s3) ∧ W'.cell? ⟨gt, 1, none⟩ = some (.slice p3 m3 m3)) W5) := ⟨Xt.out.c0, Xt.out.c1⟩
  refine hK _ _ HJ.out ?_
  clear hK
  refine wpJ_take (i := 5) (v := ?v12x5) rfl (by kernel_rfl) (by kernel_rfl) (by kernel_rfl) (fun _ _ _ h => h) (by kernel_rfl) ?hy12x5 HJ.out ?rest12x5
  case hy12x5 => (intro W' hJ; obtain ⟨j0, j1⟩ := hJ; go_simp; first | done | with_reducible rfl)
  refine wpJ_one (i := 6) (by kernel_rfl) rfl (by kernel_rfl) (fun KJ hK => ?_)
  go_simp
  have HRL : Hid (gr < W5.heap.size ∧ w.heap.size ≤ W5.heap.size) := ⟨Xr.out.lt, hbw.size⟩
  refine (makep Z3.out HER.out.2 (TB.out.below hbw)).mono ?_
  rintro e9 v6 ⟨hv, hb6⟩
  obtain ⟨v, rfl, hv2⟩ := hv.form HDB.out.1.fm (by rw [HDB.out.2, HER.out.1])
  obtain ⟨s6, p6, m6, rfl, hd6⟩ := DO.of hv2 HDB.out.1.fm
  clear hv hv2
  replace Xr : Hid _ := Xr.out.below hb6
  replace Xm : Hid _ := Xm.out.below hb6
  replace Xt : Hid _ := Xt.out.below hb6
  replace Z3 : Hid _ := Z3.out.below hb6
  replace hbw := Below.on hbw hb6
  clear hb6
  have D6 : Hid (DO W5.heap.size v6 s6 p6 m6 ed zd) := hd6
  clear hd6
  clear HJ
  have HJ : Hid ((fun W' : World => W'.cell? ⟨gt, 0, none⟩ = some (.bool s3) ∧ W'.cell? ⟨gt, 1, none⟩ = some (.slice p3 m3 m3)) v6) := ⟨Xt.out.c0, Xt.out.c1⟩
  refine hK _ _ HJ.out ?_
  clear hK
  refine wpJ_take (i := 7) (v := ?v13x7) rfl (by kernel_rfl) (by kernel_rfl) (by kernel_rfl) (fun _ _ _ h => h) (by kernel_rfl) ?hy13x7 HJ.out ?rest13x7
  case hy13x7 => (intro W' hJ; obtain ⟨j0, j1⟩ := hJ; go_simp; first | done | with_reducible rfl)
  refine wpJ_take (i := 8) (v := ?v14x8) rfl (by kernel_rfl) (by kernel_rfl) (by kernel_rfl) (fun _ _ _ h => h) (by kernel_rfl) ?hy14x8 HJ.out ?rest14x8
  case hy14x8 => (intro W' hJ; obtain ⟨j0, j1⟩ := hJ; go_simp; first | done | with_reducible rfl)
  refine wpJ_one (i := 9) (by kernel_rfl) rfl (by kernel_rfl) (fun KJ hK => ?_)
  go_simp
  refine (stake).mono ?_
  rintro e v7 ⟨rfl, hb7⟩
  replace Xr : Hid _ := Xr.out.below hb7
  replace Xm : Hid _ := Xm.out.below hb7
  replace Xt : Hid _ := Xt.out.below hb7
  replace Z3 : Hid _ := Z3.out.below hb7
  replace D6 : Hid (DO W5.heap.size v7 s6 p6 m6 ed zd) := D6.out.below hb7
  replace hbw := Below.on hbw hb7
  clear hb7
  refine hK _ _ ⟨Xt.out.c0, Xt.out.c1⟩ ?_
  clear hK
  obtain ⟨cr0, cr1, cr2, fr0, fr1, fr2⟩ := Xr.out
  have hner : gr < v7.heap.size := World.block_lt_of_cell? v7 _ cr0
  obtain ⟨ct0, ct1, ft0, ft1⟩ := Xt.out
  have hnet := Xt.out.lt
  have qa := HDrt.out
  have qb : gt ≠ gr := fun h => qa h.symm
  refine wpJ_one (i := 10) (by kernel_rfl) rfl (by kernel_rfl) (fun KJ hK => ?_)
  go_simp
  have HJ2 : Hid ((fun W' : World => W'.cell? ⟨gt, 0, none⟩ = some (.bool s3) ∧ W'.cell? ⟨gt, 1, none⟩ = some (.slice p3 m3 m3)) (((v7.setCell ⟨gr, 0, none⟩ (.bool s6)).setCell ⟨gr, 1, none⟩ (.slice p6 m6 m6)).setCell ⟨gr, 2, none⟩ (.int .i64 ed))) := ⟨by go_simp, by go_simp⟩
  refine hK _ _ HJ2.out ?_
  clear hK HJ
  have HJ := HJ2
  clear HJ2
  refine wpJ_done (by kernel_rfl) ?_ _
  clear HJ
  go_wp2_with fail
  refine bodyPost_ret (v := DV s6 p6 m6 m6 ed) (by rw [results_cell1 rfl]; go_simp) rfl ⟨r, zd, ed, s6, p6, m6, HRR.out, rfl, ?_, HDB.out.1, ?_, ?_⟩
  · exact (((D6.out.set _ _ _ HRL.out.1).set _ _ _ HRL.out.1).set _ _ _ HRL.out.1).mono HRL.out.2
  · rw [HDB.out.2]
  · exact (bSet (bSet (bSet hbw _ _ _ HGr.out) _ _ _ HGr.out) _ _ _ HGr.out)
end Go.Proofs.YtfofoookdlaipaaGreatDoor

namespace Go.Proofs.YtfofoookdlaipaaGreatDoor
open Go.RowKit Go.Shelf

theorem mid_two {H : Nat} {l : Int} (hH : 0 < H) (hl : -4194303 ≤ l) (z : Nat) : 2 * dv (hv H z : Int) (l - 1) = dv (vs H z : Int) l + dv (vs H (z + 1) : Int) l := by
  have e1 : ∀ n : Nat, dv (n : Int) l = 2 * dv (n : Int) (l - 1) := fun n => by
    have := dv_up (x := (n : Int)) (e := l - 1) 1 (by omega)
    rw [show l - 1 + ((1 : Nat) : Int) = l from by omega] at this
    rw [this]
    unfold dv
    rw [show ((2 ^ 1 : Nat) : Int) = 2 from rfl, Int.mul_comm (n : Int) 2, Int.mul_assoc]
  rw [e1, e1, ← Int.mul_add, ← dv_add, vs_next hH]
  unfold hv
  congr 2
  omega
theorem dvs_le {H : Nat} {l : Int} (hH : 0 < H) {a b : Nat} (h : a ≤ b) : dv (vs H a : Int) l ≤ dv (vs H b : Int) l := dv_le l (by have := vs_le hH h; omega)
theorem near_pos {H : Nat} {l : Int} {I Z : Nat} {A : Int} (hH : 0 < H) (hl : -4194303 ≤ l) (h : RNz H l I A Z) (hZ : Z < I) (hA : 0 ≤ A) (s : Bool) (k : Nat) {V U : Int} (hV : V = dv (vs H Z : Int) l) (hU : U = if s then - dv (vs H k : Int) l else dv (vs H k : Int) l) :
    (V - A).natAbs ≤ (U - A).natAbs ∧ ((V - A).natAbs = (U - A).natAbs → V ≠ U → Z % 2 = 0) := by
  have hz0 : dv (vs H 0 : Int) l = 0 := by rw [vs_zero]; exact dv_zero l
  have up : A ≤ dv (hv H Z : Int) (l - 1) := Int.not_lt.1 fun h2 => by have := h.hi Z hZ h2; omega
  have up2 : A = dv (hv H Z : Int) (l - 1) → Z % 2 = 0 := fun h2 => (h.eq Z hZ h2).2
  have m1 := mid_two (l := l) hH hl Z
  have hV0 : 0 ≤ dv (vs H Z : Int) l := by have := dvs_le (l := l) hH (Nat.zero_le Z); omega
  have hK0 : 0 ≤ dv (vs H k : Int) l := by have := dvs_le (l := l) hH (Nat.zero_le k); omega
  have low : Z ≠ 0 → dv (hv H (Z - 1) : Int) (l - 1) ≤ A ∧ (A = dv (hv H (Z - 1) : Int) (l - 1) → Z % 2 = 0) ∧ 2 * dv (hv H (Z - 1) : Int) (l - 1) = dv (vs H (Z - 1) : Int) l + dv (vs H Z : Int) l ∧ 0 ≤ dv (vs H (Z - 1) : Int) l := fun hz => by
    refine ⟨Int.not_lt.1 fun h2 => by have := h.lo (Z - 1) (by omega) h2; omega, fun h2 => (h.eq (Z - 1) (by omega) h2).2, ?_, ?_⟩
    · have := mid_two (l := l) hH hl (Z - 1)
      rwa [show Z - 1 + 1 = Z from by omega] at this
    · have := dvs_le (l := l) hH (Nat.zero_le (Z - 1)); omega
  cases s
  · rw [if_neg (by simp)] at hU
    rcases Nat.lt_trichotomy k Z with hk | hk | hk
    · obtain ⟨a1, a2, a3, _⟩ := low (by omega)
      have a4 := dvs_le (l := l) hH (show k ≤ Z - 1 by omega)
      have a5 := dvs_le (l := l) hH (show k ≤ Z by omega)
      exact ⟨by omega, fun h2 h3 => a2 (by omega)⟩
    · subst hk
      exact ⟨by omega, fun _ h3 => absurd (hV.trans hU.symm) h3⟩
    · have a4 := dvs_le (l := l) hH (show Z + 1 ≤ k by omega)
      have a5 := dvs_le (l := l) hH (show Z ≤ k by omega)
      exact ⟨by omega, fun h2 h3 => up2 (by omega)⟩
  · rw [if_pos rfl] at hU
    by_cases hz : Z = 0
    · subst hz
      exact ⟨by omega, fun _ _ => rfl⟩
    · obtain ⟨a1, a2, a3, a4⟩ := low hz
      exact ⟨by omega, fun h2 h3 => a2 (by omega)⟩
theorem near_all {f p m l : Int} {S I H sd : Nat} {Be : Int} (J : Jn f p m l S I H sd Be) {x e : Int} {Z : Nat} (h : RNz H l I (dv x.natAbs e) Z) (hZ : Z < I) (c : Nat) {V U : Int} (hV : V = if x < 0 then - dv (vs H Z : Int) l else dv (vs H Z : Int) l) (hU : U = dv (svS S H c) l) :
    (V - dv x e).natAbs ≤ (U - dv x e).natAbs ∧ ((V - dv x e).natAbs = (U - dv x e).natAbs → V ≠ U → Z % 2 = 0) := by
  have hp := J.jm.pm.hp
  have hlo := J.jm.pm.lo
  have hA : 0 ≤ dv (x.natAbs : Int) e := by rcases dv3 (x.natAbs : Int) e with ⟨h1, _⟩ | ⟨_, h1⟩ | ⟨_, h1⟩ <;> omega
  rw [svS_eq] at hU
  have hU2 : U = if S ≤ c then - dv (vs H (c % S) : Int) l else dv (vs H (c % S) : Int) l := by
    rw [hU]; split
    · rw [dv_neg]
    · rfl
  rw [dv_abs x e]
  by_cases hx : x < 0
  · rw [if_pos hx] at hV ⊢
    have := near_pos (V := -V) (U := -U) hp (by omega) h hZ hA (!decide (S ≤ c)) (c % S) (by omega) (by
      rw [hU2]
      by_cases hs : S ≤ c
      · rw [if_pos hs, decide_eq_true hs, if_neg (by simp)]; omega
      · rw [if_neg hs, decide_eq_false hs, if_pos (by simp)])
    refine ⟨by omega, fun h2 h3 => this.2 (by omega) (by omega)⟩
  · rw [if_neg hx] at hV ⊢
    exact near_pos hp (by omega) h hZ hA (decide (S ≤ c)) (c % S) hV (by
      rw [hU2]
      by_cases hs : S ≤ c
      · rw [if_pos hs, decide_eq_true hs, if_pos rfl]
      · rw [if_neg hs, decide_eq_false hs, if_neg (by simp)])
end Go.Proofs.YtfofoookdlaipaaGreatDoor

namespace Go.Proofs.YtfofoookdlaipaaGreatDoor
open Go.RowKit Go.Shelf

theorem dv_natAbs (x e : Int) : dv (x.natAbs : Int) e = ((dv x e).natAbs : Int) := by
  rcases dv3 x e with ⟨h1, h2⟩ | ⟨h1, h2⟩ | ⟨h1, h2⟩
  · rw [show (x.natAbs : Int) = -x from by omega, dv_neg]; omega
  · rw [h1]; rw [h1] at h2; rw [h2]; exact dv_zero e
  · rw [show (x.natAbs : Int) = x from by omega]; omega
theorem ssize {p : Option Addr} {m c : Nat} {w : World} {e : Int} {a : Option Addr} {x : Int} {s : Bool} (h : DN w s p m c e x) :
    Calls Tryz.prog 17 #[.pointer a, DV s p m c e] w fun en w' => ∃ s1 p1 m1 c1, en = .returned (DV s1 p1 m1 c1 e) ∧ DN w' s1 p1 m1 c1 e (x.natAbs : Int) ∧ Below w.heap.size w w' := by
  cases s
  · have hx : ¬ x < 0 := of_decide_eq_false h.zn.sg.symm
    refine (ssize_p h).mono fun en w' ⟨h1, h2⟩ => ⟨false, p, m, c, h1, ?_, h2⟩
    rw [show (x.natAbs : Int) = x from by omega]
    exact h.below h2
  · have hx : x < 0 := of_decide_eq_true h.zn.sg.symm
    refine (ssize_n h).mono fun en w' ⟨s1, p1, m1, h1, h2, h3⟩ => ⟨s1, p1, m1, m1, h1, ?_, h3⟩
    rw [show (x.natAbs : Int) = -x from by omega]
    exact h2.dn
theorem vf_db {f p m l : Int} {S I H sd : Nat} {Be : Int} (J : Jn f p m l S I H sd Be) {b : Nat} (hr : b % S < I) {zo eo : Int} (hv : VF S H l b zo eo) : DB zo eo 128 1430 := by
  have hp := J.jm.pm.hp
  have h9 := J.jm.pm.h9
  have hlo := J.jm.pm.lo
  have hbq := J.jm.bq _ hr
  have hbu := J.jm.bu
  have hsl := J.jm.sl
  obtain ⟨z1, e1, v1, v2⟩ := vf_ex J.jm.pm hr
  obtain ⟨rfl, rfl⟩ := dv_inj hv.fm v1.fm (hv.v.trans v1.v.symm)
  obtain ⟨q, hq⟩ : ∃ q, q = b % S / H - 1 := ⟨_, rfl⟩
  have hmn : b % S - q * H < 2 * H := by
    have e1 := Nat.div_add_mod (b % S) H
    have e2 := Nat.mod_lt (b % S) hp
    rw [Nat.mul_comm] at e1
    by_cases e3 : b % S / H = 0
    · rw [e3] at e1; omega
    · rw [hq, Nat.sub_mul]; omega
  rw [← hq] at v2 hbq
  obtain ⟨y, hy⟩ : ∃ y : Int, y = (if S ≤ b then -((b % S - q * H : Nat) : Int) else ((b % S - q * H : Nat) : Int)) := ⟨_, rfl⟩
  rw [← hy] at v2
  have hya : y.natAbs ≤ 2 ^ 53 := by
    have : (2 : Nat) ^ 53 = 9007199254740992 := by decide
    rw [hy, this]; split <;> omega
  by_cases h0 : y = 0
  · rw [h0, dv_zero] at v2
    have := dv_eq_zero v2
    rcases hv.fm with ⟨h1, h2⟩ | ⟨h1, _⟩
    · rw [h1, h2]; exact ⟨.inl ⟨rfl, rfl⟩, by decide, by decide, by decide⟩
    · omega
  · obtain ⟨za, ea, g1, g2, _, g4, g5, g6⟩ := form_ex (z := y) (e := l + (q : Int)) (L := 53) h0 (by omega) hya (by omega)
    obtain ⟨rfl, rfl⟩ := dv_inj hv.fm g1 (v2.trans g2.symm)
    have h128 : (2 : Nat) ^ 53 < 2 ^ 128 := by decide
    exact ⟨g1, by omega, by omega, by omega⟩
set_option maxRecDepth 20000 in
set_option maxHeartbeats 8000000 in
theorem nearestOf_x {f p m l : Int} {S I H sd : Nat} {Be : Int} (J : Jn f p m l S I H sd Be) {q : Option Addr} {n k : Nat} {w : World} {x e : Int} {s : Bool} {a : Option Addr} (h : DN w s q n k e x) (bx : DB x e 128 1430) {r c : Nat} (hr : r < 2 * S) (hri : r % S < I) (hc : c < 2 * S) (hT : Tab w) (hx : ¬ c % S < I) :
    Calls Tryz.prog 18 #[.pointer a, .int .i64 f, DV s q n k e, U r, U c] w fun en w' => en = .returned (.bool true) ∧ Below w.heap.size w w' := by
  have HJN : Hid (Jn f p m l S I H sd Be) := J
  have A : Hid (DN w s q n k e x) := h
  have BX : Hid (DB x e 128 1430) := bx
  have HR : Hid (r < 2 * S ∧ r % S < I ∧ c < 2 * S) := ⟨hr, hri, hc⟩
  have TB : Hid (Tab w) := hT
  obtain ⟨zr, er, hvr, _⟩ := vf_ex J.jm.pm hri
  have HVR : Hid (VF S H l r zr er) := hvr
  have hB : ∀ w, Calls Tryz.prog 88 #[.int .i64 f, U c] w fun e w' => e = .returned (.tuple #[PV 0 0 0 false 0, .int .i64 6]) ∧ Below w.heap.size w w' := by
    intro w
    by_cases h2 : c % S = I
    · exact finite_i J.jm.pm c hc h2 w
    · exact finite_e (fun w => ranked_nan J.jm.pm.fm c hc (by omega) w) (by decide) w
  have HB : Hid (∀ w, Calls Tryz.prog 88 #[.int .i64 f, U c] w fun e w' => e = .returned (.tuple #[PV 0 0 0 false 0, .int .i64 6]) ∧ Below w.heap.size w w') := hB
  clear J h bx hr hri hc hT hvr hx hB
  go_enter Tryz.func18, Tryz.ntmps18
  go_wp2_with fail
  obtain ⟨W0, hW0⟩ : ∃ W0, W0 = (w.alloc (.cells #[.bool s, .slice q n k, .int .i64 e] 34)) := ⟨_, rfl⟩
  have Xd : Hid (B3q W0 (w.heap.size) (.bool s) (.slice q n k) (.int .i64 e)) := by rw [hW0]; exact ⟨by go_simp, by go_simp, by go_simp, by go_simp, by go_simp, by go_simp⟩
  have hb0 : Below w.heap.size w W0 := by rw [hW0]; exact below1 w _
  rw [← hW0]
  clear hW0
  have hbw : Below w.heap.size w w := Below.refl _ _
  obtain ⟨gd, hgd⟩ : ∃ g, g = w.heap.size := ⟨_, rfl⟩
  have HGd : Hid (w.heap.size ≤ gd) := by rw [hgd]; show _ ≤ _; omega
  rw [← hgd] at Xd
  try rw [← hgd]
  clear hgd
  replace hbw := Below.on hbw hb0
  clear hb0
  refine (value_v HJN.out.jm.pm HR.out.1 HR.out.2.1 HVR.out _ (TB.out.below hbw)).mono ?_
  rintro e9 v1 ⟨v, rfl, hv, hb1⟩
  obtain ⟨s1, p1, m1, rfl, hd1⟩ := hv.dn HVR.out.fm
  clear hv
  replace Xd : Hid _ := Xd.out.below hb1
  replace hbw := Below.on hbw hb1
  clear hb1
  have D1 : Hid (DN v1 s1 p1 m1 m1 er zr) := hd1
  clear hd1
  go_wp2_with fail
  have Xv0 : Hid (B3q (v1.alloc (.cells #[.bool s1, .slice p1 m1 m1, .int .i64 er] 34)) v1.heap.size (.bool s1) (.slice p1 m1 m1) (.int .i64 er)) := B3q.new v1 _ _ _ _
  have hbn : Below v1.heap.size v1 (v1.alloc (.cells #[.bool s1, .slice p1 m1 m1, .int .i64 er] 34)) := below1 v1 _
  generalize v1.alloc (.cells #[.bool s1, .slice p1 m1 m1, .int .i64 er] 34) = Wv at *
  have HGv : Hid (w.heap.size ≤ v1.heap.size) := hbw.size
  replace Xd : Hid _ := Xd.out.below hbn
  replace D1 : Hid _ := D1.out.below hbn
  replace hbw := Below.on hbw hbn
  clear hbn
  generalize v1.heap.size = gv at *
  have Xv := Xv0
  clear Xv0
  refine (value_e HB.out (by decide) _).mono ?_
  rintro e v2 ⟨rfl, hb2⟩
  replace Xd : Hid _ := Xd.out.below hb2
  replace Xv : Hid _ := Xv.out.below hb2
  replace D1 : Hid _ := D1.out.below hb2
  replace hbw := Below.on hbw hb2
  clear hb2
  go_wp2_with fail
  go_ret
  first | exact ⟨rfl, hbw⟩ | exact ⟨rfl, Below.on hbw (below1 _ _)⟩
set_option maxRecDepth 20000 in
set_option maxHeartbeats 8000000 in
theorem nearestOf_f {f p m l : Int} {S I H sd : Nat} {Be : Int} (J : Jn f p m l S I H sd Be) {q : Option Addr} {n k : Nat} {w : World} {x e : Int} {s : Bool} {a : Option Addr} (h : DN w s q n k e x) (bx : DB x e 128 1430) {r c : Nat} (hr : r < 2 * S) (hri : r % S < I) (hc : c < 2 * S) (hT : Tab w) (hx : c % S < I) (hnr : (dv (svS S H r) l - dv x e).natAbs ≤ (dv (svS S H c) l - dv x e).natAbs ∧ ((dv (svS S H r) l - dv x e).natAbs = (dv (svS S H c) l - dv x e).natAbs → dv (svS S H r) l ≠ dv (svS S H c) l → r % 2 = 0)) :
    Calls Tryz.prog 18 #[.pointer a, .int .i64 f, DV s q n k e, U r, U c] w fun en w' => en = .returned (.bool true) ∧ Below w.heap.size w w' := by
  have HJN : Hid (Jn f p m l S I H sd Be) := J
  have A : Hid (DN w s q n k e x) := h
  have BX : Hid (DB x e 128 1430) := bx
  have HR : Hid (r < 2 * S ∧ r % S < I ∧ c < 2 * S) := ⟨hr, hri, hc⟩
  have TB : Hid (Tab w) := hT
  obtain ⟨zr, er, hvr, _⟩ := vf_ex J.jm.pm hri
  have HVR : Hid (VF S H l r zr er) := hvr
  obtain ⟨zc, ec, hvc, _⟩ := vf_ex J.jm.pm hx
  have HVC : Hid (VF S H l c zc ec) := hvc
  have HDB : Hid (DB zr er 128 1430 ∧ DB zc ec 128 1430) := ⟨vf_db J hri hvr, vf_db J hx hvc⟩
  have HNR : Hid ((dv zr er - dv x e).natAbs ≤ (dv zc ec - dv x e).natAbs ∧ ((dv zr er - dv x e).natAbs = (dv zc ec - dv x e).natAbs → dv zr er ≠ dv zc ec → r % 2 = 0)) := by rw [hvr.v, hvc.v]; exact hnr
  have HXC : Hid (c % S < I) := hx
  obtain ⟨m2, hm2⟩ : ∃ m2, m2 = r % 2 := ⟨_, rfl⟩
  have g1 : bits BinOp.and IntKind.u64 (r : Int) 1 = ((m2 : Nat) : Int) := by rw [hm2]; exact and_one_u64q r (by have := J.jm.pm.fm.le; rw [B64_eq]; omega)
  have HM2 : Hid (m2 = r % 2) := hm2
  clear J h bx hr hri hc hT hvr hx hvc hnr hm2
  go_enter Tryz.func18, Tryz.ntmps18
  go_wp2_with fail
  obtain ⟨W0, hW0⟩ : ∃ W0, W0 = (w.alloc (.cells #[.bool s, .slice q n k, .int .i64 e] 34)) := ⟨_, rfl⟩
  have Xd : Hid (B3q W0 (w.heap.size) (.bool s) (.slice q n k) (.int .i64 e)) := by rw [hW0]; exact ⟨by go_simp, by go_simp, by go_simp, by go_simp, by go_simp, by go_simp⟩
  have hb0 : Below w.heap.size w W0 := by rw [hW0]; exact below1 w _
  rw [← hW0]
  clear hW0
  have hbw : Below w.heap.size w w := Below.refl _ _
  obtain ⟨gd, hgd⟩ : ∃ g, g = w.heap.size := ⟨_, rfl⟩
  have HGd : Hid (w.heap.size ≤ gd) := by rw [hgd]; show _ ≤ _; omega
  rw [← hgd] at Xd
  try rw [← hgd]
  clear hgd
  replace hbw := Below.on hbw hb0
  clear hb0
  refine (value_v HJN.out.jm.pm HR.out.1 HR.out.2.1 HVR.out _ (TB.out.below hbw)).mono ?_
  rintro e9 v1 ⟨v, rfl, hv, hb1⟩
  obtain ⟨s1, p1, m1, rfl, hd1⟩ := hv.dn HVR.out.fm
  clear hv
  replace Xd : Hid _ := Xd.out.below hb1
  replace hbw := Below.on hbw hb1
  clear hb1
  have D1 : Hid (DN v1 s1 p1 m1 m1 er zr) := hd1
  clear hd1
  go_wp2_with fail
  have Xv0 : Hid (B3q (v1.alloc (.cells #[.bool s1, .slice p1 m1 m1, .int .i64 er] 34)) v1.heap.size (.bool s1) (.slice p1 m1 m1) (.int .i64 er)) := B3q.new v1 _ _ _ _
  have hbn : Below v1.heap.size v1 (v1.alloc (.cells #[.bool s1, .slice p1 m1 m1, .int .i64 er] 34)) := below1 v1 _
  generalize v1.alloc (.cells #[.bool s1, .slice p1 m1 m1, .int .i64 er] 34) = Wv at *
  have HGv : Hid (w.heap.size ≤ v1.heap.size) := hbw.size
  replace Xd : Hid _ := Xd.out.below hbn
  replace D1 : Hid _ := D1.out.below hbn
  replace hbw := Below.on hbw hbn
  clear hbn
  generalize v1.heap.size = gv at *
  have Xv := Xv0
  clear Xv0
  refine (value_v HJN.out.jm.pm HR.out.2.2 HXC.out HVC.out _ (TB.out.below hbw)).mono ?_
  rintro e9 v2 ⟨v, rfl, hv, hb2⟩
  obtain ⟨s2, p2, m2', rfl, hd2⟩ := hv.dn HVC.out.fm
  clear hv
  replace Xd : Hid _ := Xd.out.below hb2
  replace Xv : Hid _ := Xv.out.below hb2
  replace D1 : Hid _ := D1.out.below hb2
  replace hbw := Below.on hbw hb2
  clear hb2
  have D2 : Hid (DN v2 s2 p2 m2' m2' ec zc) := hd2
  clear hd2
  obtain ⟨cv0, cv1, cv2, fv0, fv1, fv2⟩ := Xv.out
  have hnev : gv < v2.heap.size := World.block_lt_of_cell? v2 _ cv0
  obtain ⟨cd0, cd1, cd2, fd0, fd1, fd2⟩ := Xd.out
  have hned : gd < v2.heap.size := World.block_lt_of_cell? v2 _ cd0
  go_wp2_with fail
  clear cv0 cv1 cv2 fv0 fv1 fv2 hnev
  clear cd0 cd1 cd2 fd0 fd1 fd2 hned
  have Xw_0 : Hid (B3q (v2.alloc (.cells #[.bool s2, .slice p2 m2' m2', .int .i64 ec] 34)) v2.heap.size (.bool s2) (.slice p2 m2' m2') (.int .i64 ec)) := B3q.new v2 _ _ _ _
  have hbn : Below v2.heap.size v2 (v2.alloc (.cells #[.bool s2, .slice p2 m2' m2', .int .i64 ec] 34)) := below1 v2 _
  generalize v2.alloc (.cells #[.bool s2, .slice p2 m2' m2', .int .i64 ec] 34) = Ww at *
  have HGw_ : Hid (w.heap.size ≤ v2.heap.size) := hbw.size
  replace Xd : Hid _ := Xd.out.below hbn
  replace Xv : Hid _ := Xv.out.below hbn
  replace D1 : Hid _ := D1.out.below hbn
  replace D2 : Hid _ := D2.out.below hbn
  replace hbw := Below.on hbw hbn
  clear hbn
  generalize v2.heap.size = gw_ at *
  have Xw_ := Xw_0
  clear Xw_0
  obtain ⟨W3, hW3⟩ : ∃ W1, W1 = Ww.drew := ⟨_, rfl⟩
  have hbd : Below Ww.heap.size Ww W3 := by rw [hW3]; exact bDrew1 (Below.refl _ _)
  replace Xd : Hid _ := Xd.out.below hbd
  replace Xv : Hid _ := Xv.out.below hbd
  replace Xw_ : Hid _ := Xw_.out.below hbd
  replace D1 : Hid _ := D1.out.below hbd
  replace D2 : Hid _ := D2.out.below hbd
  replace hbw := Below.on hbw hbd
  clear hbd
  have HJ : Hid ((fun W' : World => W'.cell? ⟨gv, 0, none⟩ = some (.bool s1) ∧ W'.cell? ⟨gv, 1, none⟩ = some (.slice p1 m1 m1) ∧ W'.cell? ⟨gv, 2, none⟩ = some (.int .i64 er) ∧ W'.cell? ⟨gw_, 0, none⟩ = some (.bool s2) ∧ W'.cell? ⟨gw_, 1, none⟩ = some (.slice p2 m2' m2') ∧ W'.cell? ⟨gw_, 2, none⟩ = some (.int .i64 ec) ∧ W'.cell? ⟨gd, 0, none⟩ = some (.bool s) ∧ W'.cell? ⟨gd, 1, none⟩ = some (.slice q n k) ∧ W'.cell? ⟨gd, 2, none⟩ = some (.int .i64 e)) W3) := ⟨Xv.out.c0, Xv.out.c1, Xv.out.c2, Xw_.out.c0, Xw_.out.c1, Xw_.out.c2, Xd.out.c0, Xd.out.c1, Xd.out.c2⟩
  refine wp_region_J (fun W' => W'.cell? ⟨gv, 0, none⟩ = some (.bool s1) ∧ W'.cell? ⟨gv, 1, none⟩ = some (.slice p1 m1 m1) ∧ W'.cell? ⟨gv, 2, none⟩ = some (.int .i64 er) ∧ W'.cell? ⟨gw_, 0, none⟩ = some (.bool s2) ∧ W'.cell? ⟨gw_, 1, none⟩ = some (.slice p2 m2' m2') ∧ W'.cell? ⟨gw_, 2, none⟩ = some (.int .i64 ec) ∧ W'.cell? ⟨gd, 0, none⟩ = some (.bool s) ∧ W'.cell? ⟨gd, 1, none⟩ = some (.slice q n k) ∧ W'.cell? ⟨gd, 2, none⟩ = some (.int .i64 e)) (by kernel_rfl) ?_
  rw [← hW3]
  clear hW3
  refine wpJ_take (i := 0) (v := ?v1x0) rfl (by kernel_rfl) (by kernel_rfl) (by kernel_rfl) (fun _ _ _ h => h) (by kernel_rfl) ?hy1x0 HJ.out ?rest1x0
  case hy1x0 => (intro W' hJ; obtain ⟨j0, j1, j2, j3, j4, j5, j6, j7, j8⟩ := hJ; go_simp; first | done | with_reducible rfl)
  refine wpJ_take (i := 1) (v := ?v2x1) rfl (by kernel_rfl) (by kernel_rfl) (by kernel_rfl) (fun _ _ _ h => h) (by kernel_rfl) ?hy2x1 HJ.out ?rest2x1
  case hy2x1 => (intro W' hJ; obtain ⟨j0, j1, j2, j3, j4, j5, j6, j7, j8⟩ := hJ; go_simp; first | done | with_reducible rfl)
  refine wpJ_take (i := 2) (v := ?v3x2) rfl (by kernel_rfl) (by kernel_rfl) (by kernel_rfl) (fun _ _ _ h => h) (by kernel_rfl) ?hy3x2 HJ.out ?rest3x2
  case hy3x2 => (intro W' hJ; obtain ⟨j0, j1, j2, j3, j4, j5, j6, j7, j8⟩ := hJ; go_simp; first | done | with_reducible rfl)
  refine wpJ_take (i := 3) (v := ?v4x3) rfl (by kernel_rfl) (by kernel_rfl) (by kernel_rfl) (fun _ _ _ h => h) (by kernel_rfl) ?hy4x3 HJ.out ?rest4x3
  case hy4x3 => (intro W' hJ; obtain ⟨j0, j1, j2, j3, j4, j5, j6, j7, j8⟩ := hJ; go_simp; first | done | with_reducible rfl)
  refine wpJ_take (i := 4) (v := ?v5x4) rfl (by kernel_rfl) (by kernel_rfl) (by kernel_rfl) (fun _ _ _ h => h) (by kernel_rfl) ?hy5x4 HJ.out ?rest5x4
  case hy5x4 => (intro W' hJ; obtain ⟨j0, j1, j2, j3, j4, j5, j6, j7, j8⟩ := hJ; go_simp; first | done | with_reducible rfl)
  go_simp
  refine wpJ_take (i := 7) (v := ?v6x7) rfl (by kernel_rfl) (by kernel_rfl) (by kernel_rfl) (fun _ _ _ h => h) (by kernel_rfl) ?hy6x7 HJ.out ?rest6x7
  case hy6x7 => (intro W' hJ; obtain ⟨j0, j1, j2, j3, j4, j5, j6, j7, j8⟩ := hJ; go_simp; first | done | with_reducible rfl)
  refine wpJ_take (i := 8) (v := ?v7x8) rfl (by kernel_rfl) (by kernel_rfl) (by kernel_rfl) (fun _ _ _ h => h) (by kernel_rfl) ?hy7x8 HJ.out ?rest7x8
  case hy7x8 => (intro W' hJ; obtain ⟨j0, j1, j2, j3, j4, j5, j6, j7, j8⟩ := hJ; go_simp; first | done | with_reducible rfl)
  refine wpJ_take (i := 9) (v := ?v8x9) rfl (by kernel_rfl) (by kernel_rfl) (by kernel_rfl) (fun _ _ _ h => h) (by kernel_rfl) ?hy8x9 HJ.out ?rest8x9
  case hy8x9 => (intro W' hJ; obtain ⟨j0, j1, j2, j3, j4, j5, j6, j7, j8⟩ := hJ; go_simp; first | done | with_reducible rfl)
  refine wpJ_take (i := 10) (v := ?v9x10) rfl (by kernel_rfl) (by kernel_rfl) (by kernel_rfl) (fun _ _ _ h => h) (by kernel_rfl) ?hy9x10 HJ.out ?rest9x10
  case hy9x10 => (intro W' hJ; obtain ⟨j0, j1, j2, j3, j4, j5, j6, j7, j8⟩ := hJ; go_simp; first | done | with_reducible rfl)
  refine wpJ_one (i := 5) (by kernel_rfl) rfl (by kernel_rfl) (fun KJ hK => ?_)
  go_simp
  refine (ssub D1.out (A.out.below hbw) HDB.out.1 BX.out (by decide) (TB.out.below hbw)).mono ?_
  rintro e9 v5 ⟨zo5, eo5, s5, p5, m5, rfl, hd, _, hdv, hb5⟩
  have HV5 : Hid (dv zo5 eo5 = dv zr er - dv x e) := hdv
  clear hdv
  replace Xd : Hid _ := Xd.out.below hb5
  replace Xv : Hid _ := Xv.out.below hb5
  replace Xw_ : Hid _ := Xw_.out.below hb5
  replace D1 : Hid _ := D1.out.below hb5
  replace D2 : Hid _ := D2.out.below hb5
  replace hbw := Below.on hbw hb5
  clear hb5
  have D5 : Hid (DN v5 s5 p5 m5 m5 eo5 zo5) := hd.dn
  clear hd
  refine hK _ _ ⟨Xv.out.c0, Xv.out.c1, Xv.out.c2, Xw_.out.c0, Xw_.out.c1, Xw_.out.c2, Xd.out.c0, Xd.out.c1, Xd.out.c2⟩ ?_
  clear hK
  refine wpJ_one (i := 6) (by kernel_rfl) rfl (by kernel_rfl) (fun KJ hK => ?_)
  go_simp
  refine (ssize D5.out).mono ?_
  rintro e9 v6 ⟨s6, p6, m6, c6, rfl, hd, hb6⟩
  replace Xd : Hid _ := Xd.out.below hb6
  replace Xv : Hid _ := Xv.out.below hb6
  replace Xw_ : Hid _ := Xw_.out.below hb6
  replace D1 : Hid _ := D1.out.below hb6
  replace D2 : Hid _ := D2.out.below hb6
  replace D5 : Hid _ := D5.out.below hb6
  replace hbw := Below.on hbw hb6
  clear hb6
  have D6 : Hid (DN v6 s6 p6 m6 c6 eo5 (zo5.natAbs : Int)) := hd
  clear hd
  refine hK _ _ ⟨Xv.out.c0, Xv.out.c1, Xv.out.c2, Xw_.out.c0, Xw_.out.c1, Xw_.out.c2, Xd.out.c0, Xd.out.c1, Xd.out.c2⟩ ?_
  clear hK
  refine wpJ_one (i := 11) (by kernel_rfl) rfl (by kernel_rfl) (fun KJ hK => ?_)
  go_simp
  refine (ssub D2.out (A.out.below hbw) HDB.out.2 BX.out (by decide) (TB.out.below hbw)).mono ?_
  rintro e9 v11 ⟨zo11, eo11, s11, p11, m11, rfl, hd, _, hdv, hb11⟩
  have HV11 : Hid (dv zo11 eo11 = dv zc ec - dv x e) := hdv
  clear hdv
  replace Xd : Hid _ := Xd.out.below hb11
  replace Xv : Hid _ := Xv.out.below hb11
  replace Xw_ : Hid _ := Xw_.out.below hb11
  replace D1 : Hid _ := D1.out.below hb11
  replace D2 : Hid _ := D2.out.below hb11
  replace D5 : Hid _ := D5.out.below hb11
  replace D6 : Hid _ := D6.out.below hb11
  replace hbw := Below.on hbw hb11
  clear hb11
  have D11 : Hid (DN v11 s11 p11 m11 m11 eo11 zo11) := hd.dn
  clear hd
  refine hK _ _ ⟨Xv.out.c0, Xv.out.c1, Xv.out.c2, Xw_.out.c0, Xw_.out.c1, Xw_.out.c2, Xd.out.c0, Xd.out.c1, Xd.out.c2⟩ ?_
  clear hK
  refine wpJ_one (i := 12) (by kernel_rfl) rfl (by kernel_rfl) (fun KJ hK => ?_)
  go_simp
  refine (ssize D11.out).mono ?_
  rintro e9 v12 ⟨s12, p12, m12, c12, rfl, hd, hb12⟩
  replace Xd : Hid _ := Xd.out.below hb12
  replace Xv : Hid _ := Xv.out.below hb12
  replace Xw_ : Hid _ := Xw_.out.below hb12
  replace D1 : Hid _ := D1.out.below hb12
  replace D2 : Hid _ := D2.out.below hb12
  replace D5 : Hid _ := D5.out.below hb12
  replace D6 : Hid _ := D6.out.below hb12
  replace D11 : Hid _ := D11.out.below hb12
  replace hbw := Below.on hbw hb12
  clear hb12
  have D12 : Hid (DN v12 s12 p12 m12 c12 eo11 (zo11.natAbs : Int)) := hd
  clear hd
  refine hK _ _ ⟨Xv.out.c0, Xv.out.c1, Xv.out.c2, Xw_.out.c0, Xw_.out.c1, Xw_.out.c2, Xd.out.c0, Xd.out.c1, Xd.out.c2⟩ ?_
  clear hK
  refine wpJ_one (i := 13) (by kernel_rfl) rfl (by kernel_rfl) (fun KJ hK => ?_)
  go_simp
  refine (scmp D6.out D12.out).mono ?_
  rintro e v13 ⟨rfl, hb13⟩
  obtain ⟨cc, hcc⟩ : ∃ cc, cc = cmpI (dv (zo5.natAbs : Int) eo5) (dv (zo11.natAbs : Int) eo11) := ⟨_, rfl⟩
  rw [← hcc]
  rw [dv_natAbs, dv_natAbs, HV5.out, HV11.out] at hcc
  have HCC : Hid (cc = cmpI ((dv zr er - dv x e).natAbs : Int) ((dv zc ec - dv x e).natAbs : Int)) := hcc
  clear hcc
  replace Xd : Hid _ := Xd.out.below hb13
  replace Xv : Hid _ := Xv.out.below hb13
  replace Xw_ : Hid _ := Xw_.out.below hb13
  replace D1 : Hid _ := D1.out.below hb13
  replace D2 : Hid _ := D2.out.below hb13
  replace D5 : Hid _ := D5.out.below hb13
  replace D6 : Hid _ := D6.out.below hb13
  replace D11 : Hid _ := D11.out.below hb13
  replace D12 : Hid _ := D12.out.below hb13
  replace hbw := Below.on hbw hb13
  clear hb13
  clear HJ
  have HJ : Hid ((fun W' : World => W'.cell? ⟨gv, 0, none⟩ = some (.bool s1) ∧ W'.cell? ⟨gv, 1, none⟩ = some (.slice p1 m1 m1) ∧ W'.cell? ⟨gv, 2, none⟩ = some (.int .i64 er) ∧ W'.cell? ⟨gw_, 0, none⟩ = some (.bool s2) ∧ W'.cell? ⟨gw_, 1, none⟩ = some (.slice p2 m2' m2') ∧ W'.cell? ⟨gw_, 2, none⟩ = some (.int .i64 ec) ∧ W'.cell? ⟨gd, 0, none⟩ = some (.bool s) ∧ W'.cell? ⟨gd, 1, none⟩ = some (.slice q n k) ∧ W'.cell? ⟨gd, 2, none⟩ = some (.int .i64 e)) v13) := ⟨Xv.out.c0, Xv.out.c1, Xv.out.c2, Xw_.out.c0, Xw_.out.c1, Xw_.out.c2, Xd.out.c0, Xd.out.c1, Xd.out.c2⟩
  refine hK _ _ HJ.out ?_
  clear hK
  refine wpJ_take (i := 14) (v := ?v10x14) rfl (by kernel_rfl) (by kernel_rfl) (by kernel_rfl) (fun _ _ _ h => h) (by kernel_rfl) ?hy10x14 HJ.out ?rest10x14
  case hy10x14 => (intro W' hJ; obtain ⟨j0, j1, j2, j3, j4, j5, j6, j7, j8⟩ := hJ; go_simp; first | done | with_reducible rfl)
  refine wpJ_done (by kernel_rfl) ?_ _
  clear HJ
  rcases Nat.lt_or_eq_of_le HNR.out.1 with hl | hl
  · have hc1 : cc = -1 := by rw [HCC.out]; exact cmp_l (by omega)
    clear HCC hl
    subst hc1
    obtain ⟨cv0, cv1, cv2, fv0, fv1, fv2⟩ := Xv.out
    have hnev : gv < v13.heap.size := World.block_lt_of_cell? v13 _ cv0
    go_wp2_with fail
    clear cv0 cv1 cv2 fv0 fv1 fv2 hnev
    go_ret
    exact ⟨rfl, hbw⟩
  · have hc1 : cc = 0 := by rw [HCC.out]; exact cmp_e (by omega)
    have HL : Hid ((dv zr er - dv x e).natAbs = (dv zc ec - dv x e).natAbs) := hl
    clear HCC hl
    subst hc1
    obtain ⟨cv0, cv1, cv2, fv0, fv1, fv2⟩ := Xv.out
    have hnev : gv < v13.heap.size := World.block_lt_of_cell? v13 _ cv0
    obtain ⟨cw_0, cw_1, cw_2, fw_0, fw_1, fw_2⟩ := Xw_.out
    have hnew_ : gw_ < v13.heap.size := World.block_lt_of_cell? v13 _ cw_0
    go_wp2_with fail
    clear cv0 cv1 cv2 fv0 fv1 fv2 hnev
    clear cw_0 cw_1 cw_2 fw_0 fw_1 fw_2 hnew_
    by_cases hq : dv zr er = dv zc ec
    · refine (tdy D1.out D2.out).mono ?_
      rintro e v14 ⟨rfl, hb14⟩
      rw [decide_eq_true hq]
      clear hq
      replace Xd : Hid _ := Xd.out.below hb14
      replace Xv : Hid _ := Xv.out.below hb14
      replace Xw_ : Hid _ := Xw_.out.below hb14
      replace D1 : Hid _ := D1.out.below hb14
      replace D2 : Hid _ := D2.out.below hb14
      replace D5 : Hid _ := D5.out.below hb14
      replace D6 : Hid _ := D6.out.below hb14
      replace D11 : Hid _ := D11.out.below hb14
      replace D12 : Hid _ := D12.out.below hb14
      replace hbw := Below.on hbw hb14
      clear hb14
      go_wp2_with fail
      go_ret
      exact ⟨rfl, hbw⟩
    · have h0 : m2 = 0 := by rw [HM2.out]; exact HNR.out.2 HL.out hq
      clear HM2
      subst h0
      refine (tdy D1.out D2.out).mono ?_
      rintro e v14 ⟨rfl, hb14⟩
      rw [decide_eq_false hq]
      clear hq
      replace Xd : Hid _ := Xd.out.below hb14
      replace Xv : Hid _ := Xv.out.below hb14
      replace Xw_ : Hid _ := Xw_.out.below hb14
      replace D1 : Hid _ := D1.out.below hb14
      replace D2 : Hid _ := D2.out.below hb14
      replace D5 : Hid _ := D5.out.below hb14
      replace D6 : Hid _ := D6.out.below hb14
      replace D11 : Hid _ := D11.out.below hb14
      replace D12 : Hid _ := D12.out.below hb14
      replace hbw := Below.on hbw hb14
      clear hb14
      go_wp2_with fail
      go_ret
      exact ⟨rfl, hbw⟩
end Go.Proofs.YtfofoookdlaipaaGreatDoor

namespace Go.Proofs.YtfofoookdlaipaaGreatDoor
open Go.RowKit Go.Shelf

set_option maxRecDepth 20000 in
set_option maxHeartbeats 8000000 in
theorem satmost {p q : Option Addr} {m c n d : Nat} {w : World} {e f : Int} {s t : Bool} {x y : Int} (h : DN w s p m c e x) (k : DN w t q n d f y) (hc : dv x e ≤ dv y f) :
    Calls Tryz.prog 103 #[DV s p m c e, DV t q n d f] w fun en w' => en = .returned (.bool true) ∧ Below w.heap.size w w' := by
  have A : Hid (DN w s p m c e x) := h
  have B : Hid (DN w t q n d f y) := k
  obtain ⟨cc, hcc⟩ : ∃ cc, cc = cmpI (dv x e) (dv y f) := ⟨_, rfl⟩
  have HCC : Hid (cmpI (dv x e) (dv y f) = cc) := hcc.symm
  have k1 : decide (cc ≤ 0) = true := by rw [hcc]; unfold cmpI; by_cases a : dv x e < dv y f; (· rw [if_pos a]; rfl); rw [if_neg a, if_pos (by omega)]; rfl
  clear h k hc hcc
  go_enter Tryz.func103, Tryz.ntmps103
  go_wp2_with fail
  obtain ⟨W0, hW0⟩ : ∃ W0, W0 = ((w.alloc (.cells #[.bool s, .slice p m c, .int .i64 e] 34)).alloc (.cells #[.bool t, .slice q n d, .int .i64 f] 34)) := ⟨_, rfl⟩
  have Xx : Hid (B3q W0 (w.heap.size) (.bool s) (.slice p m c) (.int .i64 e)) := by rw [hW0]; exact ⟨by go_simp, by go_simp, by go_simp, by go_simp, by go_simp, by go_simp⟩
  have Xy : Hid (B3q W0 (w.heap.size + 1) (.bool t) (.slice q n d) (.int .i64 f)) := by rw [hW0]; exact ⟨by go_simp, by go_simp, by go_simp, by go_simp, by go_simp, by go_simp⟩
  have hb0 : Below w.heap.size w W0 := by rw [hW0]; exact below2 w _ _
  rw [← hW0]
  clear hW0
  have hbw : Below w.heap.size w w := Below.refl _ _
  obtain ⟨gy, hgy⟩ : ∃ g, g = w.heap.size + 1 := ⟨_, rfl⟩
  have HGy : Hid (w.heap.size ≤ gy) := by rw [hgy]; show _ ≤ _; omega
  rw [← hgy] at Xy
  try rw [← hgy]
  obtain ⟨gx, hgx⟩ : ∃ g, g = w.heap.size := ⟨_, rfl⟩
  have HGx : Hid (w.heap.size ≤ gx) := by rw [hgx]; show _ ≤ _; omega
  rw [← hgx] at Xx
  try rw [← hgx]
  have HGD : Hid (gx ≠ gy ∧ gy ≠ gx) := by rw [hgx, hgy]; exact ⟨by omega, by omega⟩
  clear hgx hgy
  replace hbw := Below.on hbw hb0
  clear hb0
  refine (dcmp (A.out.below hbw) (B.out.below hbw)).mono ?_
  rintro e v1 ⟨rfl, hb1⟩
  rw [HCC.out]
  replace Xx : Hid _ := Xx.out.below hb1
  replace Xy : Hid _ := Xy.out.below hb1
  replace hbw := Below.on hbw hb1
  clear hb1
  go_wp2_with fail
  go_ret
  exact ⟨rfl, hbw⟩
set_option maxRecDepth 20000 in
set_option maxHeartbeats 8000000 in
theorem shas {p1 p2 p3 : Option Addr} {m1 m2 m3 c1 c2 c3 : Nat} {w : World} {e1 e2 e3 : Int} {s1 s2 s3 : Bool} {x y u : Int} (h1 : DN w s1 p1 m1 c1 e1 x) (h2 : DN w s2 p2 m2 c2 e2 y) (h3 : DN w s3 p3 m3 c3 e3 u) (hl : dv x e1 ≤ dv u e3) (hh : dv u e3 ≤ dv y e2) :
    Calls Tryz.prog 57 #[SV s1 p1 m1 c1 e1 s2 p2 m2 c2 e2, DV s3 p3 m3 c3 e3] w fun en w' => en = .returned (.tuple #[.bool true, .int .i64 0]) ∧ Below w.heap.size w w' := by
  have A : Hid (DN w s1 p1 m1 c1 e1 x) := h1
  have B : Hid (DN w s2 p2 m2 c2 e2 y) := h2
  have C : Hid (DN w s3 p3 m3 c3 e3 u) := h3
  have HL : Hid (dv x e1 ≤ dv u e3 ∧ dv u e3 ≤ dv y e2 ∧ dv x e1 ≤ dv y e2) := ⟨hl, hh, by omega⟩
  clear h1 h2 h3 hl hh
  go_enter Tryz.func57, Tryz.ntmps57
  go_wp2_with fail
  obtain ⟨W0, hW0⟩ : ∃ W0, W0 = ((w.alloc (.cells #[.bool s1, .slice p1 m1 c1, .int .i64 e1, .bool s2, .slice p2 m2 c2, .int .i64 e2] 66)).alloc (.cells #[.bool s3, .slice p3 m3 c3, .int .i64 e3] 34)) := ⟨_, rfl⟩
  have Xs : Hid (B6q W0 (w.heap.size) (.bool s1) (.slice p1 m1 c1) (.int .i64 e1) (.bool s2) (.slice p2 m2 c2) (.int .i64 e2)) := by rw [hW0]; exact ⟨by go_simp, by go_simp, by go_simp, by go_simp, by go_simp, by go_simp, by go_simp, by go_simp, by go_simp, by go_simp, by go_simp, by go_simp⟩
  have Xd : Hid (B3q W0 (w.heap.size + 1) (.bool s3) (.slice p3 m3 c3) (.int .i64 e3)) := by rw [hW0]; exact ⟨by go_simp, by go_simp, by go_simp, by go_simp, by go_simp, by go_simp⟩
  have hb0 : Below w.heap.size w W0 := by rw [hW0]; exact below2 w _ _
  rw [← hW0]
  clear hW0
  have hbw : Below w.heap.size w w := Below.refl _ _
  obtain ⟨gd, hgd⟩ : ∃ g, g = w.heap.size + 1 := ⟨_, rfl⟩
  have HGd : Hid (w.heap.size ≤ gd) := by rw [hgd]; show _ ≤ _; omega
  rw [← hgd] at Xd
  try rw [← hgd]
  obtain ⟨gs, hgs⟩ : ∃ g, g = w.heap.size := ⟨_, rfl⟩
  have HGs : Hid (w.heap.size ≤ gs) := by rw [hgs]; show _ ≤ _; omega
  rw [← hgs] at Xs
  try rw [← hgs]
  have HGD : Hid (gs ≠ gd ∧ gd ≠ gs) := by rw [hgs, hgd]; exact ⟨by omega, by omega⟩
  clear hgs hgd
  replace hbw := Below.on hbw hb0
  clear hb0
  refine (sform_t (A.out.below hbw) (B.out.below hbw) HL.out.2.2).mono ?_
  rintro e v1 ⟨rfl, hb1⟩
  replace Xs : Hid _ := Xs.out.below hb1
  replace Xd : Hid _ := Xd.out.below hb1
  replace hbw := Below.on hbw hb1
  clear hb1
  obtain ⟨cd0, cd1, cd2, fd0, fd1, fd2⟩ := Xd.out
  have hned : gd < v1.heap.size := World.block_lt_of_cell? v1 _ cd0
  go_wp2_with fail
  clear cd0 cd1 cd2 fd0 fd1 fd2 hned
  refine (dform_t (C.out.below hbw)).mono ?_
  rintro e v2 ⟨rfl, hb2⟩
  replace Xs : Hid _ := Xs.out.below hb2
  replace Xd : Hid _ := Xd.out.below hb2
  replace hbw := Below.on hbw hb2
  clear hb2
  obtain ⟨cs0, cs1, cs2, cs3, cs4, cs5, fs0, fs1, fs2, fs3, fs4, fs5⟩ := Xs.out
  have hnes : gs < v2.heap.size := World.block_lt_of_cell? v2 _ cs0
  obtain ⟨cd0, cd1, cd2, fd0, fd1, fd2⟩ := Xd.out
  have hned : gd < v2.heap.size := World.block_lt_of_cell? v2 _ cd0
  go_wp2_with fail
  clear cs0 cs1 cs2 cs3 cs4 cs5 fs0 fs1 fs2 fs3 fs4 fs5 hnes
  clear cd0 cd1 cd2 fd0 fd1 fd2 hned
  refine (satmost (A.out.below hbw) (C.out.below hbw) HL.out.1).mono ?_
  rintro e v3 ⟨rfl, hb3⟩
  replace Xs : Hid _ := Xs.out.below hb3
  replace Xd : Hid _ := Xd.out.below hb3
  replace hbw := Below.on hbw hb3
  clear hb3
  obtain ⟨cs0, cs1, cs2, cs3, cs4, cs5, fs0, fs1, fs2, fs3, fs4, fs5⟩ := Xs.out
  have hnes : gs < v3.heap.size := World.block_lt_of_cell? v3 _ cs0
  obtain ⟨cd0, cd1, cd2, fd0, fd1, fd2⟩ := Xd.out
  have hned : gd < v3.heap.size := World.block_lt_of_cell? v3 _ cd0
  go_wp2_with fail
  clear cs0 cs1 cs2 cs3 cs4 cs5 fs0 fs1 fs2 fs3 fs4 fs5 hnes
  clear cd0 cd1 cd2 fd0 fd1 fd2 hned
  refine (satmost (C.out.below hbw) (B.out.below hbw) HL.out.2.1).mono ?_
  rintro e v4 ⟨rfl, hb4⟩
  replace Xs : Hid _ := Xs.out.below hb4
  replace Xd : Hid _ := Xd.out.below hb4
  replace hbw := Below.on hbw hb4
  clear hb4
  go_wp2_with fail
  go_ret2
  exact ⟨rfl, hbw⟩
end Go.Proofs.YtfofoookdlaipaaGreatDoor

namespace Go.Proofs.YtfofoookdlaipaaGreatDoor
open Go.RowKit Go.Shelf

theorem rnp_mid {f p m l : Int} {S I H sd : Nat} {Be : Int} (J : Jn f p m l S I H sd Be) {x e y g u k : Int} (he : -4194304 ≤ e) (hg : -4194304 ≤ g) (hk : -4194304 ≤ k) (h1 : dv x e ≤ dv u k) (h2 : dv u k ≤ dv y g) (hq : rnp l sd Be S I x e = rnp l sd Be S I y g) :
    rnp l sd Be S I u k = rnp l sd Be S I x e := by
  obtain ⟨A, _, a2, a3, _, a5, a6, _⟩ := rnp_is J x e he
  obtain ⟨B, _, b2, _, _, b5, b6, _⟩ := rnp_is J y g hg
  obtain ⟨C, _, c2, c3, _, _, _, _⟩ := rnp_is J u k hk
  have hAB : A = B := by rw [← a5, ← b5, hq]
  subst hAB
  have hsg : decide (x < 0) = decide (y < 0) := by rw [← a6, ← b6, hq]
  have dx := dv3 x e
  have dy := dv3 y g
  have du := dv3 u k
  rw [dv_abs x e, dv_abs u k] at h1
  rw [dv_abs u k, dv_abs y g] at h2
  rw [a3, c3]
  by_cases hx : x < 0
  · have hy : y < 0 := by rw [decide_eq_true hx] at hsg; exact of_decide_eq_true hsg.symm
    have hu : u < 0 := Decidable.of_not_not fun hu => by
      rw [if_neg hu, if_pos hy] at h2
      rw [dv_abs u k, if_neg hu] at du
      rw [dv_abs y g, if_pos hy] at dy
      omega
    rw [if_pos hx, if_pos hu] at h1
    rw [if_pos hu, if_pos hy] at h2
    rw [if_pos hx, if_pos hu]
    have := c2.mono a2 (by omega)
    have := b2.mono c2 (by omega)
    omega
  · have hy : ¬ y < 0 := by rw [decide_eq_false hx] at hsg; exact of_decide_eq_false hsg.symm
    have hu : ¬ u < 0 := by
      intro hu
      rw [if_neg hx, if_pos hu] at h1
      rw [dv_abs u k, if_pos hu] at du
      rw [dv_abs x e, if_neg hx] at dx
      omega
    rw [if_neg hx, if_neg hu] at h1
    rw [if_neg hu, if_neg hy] at h2
    rw [if_neg hx, if_neg hu]
    have := a2.mono c2 (by omega)
    have := c2.mono b2 (by omega)
    omega
end Go.Proofs.YtfofoookdlaipaaGreatDoor

namespace Go.Proofs.YtfofoookdlaipaaGreatDoor
open Go.RowKit Go.Shelf

structure Mk (H : Nat) (l : Int) (I : Nat) (g : Int → Int) (A V : Int) : Prop where
  lt : ∀ z, z < I → V < dv (hv H z : Int) (l - 1) → A < g (dv (hv H z : Int) (l - 1))
  gt : ∀ z, z < I → dv (hv H z : Int) (l - 1) < V → g (dv (hv H z : Int) (l - 1)) < A
  eq : ∀ z, z < I → V = dv (hv H z : Int) (l - 1) → A = g (dv (hv H z : Int) (l - 1))
def Rise (g : Int → Int) : Prop := ∀ a b, 0 ≤ a → a < b → g a < g b
theorem Rise.le {g : Int → Int} (h : Rise g) {a b : Int} (ha : 0 ≤ a) (hab : a ≤ b) : g a ≤ g b := by
  rcases Int.lt_or_eq_of_le hab with h1 | h1
  · exact Int.le_of_lt (h a b ha h1)
  · rw [h1]; exact Int.le_refl _
theorem Rise.of {g : Int → Int} (h : Rise g) {a b : Int} (hb : 0 ≤ b) (hg : g a ≤ g b) : a ≤ b := by
  refine Int.not_lt.1 fun h1 => ?_
  have := h b a hb h1
  omega
theorem dv_nn (n : Nat) (e : Int) : 0 ≤ dv (n : Int) e := by
  have := dv_le e (show (0 : Int) ≤ (n : Int) by omega)
  rwa [dv_zero] at this
theorem Mk.low {H : Nat} {l : Int} {I : Nat} {g : Int → Int} {A V T : Int} {Z Y : Nat} (h : Mk H l I g A V) (hg : Rise g) (hZ : RNz H l I V Z) (hY : RNz H l I T Y) (_hT : 0 ≤ T) (hA : g T ≤ A) : Y ≤ Z := by
  refine Nat.le_of_not_lt fun hlt => ?_
  have hZI : Z < I := Nat.lt_of_lt_of_le hlt hY.le
  have h0 := dv_nn (hv H Z) (l - 1)
  have h1 : dv (hv H Z : Int) (l - 1) ≤ T := Int.not_lt.1 fun h2 => by have := hY.lo Z hZI h2; omega
  have h2 : V ≤ dv (hv H Z : Int) (l - 1) := Int.not_lt.1 fun h2 => by have := hZ.hi Z hZI h2; omega
  have h3 := hg.le h0 h1
  rcases Int.lt_or_eq_of_le h2 with h4 | h4
  · have := h.lt Z hZI h4; omega
  · have h5 := h.eq Z hZI h4
    have h6 : T ≤ dv (hv H Z : Int) (l - 1) := hg.of h0 (by omega)
    have h7 : V = T := by omega
    rw [h7] at hZ
    have := hZ.uniq hY
    omega
theorem Mk.high {H : Nat} {l : Int} {I : Nat} {g : Int → Int} {A V T : Int} {Z Y : Nat} (h : Mk H l I g A V) (hg : Rise g) (hZ : RNz H l I V Z) (hY : RNz H l I T Y) (hT : 0 ≤ T) (hA : A ≤ g T) : Z ≤ Y := by
  refine Nat.le_of_not_lt fun hlt => ?_
  have hYI : Y < I := Nat.lt_of_lt_of_le hlt hZ.le
  have h0 := dv_nn (hv H Y) (l - 1)
  have h1 : T ≤ dv (hv H Y : Int) (l - 1) := Int.not_lt.1 fun h2 => by have := hY.hi Y hYI h2; omega
  have h2 : dv (hv H Y : Int) (l - 1) ≤ V := Int.not_lt.1 fun h2 => by have := hZ.lo Y hYI h2; omega
  have h3 := hg.le hT h1
  rcases Int.lt_or_eq_of_le h2 with h4 | h4
  · have := h.gt Y hYI h4; omega
  · have h5 := h.eq Y hYI h4.symm
    have h6 : dv (hv H Y : Int) (l - 1) ≤ T := hg.of hT (by omega)
    have h7 : V = T := by omega
    rw [h7] at hZ
    have := hZ.uniq hY
    omega
theorem Mk.cell {H : Nat} {l : Int} {I : Nat} {g : Int → Int} {A V : Int} {Z : Nat} (h : Mk H l I g A V) (hZ : RNz H l I V Z) (h0 : Z ≠ 0) (h1 : Z < I) :
    g (dv (hv H (Z - 1) : Int) (l - 1)) ≤ A ∧ A ≤ g (dv (hv H Z : Int) (l - 1)) ∧ (Z % 2 = 1 → g (dv (hv H (Z - 1) : Int) (l - 1)) < A ∧ A < g (dv (hv H Z : Int) (l - 1))) := by
  obtain ⟨c1, c2, c3⟩ := hZ.cell h0 h1
  refine ⟨?_, ?_, fun ho => ⟨h.gt _ (by omega) (c3 ho).1, h.lt _ h1 (c3 ho).2⟩⟩
  · rcases Int.lt_or_eq_of_le c1 with h2 | h2
    · exact Int.le_of_lt (h.gt _ (by omega) h2)
    · have := h.eq _ (by omega) h2.symm; omega
  · rcases Int.lt_or_eq_of_le c2 with h2 | h2
    · exact Int.le_of_lt (h.lt _ h1 h2)
    · have := h.eq _ h1 h2; omega
end Go.Proofs.YtfofoookdlaipaaGreatDoor

