import Derived.Test.YtglkjbkpgfencaaGreatDoorJ16
import Derived.Deep.LoopGhost
namespace Go.Proofs.YtglkjbkpgfencaaGreatDoor
open Go.RowKit Go.Shelf
set_option maxRecDepth 20000
set_option maxHeartbeats 0
theorem sgn_posw {x : Int} (h : 0 < x) : sgnI x = 1 := by
  unfold sgnI; rw [if_neg (by omega), if_neg (by omega)]
theorem bits_cmpw {x y : Int} {k : Nat} (hx : 0 < x) (hy : 0 < y) : (bitsN x.natAbs + k < bitsN y.natAbs → x * 2 ^ k < y) ∧ (bitsN y.natAbs < bitsN x.natAbs + k → y < x * 2 ^ k) := by
  have h1 := bitsN_lt x.natAbs
  have h2 := bitsN_le x.natAbs (by omega)
  have h3 := bitsN_lt y.natAbs
  have h4 := bitsN_le y.natAbs (by omega)
  have h5 := bitsN_pos (a := x.natAbs) (by omega)
  have h6 := bitsN_pos (a := y.natAbs) (by omega)
  have hp : 0 < 2 ^ k := Nat.two_pow_pos k
  have e1 : x * 2 ^ k = ((x.natAbs * 2 ^ k : Nat) : Int) := by
    rw [Int.natCast_mul, Int.natCast_pow]
    congr 1
    omega
  rw [e1]
  refine ⟨fun h => ?_, fun h => ?_⟩
  · have h7 : x.natAbs * 2 ^ k < 2 ^ (bitsN x.natAbs + k) := by rw [Nat.pow_add]; exact Nat.mul_lt_mul_of_pos_right h1 hp
    have h8 : 2 ^ (bitsN x.natAbs + k) ≤ 2 ^ (bitsN y.natAbs - 1) := Nat.pow_le_pow_right (by decide) (by omega)
    omega
  · have h7 : 2 ^ (bitsN x.natAbs - 1 + k) ≤ x.natAbs * 2 ^ k := by rw [Nat.pow_add]; exact Nat.mul_le_mul_right _ h2
    have h8 : 2 ^ (bitsN y.natAbs) ≤ 2 ^ (bitsN x.natAbs - 1 + k) := Nat.pow_le_pow_right (by decide) (by omega)
    omega
theorem cmp_ltw {x y : Int} (h : x < y) : cmpI x y = -1 := by unfold cmpI; rw [if_pos h]
theorem cmp_gtw {x y : Int} (h : y < x) : cmpI x y = 1 := by unfold cmpI; rw [if_neg (by omega), if_neg (by omega)]
theorem rholdw_g {p q : Option Addr} {m n k : Nat} {w : World} {x y e f : Int} (s t : Bool) (h : ZR w s p m x) (k0 : ZR w t q n y) (hm : m ≤ 10000) (hn : n ≤ 10000) (hx : 0 < x) (hy : 0 < y) (hbx : bitsN x.natAbs ≤ 100000) (hby : bitsN y.natAbs ≤ 100000) (hk : 1 ≤ k ∧ k ≤ 40000) (he : -40000 ≤ e ∧ e ≤ 40000) (hf : -40000 ≤ f ∧ f ≤ 40000) (hef : e = f + (k : Int)) :
    Calls Tryz.prog 76 #[.agg #[.bool s, .slice p m m], .int .i64 e, .agg #[.bool t, .slice q n n], .int .i64 f] w fun en w' => en = .returned (.int .i64 (cmpI (x * 2 ^ k) y)) ∧ Below w.heap.size w w' := by
  obtain ⟨bx, hbxe⟩ : ∃ bx, bx = bitsN x.natAbs := ⟨_, rfl⟩
  obtain ⟨yb, hbye⟩ : ∃ yb, yb = bitsN y.natAbs := ⟨_, rfl⟩
  obtain ⟨tt, htt⟩ : ∃ tt : Int, tt = (bx : Int) + e := ⟨_, rfl⟩
  obtain ⟨uu, huu⟩ : ∃ uu : Int, uu = (yb : Int) + f := ⟨_, rfl⟩
  obtain ⟨rs, hrs⟩ : ∃ rs, rs = cmpI (x * 2 ^ k) y := ⟨_, rfl⟩
  rw [← hbxe] at hbx
  rw [← hbye] at hby
  rw [← hrs]
  have HA : Hid (ZR w s p m x) := h
  have HB : Hid (ZR w t q n y) := k0
  have HM : Hid (m ≤ 10000 ∧ n ≤ 10000 ∧ 0 < x ∧ 0 < y) := ⟨hm, hn, hx, hy⟩
  have HX : Hid (bx = bitsN x.natAbs ∧ yb = bitsN y.natAbs ∧ rs = cmpI (x * 2 ^ k) y ∧ k ≤ 40000) := ⟨hbxe, hbye, hrs, hk.2⟩
  have HLT : Hid (tt < uu → rs = -1) := fun h => by
    have := (bits_cmpw (k := k) hx hy).1 (by rw [← hbxe, ← hbye]; omega)
    rw [hrs]; exact cmp_ltw this
  have HGT : Hid (uu < tt → rs = 1) := fun h => by
    have := (bits_cmpw (k := k) hx hy).2 (by rw [← hbxe, ← hbye]; omega)
    rw [hrs]; exact cmp_gtw this
  have w1 : IntKind.i64.wrap ((bx : Int) + e) = tt := by rw [htt]; simp [IntKind.wrap, IntKind.signed, IntKind.bits]; omega
  have w2 : IntKind.i64.wrap ((yb : Int) + f) = uu := by rw [huu]; simp [IntKind.wrap, IntKind.signed, IntKind.bits]; omega
  have c3 : decide (f < e) = true := decide_eq_true (by omega)
  have w3 : IntKind.i64.wrap (e - f) = (k : Int) := by rw [show e - f = (k : Int) by omega]; simp [IntKind.wrap, IntKind.signed, IntKind.bits]; omega
  have w4 : wrap64 (e - f) = (k : Int) := by rw [show e - f = (k : Int) by omega]; simp only [wrap64]; omega
  clear h k0 hm hn hx hy hk he hf hef hbx hby hbxe hbye htt huu hrs
  go_enter Tryz.func76, Tryz.ntmps76
  go_wp2_with fail
  obtain ⟨W0, hW0⟩ : ∃ W0, W0 = ((w.alloc (.cells #[.bool s, .slice p m m] 122)).alloc (.cells #[.bool t, .slice q n n] 122)) := ⟨_, rfl⟩
  have Xm : Hid (Box W0 (w.heap.size) (.bool s) (.slice p m m)) := by rw [hW0]; exact ⟨by go_simp, by go_simp, by go_simp, by go_simp⟩
  have Xl : Hid (Box W0 (w.heap.size + 1) (.bool t) (.slice q n n)) := by rw [hW0]; exact ⟨by go_simp, by go_simp, by go_simp, by go_simp⟩
  have hb0 : Below w.heap.size w W0 := by rw [hW0]; exact below2 w _ _
  rw [← hW0]
  clear hW0
  have hbw : Below w.heap.size w w := Below.refl _ _
  obtain ⟨gl, hgl⟩ : ∃ g, g = w.heap.size + 1 := ⟨_, rfl⟩
  have HGl : Hid (w.heap.size ≤ gl) := by rw [hgl]; show _ ≤ _; omega
  rw [← hgl] at Xl
  try rw [← hgl]
  obtain ⟨gm, hgm⟩ : ∃ g, g = w.heap.size := ⟨_, rfl⟩
  have HGm : Hid (w.heap.size ≤ gm) := by rw [hgm]; show _ ≤ _; omega
  rw [← hgm] at Xm
  try rw [← hgm]
  have HGD : Hid (gm ≠ gl ∧ gl ≠ gm) := by rw [hgm, hgl]; exact ⟨by omega, by omega⟩
  clear hgm hgl
  replace HA : Hid _ := HA.out.below hb0
  replace HB : Hid _ := HB.out.below hb0
  replace hbw := Below.on hbw hb0
  clear hb0
  obtain ⟨W1, hW1⟩ : ∃ W1, W1 = W0.drew := ⟨_, rfl⟩
  have hbd : Below W0.heap.size W0 W1 := by rw [hW1]; exact bDrew1 (Below.refl _ _)
  replace Xm : Hid _ := Xm.out.below hbd
  replace Xl : Hid _ := Xl.out.below hbd
  replace HA : Hid _ := HA.out.below hbd
  replace HB : Hid _ := HB.out.below hbd
  replace hbw := Below.on hbw hbd
  clear hbd
  have HJ : Hid ((fun W' : World => W'.cell? ⟨gm, 0, none⟩ = some (.bool s) ∧ W'.cell? ⟨gm, 1, none⟩ = some (.slice p m m) ∧ W'.cell? ⟨gl, 0, none⟩ = some (.bool t) ∧ W'.cell? ⟨gl, 1, none⟩ = some (.slice q n n)) W1) := ⟨Xm.out.c0, Xm.out.c1, Xl.out.c0, Xl.out.c1⟩
  refine wp_region_J (fun W' => W'.cell? ⟨gm, 0, none⟩ = some (.bool s) ∧ W'.cell? ⟨gm, 1, none⟩ = some (.slice p m m) ∧ W'.cell? ⟨gl, 0, none⟩ = some (.bool t) ∧ W'.cell? ⟨gl, 1, none⟩ = some (.slice q n n)) (by kernel_rfl) ?_
  rw [← hW1]
  clear hW1
  refine wpJ_tq 0 rfl HJ.out ?_
  refine wpJ_tq 2 rfl HJ.out ?_
  refine wpJ_on 1 rfl fun KJ hK => ?_
  go_simp
  refine (rsign04 s HA.out).mono ?_
  rintro e v1 ⟨rfl, hb1⟩
  rw [sgn_posw HM.out.2.2.1]
  replace Xm : Hid _ := Xm.out.below hb1
  replace Xl : Hid _ := Xl.out.below hb1
  replace HA : Hid _ := HA.out.below hb1
  replace HB : Hid _ := HB.out.below hb1
  replace hbw := Below.on hbw hb1
  clear hb1
  refine hK _ _ ⟨Xm.out.c0, Xm.out.c1, Xl.out.c0, Xl.out.c1⟩ ?_
  clear hK
  refine wpJ_on 3 rfl fun KJ hK => ?_
  go_simp
  refine (rsign04 t HB.out).mono ?_
  rintro e v2 ⟨rfl, hb2⟩
  rw [sgn_posw HM.out.2.2.2]
  replace Xm : Hid _ := Xm.out.below hb2
  replace Xl : Hid _ := Xl.out.below hb2
  replace HA : Hid _ := HA.out.below hb2
  replace HB : Hid _ := HB.out.below hb2
  replace hbw := Below.on hbw hb2
  clear hb2
  clear HJ
  have HJ : Hid ((fun W' : World => W'.cell? ⟨gm, 0, none⟩ = some (.bool s) ∧ W'.cell? ⟨gm, 1, none⟩ = some (.slice p m m) ∧ W'.cell? ⟨gl, 0, none⟩ = some (.bool t) ∧ W'.cell? ⟨gl, 1, none⟩ = some (.slice q n n)) v2) := ⟨Xm.out.c0, Xm.out.c1, Xl.out.c0, Xl.out.c1⟩
  refine hK _ _ HJ.out ?_
  clear hK
  refine wpJ_tq 4 rfl HJ.out ?_
  refine wpJ_tq 5 rfl HJ.out ?_
  refine wpJ_tq 6 rfl HJ.out ?_
  refine wpJ_on 7 rfl fun KJ hK => ?_
  go_simp
  refine (rsign04 s HA.out).mono ?_
  rintro e v3 ⟨rfl, hb3⟩
  rw [sgn_posw HM.out.2.2.1]
  replace Xm : Hid _ := Xm.out.below hb3
  replace Xl : Hid _ := Xl.out.below hb3
  replace HA : Hid _ := HA.out.below hb3
  replace HB : Hid _ := HB.out.below hb3
  replace hbw := Below.on hbw hb3
  clear hb3
  clear HJ
  have HJ : Hid ((fun W' : World => W'.cell? ⟨gm, 0, none⟩ = some (.bool s) ∧ W'.cell? ⟨gm, 1, none⟩ = some (.slice p m m) ∧ W'.cell? ⟨gl, 0, none⟩ = some (.bool t) ∧ W'.cell? ⟨gl, 1, none⟩ = some (.slice q n n)) v3) := ⟨Xm.out.c0, Xm.out.c1, Xl.out.c0, Xl.out.c1⟩
  refine hK _ _ HJ.out ?_
  clear hK
  refine wpJ_tq 8 rfl HJ.out ?_
  refine wpJ_tq 9 rfl HJ.out ?_
  refine wpJ_done (by kernel_rfl) ?_ _
  clear HJ
  obtain ⟨cm0, cm1, fm0, fm1⟩ := Xm.out
  have hnem := Xm.out.lt
  obtain ⟨cl0, cl1, fl0, fl1⟩ := Xl.out
  have hnel := Xl.out.lt
  go_wp2_with fail
  clear cm0 cm1 fm0 fm1 hnem
  clear cl0 cl1 fl0 fl1 hnel
  refine (rsign04 s HA.out).mono ?_
  rintro e v4 ⟨rfl, hb4⟩
  rw [sgn_posw HM.out.2.2.1]
  replace Xm : Hid _ := Xm.out.below hb4
  replace Xl : Hid _ := Xl.out.below hb4
  replace HA : Hid _ := HA.out.below hb4
  replace HB : Hid _ := HB.out.below hb4
  replace hbw := Below.on hbw hb4
  clear hb4
  obtain ⟨cm0, cm1, fm0, fm1⟩ := Xm.out
  have hnem := Xm.out.lt
  obtain ⟨cl0, cl1, fl0, fl1⟩ := Xl.out
  have hnel := Xl.out.lt
  go_wp2_with fail
  clear cm0 cm1 fm0 fm1 hnem
  clear cl0 cl1 fl0 fl1 hnel
  obtain ⟨W2, hW2⟩ : ∃ W1, W1 = v4.drew := ⟨_, rfl⟩
  have hbd : Below v4.heap.size v4 W2 := by rw [hW2]; exact bDrew1 (Below.refl _ _)
  replace Xm : Hid _ := Xm.out.below hbd
  replace Xl : Hid _ := Xl.out.below hbd
  replace HA : Hid _ := HA.out.below hbd
  replace HB : Hid _ := HB.out.below hbd
  replace hbw := Below.on hbw hbd
  clear hbd
  have HJ : Hid ((fun W' : World => W'.cell? ⟨gm, 1, none⟩ = some (.slice p m m) ∧ W'.cell? ⟨gl, 1, none⟩ = some (.slice q n n)) W2) := ⟨Xm.out.c1, Xl.out.c1⟩
  refine wp_region_J (fun W' => W'.cell? ⟨gm, 1, none⟩ = some (.slice p m m) ∧ W'.cell? ⟨gl, 1, none⟩ = some (.slice q n n)) (by kernel_rfl) ?_
  rw [← hW2]
  clear hW2
  refine wpJ_tq 0 rfl HJ.out ?_
  refine wpJ_tq 1 rfl HJ.out ?_
  refine wpJ_tq 3 rfl HJ.out ?_
  refine wpJ_tq 5 rfl HJ.out ?_
  refine wpJ_tq 6 rfl HJ.out ?_
  go_simp
  refine wpJ_tq 8 rfl HJ.out ?_
  refine wpJ_on 2 rfl fun KJ hK => ?_
  go_simp
  obtain ⟨zs, hA, hN⟩ := HA.out.ex
  refine (rbits_any hA hN (by have := HM.out.1; omega)).mono ?_
  rintro e1 v5 ⟨rfl, hw⟩
  obtain rfl := hw.symm
  clear hw hA hN
  rw [← HX.out.1]
  clear HJ
  have HJ : Hid ((fun W' : World => W'.cell? ⟨gm, 1, none⟩ = some (.slice p m m) ∧ W'.cell? ⟨gl, 1, none⟩ = some (.slice q n n)) W2) := ⟨Xm.out.c1, Xl.out.c1⟩
  refine hK _ _ HJ.out ?_
  clear hK
  refine wpJ_tq 4 rfl HJ.out ?_
  refine wpJ_on 7 rfl fun KJ hK => ?_
  go_simp
  obtain ⟨zs, hA, hN⟩ := HB.out.ex
  refine (rbits_any hA hN (by have := HM.out.2.1; omega)).mono ?_
  rintro e1 v6 ⟨rfl, hw⟩
  obtain rfl := hw.symm
  clear hw hA hN
  rw [← HX.out.2.1]
  clear HJ
  have HJ : Hid ((fun W' : World => W'.cell? ⟨gm, 1, none⟩ = some (.slice p m m) ∧ W'.cell? ⟨gl, 1, none⟩ = some (.slice q n n)) W2) := ⟨Xm.out.c1, Xl.out.c1⟩
  refine hK _ _ HJ.out ?_
  clear hK
  refine wpJ_tq 9 rfl HJ.out ?_
  refine wpJ_tq 10 rfl HJ.out ?_
  refine wpJ_tq 11 rfl HJ.out ?_
  refine wpJ_done (by kernel_rfl) ?_ _
  clear HJ
  rcases Int.lt_trichotomy tt uu with h5 | h5 | h5
  · have c1 : decide (tt < uu) = true := decide_eq_true h5
    have HT : Hid (tt < uu) := h5
    clear h5
    obtain ⟨cm0, cm1, fm0, fm1⟩ := Xm.out
    have hnem := Xm.out.lt
    obtain ⟨cl0, cl1, fl0, fl1⟩ := Xl.out
    have hnel := Xl.out.lt
    go_wp2_with fail
    clear cm0 cm1 fm0 fm1 hnem
    clear cl0 cl1 fl0 fl1 hnel
    go_ret
    rw [HLT.out HT.out]
    exact ⟨rfl, hbw⟩
  · have c1 : decide (tt < uu) = false := decide_eq_false (by rw [h5]; exact Int.lt_irrefl _)
    have c2 : decide (uu < tt) = false := decide_eq_false (by rw [h5]; exact Int.lt_irrefl _)
    clear h5 HLT HGT
    go_wp2_with fail
    obtain ⟨W3, hW3⟩ : ∃ W1, W1 = W2.drew := ⟨_, rfl⟩
    have hbd : Below W2.heap.size W2 W3 := by rw [hW3]; exact bDrew1 (Below.refl _ _)
    replace Xm : Hid _ := Xm.out.below hbd
    replace Xl : Hid _ := Xl.out.below hbd
    replace HA : Hid _ := HA.out.below hbd
    replace HB : Hid _ := HB.out.below hbd
    replace hbw := Below.on hbw hbd
    clear hbd
    have HJ : Hid ((fun W' : World => W'.cell? ⟨gm, 0, none⟩ = some (.bool s) ∧ W'.cell? ⟨gm, 1, none⟩ = some (.slice p m m) ∧ W'.cell? ⟨gl, 0, none⟩ = some (.bool t) ∧ W'.cell? ⟨gl, 1, none⟩ = some (.slice q n n)) W3) := ⟨Xm.out.c0, Xm.out.c1, Xl.out.c0, Xl.out.c1⟩
    refine wp_region_J (fun W' => W'.cell? ⟨gm, 0, none⟩ = some (.bool s) ∧ W'.cell? ⟨gm, 1, none⟩ = some (.slice p m m) ∧ W'.cell? ⟨gl, 0, none⟩ = some (.bool t) ∧ W'.cell? ⟨gl, 1, none⟩ = some (.slice q n n)) (by kernel_rfl) ?_
    rw [← hW3]
    clear hW3
    refine wpJ_tq 0 rfl HJ.out ?_
    refine wpJ_tq 1 rfl HJ.out ?_
    refine wpJ_tq 2 rfl HJ.out ?_
    refine wpJ_tq 3 rfl HJ.out ?_
    refine wpJ_tq 5 rfl HJ.out ?_
    refine wpJ_on 4 rfl fun KJ hK => ?_
    go_simp
    refine (rshl04 s HA.out (by have := HM.out.1; omega) k (.inl (by have := HX.out.2.2.2; omega))).mono ?_
    rintro e v8 ⟨v, rfl, hv, hb8⟩
    obtain ⟨s8, g8, m8, rfl, hg8, hz8, hl8⟩ := hv
    have HN8 : Hid (W3.heap.size ≤ g8) := hg8
    have HB8 : Hid (W3.heap.size ≤ v8.heap.size) := hb8.size
    replace Xm : Hid _ := Xm.out.below hb8
    replace Xl : Hid _ := Xl.out.below hb8
    replace HA : Hid _ := HA.out.below hb8
    replace HB : Hid _ := HB.out.below hb8
    replace hbw := Below.on hbw hb8
    clear hb8
    have Z8 : Hid (ZR v8 s8 (some ⟨g8, 0, none⟩) m8 (x * 2 ^ k)) := hz8
    have HL8 : Hid (m8 ≤ 40000) := hl8
    clear hz8 hl8 hg8
    refine hK _ _ ⟨Xm.out.c0, Xm.out.c1, Xl.out.c0, Xl.out.c1⟩ ?_
    clear hK
    refine wpJ_on 6 rfl fun KJ hK => ?_
    go_simp
    refine (rcmp04 s8 t Z8.out HB.out (by have := HL8.out; omega) (by have := HM.out.2.1; omega)).mono ?_
    rintro e v9 ⟨rfl, hb9⟩
    rw [← HX.out.2.2.1]
    replace Xm : Hid _ := Xm.out.below hb9
    replace Xl : Hid _ := Xl.out.below hb9
    replace HA : Hid _ := HA.out.below hb9
    replace HB : Hid _ := HB.out.below hb9
    replace Z8 : Hid _ := Z8.out.below hb9
    replace hbw := Below.on hbw hb9
    clear hb9
    clear HJ
    have HJ : Hid ((fun W' : World => W'.cell? ⟨gm, 0, none⟩ = some (.bool s) ∧ W'.cell? ⟨gm, 1, none⟩ = some (.slice p m m) ∧ W'.cell? ⟨gl, 0, none⟩ = some (.bool t) ∧ W'.cell? ⟨gl, 1, none⟩ = some (.slice q n n)) v9) := ⟨Xm.out.c0, Xm.out.c1, Xl.out.c0, Xl.out.c1⟩
    refine hK _ _ HJ.out ?_
    clear hK
    refine wpJ_tq 7 rfl HJ.out ?_
    refine wpJ_done (by kernel_rfl) ?_ _
    clear HJ
    go_wp2_with fail
    go_ret
    exact ⟨rfl, hbw⟩
  · have c1 : decide (tt < uu) = false := decide_eq_false (Int.lt_asymm h5)
    have c2 : decide (uu < tt) = true := decide_eq_true h5
    have HT : Hid (uu < tt) := h5
    clear h5
    obtain ⟨cm0, cm1, fm0, fm1⟩ := Xm.out
    have hnem := Xm.out.lt
    obtain ⟨cl0, cl1, fl0, fl1⟩ := Xl.out
    have hnel := Xl.out.lt
    go_wp2_with fail
    clear cm0 cm1 fm0 fm1 hnem
    clear cl0 cl1 fl0 fl1 hnel
    go_ret
    rw [HGT.out HT.out]
    exact ⟨rfl, hbw⟩
theorem rholdw_l {p q : Option Addr} {m n k : Nat} {w : World} {x y e f : Int} (s t : Bool) (h : ZR w s p m x) (k0 : ZR w t q n y) (hm : m ≤ 10000) (hn : n ≤ 10000) (hx : 0 < x) (hy : 0 < y) (hbx : bitsN x.natAbs ≤ 100000) (hby : bitsN y.natAbs ≤ 100000) (hk : k ≤ 40000) (he : -40000 ≤ e ∧ e ≤ 40000) (hf : -40000 ≤ f ∧ f ≤ 40000) (hef : f = e + (k : Int)) :
    Calls Tryz.prog 76 #[.agg #[.bool s, .slice p m m], .int .i64 e, .agg #[.bool t, .slice q n n], .int .i64 f] w fun en w' => en = .returned (.int .i64 (cmpI x (y * 2 ^ k))) ∧ Below w.heap.size w w' := by
  obtain ⟨bx, hbxe⟩ : ∃ bx, bx = bitsN x.natAbs := ⟨_, rfl⟩
  obtain ⟨yb, hbye⟩ : ∃ yb, yb = bitsN y.natAbs := ⟨_, rfl⟩
  obtain ⟨tt, htt⟩ : ∃ tt : Int, tt = (bx : Int) + e := ⟨_, rfl⟩
  obtain ⟨uu, huu⟩ : ∃ uu : Int, uu = (yb : Int) + f := ⟨_, rfl⟩
  obtain ⟨rs, hrs⟩ : ∃ rs, rs = cmpI x (y * 2 ^ k) := ⟨_, rfl⟩
  rw [← hbxe] at hbx
  rw [← hbye] at hby
  rw [← hrs]
  have HA : Hid (ZR w s p m x) := h
  have HB : Hid (ZR w t q n y) := k0
  have HM : Hid (m ≤ 10000 ∧ n ≤ 10000 ∧ 0 < x ∧ 0 < y) := ⟨hm, hn, hx, hy⟩
  have HX : Hid (bx = bitsN x.natAbs ∧ yb = bitsN y.natAbs ∧ rs = cmpI x (y * 2 ^ k) ∧ k ≤ 40000) := ⟨hbxe, hbye, hrs, hk⟩
  have HLT : Hid (tt < uu → rs = -1) := fun h => by
    have := (bits_cmpw (k := k) hy hx).2 (by rw [← hbxe, ← hbye]; omega)
    rw [hrs]; exact cmp_ltw this
  have HGT : Hid (uu < tt → rs = 1) := fun h => by
    have := (bits_cmpw (k := k) hy hx).1 (by rw [← hbxe, ← hbye]; omega)
    rw [hrs]; exact cmp_gtw this
  have w1 : IntKind.i64.wrap ((bx : Int) + e) = tt := by rw [htt]; simp [IntKind.wrap, IntKind.signed, IntKind.bits]; omega
  have w2 : IntKind.i64.wrap ((yb : Int) + f) = uu := by rw [huu]; simp [IntKind.wrap, IntKind.signed, IntKind.bits]; omega
  have c3 : decide (f < e) = false := decide_eq_false (by omega)
  have w3 : IntKind.i64.wrap (f - e) = (k : Int) := by rw [show f - e = (k : Int) by omega]; simp [IntKind.wrap, IntKind.signed, IntKind.bits]; omega
  have w4 : wrap64 (f - e) = (k : Int) := by rw [show f - e = (k : Int) by omega]; simp only [wrap64]; omega
  clear h k0 hm hn hx hy hk he hf hef hbx hby hbxe hbye htt huu hrs
  go_enter Tryz.func76, Tryz.ntmps76
  go_wp2_with fail
  obtain ⟨W0, hW0⟩ : ∃ W0, W0 = ((w.alloc (.cells #[.bool s, .slice p m m] 122)).alloc (.cells #[.bool t, .slice q n n] 122)) := ⟨_, rfl⟩
  have Xm : Hid (Box W0 (w.heap.size) (.bool s) (.slice p m m)) := by rw [hW0]; exact ⟨by go_simp, by go_simp, by go_simp, by go_simp⟩
  have Xl : Hid (Box W0 (w.heap.size + 1) (.bool t) (.slice q n n)) := by rw [hW0]; exact ⟨by go_simp, by go_simp, by go_simp, by go_simp⟩
  have hb0 : Below w.heap.size w W0 := by rw [hW0]; exact below2 w _ _
  rw [← hW0]
  clear hW0
  have hbw : Below w.heap.size w w := Below.refl _ _
  obtain ⟨gl, hgl⟩ : ∃ g, g = w.heap.size + 1 := ⟨_, rfl⟩
  have HGl : Hid (w.heap.size ≤ gl) := by rw [hgl]; show _ ≤ _; omega
  rw [← hgl] at Xl
  try rw [← hgl]
  obtain ⟨gm, hgm⟩ : ∃ g, g = w.heap.size := ⟨_, rfl⟩
  have HGm : Hid (w.heap.size ≤ gm) := by rw [hgm]; show _ ≤ _; omega
  rw [← hgm] at Xm
  try rw [← hgm]
  have HGD : Hid (gm ≠ gl ∧ gl ≠ gm) := by rw [hgm, hgl]; exact ⟨by omega, by omega⟩
  clear hgm hgl
  replace HA : Hid _ := HA.out.below hb0
  replace HB : Hid _ := HB.out.below hb0
  replace hbw := Below.on hbw hb0
  clear hb0
  obtain ⟨W1, hW1⟩ : ∃ W1, W1 = W0.drew := ⟨_, rfl⟩
  have hbd : Below W0.heap.size W0 W1 := by rw [hW1]; exact bDrew1 (Below.refl _ _)
  replace Xm : Hid _ := Xm.out.below hbd
  replace Xl : Hid _ := Xl.out.below hbd
  replace HA : Hid _ := HA.out.below hbd
  replace HB : Hid _ := HB.out.below hbd
  replace hbw := Below.on hbw hbd
  clear hbd
  have HJ : Hid ((fun W' : World => W'.cell? ⟨gm, 0, none⟩ = some (.bool s) ∧ W'.cell? ⟨gm, 1, none⟩ = some (.slice p m m) ∧ W'.cell? ⟨gl, 0, none⟩ = some (.bool t) ∧ W'.cell? ⟨gl, 1, none⟩ = some (.slice q n n)) W1) := ⟨Xm.out.c0, Xm.out.c1, Xl.out.c0, Xl.out.c1⟩
  refine wp_region_J (fun W' => W'.cell? ⟨gm, 0, none⟩ = some (.bool s) ∧ W'.cell? ⟨gm, 1, none⟩ = some (.slice p m m) ∧ W'.cell? ⟨gl, 0, none⟩ = some (.bool t) ∧ W'.cell? ⟨gl, 1, none⟩ = some (.slice q n n)) (by kernel_rfl) ?_
  rw [← hW1]
  clear hW1
  refine wpJ_tq 0 rfl HJ.out ?_
  refine wpJ_tq 2 rfl HJ.out ?_
  refine wpJ_on 1 rfl fun KJ hK => ?_
  go_simp
  refine (rsign04 s HA.out).mono ?_
  rintro e v1 ⟨rfl, hb1⟩
  rw [sgn_posw HM.out.2.2.1]
  replace Xm : Hid _ := Xm.out.below hb1
  replace Xl : Hid _ := Xl.out.below hb1
  replace HA : Hid _ := HA.out.below hb1
  replace HB : Hid _ := HB.out.below hb1
  replace hbw := Below.on hbw hb1
  clear hb1
  refine hK _ _ ⟨Xm.out.c0, Xm.out.c1, Xl.out.c0, Xl.out.c1⟩ ?_
  clear hK
  refine wpJ_on 3 rfl fun KJ hK => ?_
  go_simp
  refine (rsign04 t HB.out).mono ?_
  rintro e v2 ⟨rfl, hb2⟩
  rw [sgn_posw HM.out.2.2.2]
  replace Xm : Hid _ := Xm.out.below hb2
  replace Xl : Hid _ := Xl.out.below hb2
  replace HA : Hid _ := HA.out.below hb2
  replace HB : Hid _ := HB.out.below hb2
  replace hbw := Below.on hbw hb2
  clear hb2
  clear HJ
  have HJ : Hid ((fun W' : World => W'.cell? ⟨gm, 0, none⟩ = some (.bool s) ∧ W'.cell? ⟨gm, 1, none⟩ = some (.slice p m m) ∧ W'.cell? ⟨gl, 0, none⟩ = some (.bool t) ∧ W'.cell? ⟨gl, 1, none⟩ = some (.slice q n n)) v2) := ⟨Xm.out.c0, Xm.out.c1, Xl.out.c0, Xl.out.c1⟩
  refine hK _ _ HJ.out ?_
  clear hK
  refine wpJ_tq 4 rfl HJ.out ?_
  refine wpJ_tq 5 rfl HJ.out ?_
  refine wpJ_tq 6 rfl HJ.out ?_
  refine wpJ_on 7 rfl fun KJ hK => ?_
  go_simp
  refine (rsign04 s HA.out).mono ?_
  rintro e v3 ⟨rfl, hb3⟩
  rw [sgn_posw HM.out.2.2.1]
  replace Xm : Hid _ := Xm.out.below hb3
  replace Xl : Hid _ := Xl.out.below hb3
  replace HA : Hid _ := HA.out.below hb3
  replace HB : Hid _ := HB.out.below hb3
  replace hbw := Below.on hbw hb3
  clear hb3
  clear HJ
  have HJ : Hid ((fun W' : World => W'.cell? ⟨gm, 0, none⟩ = some (.bool s) ∧ W'.cell? ⟨gm, 1, none⟩ = some (.slice p m m) ∧ W'.cell? ⟨gl, 0, none⟩ = some (.bool t) ∧ W'.cell? ⟨gl, 1, none⟩ = some (.slice q n n)) v3) := ⟨Xm.out.c0, Xm.out.c1, Xl.out.c0, Xl.out.c1⟩
  refine hK _ _ HJ.out ?_
  clear hK
  refine wpJ_tq 8 rfl HJ.out ?_
  refine wpJ_tq 9 rfl HJ.out ?_
  refine wpJ_done (by kernel_rfl) ?_ _
  clear HJ
  obtain ⟨cm0, cm1, fm0, fm1⟩ := Xm.out
  have hnem := Xm.out.lt
  obtain ⟨cl0, cl1, fl0, fl1⟩ := Xl.out
  have hnel := Xl.out.lt
  go_wp2_with fail
  clear cm0 cm1 fm0 fm1 hnem
  clear cl0 cl1 fl0 fl1 hnel
  refine (rsign04 s HA.out).mono ?_
  rintro e v4 ⟨rfl, hb4⟩
  rw [sgn_posw HM.out.2.2.1]
  replace Xm : Hid _ := Xm.out.below hb4
  replace Xl : Hid _ := Xl.out.below hb4
  replace HA : Hid _ := HA.out.below hb4
  replace HB : Hid _ := HB.out.below hb4
  replace hbw := Below.on hbw hb4
  clear hb4
  obtain ⟨cm0, cm1, fm0, fm1⟩ := Xm.out
  have hnem := Xm.out.lt
  obtain ⟨cl0, cl1, fl0, fl1⟩ := Xl.out
  have hnel := Xl.out.lt
  go_wp2_with fail
  clear cm0 cm1 fm0 fm1 hnem
  clear cl0 cl1 fl0 fl1 hnel
  obtain ⟨W2, hW2⟩ : ∃ W1, W1 = v4.drew := ⟨_, rfl⟩
  have hbd : Below v4.heap.size v4 W2 := by rw [hW2]; exact bDrew1 (Below.refl _ _)
  replace Xm : Hid _ := Xm.out.below hbd
  replace Xl : Hid _ := Xl.out.below hbd
  replace HA : Hid _ := HA.out.below hbd
  replace HB : Hid _ := HB.out.below hbd
  replace hbw := Below.on hbw hbd
  clear hbd
  have HJ : Hid ((fun W' : World => W'.cell? ⟨gm, 1, none⟩ = some (.slice p m m) ∧ W'.cell? ⟨gl, 1, none⟩ = some (.slice q n n)) W2) := ⟨Xm.out.c1, Xl.out.c1⟩
  refine wp_region_J (fun W' => W'.cell? ⟨gm, 1, none⟩ = some (.slice p m m) ∧ W'.cell? ⟨gl, 1, none⟩ = some (.slice q n n)) (by kernel_rfl) ?_
  rw [← hW2]
  clear hW2
  refine wpJ_tq 0 rfl HJ.out ?_
  refine wpJ_tq 1 rfl HJ.out ?_
  refine wpJ_tq 3 rfl HJ.out ?_
  refine wpJ_tq 5 rfl HJ.out ?_
  refine wpJ_tq 6 rfl HJ.out ?_
  go_simp
  refine wpJ_tq 8 rfl HJ.out ?_
  refine wpJ_on 2 rfl fun KJ hK => ?_
  go_simp
  obtain ⟨zs, hA, hN⟩ := HA.out.ex
  refine (rbits_any hA hN (by have := HM.out.1; omega)).mono ?_
  rintro e1 v5 ⟨rfl, hw⟩
  obtain rfl := hw.symm
  clear hw hA hN
  rw [← HX.out.1]
  clear HJ
  have HJ : Hid ((fun W' : World => W'.cell? ⟨gm, 1, none⟩ = some (.slice p m m) ∧ W'.cell? ⟨gl, 1, none⟩ = some (.slice q n n)) W2) := ⟨Xm.out.c1, Xl.out.c1⟩
  refine hK _ _ HJ.out ?_
  clear hK
  refine wpJ_tq 4 rfl HJ.out ?_
  refine wpJ_on 7 rfl fun KJ hK => ?_
  go_simp
  obtain ⟨zs, hA, hN⟩ := HB.out.ex
  refine (rbits_any hA hN (by have := HM.out.2.1; omega)).mono ?_
  rintro e1 v6 ⟨rfl, hw⟩
  obtain rfl := hw.symm
  clear hw hA hN
  rw [← HX.out.2.1]
  clear HJ
  have HJ : Hid ((fun W' : World => W'.cell? ⟨gm, 1, none⟩ = some (.slice p m m) ∧ W'.cell? ⟨gl, 1, none⟩ = some (.slice q n n)) W2) := ⟨Xm.out.c1, Xl.out.c1⟩
  refine hK _ _ HJ.out ?_
  clear hK
  refine wpJ_tq 9 rfl HJ.out ?_
  refine wpJ_tq 10 rfl HJ.out ?_
  refine wpJ_tq 11 rfl HJ.out ?_
  refine wpJ_done (by kernel_rfl) ?_ _
  clear HJ
  rcases Int.lt_trichotomy tt uu with h5 | h5 | h5
  · have c1 : decide (tt < uu) = true := decide_eq_true h5
    have HT : Hid (tt < uu) := h5
    clear h5
    obtain ⟨cm0, cm1, fm0, fm1⟩ := Xm.out
    have hnem := Xm.out.lt
    obtain ⟨cl0, cl1, fl0, fl1⟩ := Xl.out
    have hnel := Xl.out.lt
    go_wp2_with fail
    clear cm0 cm1 fm0 fm1 hnem
    clear cl0 cl1 fl0 fl1 hnel
    go_ret
    rw [HLT.out HT.out]
    exact ⟨rfl, hbw⟩
  · have c1 : decide (tt < uu) = false := decide_eq_false (by rw [h5]; exact Int.lt_irrefl _)
    have c2 : decide (uu < tt) = false := decide_eq_false (by rw [h5]; exact Int.lt_irrefl _)
    clear h5 HLT HGT
    go_wp2_with fail
    obtain ⟨W3, hW3⟩ : ∃ W1, W1 = W2.drew := ⟨_, rfl⟩
    have hbd : Below W2.heap.size W2 W3 := by rw [hW3]; exact bDrew1 (Below.refl _ _)
    replace Xm : Hid _ := Xm.out.below hbd
    replace Xl : Hid _ := Xl.out.below hbd
    replace HA : Hid _ := HA.out.below hbd
    replace HB : Hid _ := HB.out.below hbd
    replace hbw := Below.on hbw hbd
    clear hbd
    have HJ : Hid ((fun W' : World => W'.cell? ⟨gm, 0, none⟩ = some (.bool s) ∧ W'.cell? ⟨gm, 1, none⟩ = some (.slice p m m) ∧ W'.cell? ⟨gl, 0, none⟩ = some (.bool t) ∧ W'.cell? ⟨gl, 1, none⟩ = some (.slice q n n)) W3) := ⟨Xm.out.c0, Xm.out.c1, Xl.out.c0, Xl.out.c1⟩
    refine wp_region_J (fun W' => W'.cell? ⟨gm, 0, none⟩ = some (.bool s) ∧ W'.cell? ⟨gm, 1, none⟩ = some (.slice p m m) ∧ W'.cell? ⟨gl, 0, none⟩ = some (.bool t) ∧ W'.cell? ⟨gl, 1, none⟩ = some (.slice q n n)) (by kernel_rfl) ?_
    rw [← hW3]
    clear hW3
    refine wpJ_tq 0 rfl HJ.out ?_
    refine wpJ_tq 1 rfl HJ.out ?_
    refine wpJ_tq 2 rfl HJ.out ?_
    refine wpJ_tq 3 rfl HJ.out ?_
    refine wpJ_tq 4 rfl HJ.out ?_
    refine wpJ_on 5 rfl fun KJ hK => ?_
    go_simp
    refine (rshl04 t HB.out (by have := HM.out.2.1; omega) k (.inl (by have := HX.out.2.2.2; omega))).mono ?_
    rintro e v8 ⟨v, rfl, hv, hb8⟩
    obtain ⟨s8, g8, m8, rfl, hg8, hz8, hl8⟩ := hv
    have HN8 : Hid (W3.heap.size ≤ g8) := hg8
    have HB8 : Hid (W3.heap.size ≤ v8.heap.size) := hb8.size
    replace Xm : Hid _ := Xm.out.below hb8
    replace Xl : Hid _ := Xl.out.below hb8
    replace HA : Hid _ := HA.out.below hb8
    replace HB : Hid _ := HB.out.below hb8
    replace hbw := Below.on hbw hb8
    clear hb8
    have Z8 : Hid (ZR v8 s8 (some ⟨g8, 0, none⟩) m8 (y * 2 ^ k)) := hz8
    have HL8 : Hid (m8 ≤ 40000) := hl8
    clear hz8 hl8 hg8
    refine hK _ _ ⟨Xm.out.c0, Xm.out.c1, Xl.out.c0, Xl.out.c1⟩ ?_
    clear hK
    refine wpJ_on 6 rfl fun KJ hK => ?_
    go_simp
    refine (rcmp04 s s8 HA.out Z8.out (by have := HM.out.1; omega) (by have := HL8.out; omega)).mono ?_
    rintro e v9 ⟨rfl, hb9⟩
    rw [← HX.out.2.2.1]
    replace Xm : Hid _ := Xm.out.below hb9
    replace Xl : Hid _ := Xl.out.below hb9
    replace HA : Hid _ := HA.out.below hb9
    replace HB : Hid _ := HB.out.below hb9
    replace Z8 : Hid _ := Z8.out.below hb9
    replace hbw := Below.on hbw hb9
    clear hb9
    clear HJ
    have HJ : Hid ((fun W' : World => W'.cell? ⟨gm, 0, none⟩ = some (.bool s) ∧ W'.cell? ⟨gm, 1, none⟩ = some (.slice p m m) ∧ W'.cell? ⟨gl, 0, none⟩ = some (.bool t) ∧ W'.cell? ⟨gl, 1, none⟩ = some (.slice q n n)) v9) := ⟨Xm.out.c0, Xm.out.c1, Xl.out.c0, Xl.out.c1⟩
    refine hK _ _ HJ.out ?_
    clear hK
    refine wpJ_tq 7 rfl HJ.out ?_
    refine wpJ_done (by kernel_rfl) ?_ _
    clear HJ
    go_wp2_with fail
    go_ret
    exact ⟨rfl, hbw⟩
  · have c1 : decide (tt < uu) = false := decide_eq_false (Int.lt_asymm h5)
    have c2 : decide (uu < tt) = true := decide_eq_true h5
    have HT : Hid (uu < tt) := h5
    clear h5
    obtain ⟨cm0, cm1, fm0, fm1⟩ := Xm.out
    have hnem := Xm.out.lt
    obtain ⟨cl0, cl1, fl0, fl1⟩ := Xl.out
    have hnel := Xl.out.lt
    go_wp2_with fail
    clear cm0 cm1 fm0 fm1 hnem
    clear cl0 cl1 fl0 fl1 hnel
    go_ret
    rw [HGT.out HT.out]
    exact ⟨rfl, hbw⟩
structure Rj (f : Int) (S : Nat) (P E G : Int) (I Q H sd n : Nat) (Be : Int) : Prop where
  rf : Rf f S P E G I Q
  wh : ∀ (b : Nat) w, Calls Tryz.prog 75 #[FV S P E G I Q, U b] w fun en w' => ∃ v, en = .returned v ∧ GotR w.heap.size w' v (svS S H b) 2200 ∧ Below w.heap.size w w'
  hP : P = sd + 1
  hsd : 1 ≤ sd ∧ sd ≤ 52
  hs : H = 2 ^ sd
  hn : Be = E + sd + n
  hI : I = (n + 1) * H
  n1 : 1 ≤ n ∧ n ≤ 2046
  be : G + P = Be ∧ Be ≤ 1024 ∧ -1074 ≤ E ∧ E ≤ 0 ∧ 0 < Be
  lt : I < S ∧ S ≤ 9223372036854775808
theorem rj_w {G P Be E : Int} (h : G + P = Be ∧ Be ≤ 1024 ∧ -1074 ≤ E ∧ E ≤ 0 ∧ 0 < Be) : IntKind.i64.wrap (G + P) = Be ∧ wrap64 (G + P) = Be := by rw [h.1]; exact jw (by omega) (by omega)
theorem rj_sv {S H s : Nat} (h : s < S) : svS S H s = (vs H s : Int) := by rw [svS_eq, if_neg (by omega), Nat.mod_eq_of_lt h]
end Go.Proofs.YtglkjbkpgfencaaGreatDoor
