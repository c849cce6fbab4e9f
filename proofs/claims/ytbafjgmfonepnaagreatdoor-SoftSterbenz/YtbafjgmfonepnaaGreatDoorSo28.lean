import Derived.Test.YtbafjgmfonepnaaGreatDoorJ23
import Derived.Test.YtbafjgmfonepnaaGreatDoorJ22
import Derived.Test.YtbafjgmfonepnaaGreatDoorJ15
namespace Go.Proofs.YtbafjgmfonepnaaGreatDoor
open Go.RowKit Go.Shelf
set_option maxRecDepth 20000
set_option maxHeartbeats 0
theorem st9 {W : World} {ga gb gm : Nat} {y0 y1 z0 z1 v0 v1 v2 v3 v4 v5 : Value} (a b : Value) (Xa : Box W ga z0 z1) (Xb : Box W gb y0 y1) (Xm : B6q W gm v0 v1 v2 v3 v4 v5) (d1 : ga ≠ gb) (d2 : ga ≠ gm) :
    Box ((W.setCell ⟨ga, 0, none⟩ a).setCell ⟨ga, 1, none⟩ b) ga a b ∧ Box ((W.setCell ⟨ga, 0, none⟩ a).setCell ⟨ga, 1, none⟩ b) gb y0 y1 ∧ B6q ((W.setCell ⟨ga, 0, none⟩ a).setCell ⟨ga, 1, none⟩ b) gm v0 v1 v2 v3 v4 v5 := by
  obtain ⟨a0, a1, a2, a3⟩ := Xa
  obtain ⟨b0, b1, b2, b3⟩ := Xb
  obtain ⟨c0, c1, c2, c3, c4, c5, f0, f1, f2, f3, f4, f5⟩ := Xm
  have e1 : gb ≠ ga := fun h => d1 h.symm
  have e2 : gm ≠ ga := fun h => d2 h.symm
  exact ⟨⟨by go_simp, by go_simp, by go_simp, by go_simp⟩, ⟨by go_simp, by go_simp, by go_simp, by go_simp⟩, ⟨by go_simp, by go_simp, by go_simp, by go_simp, by go_simp, by go_simp, by go_simp, by go_simp, by go_simp, by go_simp, by go_simp, by go_simp⟩⟩
theorem wpJ_nodes {P : Program} {md : Region.Mode} {ops : Array Oper} {Q : Exit → Act → World → Prop} {J : World → Prop} {fuel : Nat} {listed : Array Bool} {a : Act} {w : World} (h : ∀ WP : Nat → Array Bool → Act → World → Prop, WP = wpJ P md ops Q J → ∀ L a0, L = listed → a0 = a → WP fuel L a0 w) : wpJ P md ops Q J fuel listed a w := h _ rfl _ _ rfl rfl
theorem wpJ_same {P : Program} {md : Region.Mode} {ops : Array Oper} {Q : Exit → Act → World → Prop} {J : World → Prop} {fuel : Nat} {L L' : Array Bool} {a a' : Act} {w : World} (h1 : L = L') (h2 : a = a') (h : wpJ P md ops Q J fuel L a w) : wpJ P md ops Q J fuel L' a' w := by
  subst h1 h2; exact h
theorem svS_small {S H a b : Nat} (hS : 0 < S) (h : a = b % S) : (svS S H a).natAbs = vs H (b % S) := by
  have h1 := Nat.mod_lt b hS
  rw [svS_eq, h, Nat.mod_eq_of_lt h1, if_neg (by omega)]; omega
theorem cmp_not {x y : Int} (h : ¬ 0 < cmpI x y) : x ≤ y := by
  unfold cmpI at h
  split at h
  · omega
  · split at h
    · omega
    · omega
theorem Hid.mk9 {p : Prop} (h : p) : Hid p := h
theorem B6q.j9 {W : World} {g : Nat} {v0 v1 v2 v3 v4 v5 : Value} (h : B6q W g v0 v1 v2 v3 v4 v5) : W.cell? ⟨g, 0, none⟩ = some v0 ∧ W.cell? ⟨g, 1, none⟩ = some v1 ∧ W.cell? ⟨g, 2, none⟩ = some v2 ∧ W.cell? ⟨g, 3, none⟩ = some v3 ∧ W.cell? ⟨g, 4, none⟩ = some v4 ∧ W.cell? ⟨g, 5, none⟩ = some v5 := ⟨h.c0, h.c1, h.c2, h.c3, h.c4, h.c5⟩
theorem sterbenz_w {sg : Bool} {f p m l : Int} {S I H sd : Nat} {Be : Int} {Q : Nat} {P E G : Int} (L : L9 sg f p m l S I H sd Be Q P E G) (a b : Nat) (ha : a < B64) (hb : b < B64) (w : World) (hT : Tab w) :
    Calls Tryz.prog 3 #[.bool sg, U a, U b] w fun en w' => en = .returned (.bool true) ∧ Below w.heap.size w w' := by
  have hbw : Below w.heap.size w w := Below.refl _ _
  have TB : Hid (Tab w) := hT
  obtain ⟨A, hA, cA⟩ := L.sizes a ha
  obtain ⟨B, hB, cB⟩ := L.sizes b hb
  obtain ⟨oka, hka⟩ : ∃ oka, oka = decide (A % S < I) := ⟨_, rfl⟩
  obtain ⟨okb, hkb⟩ : ∃ okb, okb = decide (B % S < I) := ⟨_, rfl⟩
  rw [← hka] at cA
  rw [← hkb] at cB
  have HM : Hid (L9 sg f p m l S I H sd Be Q P E G) := L
  have CA : Hid (∀ w, Calls Tryz.prog 8 #[FV S P E G I Q, U a] w fun en w' => en = .returned (.tuple #[U A, .bool oka]) ∧ Below w.heap.size w w') := cA
  have CB : Hid (∀ w, Calls Tryz.prog 8 #[FV S P E G I Q, U b] w fun en w' => en = .returned (.tuple #[U B, .bool okb]) ∧ Below w.heap.size w w') := cB
  have hS9 := L.s9
  have hS0 : 0 < S := by have := L.jo.jq.jn.jm.pm.fm.lt; omega
  obtain ⟨ma, hma⟩ : ∃ ma, ma = A % S := ⟨_, rfl⟩
  obtain ⟨mb, hmb⟩ : ∃ mb, mb = B % S := ⟨_, rfl⟩
  have r1 : (A : Int).tmod S = (ma : Int) := by rw [Int.tmod_eq_emod_of_nonneg (by omega), hma]; rfl
  have r2 : (B : Int).tmod S = (mb : Int) := by rw [Int.tmod_eq_emod_of_nonneg (by omega), hmb]; rfl
  have r3 : (A : Int) % S = (ma : Int) := by rw [hma]; rfl
  have r4 : (B : Int) % S = (mb : Int) := by rw [hmb]; rfl
  have w1 : IntKind.u64.wrap (ma : Int) = (ma : Int) := by rw [IntKind.wrap_u64]; have := Nat.mod_lt A hS0; omega
  have w2 : IntKind.u64.wrap (mb : Int) = (mb : Int) := by rw [IntKind.wrap_u64]; have := Nat.mod_lt B hS0; omega
  have z1 : ((S : Int) == 0) = false := by simp; omega
  have z2 : ¬ S = 0 := by omega
  have HK : Hid (oka = decide (A % S < I) ∧ okb = decide (B % S < I) ∧ ma = A % S ∧ mb = B % S ∧ A < 2 * S ∧ B < 2 * S) := ⟨hka, hkb, hma, hmb, hA, hB⟩
  clear hT ha hb hA hB hka hkb cA cB L hma hmb hS9 hS0
  go_enter Tryz.func3, Tryz.ntmps3
  go_wp2_with fail
  refine (awake9 _ (TB.out.below hbw)).mono ?_
  rintro e v1 ⟨rfl, hb1⟩
  replace hbw := Below.on hbw hb1
  clear hb1
  go_wp2_with fail
  refine (HM.out.form _).mono ?_
  rintro e v2 ⟨rfl, hb2⟩
  replace hbw := Below.on hbw hb2
  clear hb2
  go_wp2_with fail
  have Xm0 : Hid (B6q (v2.alloc (.cells #[U S, .int .i64 P, .int .i64 E, .int .i64 G, U I, U Q] 26)) v2.heap.size (U S) (.int .i64 P) (.int .i64 E) (.int .i64 G) (U I) (U Q)) := B6q.new v2 _ _ _ _ _ _ _
  have hbn : Below v2.heap.size v2 (v2.alloc (.cells #[U S, .int .i64 P, .int .i64 E, .int .i64 G, U I, U Q] 26)) := below1 v2 _
  generalize v2.alloc (.cells #[U S, .int .i64 P, .int .i64 E, .int .i64 G, U I, U Q] 26) = Wm at *
  have HGm : Hid (w.heap.size ≤ v2.heap.size) := hbw.size
  replace hbw := Below.on hbw hbn
  clear hbn
  generalize v2.heap.size = gm at *
  have Xm := Xm0
  clear Xm0
  obtain ⟨cm0, cm1, cm2, cm3, cm4, cm5, fm0, fm1, fm2, fm3, fm4, fm5⟩ := Xm.out
  have hnem : gm < Wm.heap.size := World.block_lt_of_cell? Wm _ cm0
  go_wp2_with fail
  clear cm0 cm1 cm2 cm3 cm4 cm5 fm0 fm1 fm2 fm3 fm4 fm5 hnem
  refine (CA.out _).mono ?_
  rintro e v3 ⟨rfl, hb3⟩
  replace Xm : Hid _ := Xm.out.below hb3
  replace hbw := Below.on hbw hb3
  clear hb3
  obtain ⟨cm0, cm1, cm2, cm3, cm4, cm5, fm0, fm1, fm2, fm3, fm4, fm5⟩ := Xm.out
  have hnem : gm < v3.heap.size := World.block_lt_of_cell? v3 _ cm0
  go_wp2_with fail
  clear cm0 cm1 cm2 cm3 cm4 cm5 fm0 fm1 fm2 fm3 fm4 fm5 hnem
  refine (CB.out _).mono ?_
  rintro e v4 ⟨rfl, hb4⟩
  replace Xm : Hid _ := Xm.out.below hb4
  replace hbw := Below.on hbw hb4
  clear hb4
  obtain ⟨cm0, cm1, cm2, cm3, cm4, cm5, fm0, fm1, fm2, fm3, fm4, fm5⟩ := Xm.out
  have hnem : gm < v4.heap.size := World.block_lt_of_cell? v4 _ cm0
  go_wp2_with fail
  clear cm0 cm1 cm2 cm3 cm4 cm5 fm0 fm1 fm2 fm3 fm4 fm5 hnem
  obtain ⟨W1, hW1⟩ : ∃ W1, W1 = v4.drew := ⟨_, rfl⟩
  have hbd : Below v4.heap.size v4 W1 := by rw [hW1]; exact bDrew1 (Below.refl _ _)
  replace Xm : Hid _ := Xm.out.below hbd
  replace hbw := Below.on hbw hbd
  clear hbd
  have HJ : Hid ((fun W' : World => W'.cell? ⟨gm, 0, none⟩ = some (U S) ∧ W'.cell? ⟨gm, 1, none⟩ = some (.int .i64 P) ∧ W'.cell? ⟨gm, 2, none⟩ = some (.int .i64 E) ∧ W'.cell? ⟨gm, 3, none⟩ = some (.int .i64 G) ∧ W'.cell? ⟨gm, 4, none⟩ = some (U I) ∧ W'.cell? ⟨gm, 5, none⟩ = some (U Q)) W1) := ⟨Xm.out.c0, Xm.out.c1, Xm.out.c2, Xm.out.c3, Xm.out.c4, Xm.out.c5⟩
  refine wp_region_J (fun W' => W'.cell? ⟨gm, 0, none⟩ = some (U S) ∧ W'.cell? ⟨gm, 1, none⟩ = some (.int .i64 P) ∧ W'.cell? ⟨gm, 2, none⟩ = some (.int .i64 E) ∧ W'.cell? ⟨gm, 3, none⟩ = some (.int .i64 G) ∧ W'.cell? ⟨gm, 4, none⟩ = some (U I) ∧ W'.cell? ⟨gm, 5, none⟩ = some (U Q)) (by kernel_rfl) ?_
  rw [← hW1]
  clear hW1
  refine wpJ_tq 0 rfl HJ.out ?_
  refine wpJ_tq 1 rfl HJ.out ?_
  refine wpJ_tq 2 rfl HJ.out ?_
  refine wpJ_tq 3 rfl HJ.out ?_
  refine wpJ_tq 4 rfl HJ.out ?_
  go_simp
  refine wpJ_tq 7 rfl HJ.out ?_
  refine wpJ_tq 8 rfl HJ.out ?_
  refine wpJ_tq 9 rfl HJ.out ?_
  refine wpJ_tq 10 rfl HJ.out ?_
  refine wpJ_tq 11 rfl HJ.out ?_
  obtain ⟨RQ, HRQ, HRP⟩ : ∃ RQ : Act → Act → World → Prop, Hid (∀ a1 a2 a3, (fun a0 a' W' => ∃ ga gb s5 g5 m5 s6 g6 m6 s12 g12 m12 s13 g13 m13, a' = ((((((a0.put (some 39) (.agg #[.bool s5, .slice (some ⟨g5, 0, none⟩) m5 m5])).put (some 40) (.agg #[.bool s6, .slice (some ⟨g6, 0, none⟩) m6 m6])).put (some 46) (.agg #[.bool s12, .slice (some ⟨g12, 0, none⟩) m12 m12])).put (some 47) (.agg #[.bool s13, .slice (some ⟨g13, 0, none⟩) m13 m13])).put (some 11) (.pointer (some ⟨ga, 0, none⟩))).put (some 12) (.pointer (some ⟨gb, 0, none⟩))) ∧ Box W' ga (.bool s6) (.slice (some ⟨g6, 0, none⟩) m6 m6) ∧ Box W' gb (.bool s13) (.slice (some ⟨g13, 0, none⟩) m13 m13) ∧ B6q W' gm (U S) (.int .i64 P) (.int .i64 E) (.int .i64 G) (U I) (U Q) ∧ ZR W' s6 (some ⟨g6, 0, none⟩) m6 ((svS S H ma).natAbs : Int) ∧ ZR W' s13 (some ⟨g13, 0, none⟩) m13 ((svS S H mb).natAbs : Int) ∧ m6 ≤ 2200 ∧ m13 ≤ 2200 ∧ w.heap.size ≤ ga ∧ w.heap.size ≤ gb ∧ Below w.heap.size w W') a1 a2 a3 → RQ a1 a2 a3) ∧ Hid (∀ a1 a2 a3, RQ a1 a2 a3 → (fun a0 a' W' => ∃ ga gb s5 g5 m5 s6 g6 m6 s12 g12 m12 s13 g13 m13, a' = ((((((a0.put (some 39) (.agg #[.bool s5, .slice (some ⟨g5, 0, none⟩) m5 m5])).put (some 40) (.agg #[.bool s6, .slice (some ⟨g6, 0, none⟩) m6 m6])).put (some 46) (.agg #[.bool s12, .slice (some ⟨g12, 0, none⟩) m12 m12])).put (some 47) (.agg #[.bool s13, .slice (some ⟨g13, 0, none⟩) m13 m13])).put (some 11) (.pointer (some ⟨ga, 0, none⟩))).put (some 12) (.pointer (some ⟨gb, 0, none⟩))) ∧ Box W' ga (.bool s6) (.slice (some ⟨g6, 0, none⟩) m6 m6) ∧ Box W' gb (.bool s13) (.slice (some ⟨g13, 0, none⟩) m13 m13) ∧ B6q W' gm (U S) (.int .i64 P) (.int .i64 E) (.int .i64 G) (U I) (U Q) ∧ ZR W' s6 (some ⟨g6, 0, none⟩) m6 ((svS S H ma).natAbs : Int) ∧ ZR W' s13 (some ⟨g13, 0, none⟩) m13 ((svS S H mb).natAbs : Int) ∧ m6 ≤ 2200 ∧ m13 ≤ 2200 ∧ w.heap.size ≤ ga ∧ w.heap.size ≤ gb ∧ Below w.heap.size w W') a1 a2 a3) := ⟨_, fun _ _ _ h => h, fun _ _ _ h => h⟩
  refine wpJ_cutA RQ ?_ ?_
  · intro a' Wc hrq
    obtain ⟨ga, gb, s5, g5, m5, s6, g6, m6, s12, g12, m12, s13, g13, m13, rfl, xa, xb, xm, za, zb, la, lb, ha, hb, hbc⟩ := HRP.out _ _ _ hrq
    clear hrq HRP HRQ hbw HJ Xm
    have hbw := hbc
    have Xa : Hid (Box Wc ga (.bool s6) (.slice (some ⟨g6, 0, none⟩) m6 m6)) := xa
    have Xb : Hid (Box Wc gb (.bool s13) (.slice (some ⟨g13, 0, none⟩) m13 m13)) := xb
    have Xm : Hid (B6q Wc gm (U S) (.int .i64 P) (.int .i64 E) (.int .i64 G) (U I) (U Q)) := xm
    have ZA : Hid (ZR Wc s6 (some ⟨g6, 0, none⟩) m6 ((svS S H ma).natAbs : Int)) := za
    have ZB : Hid (ZR Wc s13 (some ⟨g13, 0, none⟩) m13 ((svS S H mb).natAbs : Int)) := zb
    have HL : Hid (m6 ≤ 2200 ∧ m13 ≤ 2200) := ⟨la, lb⟩
    clear xa xb xm za zb la lb ha hb hbc
    obtain ⟨sA, hsA⟩ : ∃ sA, sA = decide (S ≤ A) := ⟨_, rfl⟩
    obtain ⟨sB, hsB⟩ : ∃ sB, sB = decide (S ≤ B) := ⟨_, rfl⟩
    have kA1 : decide ((S : Int) ≤ (A : Int)) = sA := by rw [hsA]; by_cases h : S ≤ A <;> simp [h]
    have kB1 : decide ((S : Int) ≤ (B : Int)) = sB := by rw [hsB]; by_cases h : S ≤ B <;> simp [h]
    have kA2 : decide (S ≤ A) = sA := hsA.symm
    have kB2 : decide (S ≤ B) = sB := hsB.symm
    clear hsA hsB CA CB
    by_cases hoka : oka = true
    · subst hoka
      by_cases hokb : okb = true
      · subst hokb
        by_cases hss : sA = sB
        · subst hss
          have HKA : Hid (decide (S ≤ A) = decide (S ≤ B)) := kA2.trans kB2.symm
          obtain ⟨q1, hq1⟩ : ∃ q1, q1 = cmpI (((svS S H ma).natAbs : Int)) (((svS S H mb).natAbs : Int) * 2 ^ 1) := ⟨_, rfl⟩
          obtain ⟨q2, hq2⟩ : ∃ q2, q2 = cmpI (((svS S H mb).natAbs : Int)) (((svS S H ma).natAbs : Int) * 2 ^ 1) := ⟨_, rfl⟩
          have Hq1 : Hid (q1 = cmpI (((svS S H ma).natAbs : Int)) (((svS S H mb).natAbs : Int) * 2 ^ 1) ∧ q1 = q1) := ⟨hq1, rfl⟩
          have Hq2 : Hid (q2 = cmpI (((svS S H mb).natAbs : Int)) (((svS S H ma).natAbs : Int) * 2 ^ 1) ∧ q2 = q2) := ⟨hq2, rfl⟩
          clear hq1 hq2
          by_cases h1 : 0 < q1
          · have d1 : decide (0 < q1) = true := decide_eq_true h1
            clear h1
            obtain ⟨ca0, ca1, fa0, fa1⟩ := Xa.out
            have hnea := Xa.out.lt
            obtain ⟨cb0, cb1, fb0, fb1⟩ := Xb.out
            have hneb := Xb.out.lt
            obtain ⟨cm0, cm1, cm2, cm3, cm4, cm5, fm0, fm1, fm2, fm3, fm4, fm5⟩ := Xm.out
            have hnem : gm < Wc.heap.size := World.block_lt_of_cell? Wc _ cm0
            go_wp2_with fail
            clear ca0 ca1 fa0 fa1 hnea
            clear cb0 cb1 fb0 fb1 hneb
            clear cm0 cm1 cm2 cm3 cm4 cm5 fm0 fm1 fm2 fm3 fm4 fm5 hnem
            obtain ⟨W2, hW2⟩ : ∃ W1, W1 = Wc.drew := ⟨_, rfl⟩
            have hbd : Below Wc.heap.size Wc W2 := by rw [hW2]; exact bDrew1 (Below.refl _ _)
            replace Xa : Hid _ := Xa.out.below hbd
            replace Xb : Hid _ := Xb.out.below hbd
            replace Xm : Hid _ := Xm.out.below hbd
            replace ZA : Hid _ := ZA.out.below hbd
            replace ZB : Hid _ := ZB.out.below hbd
            replace hbw := Below.on hbw hbd
            clear hbd
            have HJ : Hid ((fun W' : World => W'.cell? ⟨ga, 0, none⟩ = some (.bool s6) ∧ W'.cell? ⟨ga, 1, none⟩ = some (.slice (some ⟨g6, 0, none⟩) m6 m6) ∧ W'.cell? ⟨gb, 0, none⟩ = some (.bool s13) ∧ W'.cell? ⟨gb, 1, none⟩ = some (.slice (some ⟨g13, 0, none⟩) m13 m13) ∧ W'.cell? ⟨gm, 0, none⟩ = some (U S) ∧ W'.cell? ⟨gm, 1, none⟩ = some (.int .i64 P)) W2) := ⟨Xa.out.c0, Xa.out.c1, Xb.out.c0, Xb.out.c1, Xm.out.c0, Xm.out.c1⟩
            refine wp_region_J (fun W' => W'.cell? ⟨ga, 0, none⟩ = some (.bool s6) ∧ W'.cell? ⟨ga, 1, none⟩ = some (.slice (some ⟨g6, 0, none⟩) m6 m6) ∧ W'.cell? ⟨gb, 0, none⟩ = some (.bool s13) ∧ W'.cell? ⟨gb, 1, none⟩ = some (.slice (some ⟨g13, 0, none⟩) m13 m13) ∧ W'.cell? ⟨gm, 0, none⟩ = some (U S) ∧ W'.cell? ⟨gm, 1, none⟩ = some (.int .i64 P)) (by kernel_rfl) ?_
            rw [← hW2]
            clear hW2
            refine wpJ_tq 0 rfl HJ.out ?_
            refine wpJ_tq 1 rfl HJ.out ?_
            refine wpJ_tq 2 rfl HJ.out ?_
            refine wpJ_tq 3 rfl HJ.out ?_
            refine wpJ_tq 4 rfl HJ.out ?_
            go_simp
            refine wpJ_tq 5 rfl HJ.out ?_
            refine wpJ_tq 6 rfl HJ.out ?_
            refine wpJ_tq 7 rfl HJ.out ?_
            refine wpJ_tq 8 rfl HJ.out ?_
            refine wpJ_tq 9 rfl HJ.out ?_
            go_simp
            refine wpJ_tq 10 rfl HJ.out ?_
            refine wpJ_tq 11 rfl HJ.out ?_
            refine wpJ_tq 12 rfl HJ.out ?_
            refine wpJ_tq 13 rfl HJ.out ?_
            refine wpJ_tq 14 rfl HJ.out ?_
            go_simp
            refine wpJ_tq 15 rfl HJ.out ?_
            refine wpJ_tq 16 rfl HJ.out ?_
            refine wpJ_tq 17 rfl HJ.out ?_
            refine wpJ_tq 18 rfl HJ.out ?_
            refine wpJ_tq 19 rfl HJ.out ?_
            refine wpJ_on 20 rfl fun KJ hK => ?_
            go_simp
            refine (rshl04 s13 ZB.out (by have := HL.out; omega) 1 (.inl (by decide))).mono ?_
            rintro e v20 ⟨v, rfl, hv, hb20⟩
            obtain ⟨s20, g20, m20, rfl, hg20, hz20, hl20⟩ := hv
            replace Xa : Hid _ := Xa.out.below hb20
            replace Xb : Hid _ := Xb.out.below hb20
            replace Xm : Hid _ := Xm.out.below hb20
            replace ZA : Hid _ := ZA.out.below hb20
            replace ZB : Hid _ := ZB.out.below hb20
            replace hbw := Below.on hbw hb20
            clear hb20
            have Z20 : Hid (ZR v20 s20 (some ⟨g20, 0, none⟩) m20 (((svS S H mb).natAbs : Int) * 2 ^ 1)) := hz20
            have HL20 : Hid (m20 ≤ 40000) := hl20
            clear hg20 hz20 hl20
            refine hK _ _ ⟨Xa.out.c0, Xa.out.c1, Xb.out.c0, Xb.out.c1, Xm.out.c0, Xm.out.c1⟩ ?_
            clear hK
            refine wpJ_on 21 rfl fun KJ hK => ?_
            go_simp
            refine (rcmp04 s6 s20 ZA.out Z20.out (by have := HL.out; omega) (by have := HL20.out; omega)).mono ?_
            rintro e v21 ⟨rfl, hb21⟩
            rw [show cmpI (((svS S H ma).natAbs : Int)) (((svS S H mb).natAbs : Int) * 2 ^ 1) = q1 from Hq1.out.1.symm]
            replace Xa : Hid _ := Xa.out.below hb21
            replace Xb : Hid _ := Xb.out.below hb21
            replace Xm : Hid _ := Xm.out.below hb21
            replace ZA : Hid _ := ZA.out.below hb21
            replace ZB : Hid _ := ZB.out.below hb21
            replace Z20 : Hid _ := Z20.out.below hb21
            replace hbw := Below.on hbw hb21
            clear hb21
            clear HJ
            have HJ : Hid ((fun W' : World => W'.cell? ⟨ga, 0, none⟩ = some (.bool s6) ∧ W'.cell? ⟨ga, 1, none⟩ = some (.slice (some ⟨g6, 0, none⟩) m6 m6) ∧ W'.cell? ⟨gb, 0, none⟩ = some (.bool s13) ∧ W'.cell? ⟨gb, 1, none⟩ = some (.slice (some ⟨g13, 0, none⟩) m13 m13) ∧ W'.cell? ⟨gm, 0, none⟩ = some (U S) ∧ W'.cell? ⟨gm, 1, none⟩ = some (.int .i64 P)) v21) := ⟨Xa.out.c0, Xa.out.c1, Xb.out.c0, Xb.out.c1, Xm.out.c0, Xm.out.c1⟩
            refine hK _ _ HJ.out ?_
            clear hK
            refine wpJ_tq 22 rfl HJ.out ?_
            refine wpJ_tq 23 rfl HJ.out ?_
            refine wpJ_tq 24 rfl HJ.out ?_
            refine wpJ_sk 25 rfl HJ.out ?_
            refine wpJ_sk 26 rfl HJ.out ?_
            go_simp
            refine wpJ_sk 27 rfl HJ.out ?_
            refine wpJ_sk 28 rfl HJ.out ?_
            refine wpJ_sk 29 rfl HJ.out ?_
            refine wpJ_tq 30 rfl HJ.out ?_
            go_simp
            refine wpJ_done (by kernel_rfl) ?_ _
            clear HJ
            go_wp2_with fail
            go_ret
            exact ⟨rfl, hbw⟩
          · have d1 : decide (0 < q1) = false := decide_eq_false h1
            have HQ1 : Hid (¬ 0 < q1) := h1
            clear h1
            obtain ⟨b2, hb2⟩ : ∃ b2, b2 = decide (0 < q2) := ⟨_, rfl⟩
            have d2 : decide (0 < q2) = b2 := hb2.symm
            have HB2 : Hid (b2 = decide (0 < q2)) := hb2
            clear hb2
            obtain ⟨ca0, ca1, fa0, fa1⟩ := Xa.out
            have hnea := Xa.out.lt
            obtain ⟨cb0, cb1, fb0, fb1⟩ := Xb.out
            have hneb := Xb.out.lt
            obtain ⟨cm0, cm1, cm2, cm3, cm4, cm5, fm0, fm1, fm2, fm3, fm4, fm5⟩ := Xm.out
            have hnem : gm < Wc.heap.size := World.block_lt_of_cell? Wc _ cm0
            go_wp2_with fail
            clear ca0 ca1 fa0 fa1 hnea
            clear cb0 cb1 fb0 fb1 hneb
            clear cm0 cm1 cm2 cm3 cm4 cm5 fm0 fm1 fm2 fm3 fm4 fm5 hnem
            obtain ⟨W2, hW2⟩ : ∃ W1, W1 = Wc.drew := ⟨_, rfl⟩
            have hbd : Below Wc.heap.size Wc W2 := by rw [hW2]; exact bDrew1 (Below.refl _ _)
            replace Xa : Hid _ := Xa.out.below hbd
            replace Xb : Hid _ := Xb.out.below hbd
            replace Xm : Hid _ := Xm.out.below hbd
            replace ZA : Hid _ := ZA.out.below hbd
            replace ZB : Hid _ := ZB.out.below hbd
            replace hbw := Below.on hbw hbd
            clear hbd
            have HJ : Hid ((fun W' : World => W'.cell? ⟨ga, 0, none⟩ = some (.bool s6) ∧ W'.cell? ⟨ga, 1, none⟩ = some (.slice (some ⟨g6, 0, none⟩) m6 m6) ∧ W'.cell? ⟨gb, 0, none⟩ = some (.bool s13) ∧ W'.cell? ⟨gb, 1, none⟩ = some (.slice (some ⟨g13, 0, none⟩) m13 m13) ∧ W'.cell? ⟨gm, 0, none⟩ = some (U S) ∧ W'.cell? ⟨gm, 1, none⟩ = some (.int .i64 P)) W2) := ⟨Xa.out.c0, Xa.out.c1, Xb.out.c0, Xb.out.c1, Xm.out.c0, Xm.out.c1⟩
            refine wp_region_J (fun W' => W'.cell? ⟨ga, 0, none⟩ = some (.bool s6) ∧ W'.cell? ⟨ga, 1, none⟩ = some (.slice (some ⟨g6, 0, none⟩) m6 m6) ∧ W'.cell? ⟨gb, 0, none⟩ = some (.bool s13) ∧ W'.cell? ⟨gb, 1, none⟩ = some (.slice (some ⟨g13, 0, none⟩) m13 m13) ∧ W'.cell? ⟨gm, 0, none⟩ = some (U S) ∧ W'.cell? ⟨gm, 1, none⟩ = some (.int .i64 P)) (by kernel_rfl) ?_
            rw [← hW2]
            clear hW2
            refine wpJ_tq 0 rfl HJ.out ?_
            refine wpJ_tq 1 rfl HJ.out ?_
            refine wpJ_tq 2 rfl HJ.out ?_
            refine wpJ_tq 3 rfl HJ.out ?_
            refine wpJ_tq 4 rfl HJ.out ?_
            go_simp
            refine wpJ_tq 5 rfl HJ.out ?_
            refine wpJ_tq 6 rfl HJ.out ?_
            refine wpJ_tq 7 rfl HJ.out ?_
            refine wpJ_tq 8 rfl HJ.out ?_
            refine wpJ_tq 9 rfl HJ.out ?_
            go_simp
            refine wpJ_tq 10 rfl HJ.out ?_
            refine wpJ_tq 11 rfl HJ.out ?_
            refine wpJ_tq 12 rfl HJ.out ?_
            refine wpJ_tq 13 rfl HJ.out ?_
            refine wpJ_tq 14 rfl HJ.out ?_
            go_simp
            refine wpJ_tq 15 rfl HJ.out ?_
            refine wpJ_tq 16 rfl HJ.out ?_
            refine wpJ_tq 17 rfl HJ.out ?_
            refine wpJ_tq 18 rfl HJ.out ?_
            refine wpJ_tq 19 rfl HJ.out ?_
            refine wpJ_on 20 rfl fun KJ hK => ?_
            go_simp
            refine (rshl04 s13 ZB.out (by have := HL.out; omega) 1 (.inl (by decide))).mono ?_
            rintro e v20 ⟨v, rfl, hv, hb20⟩
            obtain ⟨s20, g20, m20, rfl, hg20, hz20, hl20⟩ := hv
            replace Xa : Hid _ := Xa.out.below hb20
            replace Xb : Hid _ := Xb.out.below hb20
            replace Xm : Hid _ := Xm.out.below hb20
            replace ZA : Hid _ := ZA.out.below hb20
            replace ZB : Hid _ := ZB.out.below hb20
            replace hbw := Below.on hbw hb20
            clear hb20
            have Z20 : Hid (ZR v20 s20 (some ⟨g20, 0, none⟩) m20 (((svS S H mb).natAbs : Int) * 2 ^ 1)) := hz20
            have HL20 : Hid (m20 ≤ 40000) := hl20
            clear hg20 hz20 hl20
            refine hK _ _ ⟨Xa.out.c0, Xa.out.c1, Xb.out.c0, Xb.out.c1, Xm.out.c0, Xm.out.c1⟩ ?_
            clear hK
            refine wpJ_on 21 rfl fun KJ hK => ?_
            go_simp
            refine (rcmp04 s6 s20 ZA.out Z20.out (by have := HL.out; omega) (by have := HL20.out; omega)).mono ?_
            rintro e v21 ⟨rfl, hb21⟩
            rw [show cmpI (((svS S H ma).natAbs : Int)) (((svS S H mb).natAbs : Int) * 2 ^ 1) = q1 from Hq1.out.1.symm]
            replace Xa : Hid _ := Xa.out.below hb21
            replace Xb : Hid _ := Xb.out.below hb21
            replace Xm : Hid _ := Xm.out.below hb21
            replace ZA : Hid _ := ZA.out.below hb21
            replace ZB : Hid _ := ZB.out.below hb21
            replace Z20 : Hid _ := Z20.out.below hb21
            replace hbw := Below.on hbw hb21
            clear hb21
            clear HJ
            have HJ : Hid ((fun W' : World => W'.cell? ⟨ga, 0, none⟩ = some (.bool s6) ∧ W'.cell? ⟨ga, 1, none⟩ = some (.slice (some ⟨g6, 0, none⟩) m6 m6) ∧ W'.cell? ⟨gb, 0, none⟩ = some (.bool s13) ∧ W'.cell? ⟨gb, 1, none⟩ = some (.slice (some ⟨g13, 0, none⟩) m13 m13) ∧ W'.cell? ⟨gm, 0, none⟩ = some (U S) ∧ W'.cell? ⟨gm, 1, none⟩ = some (.int .i64 P)) v21) := ⟨Xa.out.c0, Xa.out.c1, Xb.out.c0, Xb.out.c1, Xm.out.c0, Xm.out.c1⟩
            refine hK _ _ HJ.out ?_
            clear hK
            refine wpJ_tq 22 rfl HJ.out ?_
            refine wpJ_tq 23 rfl HJ.out ?_
            refine wpJ_tq 24 rfl HJ.out ?_
            refine wpJ_tq 25 rfl HJ.out ?_
            refine wpJ_tq 26 rfl HJ.out ?_
            refine wpJ_on 27 rfl fun KJ hK => ?_
            go_simp
            refine (rshl04 s6 ZA.out (by have := HL.out; omega) 1 (.inl (by decide))).mono ?_
            rintro e v27 ⟨v, rfl, hv, hb27⟩
            obtain ⟨s27, g27, m27, rfl, hg27, hz27, hl27⟩ := hv
            replace Xa : Hid _ := Xa.out.below hb27
            replace Xb : Hid _ := Xb.out.below hb27
            replace Xm : Hid _ := Xm.out.below hb27
            replace ZA : Hid _ := ZA.out.below hb27
            replace ZB : Hid _ := ZB.out.below hb27
            replace Z20 : Hid _ := Z20.out.below hb27
            replace hbw := Below.on hbw hb27
            clear hb27
            have Z27 : Hid (ZR v27 s27 (some ⟨g27, 0, none⟩) m27 (((svS S H ma).natAbs : Int) * 2 ^ 1)) := hz27
            have HL27 : Hid (m27 ≤ 40000) := hl27
            clear hg27 hz27 hl27
            refine hK _ _ ⟨Xa.out.c0, Xa.out.c1, Xb.out.c0, Xb.out.c1, Xm.out.c0, Xm.out.c1⟩ ?_
            clear hK
            refine wpJ_on 28 rfl fun KJ hK => ?_
            go_simp
            refine (rcmp04 s13 s27 ZB.out Z27.out (by have := HL.out; omega) (by have := HL27.out; omega)).mono ?_
            rintro e v28 ⟨rfl, hb28⟩
            rw [show cmpI (((svS S H mb).natAbs : Int)) (((svS S H ma).natAbs : Int) * 2 ^ 1) = q2 from Hq2.out.1.symm]
            replace Xa : Hid _ := Xa.out.below hb28
            replace Xb : Hid _ := Xb.out.below hb28
            replace Xm : Hid _ := Xm.out.below hb28
            replace ZA : Hid _ := ZA.out.below hb28
            replace ZB : Hid _ := ZB.out.below hb28
            replace Z20 : Hid _ := Z20.out.below hb28
            replace Z27 : Hid _ := Z27.out.below hb28
            replace hbw := Below.on hbw hb28
            clear hb28
            clear HJ
            have HJ : Hid ((fun W' : World => W'.cell? ⟨ga, 0, none⟩ = some (.bool s6) ∧ W'.cell? ⟨ga, 1, none⟩ = some (.slice (some ⟨g6, 0, none⟩) m6 m6) ∧ W'.cell? ⟨gb, 0, none⟩ = some (.bool s13) ∧ W'.cell? ⟨gb, 1, none⟩ = some (.slice (some ⟨g13, 0, none⟩) m13 m13) ∧ W'.cell? ⟨gm, 0, none⟩ = some (U S) ∧ W'.cell? ⟨gm, 1, none⟩ = some (.int .i64 P)) v28) := ⟨Xa.out.c0, Xa.out.c1, Xb.out.c0, Xb.out.c1, Xm.out.c0, Xm.out.c1⟩
            refine hK _ _ HJ.out ?_
            clear hK
            refine wpJ_tq 29 rfl HJ.out ?_
            refine wpJ_tq 30 rfl HJ.out ?_
            go_simp
            refine wpJ_done (by kernel_rfl) ?_ _
            clear HJ
            by_cases h2 : b2 = true
            · subst h2
              go_wp2_with fail
              go_ret
              exact ⟨rfl, hbw⟩
            · obtain rfl : b2 = false := by simpa using h2
              have HQ2 : Hid (¬ 0 < q2) := of_decide_eq_false HB2.out.symm
              clear h2
              go_wp2_with fail
              clear Z20
              clear Z27
              clear ZA
              clear ZB
              clear Xa
              clear Xb
              have HF : Hid (A % S < I ∧ B % S < I) := ⟨of_decide_eq_true HK.out.1.symm, of_decide_eq_true HK.out.2.1.symm⟩
              obtain ⟨ox, kx⟩ := opb_ex HM.out.jo.jq.jn.jm.pm A
              obtain ⟨oy, ky⟩ := opb_ex HM.out.jo.jq.jn.jm.pm B
              have HOB : Hid (OpB S I H l A ox ∧ OpB S I H l B oy) := ⟨kx, ky⟩
              clear kx ky d1 d2
              refine (sub_is HM.out.jo HK.out.2.2.2.2.1 HK.out.2.2.2.2.2 HOB.out.1 HOB.out.2 _ (TB.out.below hbw)).mono ?_
              rintro e9 v31 ⟨c, rfl, hs, hb31⟩
              have hS0 : 0 < S := by have := HM.out.jo.jq.jn.jm.pm.fm.lt; omega
              have hst := sterbenz_ok HM.out.jo.jq.jn HOB.out.1 HOB.out.2 HF.out.1 HF.out.2 HKA.out (by
                have h1 := cmp_not (x := ((svS S H ma).natAbs : Int)) (y := ((svS S H mb).natAbs : Int) * 2 ^ 1) (by rw [← Hq1.out.1]; have := HQ1.out; omega)
                rw [svS_small hS0 HK.out.2.2.1, svS_small hS0 HK.out.2.2.2.1] at h1
                omega) (by
                have h1 := cmp_not (x := ((svS S H mb).natAbs : Int)) (y := ((svS S H ma).natAbs : Int) * 2 ^ 1) (by rw [← Hq2.out.1]; have := HQ2.out; omega)
                rw [svS_small hS0 HK.out.2.2.1, svS_small hS0 HK.out.2.2.2.1] at h1
                omega) hs Q
              obtain ⟨r, hr⟩ : ∃ r, r = patO l sd Be S I Q c := ⟨_, rfl⟩
              rw [← hr] at hst ⊢
              obtain ⟨mr, hmr⟩ : ∃ mr, mr = r % S := ⟨_, rfl⟩
              have t1 : (r : Int).tmod S = (mr : Int) := by rw [Int.tmod_eq_emod_of_nonneg (by omega), hmr]; rfl
              have t2 : (r : Int) % S = (mr : Int) := by rw [hmr]; rfl
              have t3 : IntKind.u64.wrap (mr : Int) = (mr : Int) := by rw [IntKind.wrap_u64]; have := Nat.mod_lt r hS0; have := HM.out.s9; omega
              have t4 : decide ((mr : Int) < (I : Int)) = true := decide_eq_true (by have := hst.2.1; omega)
              have t5 : decide (mr < I) = true := decide_eq_true (by have := hst.2.1; omega)
              have HST : Hid (svS S H r = svS S H A - svS S H B) := hst.2.2
              clear hs hst hr hmr hS0 Hq1 Hq2 HQ1 HQ2
              replace Xm : Hid _ := Xm.out.below hb31
              replace hbw := Below.on hbw hb31
              clear hb31
              obtain ⟨cm0, cm1, cm2, cm3, cm4, cm5, fm0, fm1, fm2, fm3, fm4, fm5⟩ := Xm.out
              have hnem : gm < v31.heap.size := World.block_lt_of_cell? v31 _ cm0
              go_wp2_with fail
              clear cm0 cm1 cm2 cm3 cm4 cm5 fm0 fm1 fm2 fm3 fm4 fm5 hnem
              obtain ⟨W3, hW3⟩ : ∃ W1, W1 = v31.drew := ⟨_, rfl⟩
              have hbd : Below v31.heap.size v31 W3 := by rw [hW3]; exact bDrew1 (Below.refl _ _)
              replace Xm : Hid _ := Xm.out.below hbd
              replace hbw := Below.on hbw hbd
              clear hbd
              have HJ : Hid ((fun W' : World => W'.cell? ⟨gm, 0, none⟩ = some (U S) ∧ W'.cell? ⟨gm, 1, none⟩ = some (.int .i64 P) ∧ W'.cell? ⟨gm, 2, none⟩ = some (.int .i64 E) ∧ W'.cell? ⟨gm, 3, none⟩ = some (.int .i64 G) ∧ W'.cell? ⟨gm, 4, none⟩ = some (U I) ∧ W'.cell? ⟨gm, 5, none⟩ = some (U Q)) W3) := ⟨Xm.out.c0, Xm.out.c1, Xm.out.c2, Xm.out.c3, Xm.out.c4, Xm.out.c5⟩
              refine wp_region_J (fun W' => W'.cell? ⟨gm, 0, none⟩ = some (U S) ∧ W'.cell? ⟨gm, 1, none⟩ = some (.int .i64 P) ∧ W'.cell? ⟨gm, 2, none⟩ = some (.int .i64 E) ∧ W'.cell? ⟨gm, 3, none⟩ = some (.int .i64 G) ∧ W'.cell? ⟨gm, 4, none⟩ = some (U I) ∧ W'.cell? ⟨gm, 5, none⟩ = some (U Q)) (by kernel_rfl) ?_
              rw [← hW3]
              clear hW3
              refine wpJ_tq 0 rfl HJ.out ?_
              refine wpJ_tq 1 rfl HJ.out ?_
              refine wpJ_tq 2 rfl HJ.out ?_
              refine wpJ_tq 3 rfl HJ.out ?_
              refine wpJ_tq 4 rfl HJ.out ?_
              go_simp
              refine wpJ_tq 5 rfl HJ.out ?_
              refine wpJ_tq 6 rfl HJ.out ?_
              refine wpJ_tq 7 rfl HJ.out ?_
              refine wpJ_tq 8 rfl HJ.out ?_
              refine wpJ_tq 9 rfl HJ.out ?_
              go_simp
              refine wpJ_tq 10 rfl HJ.out ?_
              refine wpJ_tq 11 rfl HJ.out ?_
              refine wpJ_tq 12 rfl HJ.out ?_
              refine wpJ_tq 13 rfl HJ.out ?_
              refine wpJ_tq 15 rfl HJ.out ?_
              go_simp
              refine wpJ_tq 16 rfl HJ.out ?_
              refine wpJ_tq 18 rfl HJ.out ?_
              refine wpJ_tq 19 rfl HJ.out ?_
              refine wpJ_on 14 rfl fun KJ hK => ?_
              go_simp
              refine (units9 HM.out r _).mono ?_
              rintro e v34 ⟨v, rfl, hv, hb34⟩
              obtain ⟨s34, g34, m34, rfl, hg34, hz34, hl34⟩ := hv
              replace Xm : Hid _ := Xm.out.below hb34
              replace hbw := Below.on hbw hb34
              clear hb34
              have Z34 : Hid (ZR v34 s34 (some ⟨g34, 0, none⟩) m34 (svS S H r)) := hz34
              have HL34 : Hid (m34 ≤ 2200) := hl34
              clear hg34 hz34 hl34
              refine hK _ _ ⟨Xm.out.c0, Xm.out.c1, Xm.out.c2, Xm.out.c3, Xm.out.c4, Xm.out.c5⟩ ?_
              clear hK
              refine wpJ_on 17 rfl fun KJ hK => ?_
              go_simp
              refine (units9 HM.out A _).mono ?_
              rintro e v37 ⟨v, rfl, hv, hb37⟩
              obtain ⟨s37, g37, m37, rfl, hg37, hz37, hl37⟩ := hv
              replace Xm : Hid _ := Xm.out.below hb37
              replace Z34 : Hid _ := Z34.out.below hb37
              replace hbw := Below.on hbw hb37
              clear hb37
              have Z37 : Hid (ZR v37 s37 (some ⟨g37, 0, none⟩) m37 (svS S H A)) := hz37
              have HL37 : Hid (m37 ≤ 2200) := hl37
              clear hg37 hz37 hl37
              refine hK _ _ ⟨Xm.out.c0, Xm.out.c1, Xm.out.c2, Xm.out.c3, Xm.out.c4, Xm.out.c5⟩ ?_
              clear hK
              refine wpJ_on 20 rfl fun KJ hK => ?_
              go_simp
              refine (units9 HM.out B _).mono ?_
              rintro e v40 ⟨v, rfl, hv, hb40⟩
              obtain ⟨s40, g40, m40, rfl, hg40, hz40, hl40⟩ := hv
              replace Xm : Hid _ := Xm.out.below hb40
              replace Z34 : Hid _ := Z34.out.below hb40
              replace Z37 : Hid _ := Z37.out.below hb40
              replace hbw := Below.on hbw hb40
              clear hb40
              have Z40 : Hid (ZR v40 s40 (some ⟨g40, 0, none⟩) m40 (svS S H B)) := hz40
              have HL40 : Hid (m40 ≤ 2200) := hl40
              clear hg40 hz40 hl40
              refine hK _ _ ⟨Xm.out.c0, Xm.out.c1, Xm.out.c2, Xm.out.c3, Xm.out.c4, Xm.out.c5⟩ ?_
              clear hK
              refine wpJ_on 21 rfl fun KJ hK => ?_
              go_simp
              refine (rsub04 s37 s40 Z37.out Z40.out (by have := HL37.out; omega) (by have := HL40.out; omega)).mono ?_
              rintro e v41 ⟨v, rfl, hv, hb41⟩
              obtain ⟨s41, g41, m41, rfl, hg41, hz41, hl41⟩ := hv
              rw [← HST.out] at hz41
              replace Xm : Hid _ := Xm.out.below hb41
              replace Z34 : Hid _ := Z34.out.below hb41
              replace Z37 : Hid _ := Z37.out.below hb41
              replace Z40 : Hid _ := Z40.out.below hb41
              replace hbw := Below.on hbw hb41
              clear hb41
              have Z41 : Hid (ZR v41 s41 (some ⟨g41, 0, none⟩) m41 (svS S H r)) := hz41
              have HL41 : Hid (m41 ≤ 3000) := by have := HL37.out; have := HL40.out; show _ ≤ _; omega
              clear hg41 hz41 hl41
              refine hK _ _ ⟨Xm.out.c0, Xm.out.c1, Xm.out.c2, Xm.out.c3, Xm.out.c4, Xm.out.c5⟩ ?_
              clear hK
              refine wpJ_on 22 rfl fun KJ hK => ?_
              go_simp
              refine (rcmp04 s34 s41 Z34.out Z41.out (by have := HL34.out; omega) (by have := HL41.out; omega)).mono ?_
              rintro e v42 ⟨rfl, hb42⟩
              rw [show cmpI (svS S H r) (svS S H r) = 0 from by unfold cmpI; rw [if_neg (Int.lt_irrefl _), if_pos rfl]]
              replace Xm : Hid _ := Xm.out.below hb42
              replace Z34 : Hid _ := Z34.out.below hb42
              replace Z37 : Hid _ := Z37.out.below hb42
              replace Z40 : Hid _ := Z40.out.below hb42
              replace Z41 : Hid _ := Z41.out.below hb42
              replace hbw := Below.on hbw hb42
              clear hb42
              clear HJ
              have HJ : Hid ((fun W' : World => W'.cell? ⟨gm, 0, none⟩ = some (U S) ∧ W'.cell? ⟨gm, 1, none⟩ = some (.int .i64 P) ∧ W'.cell? ⟨gm, 2, none⟩ = some (.int .i64 E) ∧ W'.cell? ⟨gm, 3, none⟩ = some (.int .i64 G) ∧ W'.cell? ⟨gm, 4, none⟩ = some (U I) ∧ W'.cell? ⟨gm, 5, none⟩ = some (U Q)) v42) := ⟨Xm.out.c0, Xm.out.c1, Xm.out.c2, Xm.out.c3, Xm.out.c4, Xm.out.c5⟩
              refine hK _ _ HJ.out ?_
              clear hK
              refine wpJ_tq 23 rfl HJ.out ?_
              refine wpJ_tq 24 rfl HJ.out ?_
              refine wpJ_tq 25 rfl HJ.out ?_
              go_simp
              refine wpJ_done (by kernel_rfl) ?_ _
              clear HJ
              go_wp2_with fail
              go_ret
              exact ⟨rfl, hbw⟩
        · have n1 : (sA != sB) = true := by simp [hss]
          have n2 : (sA == sB) = false := by simp [hss]
          clear hss
          obtain ⟨ca0, ca1, fa0, fa1⟩ := Xa.out
          have hnea := Xa.out.lt
          obtain ⟨cb0, cb1, fb0, fb1⟩ := Xb.out
          have hneb := Xb.out.lt
          obtain ⟨cm0, cm1, cm2, cm3, cm4, cm5, fm0, fm1, fm2, fm3, fm4, fm5⟩ := Xm.out
          have hnem : gm < Wc.heap.size := World.block_lt_of_cell? Wc _ cm0
          go_wp2_with fail
          clear ca0 ca1 fa0 fa1 hnea
          clear cb0 cb1 fb0 fb1 hneb
          clear cm0 cm1 cm2 cm3 cm4 cm5 fm0 fm1 fm2 fm3 fm4 fm5 hnem
          obtain ⟨W2, hW2⟩ : ∃ W1, W1 = Wc.drew := ⟨_, rfl⟩
          have hbd : Below Wc.heap.size Wc W2 := by rw [hW2]; exact bDrew1 (Below.refl _ _)
          replace Xa : Hid _ := Xa.out.below hbd
          replace Xb : Hid _ := Xb.out.below hbd
          replace Xm : Hid _ := Xm.out.below hbd
          replace ZA : Hid _ := ZA.out.below hbd
          replace ZB : Hid _ := ZB.out.below hbd
          replace hbw := Below.on hbw hbd
          clear hbd
          have HJ : Hid ((fun W' : World => W'.cell? ⟨ga, 0, none⟩ = some (.bool s6) ∧ W'.cell? ⟨ga, 1, none⟩ = some (.slice (some ⟨g6, 0, none⟩) m6 m6) ∧ W'.cell? ⟨gb, 0, none⟩ = some (.bool s13) ∧ W'.cell? ⟨gb, 1, none⟩ = some (.slice (some ⟨g13, 0, none⟩) m13 m13) ∧ W'.cell? ⟨gm, 0, none⟩ = some (U S) ∧ W'.cell? ⟨gm, 1, none⟩ = some (.int .i64 P)) W2) := ⟨Xa.out.c0, Xa.out.c1, Xb.out.c0, Xb.out.c1, Xm.out.c0, Xm.out.c1⟩
          refine wp_region_J (fun W' => W'.cell? ⟨ga, 0, none⟩ = some (.bool s6) ∧ W'.cell? ⟨ga, 1, none⟩ = some (.slice (some ⟨g6, 0, none⟩) m6 m6) ∧ W'.cell? ⟨gb, 0, none⟩ = some (.bool s13) ∧ W'.cell? ⟨gb, 1, none⟩ = some (.slice (some ⟨g13, 0, none⟩) m13 m13) ∧ W'.cell? ⟨gm, 0, none⟩ = some (U S) ∧ W'.cell? ⟨gm, 1, none⟩ = some (.int .i64 P)) (by kernel_rfl) ?_
          rw [← hW2]
          clear hW2
          refine wpJ_tq 0 rfl HJ.out ?_
          refine wpJ_tq 1 rfl HJ.out ?_
          refine wpJ_tq 2 rfl HJ.out ?_
          refine wpJ_tq 3 rfl HJ.out ?_
          refine wpJ_tq 4 rfl HJ.out ?_
          go_simp
          refine wpJ_tq 5 rfl HJ.out ?_
          refine wpJ_tq 6 rfl HJ.out ?_
          refine wpJ_tq 7 rfl HJ.out ?_
          refine wpJ_tq 8 rfl HJ.out ?_
          refine wpJ_tq 9 rfl HJ.out ?_
          go_simp
          refine wpJ_tq 10 rfl HJ.out ?_
          refine wpJ_tq 11 rfl HJ.out ?_
          refine wpJ_tq 12 rfl HJ.out ?_
          refine wpJ_tq 13 rfl HJ.out ?_
          refine wpJ_tq 14 rfl HJ.out ?_
          go_simp
          refine wpJ_tq 15 rfl HJ.out ?_
          refine wpJ_tq 16 rfl HJ.out ?_
          refine wpJ_tq 17 rfl HJ.out ?_
          refine wpJ_sk 18 rfl HJ.out ?_
          refine wpJ_sk 19 rfl HJ.out ?_
          go_simp
          refine wpJ_sk 20 rfl HJ.out ?_
          refine wpJ_sk 21 rfl HJ.out ?_
          refine wpJ_sk 22 rfl HJ.out ?_
          refine wpJ_tq 23 rfl HJ.out ?_
          refine wpJ_tq 24 rfl HJ.out ?_
          go_simp
          refine wpJ_sk 25 rfl HJ.out ?_
          refine wpJ_sk 26 rfl HJ.out ?_
          refine wpJ_sk 27 rfl HJ.out ?_
          refine wpJ_sk 28 rfl HJ.out ?_
          refine wpJ_sk 29 rfl HJ.out ?_
          go_simp
          refine wpJ_tq 30 rfl HJ.out ?_
          go_simp
          refine wpJ_done (by kernel_rfl) ?_ _
          clear HJ
          go_wp2_with fail
          go_ret
          exact ⟨rfl, hbw⟩
      · obtain rfl : okb = false := by simpa using hokb
        clear hokb
        obtain ⟨ca0, ca1, fa0, fa1⟩ := Xa.out
        have hnea := Xa.out.lt
        obtain ⟨cb0, cb1, fb0, fb1⟩ := Xb.out
        have hneb := Xb.out.lt
        obtain ⟨cm0, cm1, cm2, cm3, cm4, cm5, fm0, fm1, fm2, fm3, fm4, fm5⟩ := Xm.out
        have hnem : gm < Wc.heap.size := World.block_lt_of_cell? Wc _ cm0
        go_wp2_with fail
        clear ca0 ca1 fa0 fa1 hnea
        clear cb0 cb1 fb0 fb1 hneb
        clear cm0 cm1 cm2 cm3 cm4 cm5 fm0 fm1 fm2 fm3 fm4 fm5 hnem
        obtain ⟨W2, hW2⟩ : ∃ W1, W1 = Wc.drew := ⟨_, rfl⟩
        have hbd : Below Wc.heap.size Wc W2 := by rw [hW2]; exact bDrew1 (Below.refl _ _)
        replace Xa : Hid _ := Xa.out.below hbd
        replace Xb : Hid _ := Xb.out.below hbd
        replace Xm : Hid _ := Xm.out.below hbd
        replace ZA : Hid _ := ZA.out.below hbd
        replace ZB : Hid _ := ZB.out.below hbd
        replace hbw := Below.on hbw hbd
        clear hbd
        have HJ : Hid ((fun W' : World => W'.cell? ⟨ga, 0, none⟩ = some (.bool s6) ∧ W'.cell? ⟨ga, 1, none⟩ = some (.slice (some ⟨g6, 0, none⟩) m6 m6) ∧ W'.cell? ⟨gb, 0, none⟩ = some (.bool s13) ∧ W'.cell? ⟨gb, 1, none⟩ = some (.slice (some ⟨g13, 0, none⟩) m13 m13) ∧ W'.cell? ⟨gm, 0, none⟩ = some (U S) ∧ W'.cell? ⟨gm, 1, none⟩ = some (.int .i64 P)) W2) := ⟨Xa.out.c0, Xa.out.c1, Xb.out.c0, Xb.out.c1, Xm.out.c0, Xm.out.c1⟩
        refine wp_region_J (fun W' => W'.cell? ⟨ga, 0, none⟩ = some (.bool s6) ∧ W'.cell? ⟨ga, 1, none⟩ = some (.slice (some ⟨g6, 0, none⟩) m6 m6) ∧ W'.cell? ⟨gb, 0, none⟩ = some (.bool s13) ∧ W'.cell? ⟨gb, 1, none⟩ = some (.slice (some ⟨g13, 0, none⟩) m13 m13) ∧ W'.cell? ⟨gm, 0, none⟩ = some (U S) ∧ W'.cell? ⟨gm, 1, none⟩ = some (.int .i64 P)) (by kernel_rfl) ?_
        rw [← hW2]
        clear hW2
        refine wpJ_tq 0 rfl HJ.out ?_
        refine wpJ_tq 1 rfl HJ.out ?_
        refine wpJ_tq 2 rfl HJ.out ?_
        refine wpJ_tq 3 rfl HJ.out ?_
        refine wpJ_tq 4 rfl HJ.out ?_
        go_simp
        refine wpJ_tq 5 rfl HJ.out ?_
        refine wpJ_tq 6 rfl HJ.out ?_
        refine wpJ_sk 7 rfl HJ.out ?_
        refine wpJ_sk 8 rfl HJ.out ?_
        refine wpJ_sk 9 rfl HJ.out ?_
        go_simp
        refine wpJ_sk 10 rfl HJ.out ?_
        refine wpJ_sk 11 rfl HJ.out ?_
        refine wpJ_sk 12 rfl HJ.out ?_
        refine wpJ_sk 13 rfl HJ.out ?_
        refine wpJ_sk 14 rfl HJ.out ?_
        go_simp
        refine wpJ_sk 15 rfl HJ.out ?_
        refine wpJ_tq 16 rfl HJ.out ?_
        refine wpJ_tq 17 rfl HJ.out ?_
        refine wpJ_sk 18 rfl HJ.out ?_
        refine wpJ_sk 19 rfl HJ.out ?_
        go_simp
        refine wpJ_sk 20 rfl HJ.out ?_
        refine wpJ_sk 21 rfl HJ.out ?_
        refine wpJ_sk 22 rfl HJ.out ?_
        refine wpJ_tq 23 rfl HJ.out ?_
        refine wpJ_tq 24 rfl HJ.out ?_
        go_simp
        refine wpJ_sk 25 rfl HJ.out ?_
        refine wpJ_sk 26 rfl HJ.out ?_
        refine wpJ_sk 27 rfl HJ.out ?_
        refine wpJ_sk 28 rfl HJ.out ?_
        refine wpJ_sk 29 rfl HJ.out ?_
        go_simp
        refine wpJ_tq 30 rfl HJ.out ?_
        go_simp
        refine wpJ_done (by kernel_rfl) ?_ _
        clear HJ
        go_wp2_with fail
        go_ret
        exact ⟨rfl, hbw⟩
    · obtain rfl : oka = false := by simpa using hoka
      clear hoka
      obtain ⟨ca0, ca1, fa0, fa1⟩ := Xa.out
      have hnea := Xa.out.lt
      obtain ⟨cb0, cb1, fb0, fb1⟩ := Xb.out
      have hneb := Xb.out.lt
      obtain ⟨cm0, cm1, cm2, cm3, cm4, cm5, fm0, fm1, fm2, fm3, fm4, fm5⟩ := Xm.out
      have hnem : gm < Wc.heap.size := World.block_lt_of_cell? Wc _ cm0
      go_wp2_with fail
      clear ca0 ca1 fa0 fa1 hnea
      clear cb0 cb1 fb0 fb1 hneb
      clear cm0 cm1 cm2 cm3 cm4 cm5 fm0 fm1 fm2 fm3 fm4 fm5 hnem
      obtain ⟨W2, hW2⟩ : ∃ W1, W1 = Wc.drew := ⟨_, rfl⟩
      have hbd : Below Wc.heap.size Wc W2 := by rw [hW2]; exact bDrew1 (Below.refl _ _)
      replace Xa : Hid _ := Xa.out.below hbd
      replace Xb : Hid _ := Xb.out.below hbd
      replace Xm : Hid _ := Xm.out.below hbd
      replace ZA : Hid _ := ZA.out.below hbd
      replace ZB : Hid _ := ZB.out.below hbd
      replace hbw := Below.on hbw hbd
      clear hbd
      have HJ : Hid ((fun W' : World => W'.cell? ⟨ga, 0, none⟩ = some (.bool s6) ∧ W'.cell? ⟨ga, 1, none⟩ = some (.slice (some ⟨g6, 0, none⟩) m6 m6) ∧ W'.cell? ⟨gb, 0, none⟩ = some (.bool s13) ∧ W'.cell? ⟨gb, 1, none⟩ = some (.slice (some ⟨g13, 0, none⟩) m13 m13) ∧ W'.cell? ⟨gm, 0, none⟩ = some (U S) ∧ W'.cell? ⟨gm, 1, none⟩ = some (.int .i64 P)) W2) := ⟨Xa.out.c0, Xa.out.c1, Xb.out.c0, Xb.out.c1, Xm.out.c0, Xm.out.c1⟩
      refine wp_region_J (fun W' => W'.cell? ⟨ga, 0, none⟩ = some (.bool s6) ∧ W'.cell? ⟨ga, 1, none⟩ = some (.slice (some ⟨g6, 0, none⟩) m6 m6) ∧ W'.cell? ⟨gb, 0, none⟩ = some (.bool s13) ∧ W'.cell? ⟨gb, 1, none⟩ = some (.slice (some ⟨g13, 0, none⟩) m13 m13) ∧ W'.cell? ⟨gm, 0, none⟩ = some (U S) ∧ W'.cell? ⟨gm, 1, none⟩ = some (.int .i64 P)) (by kernel_rfl) ?_
      rw [← hW2]
      clear hW2
      refine wpJ_tq 0 rfl HJ.out ?_
      refine wpJ_tq 1 rfl HJ.out ?_
      refine wpJ_tq 2 rfl HJ.out ?_
      refine wpJ_sk 3 rfl HJ.out ?_
      refine wpJ_sk 4 rfl HJ.out ?_
      go_simp
      refine wpJ_tq 5 rfl HJ.out ?_
      refine wpJ_tq 6 rfl HJ.out ?_
      refine wpJ_sk 7 rfl HJ.out ?_
      refine wpJ_sk 8 rfl HJ.out ?_
      refine wpJ_sk 9 rfl HJ.out ?_
      go_simp
      refine wpJ_sk 10 rfl HJ.out ?_
      refine wpJ_sk 11 rfl HJ.out ?_
      refine wpJ_sk 12 rfl HJ.out ?_
      refine wpJ_sk 13 rfl HJ.out ?_
      refine wpJ_sk 14 rfl HJ.out ?_
      go_simp
      refine wpJ_sk 15 rfl HJ.out ?_
      refine wpJ_tq 16 rfl HJ.out ?_
      refine wpJ_tq 17 rfl HJ.out ?_
      refine wpJ_sk 18 rfl HJ.out ?_
      refine wpJ_sk 19 rfl HJ.out ?_
      go_simp
      refine wpJ_sk 20 rfl HJ.out ?_
      refine wpJ_sk 21 rfl HJ.out ?_
      refine wpJ_sk 22 rfl HJ.out ?_
      refine wpJ_tq 23 rfl HJ.out ?_
      refine wpJ_tq 24 rfl HJ.out ?_
      go_simp
      refine wpJ_sk 25 rfl HJ.out ?_
      refine wpJ_sk 26 rfl HJ.out ?_
      refine wpJ_sk 27 rfl HJ.out ?_
      refine wpJ_sk 28 rfl HJ.out ?_
      refine wpJ_sk 29 rfl HJ.out ?_
      go_simp
      refine wpJ_tq 30 rfl HJ.out ?_
      go_simp
      refine wpJ_done (by kernel_rfl) ?_ _
      clear HJ
      go_wp2_with fail
      go_ret
      exact ⟨rfl, hbw⟩
  · clear HRP
    go_simp
    refine wpJ_nodes fun WP hWP L0 a0 hL ha => ?_
    have N4ab : ∀ (s5 : Bool) (g5 m5 : Nat) (s6 : Bool) (g6 m6 : Nat) (s12 : Bool) (g12 m12 : Nat) (s13 : Bool) (g13 m13 : Nat) (ga : Nat) (gb : Nat) (W' : World), B6q W' gm (U S) (.int .i64 P) (.int .i64 E) (.int .i64 G) (U I) (U Q) ∧ Below w.heap.size w W' ∧ ZR W' s6 (some ⟨g6, 0, none⟩) m6 (((svS S H ma).natAbs : Int)) ∧ m6 ≤ 2200 ∧ ZR W' s13 (some ⟨g13, 0, none⟩) m13 (((svS S H mb).natAbs : Int)) ∧ m13 ≤ 2200 ∧ Box W' ga (.bool false) (.slice none 0 0) ∧ w.heap.size ≤ ga ∧ ga ≠ gm ∧ OffR g6 m6 ga ∧ OffR g13 m13 ga ∧ Box W' gb (.bool false) (.slice none 0 0) ∧ w.heap.size ≤ gb ∧ gb ≠ gm ∧ OffR g6 m6 gb ∧ OffR g13 m13 gb ∧ ga ≠ gb → WP 2 ((((((L0.setIfInBounds 5 true).setIfInBounds 6 true).setIfInBounds 12 true).setIfInBounds 13 true).setIfInBounds 14 true).setIfInBounds 15 true) ((((((a0.put (some 39) (.agg #[.bool s5, .slice (some ⟨g5, 0, none⟩) m5 m5])).put (some 40) (.agg #[.bool s6, .slice (some ⟨g6, 0, none⟩) m6 m6])).put (some 46) (.agg #[.bool s12, .slice (some ⟨g12, 0, none⟩) m12 m12])).put (some 47) (.agg #[.bool s13, .slice (some ⟨g13, 0, none⟩) m13 m13])).put (some 11) (.pointer (some ⟨ga, 0, none⟩))).put (some 12) (.pointer (some ⟨gb, 0, none⟩))) W' := by
      rintro s5 g5 m5 s6 g6 m6 s12 g12 m12 s13 g13 m13 ga gb W' ⟨xm, hbw, z6, l6, z13, l13, xa, hga, da, o6a, o13a, xb, hgb, db, o6b, o13b, dd⟩
      subst hWP hL ha
      have Hxm := Hid.mk9 xm
      have Hz6 := Hid.mk9 z6
      have Hl6 := Hid.mk9 l6
      have Hz13 := Hid.mk9 z13
      have Hl13 := Hid.mk9 l13
      have Hxa := Hid.mk9 xa
      have Hhga := Hid.mk9 hga
      have Hda := Hid.mk9 da
      have Ho6a := Hid.mk9 o6a
      have Ho13a := Hid.mk9 o13a
      have Hxb := Hid.mk9 xb
      have Hhgb := Hid.mk9 hgb
      have Hdb := Hid.mk9 db
      have Ho6b := Hid.mk9 o6b
      have Ho13b := Hid.mk9 o13b
      have Hdd := Hid.mk9 dd
      clear xm z6 l6 z13 l13 xa hga da o6a o13a xb hgb db o6b o13b dd
      go_simp
      have q1 := st9 (.bool s6) (.slice (some ⟨g6, 0, none⟩) m6 m6) Hxa.out Hxb.out Hxm.out Hdd.out Hda.out
      have q2 := st9 (.bool s13) (.slice (some ⟨g13, 0, none⟩) m13 m13) q1.2.1 q1.1 q1.2.2 (Ne.symm Hdd.out) Hdb.out
      have Q1 := Hid.mk9 q1
      have Q2 := Hid.mk9 q2
      clear q1 q2
      obtain ⟨c0, c1, f0, f1⟩ := Hxa.out
      refine wpJ_on 16 rfl fun KJ hK => ?_
      go_simp
      refine hK _ _ Q1.out.2.2.j9 ?_
      clear hK c0 c1 f0 f1
      obtain ⟨c0, c1, f0, f1⟩ := Q1.out.2.1
      refine wpJ_on 17 rfl fun KJ hK => ?_
      go_simp
      refine hK _ _ Q2.out.2.2.j9 ?_
      clear hK c0 c1 f0 f1
      refine wpJ_done (by kernel_rfl) ?_ _
      exact ⟨rfl, HRQ.out _ _ _ ⟨ga, gb, s5, g5, m5, s6, g6, m6, s12, g12, m12, s13, g13, m13, by kernel_rfl, Q2.out.2.1, Q2.out.1, Q2.out.2.2, (((Hz6.out.setOff Ho6a.out _ _).setOff Ho6a.out _ _).setOff Ho6b.out _ _).setOff Ho6b.out _ _, (((Hz13.out.setOff Ho13a.out _ _).setOff Ho13a.out _ _).setOff Ho13b.out _ _).setOff Ho13b.out _ _, Hl6.out, Hl13.out, Hhga.out, Hhgb.out, bSet (bSet (bSet (bSet hbw _ _ _ Hhga.out) _ _ _ Hhga.out) _ _ _ Hhgb.out) _ _ _ Hhgb.out⟩⟩
    have N4a : ∀ (s5 : Bool) (g5 m5 : Nat) (s6 : Bool) (g6 m6 : Nat) (s12 : Bool) (g12 m12 : Nat) (s13 : Bool) (g13 m13 : Nat) (ga : Nat) (W' : World), B6q W' gm (U S) (.int .i64 P) (.int .i64 E) (.int .i64 G) (U I) (U Q) ∧ Below w.heap.size w W' ∧ ZR W' s6 (some ⟨g6, 0, none⟩) m6 (((svS S H ma).natAbs : Int)) ∧ m6 ≤ 2200 ∧ ZR W' s13 (some ⟨g13, 0, none⟩) m13 (((svS S H mb).natAbs : Int)) ∧ m13 ≤ 2200 ∧ Box W' ga (.bool false) (.slice none 0 0) ∧ w.heap.size ≤ ga ∧ ga ≠ gm ∧ OffR g6 m6 ga ∧ OffR g13 m13 ga → WP 3 (((((L0.setIfInBounds 5 true).setIfInBounds 6 true).setIfInBounds 12 true).setIfInBounds 13 true).setIfInBounds 14 true) (((((a0.put (some 39) (.agg #[.bool s5, .slice (some ⟨g5, 0, none⟩) m5 m5])).put (some 40) (.agg #[.bool s6, .slice (some ⟨g6, 0, none⟩) m6 m6])).put (some 46) (.agg #[.bool s12, .slice (some ⟨g12, 0, none⟩) m12 m12])).put (some 47) (.agg #[.bool s13, .slice (some ⟨g13, 0, none⟩) m13 m13])).put (some 11) (.pointer (some ⟨ga, 0, none⟩))) W' := by
      rintro s5 g5 m5 s6 g6 m6 s12 g12 m12 s13 g13 m13 ga W' ⟨xm, hbw, z6, l6, z13, l13, xa, hga, da, o6a, o13a⟩
      subst hWP hL ha
      have Hxm := Hid.mk9 xm
      have Hz6 := Hid.mk9 z6
      have Hl6 := Hid.mk9 l6
      have Hz13 := Hid.mk9 z13
      have Hl13 := Hid.mk9 l13
      have Hxa := Hid.mk9 xa
      have Hhga := Hid.mk9 hga
      have Hda := Hid.mk9 da
      have Ho6a := Hid.mk9 o6a
      have Ho13a := Hid.mk9 o13a
      clear xm z6 l6 z13 l13 xa hga da o6a o13a
      go_simp
      refine wpJ_on 15 rfl fun KJ hK => ?_
      go_simp
      have hb := below1 W' (.cells #[.bool false, .slice none 0 0] 33)
      refine hK _ _ (Hxm.out.below hb).j9 ?_
      exact wpJ_same (by kernel_rfl) (by kernel_rfl) (N4ab s5 g5 m5 s6 g6 m6 s12 g12 m12 s13 g13 m13 ga W'.heap.size _ ⟨(Hxm.out.below hb), (Below.on hbw hb), (Hz6.out.below hb), Hl6.out, (Hz13.out.below hb), Hl13.out, (Hxa.out.below hb), Hhga.out, Hda.out, Ho6a.out, Ho13a.out, (Box.new W' _ _ _), hbw.size, (Nat.ne_of_gt Hxm.out.lt), Hz6.out.off_new, Hz13.out.off_new, (Nat.ne_of_lt Hxa.out.lt)⟩)
    have N4b : ∀ (s5 : Bool) (g5 m5 : Nat) (s6 : Bool) (g6 m6 : Nat) (s12 : Bool) (g12 m12 : Nat) (s13 : Bool) (g13 m13 : Nat) (gb : Nat) (W' : World), B6q W' gm (U S) (.int .i64 P) (.int .i64 E) (.int .i64 G) (U I) (U Q) ∧ Below w.heap.size w W' ∧ ZR W' s6 (some ⟨g6, 0, none⟩) m6 (((svS S H ma).natAbs : Int)) ∧ m6 ≤ 2200 ∧ ZR W' s13 (some ⟨g13, 0, none⟩) m13 (((svS S H mb).natAbs : Int)) ∧ m13 ≤ 2200 ∧ Box W' gb (.bool false) (.slice none 0 0) ∧ w.heap.size ≤ gb ∧ gb ≠ gm ∧ OffR g6 m6 gb ∧ OffR g13 m13 gb → WP 3 (((((L0.setIfInBounds 5 true).setIfInBounds 6 true).setIfInBounds 12 true).setIfInBounds 13 true).setIfInBounds 15 true) (((((a0.put (some 39) (.agg #[.bool s5, .slice (some ⟨g5, 0, none⟩) m5 m5])).put (some 40) (.agg #[.bool s6, .slice (some ⟨g6, 0, none⟩) m6 m6])).put (some 46) (.agg #[.bool s12, .slice (some ⟨g12, 0, none⟩) m12 m12])).put (some 47) (.agg #[.bool s13, .slice (some ⟨g13, 0, none⟩) m13 m13])).put (some 12) (.pointer (some ⟨gb, 0, none⟩))) W' := by
      rintro s5 g5 m5 s6 g6 m6 s12 g12 m12 s13 g13 m13 gb W' ⟨xm, hbw, z6, l6, z13, l13, xb, hgb, db, o6b, o13b⟩
      subst hWP hL ha
      have Hxm := Hid.mk9 xm
      have Hz6 := Hid.mk9 z6
      have Hl6 := Hid.mk9 l6
      have Hz13 := Hid.mk9 z13
      have Hl13 := Hid.mk9 l13
      have Hxb := Hid.mk9 xb
      have Hhgb := Hid.mk9 hgb
      have Hdb := Hid.mk9 db
      have Ho6b := Hid.mk9 o6b
      have Ho13b := Hid.mk9 o13b
      clear xm z6 l6 z13 l13 xb hgb db o6b o13b
      go_simp
      refine wpJ_on 14 rfl fun KJ hK => ?_
      go_simp
      have hb := below1 W' (.cells #[.bool false, .slice none 0 0] 33)
      refine hK _ _ (Hxm.out.below hb).j9 ?_
      exact wpJ_same (by kernel_rfl) (by kernel_rfl) (N4ab s5 g5 m5 s6 g6 m6 s12 g12 m12 s13 g13 m13 W'.heap.size gb _ ⟨(Hxm.out.below hb), (Below.on hbw hb), (Hz6.out.below hb), Hl6.out, (Hz13.out.below hb), Hl13.out, (Box.new W' _ _ _), hbw.size, (Nat.ne_of_gt Hxm.out.lt), Hz6.out.off_new, Hz13.out.off_new, (Hxb.out.below hb), Hhgb.out, Hdb.out, Ho6b.out, Ho13b.out, (Nat.ne_of_gt Hxb.out.lt)⟩)
    have N4 : ∀ (s5 : Bool) (g5 m5 : Nat) (s6 : Bool) (g6 m6 : Nat) (s12 : Bool) (g12 m12 : Nat) (s13 : Bool) (g13 m13 : Nat) (W' : World), B6q W' gm (U S) (.int .i64 P) (.int .i64 E) (.int .i64 G) (U I) (U Q) ∧ Below w.heap.size w W' ∧ ZR W' s6 (some ⟨g6, 0, none⟩) m6 (((svS S H ma).natAbs : Int)) ∧ m6 ≤ 2200 ∧ ZR W' s13 (some ⟨g13, 0, none⟩) m13 (((svS S H mb).natAbs : Int)) ∧ m13 ≤ 2200 → WP 4 ((((L0.setIfInBounds 5 true).setIfInBounds 6 true).setIfInBounds 12 true).setIfInBounds 13 true) ((((a0.put (some 39) (.agg #[.bool s5, .slice (some ⟨g5, 0, none⟩) m5 m5])).put (some 40) (.agg #[.bool s6, .slice (some ⟨g6, 0, none⟩) m6 m6])).put (some 46) (.agg #[.bool s12, .slice (some ⟨g12, 0, none⟩) m12 m12])).put (some 47) (.agg #[.bool s13, .slice (some ⟨g13, 0, none⟩) m13 m13])) W' := by
      rintro s5 g5 m5 s6 g6 m6 s12 g12 m12 s13 g13 m13 W' ⟨xm, hbw, z6, l6, z13, l13⟩
      subst hWP hL ha
      have Hxm := Hid.mk9 xm
      have Hz6 := Hid.mk9 z6
      have Hl6 := Hid.mk9 l6
      have Hz13 := Hid.mk9 z13
      have Hl13 := Hid.mk9 l13
      clear xm z6 l6 z13 l13
      go_simp
      refine wpJ_two (i := 14) (k := 15) (by kernel_rfl) rfl rfl (by kernel_rfl) (by kernel_rfl) (fun KJ hK => ?_) (fun KJ hK => ?_)
      · go_simp
        have hb := below1 W' (.cells #[.bool false, .slice none 0 0] 33)
        refine hK _ _ (Hxm.out.below hb).j9 ?_
        exact wpJ_same (by kernel_rfl) (by kernel_rfl) (N4a s5 g5 m5 s6 g6 m6 s12 g12 m12 s13 g13 m13 W'.heap.size _ ⟨(Hxm.out.below hb), (Below.on hbw hb), (Hz6.out.below hb), Hl6.out, (Hz13.out.below hb), Hl13.out, (Box.new W' _ _ _), hbw.size, (Nat.ne_of_gt Hxm.out.lt), Hz6.out.off_new, Hz13.out.off_new⟩)
      · go_simp
        have hb := below1 W' (.cells #[.bool false, .slice none 0 0] 33)
        refine hK _ _ (Hxm.out.below hb).j9 ?_
        exact wpJ_same (by kernel_rfl) (by kernel_rfl) (N4b s5 g5 m5 s6 g6 m6 s12 g12 m12 s13 g13 m13 W'.heap.size _ ⟨(Hxm.out.below hb), (Below.on hbw hb), (Hz6.out.below hb), Hl6.out, (Hz13.out.below hb), Hl13.out, (Box.new W' _ _ _), hbw.size, (Nat.ne_of_gt Hxm.out.lt), Hz6.out.off_new, Hz13.out.off_new⟩)
    have N3ab : ∀ (s5 : Bool) (g5 m5 : Nat) (s6 : Bool) (g6 m6 : Nat) (s12 : Bool) (g12 m12 : Nat) (ga : Nat) (gb : Nat) (W' : World), B6q W' gm (U S) (.int .i64 P) (.int .i64 E) (.int .i64 G) (U I) (U Q) ∧ Below w.heap.size w W' ∧ ZR W' s6 (some ⟨g6, 0, none⟩) m6 (((svS S H ma).natAbs : Int)) ∧ m6 ≤ 2200 ∧ ZR W' s12 (some ⟨g12, 0, none⟩) m12 (svS S H mb) ∧ m12 ≤ 2200 ∧ Box W' ga (.bool false) (.slice none 0 0) ∧ w.heap.size ≤ ga ∧ ga ≠ gm ∧ OffR g6 m6 ga ∧ Box W' gb (.bool false) (.slice none 0 0) ∧ w.heap.size ≤ gb ∧ gb ≠ gm ∧ OffR g6 m6 gb ∧ ga ≠ gb → WP 3 (((((L0.setIfInBounds 5 true).setIfInBounds 6 true).setIfInBounds 12 true).setIfInBounds 14 true).setIfInBounds 15 true) (((((a0.put (some 39) (.agg #[.bool s5, .slice (some ⟨g5, 0, none⟩) m5 m5])).put (some 40) (.agg #[.bool s6, .slice (some ⟨g6, 0, none⟩) m6 m6])).put (some 46) (.agg #[.bool s12, .slice (some ⟨g12, 0, none⟩) m12 m12])).put (some 11) (.pointer (some ⟨ga, 0, none⟩))).put (some 12) (.pointer (some ⟨gb, 0, none⟩))) W' := by
      rintro s5 g5 m5 s6 g6 m6 s12 g12 m12 ga gb W' ⟨xm, hbw, z6, l6, z12, l12, xa, hga, da, o6a, xb, hgb, db, o6b, dd⟩
      subst hWP hL ha
      have Hxm := Hid.mk9 xm
      have Hz6 := Hid.mk9 z6
      have Hl6 := Hid.mk9 l6
      have Hz12 := Hid.mk9 z12
      have Hl12 := Hid.mk9 l12
      have Hxa := Hid.mk9 xa
      have Hhga := Hid.mk9 hga
      have Hda := Hid.mk9 da
      have Ho6a := Hid.mk9 o6a
      have Hxb := Hid.mk9 xb
      have Hhgb := Hid.mk9 hgb
      have Hdb := Hid.mk9 db
      have Ho6b := Hid.mk9 o6b
      have Hdd := Hid.mk9 dd
      clear xm z6 l6 z12 l12 xa hga da o6a xb hgb db o6b dd
      go_simp
      refine wpJ_on 13 rfl fun KJ hK => ?_
      go_simp
      refine (rabs_any s12 Hz12.out (by have := Hl12.out; omega)).mono ?_
      rintro e W2 ⟨v, rfl, hv, hb⟩
      obtain ⟨s13, g13, m13, rfl, hg, hz, hl⟩ := hv
      refine hK _ _ (Hxm.out.below hb).j9 ?_
      exact wpJ_same (by kernel_rfl) (by kernel_rfl) (N4ab s5 g5 m5 s6 g6 m6 s12 g12 m12 s13 g13 m13 ga gb W2 ⟨(Hxm.out.below hb), (Below.on hbw hb), (Hz6.out.below hb), Hl6.out, hz, (Nat.le_trans hl Hl12.out), (Hxa.out.below hb), Hhga.out, Hda.out, Ho6a.out, (.inr (Nat.ne_of_gt (Nat.lt_of_lt_of_le Hxa.out.lt hg))), (Hxb.out.below hb), Hhgb.out, Hdb.out, Ho6b.out, (.inr (Nat.ne_of_gt (Nat.lt_of_lt_of_le Hxb.out.lt hg))), Hdd.out⟩)
    have N3a : ∀ (s5 : Bool) (g5 m5 : Nat) (s6 : Bool) (g6 m6 : Nat) (s12 : Bool) (g12 m12 : Nat) (ga : Nat) (W' : World), B6q W' gm (U S) (.int .i64 P) (.int .i64 E) (.int .i64 G) (U I) (U Q) ∧ Below w.heap.size w W' ∧ ZR W' s6 (some ⟨g6, 0, none⟩) m6 (((svS S H ma).natAbs : Int)) ∧ m6 ≤ 2200 ∧ ZR W' s12 (some ⟨g12, 0, none⟩) m12 (svS S H mb) ∧ m12 ≤ 2200 ∧ Box W' ga (.bool false) (.slice none 0 0) ∧ w.heap.size ≤ ga ∧ ga ≠ gm ∧ OffR g6 m6 ga → WP 4 ((((L0.setIfInBounds 5 true).setIfInBounds 6 true).setIfInBounds 12 true).setIfInBounds 14 true) ((((a0.put (some 39) (.agg #[.bool s5, .slice (some ⟨g5, 0, none⟩) m5 m5])).put (some 40) (.agg #[.bool s6, .slice (some ⟨g6, 0, none⟩) m6 m6])).put (some 46) (.agg #[.bool s12, .slice (some ⟨g12, 0, none⟩) m12 m12])).put (some 11) (.pointer (some ⟨ga, 0, none⟩))) W' := by
      rintro s5 g5 m5 s6 g6 m6 s12 g12 m12 ga W' ⟨xm, hbw, z6, l6, z12, l12, xa, hga, da, o6a⟩
      subst hWP hL ha
      have Hxm := Hid.mk9 xm
      have Hz6 := Hid.mk9 z6
      have Hl6 := Hid.mk9 l6
      have Hz12 := Hid.mk9 z12
      have Hl12 := Hid.mk9 l12
      have Hxa := Hid.mk9 xa
      have Hhga := Hid.mk9 hga
      have Hda := Hid.mk9 da
      have Ho6a := Hid.mk9 o6a
      clear xm z6 l6 z12 l12 xa hga da o6a
      go_simp
      refine wpJ_two (i := 13) (k := 15) (by kernel_rfl) rfl rfl (by kernel_rfl) (by kernel_rfl) (fun KJ hK => ?_) (fun KJ hK => ?_)
      · go_simp
        refine (rabs_any s12 Hz12.out (by have := Hl12.out; omega)).mono ?_
        rintro e W2 ⟨v, rfl, hv, hb⟩
        obtain ⟨s13, g13, m13, rfl, hg, hz, hl⟩ := hv
        refine hK _ _ (Hxm.out.below hb).j9 ?_
        exact wpJ_same (by kernel_rfl) (by kernel_rfl) (N4a s5 g5 m5 s6 g6 m6 s12 g12 m12 s13 g13 m13 ga W2 ⟨(Hxm.out.below hb), (Below.on hbw hb), (Hz6.out.below hb), Hl6.out, hz, (Nat.le_trans hl Hl12.out), (Hxa.out.below hb), Hhga.out, Hda.out, Ho6a.out, (.inr (Nat.ne_of_gt (Nat.lt_of_lt_of_le Hxa.out.lt hg)))⟩)
      · go_simp
        have hb := below1 W' (.cells #[.bool false, .slice none 0 0] 33)
        refine hK _ _ (Hxm.out.below hb).j9 ?_
        exact wpJ_same (by kernel_rfl) (by kernel_rfl) (N3ab s5 g5 m5 s6 g6 m6 s12 g12 m12 ga W'.heap.size _ ⟨(Hxm.out.below hb), (Below.on hbw hb), (Hz6.out.below hb), Hl6.out, (Hz12.out.below hb), Hl12.out, (Hxa.out.below hb), Hhga.out, Hda.out, Ho6a.out, (Box.new W' _ _ _), hbw.size, (Nat.ne_of_gt Hxm.out.lt), Hz6.out.off_new, (Nat.ne_of_lt Hxa.out.lt)⟩)
    have N3b : ∀ (s5 : Bool) (g5 m5 : Nat) (s6 : Bool) (g6 m6 : Nat) (s12 : Bool) (g12 m12 : Nat) (gb : Nat) (W' : World), B6q W' gm (U S) (.int .i64 P) (.int .i64 E) (.int .i64 G) (U I) (U Q) ∧ Below w.heap.size w W' ∧ ZR W' s6 (some ⟨g6, 0, none⟩) m6 (((svS S H ma).natAbs : Int)) ∧ m6 ≤ 2200 ∧ ZR W' s12 (some ⟨g12, 0, none⟩) m12 (svS S H mb) ∧ m12 ≤ 2200 ∧ Box W' gb (.bool false) (.slice none 0 0) ∧ w.heap.size ≤ gb ∧ gb ≠ gm ∧ OffR g6 m6 gb → WP 4 ((((L0.setIfInBounds 5 true).setIfInBounds 6 true).setIfInBounds 12 true).setIfInBounds 15 true) ((((a0.put (some 39) (.agg #[.bool s5, .slice (some ⟨g5, 0, none⟩) m5 m5])).put (some 40) (.agg #[.bool s6, .slice (some ⟨g6, 0, none⟩) m6 m6])).put (some 46) (.agg #[.bool s12, .slice (some ⟨g12, 0, none⟩) m12 m12])).put (some 12) (.pointer (some ⟨gb, 0, none⟩))) W' := by
      rintro s5 g5 m5 s6 g6 m6 s12 g12 m12 gb W' ⟨xm, hbw, z6, l6, z12, l12, xb, hgb, db, o6b⟩
      subst hWP hL ha
      have Hxm := Hid.mk9 xm
      have Hz6 := Hid.mk9 z6
      have Hl6 := Hid.mk9 l6
      have Hz12 := Hid.mk9 z12
      have Hl12 := Hid.mk9 l12
      have Hxb := Hid.mk9 xb
      have Hhgb := Hid.mk9 hgb
      have Hdb := Hid.mk9 db
      have Ho6b := Hid.mk9 o6b
      clear xm z6 l6 z12 l12 xb hgb db o6b
      go_simp
      refine wpJ_two (i := 13) (k := 14) (by kernel_rfl) rfl rfl (by kernel_rfl) (by kernel_rfl) (fun KJ hK => ?_) (fun KJ hK => ?_)
      · go_simp
        refine (rabs_any s12 Hz12.out (by have := Hl12.out; omega)).mono ?_
        rintro e W2 ⟨v, rfl, hv, hb⟩
        obtain ⟨s13, g13, m13, rfl, hg, hz, hl⟩ := hv
        refine hK _ _ (Hxm.out.below hb).j9 ?_
        exact wpJ_same (by kernel_rfl) (by kernel_rfl) (N4b s5 g5 m5 s6 g6 m6 s12 g12 m12 s13 g13 m13 gb W2 ⟨(Hxm.out.below hb), (Below.on hbw hb), (Hz6.out.below hb), Hl6.out, hz, (Nat.le_trans hl Hl12.out), (Hxb.out.below hb), Hhgb.out, Hdb.out, Ho6b.out, (.inr (Nat.ne_of_gt (Nat.lt_of_lt_of_le Hxb.out.lt hg)))⟩)
      · go_simp
        have hb := below1 W' (.cells #[.bool false, .slice none 0 0] 33)
        refine hK _ _ (Hxm.out.below hb).j9 ?_
        exact wpJ_same (by kernel_rfl) (by kernel_rfl) (N3ab s5 g5 m5 s6 g6 m6 s12 g12 m12 W'.heap.size gb _ ⟨(Hxm.out.below hb), (Below.on hbw hb), (Hz6.out.below hb), Hl6.out, (Hz12.out.below hb), Hl12.out, (Box.new W' _ _ _), hbw.size, (Nat.ne_of_gt Hxm.out.lt), Hz6.out.off_new, (Hxb.out.below hb), Hhgb.out, Hdb.out, Ho6b.out, (Nat.ne_of_gt Hxb.out.lt)⟩)
    have N3 : ∀ (s5 : Bool) (g5 m5 : Nat) (s6 : Bool) (g6 m6 : Nat) (s12 : Bool) (g12 m12 : Nat) (W' : World), B6q W' gm (U S) (.int .i64 P) (.int .i64 E) (.int .i64 G) (U I) (U Q) ∧ Below w.heap.size w W' ∧ ZR W' s6 (some ⟨g6, 0, none⟩) m6 (((svS S H ma).natAbs : Int)) ∧ m6 ≤ 2200 ∧ ZR W' s12 (some ⟨g12, 0, none⟩) m12 (svS S H mb) ∧ m12 ≤ 2200 → WP 5 (((L0.setIfInBounds 5 true).setIfInBounds 6 true).setIfInBounds 12 true) (((a0.put (some 39) (.agg #[.bool s5, .slice (some ⟨g5, 0, none⟩) m5 m5])).put (some 40) (.agg #[.bool s6, .slice (some ⟨g6, 0, none⟩) m6 m6])).put (some 46) (.agg #[.bool s12, .slice (some ⟨g12, 0, none⟩) m12 m12])) W' := by
      rintro s5 g5 m5 s6 g6 m6 s12 g12 m12 W' ⟨xm, hbw, z6, l6, z12, l12⟩
      subst hWP hL ha
      have Hxm := Hid.mk9 xm
      have Hz6 := Hid.mk9 z6
      have Hl6 := Hid.mk9 l6
      have Hz12 := Hid.mk9 z12
      have Hl12 := Hid.mk9 l12
      clear xm z6 l6 z12 l12
      go_simp
      refine wpJ_three (i := 13) (k := 14) (l := 15) (by kernel_rfl) rfl rfl rfl (by kernel_rfl) (by kernel_rfl) (by kernel_rfl) (fun KJ hK => ?_) (fun KJ hK => ?_) (fun KJ hK => ?_)
      · go_simp
        refine (rabs_any s12 Hz12.out (by have := Hl12.out; omega)).mono ?_
        rintro e W2 ⟨v, rfl, hv, hb⟩
        obtain ⟨s13, g13, m13, rfl, hg, hz, hl⟩ := hv
        refine hK _ _ (Hxm.out.below hb).j9 ?_
        exact wpJ_same (by kernel_rfl) (by kernel_rfl) (N4 s5 g5 m5 s6 g6 m6 s12 g12 m12 s13 g13 m13 W2 ⟨(Hxm.out.below hb), (Below.on hbw hb), (Hz6.out.below hb), Hl6.out, hz, (Nat.le_trans hl Hl12.out)⟩)
      · go_simp
        have hb := below1 W' (.cells #[.bool false, .slice none 0 0] 33)
        refine hK _ _ (Hxm.out.below hb).j9 ?_
        exact wpJ_same (by kernel_rfl) (by kernel_rfl) (N3a s5 g5 m5 s6 g6 m6 s12 g12 m12 W'.heap.size _ ⟨(Hxm.out.below hb), (Below.on hbw hb), (Hz6.out.below hb), Hl6.out, (Hz12.out.below hb), Hl12.out, (Box.new W' _ _ _), hbw.size, (Nat.ne_of_gt Hxm.out.lt), Hz6.out.off_new⟩)
      · go_simp
        have hb := below1 W' (.cells #[.bool false, .slice none 0 0] 33)
        refine hK _ _ (Hxm.out.below hb).j9 ?_
        exact wpJ_same (by kernel_rfl) (by kernel_rfl) (N3b s5 g5 m5 s6 g6 m6 s12 g12 m12 W'.heap.size _ ⟨(Hxm.out.below hb), (Below.on hbw hb), (Hz6.out.below hb), Hl6.out, (Hz12.out.below hb), Hl12.out, (Box.new W' _ _ _), hbw.size, (Nat.ne_of_gt Hxm.out.lt), Hz6.out.off_new⟩)
    have N2ab : ∀ (s5 : Bool) (g5 m5 : Nat) (s6 : Bool) (g6 m6 : Nat) (ga : Nat) (gb : Nat) (W' : World), B6q W' gm (U S) (.int .i64 P) (.int .i64 E) (.int .i64 G) (U I) (U Q) ∧ Below w.heap.size w W' ∧ ZR W' s6 (some ⟨g6, 0, none⟩) m6 (((svS S H ma).natAbs : Int)) ∧ m6 ≤ 2200 ∧ Box W' ga (.bool false) (.slice none 0 0) ∧ w.heap.size ≤ ga ∧ ga ≠ gm ∧ OffR g6 m6 ga ∧ Box W' gb (.bool false) (.slice none 0 0) ∧ w.heap.size ≤ gb ∧ gb ≠ gm ∧ OffR g6 m6 gb ∧ ga ≠ gb → WP 4 ((((L0.setIfInBounds 5 true).setIfInBounds 6 true).setIfInBounds 14 true).setIfInBounds 15 true) ((((a0.put (some 39) (.agg #[.bool s5, .slice (some ⟨g5, 0, none⟩) m5 m5])).put (some 40) (.agg #[.bool s6, .slice (some ⟨g6, 0, none⟩) m6 m6])).put (some 11) (.pointer (some ⟨ga, 0, none⟩))).put (some 12) (.pointer (some ⟨gb, 0, none⟩))) W' := by
      rintro s5 g5 m5 s6 g6 m6 ga gb W' ⟨xm, hbw, z6, l6, xa, hga, da, o6a, xb, hgb, db, o6b, dd⟩
      subst hWP hL ha
      have Hxm := Hid.mk9 xm
      have Hz6 := Hid.mk9 z6
      have Hl6 := Hid.mk9 l6
      have Hxa := Hid.mk9 xa
      have Hhga := Hid.mk9 hga
      have Hda := Hid.mk9 da
      have Ho6a := Hid.mk9 o6a
      have Hxb := Hid.mk9 xb
      have Hhgb := Hid.mk9 hgb
      have Hdb := Hid.mk9 db
      have Ho6b := Hid.mk9 o6b
      have Hdd := Hid.mk9 dd
      clear xm z6 l6 xa hga da o6a xb hgb db o6b dd
      go_simp
      refine wpJ_on 12 rfl fun KJ hK => ?_
      go_simp
      refine (units9 HM.out mb _).mono ?_
      rintro e W2 ⟨v, rfl, hv, hb⟩
      obtain ⟨s12, g12, m12, rfl, hg, hz, hl⟩ := hv
      refine hK _ _ (Hxm.out.below hb).j9 ?_
      exact wpJ_same (by kernel_rfl) (by kernel_rfl) (N3ab s5 g5 m5 s6 g6 m6 s12 g12 m12 ga gb W2 ⟨(Hxm.out.below hb), (Below.on hbw hb), (Hz6.out.below hb), Hl6.out, hz, hl, (Hxa.out.below hb), Hhga.out, Hda.out, Ho6a.out, (Hxb.out.below hb), Hhgb.out, Hdb.out, Ho6b.out, Hdd.out⟩)
    have N2a : ∀ (s5 : Bool) (g5 m5 : Nat) (s6 : Bool) (g6 m6 : Nat) (ga : Nat) (W' : World), B6q W' gm (U S) (.int .i64 P) (.int .i64 E) (.int .i64 G) (U I) (U Q) ∧ Below w.heap.size w W' ∧ ZR W' s6 (some ⟨g6, 0, none⟩) m6 (((svS S H ma).natAbs : Int)) ∧ m6 ≤ 2200 ∧ Box W' ga (.bool false) (.slice none 0 0) ∧ w.heap.size ≤ ga ∧ ga ≠ gm ∧ OffR g6 m6 ga → WP 5 (((L0.setIfInBounds 5 true).setIfInBounds 6 true).setIfInBounds 14 true) (((a0.put (some 39) (.agg #[.bool s5, .slice (some ⟨g5, 0, none⟩) m5 m5])).put (some 40) (.agg #[.bool s6, .slice (some ⟨g6, 0, none⟩) m6 m6])).put (some 11) (.pointer (some ⟨ga, 0, none⟩))) W' := by
      rintro s5 g5 m5 s6 g6 m6 ga W' ⟨xm, hbw, z6, l6, xa, hga, da, o6a⟩
      subst hWP hL ha
      have Hxm := Hid.mk9 xm
      have Hz6 := Hid.mk9 z6
      have Hl6 := Hid.mk9 l6
      have Hxa := Hid.mk9 xa
      have Hhga := Hid.mk9 hga
      have Hda := Hid.mk9 da
      have Ho6a := Hid.mk9 o6a
      clear xm z6 l6 xa hga da o6a
      go_simp
      refine wpJ_two (i := 12) (k := 15) (by kernel_rfl) rfl rfl (by kernel_rfl) (by kernel_rfl) (fun KJ hK => ?_) (fun KJ hK => ?_)
      · go_simp
        refine (units9 HM.out mb _).mono ?_
        rintro e W2 ⟨v, rfl, hv, hb⟩
        obtain ⟨s12, g12, m12, rfl, hg, hz, hl⟩ := hv
        refine hK _ _ (Hxm.out.below hb).j9 ?_
        exact wpJ_same (by kernel_rfl) (by kernel_rfl) (N3a s5 g5 m5 s6 g6 m6 s12 g12 m12 ga W2 ⟨(Hxm.out.below hb), (Below.on hbw hb), (Hz6.out.below hb), Hl6.out, hz, hl, (Hxa.out.below hb), Hhga.out, Hda.out, Ho6a.out⟩)
      · go_simp
        have hb := below1 W' (.cells #[.bool false, .slice none 0 0] 33)
        refine hK _ _ (Hxm.out.below hb).j9 ?_
        exact wpJ_same (by kernel_rfl) (by kernel_rfl) (N2ab s5 g5 m5 s6 g6 m6 ga W'.heap.size _ ⟨(Hxm.out.below hb), (Below.on hbw hb), (Hz6.out.below hb), Hl6.out, (Hxa.out.below hb), Hhga.out, Hda.out, Ho6a.out, (Box.new W' _ _ _), hbw.size, (Nat.ne_of_gt Hxm.out.lt), Hz6.out.off_new, (Nat.ne_of_lt Hxa.out.lt)⟩)
    have N2b : ∀ (s5 : Bool) (g5 m5 : Nat) (s6 : Bool) (g6 m6 : Nat) (gb : Nat) (W' : World), B6q W' gm (U S) (.int .i64 P) (.int .i64 E) (.int .i64 G) (U I) (U Q) ∧ Below w.heap.size w W' ∧ ZR W' s6 (some ⟨g6, 0, none⟩) m6 (((svS S H ma).natAbs : Int)) ∧ m6 ≤ 2200 ∧ Box W' gb (.bool false) (.slice none 0 0) ∧ w.heap.size ≤ gb ∧ gb ≠ gm ∧ OffR g6 m6 gb → WP 5 (((L0.setIfInBounds 5 true).setIfInBounds 6 true).setIfInBounds 15 true) (((a0.put (some 39) (.agg #[.bool s5, .slice (some ⟨g5, 0, none⟩) m5 m5])).put (some 40) (.agg #[.bool s6, .slice (some ⟨g6, 0, none⟩) m6 m6])).put (some 12) (.pointer (some ⟨gb, 0, none⟩))) W' := by
      rintro s5 g5 m5 s6 g6 m6 gb W' ⟨xm, hbw, z6, l6, xb, hgb, db, o6b⟩
      subst hWP hL ha
      have Hxm := Hid.mk9 xm
      have Hz6 := Hid.mk9 z6
      have Hl6 := Hid.mk9 l6
      have Hxb := Hid.mk9 xb
      have Hhgb := Hid.mk9 hgb
      have Hdb := Hid.mk9 db
      have Ho6b := Hid.mk9 o6b
      clear xm z6 l6 xb hgb db o6b
      go_simp
      refine wpJ_two (i := 12) (k := 14) (by kernel_rfl) rfl rfl (by kernel_rfl) (by kernel_rfl) (fun KJ hK => ?_) (fun KJ hK => ?_)
      · go_simp
        refine (units9 HM.out mb _).mono ?_
        rintro e W2 ⟨v, rfl, hv, hb⟩
        obtain ⟨s12, g12, m12, rfl, hg, hz, hl⟩ := hv
        refine hK _ _ (Hxm.out.below hb).j9 ?_
        exact wpJ_same (by kernel_rfl) (by kernel_rfl) (N3b s5 g5 m5 s6 g6 m6 s12 g12 m12 gb W2 ⟨(Hxm.out.below hb), (Below.on hbw hb), (Hz6.out.below hb), Hl6.out, hz, hl, (Hxb.out.below hb), Hhgb.out, Hdb.out, Ho6b.out⟩)
      · go_simp
        have hb := below1 W' (.cells #[.bool false, .slice none 0 0] 33)
        refine hK _ _ (Hxm.out.below hb).j9 ?_
        exact wpJ_same (by kernel_rfl) (by kernel_rfl) (N2ab s5 g5 m5 s6 g6 m6 W'.heap.size gb _ ⟨(Hxm.out.below hb), (Below.on hbw hb), (Hz6.out.below hb), Hl6.out, (Box.new W' _ _ _), hbw.size, (Nat.ne_of_gt Hxm.out.lt), Hz6.out.off_new, (Hxb.out.below hb), Hhgb.out, Hdb.out, Ho6b.out, (Nat.ne_of_gt Hxb.out.lt)⟩)
    have N2 : ∀ (s5 : Bool) (g5 m5 : Nat) (s6 : Bool) (g6 m6 : Nat) (W' : World), B6q W' gm (U S) (.int .i64 P) (.int .i64 E) (.int .i64 G) (U I) (U Q) ∧ Below w.heap.size w W' ∧ ZR W' s6 (some ⟨g6, 0, none⟩) m6 (((svS S H ma).natAbs : Int)) ∧ m6 ≤ 2200 → WP 6 ((L0.setIfInBounds 5 true).setIfInBounds 6 true) ((a0.put (some 39) (.agg #[.bool s5, .slice (some ⟨g5, 0, none⟩) m5 m5])).put (some 40) (.agg #[.bool s6, .slice (some ⟨g6, 0, none⟩) m6 m6])) W' := by
      rintro s5 g5 m5 s6 g6 m6 W' ⟨xm, hbw, z6, l6⟩
      subst hWP hL ha
      have Hxm := Hid.mk9 xm
      have Hz6 := Hid.mk9 z6
      have Hl6 := Hid.mk9 l6
      clear xm z6 l6
      go_simp
      refine wpJ_three (i := 12) (k := 14) (l := 15) (by kernel_rfl) rfl rfl rfl (by kernel_rfl) (by kernel_rfl) (by kernel_rfl) (fun KJ hK => ?_) (fun KJ hK => ?_) (fun KJ hK => ?_)
      · go_simp
        refine (units9 HM.out mb _).mono ?_
        rintro e W2 ⟨v, rfl, hv, hb⟩
        obtain ⟨s12, g12, m12, rfl, hg, hz, hl⟩ := hv
        refine hK _ _ (Hxm.out.below hb).j9 ?_
        exact wpJ_same (by kernel_rfl) (by kernel_rfl) (N3 s5 g5 m5 s6 g6 m6 s12 g12 m12 W2 ⟨(Hxm.out.below hb), (Below.on hbw hb), (Hz6.out.below hb), Hl6.out, hz, hl⟩)
      · go_simp
        have hb := below1 W' (.cells #[.bool false, .slice none 0 0] 33)
        refine hK _ _ (Hxm.out.below hb).j9 ?_
        exact wpJ_same (by kernel_rfl) (by kernel_rfl) (N2a s5 g5 m5 s6 g6 m6 W'.heap.size _ ⟨(Hxm.out.below hb), (Below.on hbw hb), (Hz6.out.below hb), Hl6.out, (Box.new W' _ _ _), hbw.size, (Nat.ne_of_gt Hxm.out.lt), Hz6.out.off_new⟩)
      · go_simp
        have hb := below1 W' (.cells #[.bool false, .slice none 0 0] 33)
        refine hK _ _ (Hxm.out.below hb).j9 ?_
        exact wpJ_same (by kernel_rfl) (by kernel_rfl) (N2b s5 g5 m5 s6 g6 m6 W'.heap.size _ ⟨(Hxm.out.below hb), (Below.on hbw hb), (Hz6.out.below hb), Hl6.out, (Box.new W' _ _ _), hbw.size, (Nat.ne_of_gt Hxm.out.lt), Hz6.out.off_new⟩)
    have N1ab : ∀ (s5 : Bool) (g5 m5 : Nat) (ga : Nat) (gb : Nat) (W' : World), B6q W' gm (U S) (.int .i64 P) (.int .i64 E) (.int .i64 G) (U I) (U Q) ∧ Below w.heap.size w W' ∧ ZR W' s5 (some ⟨g5, 0, none⟩) m5 (svS S H ma) ∧ m5 ≤ 2200 ∧ Box W' ga (.bool false) (.slice none 0 0) ∧ w.heap.size ≤ ga ∧ ga ≠ gm ∧ Box W' gb (.bool false) (.slice none 0 0) ∧ w.heap.size ≤ gb ∧ gb ≠ gm ∧ ga ≠ gb → WP 5 (((L0.setIfInBounds 5 true).setIfInBounds 14 true).setIfInBounds 15 true) (((a0.put (some 39) (.agg #[.bool s5, .slice (some ⟨g5, 0, none⟩) m5 m5])).put (some 11) (.pointer (some ⟨ga, 0, none⟩))).put (some 12) (.pointer (some ⟨gb, 0, none⟩))) W' := by
      rintro s5 g5 m5 ga gb W' ⟨xm, hbw, z5, l5, xa, hga, da, xb, hgb, db, dd⟩
      subst hWP hL ha
      have Hxm := Hid.mk9 xm
      have Hz5 := Hid.mk9 z5
      have Hl5 := Hid.mk9 l5
      have Hxa := Hid.mk9 xa
      have Hhga := Hid.mk9 hga
      have Hda := Hid.mk9 da
      have Hxb := Hid.mk9 xb
      have Hhgb := Hid.mk9 hgb
      have Hdb := Hid.mk9 db
      have Hdd := Hid.mk9 dd
      clear xm z5 l5 xa hga da xb hgb db dd
      go_simp
      refine wpJ_on 6 rfl fun KJ hK => ?_
      go_simp
      refine (rabs_any s5 Hz5.out (by have := Hl5.out; omega)).mono ?_
      rintro e W2 ⟨v, rfl, hv, hb⟩
      obtain ⟨s6, g6, m6, rfl, hg, hz, hl⟩ := hv
      refine hK _ _ (Hxm.out.below hb).j9 ?_
      exact wpJ_same (by kernel_rfl) (by kernel_rfl) (N2ab s5 g5 m5 s6 g6 m6 ga gb W2 ⟨(Hxm.out.below hb), (Below.on hbw hb), hz, (Nat.le_trans hl Hl5.out), (Hxa.out.below hb), Hhga.out, Hda.out, (.inr (Nat.ne_of_gt (Nat.lt_of_lt_of_le Hxa.out.lt hg))), (Hxb.out.below hb), Hhgb.out, Hdb.out, (.inr (Nat.ne_of_gt (Nat.lt_of_lt_of_le Hxb.out.lt hg))), Hdd.out⟩)
    have N1a : ∀ (s5 : Bool) (g5 m5 : Nat) (ga : Nat) (W' : World), B6q W' gm (U S) (.int .i64 P) (.int .i64 E) (.int .i64 G) (U I) (U Q) ∧ Below w.heap.size w W' ∧ ZR W' s5 (some ⟨g5, 0, none⟩) m5 (svS S H ma) ∧ m5 ≤ 2200 ∧ Box W' ga (.bool false) (.slice none 0 0) ∧ w.heap.size ≤ ga ∧ ga ≠ gm → WP 6 ((L0.setIfInBounds 5 true).setIfInBounds 14 true) ((a0.put (some 39) (.agg #[.bool s5, .slice (some ⟨g5, 0, none⟩) m5 m5])).put (some 11) (.pointer (some ⟨ga, 0, none⟩))) W' := by
      rintro s5 g5 m5 ga W' ⟨xm, hbw, z5, l5, xa, hga, da⟩
      subst hWP hL ha
      have Hxm := Hid.mk9 xm
      have Hz5 := Hid.mk9 z5
      have Hl5 := Hid.mk9 l5
      have Hxa := Hid.mk9 xa
      have Hhga := Hid.mk9 hga
      have Hda := Hid.mk9 da
      clear xm z5 l5 xa hga da
      go_simp
      refine wpJ_two (i := 6) (k := 15) (by kernel_rfl) rfl rfl (by kernel_rfl) (by kernel_rfl) (fun KJ hK => ?_) (fun KJ hK => ?_)
      · go_simp
        refine (rabs_any s5 Hz5.out (by have := Hl5.out; omega)).mono ?_
        rintro e W2 ⟨v, rfl, hv, hb⟩
        obtain ⟨s6, g6, m6, rfl, hg, hz, hl⟩ := hv
        refine hK _ _ (Hxm.out.below hb).j9 ?_
        exact wpJ_same (by kernel_rfl) (by kernel_rfl) (N2a s5 g5 m5 s6 g6 m6 ga W2 ⟨(Hxm.out.below hb), (Below.on hbw hb), hz, (Nat.le_trans hl Hl5.out), (Hxa.out.below hb), Hhga.out, Hda.out, (.inr (Nat.ne_of_gt (Nat.lt_of_lt_of_le Hxa.out.lt hg)))⟩)
      · go_simp
        have hb := below1 W' (.cells #[.bool false, .slice none 0 0] 33)
        refine hK _ _ (Hxm.out.below hb).j9 ?_
        exact wpJ_same (by kernel_rfl) (by kernel_rfl) (N1ab s5 g5 m5 ga W'.heap.size _ ⟨(Hxm.out.below hb), (Below.on hbw hb), (Hz5.out.below hb), Hl5.out, (Hxa.out.below hb), Hhga.out, Hda.out, (Box.new W' _ _ _), hbw.size, (Nat.ne_of_gt Hxm.out.lt), (Nat.ne_of_lt Hxa.out.lt)⟩)
    have N1b : ∀ (s5 : Bool) (g5 m5 : Nat) (gb : Nat) (W' : World), B6q W' gm (U S) (.int .i64 P) (.int .i64 E) (.int .i64 G) (U I) (U Q) ∧ Below w.heap.size w W' ∧ ZR W' s5 (some ⟨g5, 0, none⟩) m5 (svS S H ma) ∧ m5 ≤ 2200 ∧ Box W' gb (.bool false) (.slice none 0 0) ∧ w.heap.size ≤ gb ∧ gb ≠ gm → WP 6 ((L0.setIfInBounds 5 true).setIfInBounds 15 true) ((a0.put (some 39) (.agg #[.bool s5, .slice (some ⟨g5, 0, none⟩) m5 m5])).put (some 12) (.pointer (some ⟨gb, 0, none⟩))) W' := by
      rintro s5 g5 m5 gb W' ⟨xm, hbw, z5, l5, xb, hgb, db⟩
      subst hWP hL ha
      have Hxm := Hid.mk9 xm
      have Hz5 := Hid.mk9 z5
      have Hl5 := Hid.mk9 l5
      have Hxb := Hid.mk9 xb
      have Hhgb := Hid.mk9 hgb
      have Hdb := Hid.mk9 db
      clear xm z5 l5 xb hgb db
      go_simp
      refine wpJ_two (i := 6) (k := 14) (by kernel_rfl) rfl rfl (by kernel_rfl) (by kernel_rfl) (fun KJ hK => ?_) (fun KJ hK => ?_)
      · go_simp
        refine (rabs_any s5 Hz5.out (by have := Hl5.out; omega)).mono ?_
        rintro e W2 ⟨v, rfl, hv, hb⟩
        obtain ⟨s6, g6, m6, rfl, hg, hz, hl⟩ := hv
        refine hK _ _ (Hxm.out.below hb).j9 ?_
        exact wpJ_same (by kernel_rfl) (by kernel_rfl) (N2b s5 g5 m5 s6 g6 m6 gb W2 ⟨(Hxm.out.below hb), (Below.on hbw hb), hz, (Nat.le_trans hl Hl5.out), (Hxb.out.below hb), Hhgb.out, Hdb.out, (.inr (Nat.ne_of_gt (Nat.lt_of_lt_of_le Hxb.out.lt hg)))⟩)
      · go_simp
        have hb := below1 W' (.cells #[.bool false, .slice none 0 0] 33)
        refine hK _ _ (Hxm.out.below hb).j9 ?_
        exact wpJ_same (by kernel_rfl) (by kernel_rfl) (N1ab s5 g5 m5 W'.heap.size gb _ ⟨(Hxm.out.below hb), (Below.on hbw hb), (Hz5.out.below hb), Hl5.out, (Box.new W' _ _ _), hbw.size, (Nat.ne_of_gt Hxm.out.lt), (Hxb.out.below hb), Hhgb.out, Hdb.out, (Nat.ne_of_gt Hxb.out.lt)⟩)
    have N1 : ∀ (s5 : Bool) (g5 m5 : Nat) (W' : World), B6q W' gm (U S) (.int .i64 P) (.int .i64 E) (.int .i64 G) (U I) (U Q) ∧ Below w.heap.size w W' ∧ ZR W' s5 (some ⟨g5, 0, none⟩) m5 (svS S H ma) ∧ m5 ≤ 2200 → WP 7 (L0.setIfInBounds 5 true) (a0.put (some 39) (.agg #[.bool s5, .slice (some ⟨g5, 0, none⟩) m5 m5])) W' := by
      rintro s5 g5 m5 W' ⟨xm, hbw, z5, l5⟩
      subst hWP hL ha
      have Hxm := Hid.mk9 xm
      have Hz5 := Hid.mk9 z5
      have Hl5 := Hid.mk9 l5
      clear xm z5 l5
      go_simp
      refine wpJ_three (i := 6) (k := 14) (l := 15) (by kernel_rfl) rfl rfl rfl (by kernel_rfl) (by kernel_rfl) (by kernel_rfl) (fun KJ hK => ?_) (fun KJ hK => ?_) (fun KJ hK => ?_)
      · go_simp
        refine (rabs_any s5 Hz5.out (by have := Hl5.out; omega)).mono ?_
        rintro e W2 ⟨v, rfl, hv, hb⟩
        obtain ⟨s6, g6, m6, rfl, hg, hz, hl⟩ := hv
        refine hK _ _ (Hxm.out.below hb).j9 ?_
        exact wpJ_same (by kernel_rfl) (by kernel_rfl) (N2 s5 g5 m5 s6 g6 m6 W2 ⟨(Hxm.out.below hb), (Below.on hbw hb), hz, (Nat.le_trans hl Hl5.out)⟩)
      · go_simp
        have hb := below1 W' (.cells #[.bool false, .slice none 0 0] 33)
        refine hK _ _ (Hxm.out.below hb).j9 ?_
        exact wpJ_same (by kernel_rfl) (by kernel_rfl) (N1a s5 g5 m5 W'.heap.size _ ⟨(Hxm.out.below hb), (Below.on hbw hb), (Hz5.out.below hb), Hl5.out, (Box.new W' _ _ _), hbw.size, (Nat.ne_of_gt Hxm.out.lt)⟩)
      · go_simp
        have hb := below1 W' (.cells #[.bool false, .slice none 0 0] 33)
        refine hK _ _ (Hxm.out.below hb).j9 ?_
        exact wpJ_same (by kernel_rfl) (by kernel_rfl) (N1b s5 g5 m5 W'.heap.size _ ⟨(Hxm.out.below hb), (Below.on hbw hb), (Hz5.out.below hb), Hl5.out, (Box.new W' _ _ _), hbw.size, (Nat.ne_of_gt Hxm.out.lt)⟩)
    have N0ab : ∀ (ga : Nat) (gb : Nat) (W' : World), B6q W' gm (U S) (.int .i64 P) (.int .i64 E) (.int .i64 G) (U I) (U Q) ∧ Below w.heap.size w W' ∧ Box W' ga (.bool false) (.slice none 0 0) ∧ w.heap.size ≤ ga ∧ ga ≠ gm ∧ Box W' gb (.bool false) (.slice none 0 0) ∧ w.heap.size ≤ gb ∧ gb ≠ gm ∧ ga ≠ gb → WP 6 ((L0.setIfInBounds 14 true).setIfInBounds 15 true) ((a0.put (some 11) (.pointer (some ⟨ga, 0, none⟩))).put (some 12) (.pointer (some ⟨gb, 0, none⟩))) W' := by
      rintro ga gb W' ⟨xm, hbw, xa, hga, da, xb, hgb, db, dd⟩
      subst hWP hL ha
      have Hxm := Hid.mk9 xm
      have Hxa := Hid.mk9 xa
      have Hhga := Hid.mk9 hga
      have Hda := Hid.mk9 da
      have Hxb := Hid.mk9 xb
      have Hhgb := Hid.mk9 hgb
      have Hdb := Hid.mk9 db
      have Hdd := Hid.mk9 dd
      clear xm xa hga da xb hgb db dd
      go_simp
      refine wpJ_on 5 rfl fun KJ hK => ?_
      go_simp
      refine (units9 HM.out ma _).mono ?_
      rintro e W2 ⟨v, rfl, hv, hb⟩
      obtain ⟨s5, g5, m5, rfl, hg, hz, hl⟩ := hv
      refine hK _ _ (Hxm.out.below hb).j9 ?_
      exact wpJ_same (by kernel_rfl) (by kernel_rfl) (N1ab s5 g5 m5 ga gb W2 ⟨(Hxm.out.below hb), (Below.on hbw hb), hz, hl, (Hxa.out.below hb), Hhga.out, Hda.out, (Hxb.out.below hb), Hhgb.out, Hdb.out, Hdd.out⟩)
    have N0a : ∀ (ga : Nat) (W' : World), B6q W' gm (U S) (.int .i64 P) (.int .i64 E) (.int .i64 G) (U I) (U Q) ∧ Below w.heap.size w W' ∧ Box W' ga (.bool false) (.slice none 0 0) ∧ w.heap.size ≤ ga ∧ ga ≠ gm → WP 7 (L0.setIfInBounds 14 true) (a0.put (some 11) (.pointer (some ⟨ga, 0, none⟩))) W' := by
      rintro ga W' ⟨xm, hbw, xa, hga, da⟩
      subst hWP hL ha
      have Hxm := Hid.mk9 xm
      have Hxa := Hid.mk9 xa
      have Hhga := Hid.mk9 hga
      have Hda := Hid.mk9 da
      clear xm xa hga da
      go_simp
      refine wpJ_two (i := 5) (k := 15) (by kernel_rfl) rfl rfl (by kernel_rfl) (by kernel_rfl) (fun KJ hK => ?_) (fun KJ hK => ?_)
      · go_simp
        refine (units9 HM.out ma _).mono ?_
        rintro e W2 ⟨v, rfl, hv, hb⟩
        obtain ⟨s5, g5, m5, rfl, hg, hz, hl⟩ := hv
        refine hK _ _ (Hxm.out.below hb).j9 ?_
        exact wpJ_same (by kernel_rfl) (by kernel_rfl) (N1a s5 g5 m5 ga W2 ⟨(Hxm.out.below hb), (Below.on hbw hb), hz, hl, (Hxa.out.below hb), Hhga.out, Hda.out⟩)
      · go_simp
        have hb := below1 W' (.cells #[.bool false, .slice none 0 0] 33)
        refine hK _ _ (Hxm.out.below hb).j9 ?_
        exact wpJ_same (by kernel_rfl) (by kernel_rfl) (N0ab ga W'.heap.size _ ⟨(Hxm.out.below hb), (Below.on hbw hb), (Hxa.out.below hb), Hhga.out, Hda.out, (Box.new W' _ _ _), hbw.size, (Nat.ne_of_gt Hxm.out.lt), (Nat.ne_of_lt Hxa.out.lt)⟩)
    have N0b : ∀ (gb : Nat) (W' : World), B6q W' gm (U S) (.int .i64 P) (.int .i64 E) (.int .i64 G) (U I) (U Q) ∧ Below w.heap.size w W' ∧ Box W' gb (.bool false) (.slice none 0 0) ∧ w.heap.size ≤ gb ∧ gb ≠ gm → WP 7 (L0.setIfInBounds 15 true) (a0.put (some 12) (.pointer (some ⟨gb, 0, none⟩))) W' := by
      rintro gb W' ⟨xm, hbw, xb, hgb, db⟩
      subst hWP hL ha
      have Hxm := Hid.mk9 xm
      have Hxb := Hid.mk9 xb
      have Hhgb := Hid.mk9 hgb
      have Hdb := Hid.mk9 db
      clear xm xb hgb db
      go_simp
      refine wpJ_two (i := 5) (k := 14) (by kernel_rfl) rfl rfl (by kernel_rfl) (by kernel_rfl) (fun KJ hK => ?_) (fun KJ hK => ?_)
      · go_simp
        refine (units9 HM.out ma _).mono ?_
        rintro e W2 ⟨v, rfl, hv, hb⟩
        obtain ⟨s5, g5, m5, rfl, hg, hz, hl⟩ := hv
        refine hK _ _ (Hxm.out.below hb).j9 ?_
        exact wpJ_same (by kernel_rfl) (by kernel_rfl) (N1b s5 g5 m5 gb W2 ⟨(Hxm.out.below hb), (Below.on hbw hb), hz, hl, (Hxb.out.below hb), Hhgb.out, Hdb.out⟩)
      · go_simp
        have hb := below1 W' (.cells #[.bool false, .slice none 0 0] 33)
        refine hK _ _ (Hxm.out.below hb).j9 ?_
        exact wpJ_same (by kernel_rfl) (by kernel_rfl) (N0ab W'.heap.size gb _ ⟨(Hxm.out.below hb), (Below.on hbw hb), (Box.new W' _ _ _), hbw.size, (Nat.ne_of_gt Hxm.out.lt), (Hxb.out.below hb), Hhgb.out, Hdb.out, (Nat.ne_of_gt Hxb.out.lt)⟩)
    have N0 : ∀  (W' : World), B6q W' gm (U S) (.int .i64 P) (.int .i64 E) (.int .i64 G) (U I) (U Q) ∧ Below w.heap.size w W' → WP 8 L0 a0 W' := by
      rintro  W' ⟨xm, hbw⟩
      subst hWP hL ha
      have Hxm := Hid.mk9 xm
      clear xm
      go_simp
      refine wpJ_three (i := 5) (k := 14) (l := 15) (by kernel_rfl) rfl rfl rfl (by kernel_rfl) (by kernel_rfl) (by kernel_rfl) (fun KJ hK => ?_) (fun KJ hK => ?_) (fun KJ hK => ?_)
      · go_simp
        refine (units9 HM.out ma _).mono ?_
        rintro e W2 ⟨v, rfl, hv, hb⟩
        obtain ⟨s5, g5, m5, rfl, hg, hz, hl⟩ := hv
        refine hK _ _ (Hxm.out.below hb).j9 ?_
        exact wpJ_same (by kernel_rfl) (by kernel_rfl) (N1 s5 g5 m5 W2 ⟨(Hxm.out.below hb), (Below.on hbw hb), hz, hl⟩)
      · go_simp
        have hb := below1 W' (.cells #[.bool false, .slice none 0 0] 33)
        refine hK _ _ (Hxm.out.below hb).j9 ?_
        exact wpJ_same (by kernel_rfl) (by kernel_rfl) (N0a W'.heap.size _ ⟨(Hxm.out.below hb), (Below.on hbw hb), (Box.new W' _ _ _), hbw.size, (Nat.ne_of_gt Hxm.out.lt)⟩)
      · go_simp
        have hb := below1 W' (.cells #[.bool false, .slice none 0 0] 33)
        refine hK _ _ (Hxm.out.below hb).j9 ?_
        exact wpJ_same (by kernel_rfl) (by kernel_rfl) (N0b W'.heap.size _ ⟨(Hxm.out.below hb), (Below.on hbw hb), (Box.new W' _ _ _), hbw.size, (Nat.ne_of_gt Hxm.out.lt)⟩)
    exact N0 W1 ⟨Xm.out, hbw⟩
theorem softSterbenz_w (sg : Bool) (a b : Nat) (ha : a < B64) (hb : b < B64) (w : World) (hT : Tab w) : Calls Tryz.prog 3 #[.bool sg, U a, U b] w fun en w' => en = .returned (.bool true) ∧ Below w.heap.size w w' := by
  cases sg
  · exact sterbenz_w l9_64 a b ha hb w hT
  · exact sterbenz_w l9_32 a b ha hb w hT
end Go.Proofs.YtbafjgmfonepnaaGreatDoor
