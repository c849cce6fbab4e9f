import Derived.Test.YtaffhffefedggaaGreatDoorJ21
namespace Go.Proofs.YtaffhffefedggaaGreatDoor
open Go.RowKit Go.Shelf
structure M9 (sg : Bool) (f p m l : Int) (S I H sd : Nat) (Be : Int) (Q : Nat) (P E G : Int) : Prop where
  jo : Jo f p m l S I H sd Be Q
  md : m = (sd : Int) + 1
  form : ∀ w, Calls Tryz.prog 9 #[.bool sg] w fun en w' => en = .returned (.tuple #[.int .i64 f, FV S P E G I Q]) ∧ Below w.heap.size w w'
  sizes : ∀ a, a < B64 → ∃ b ok, b < 2 * S ∧ ok = decide (b % S < I) ∧ ∀ w, Calls Tryz.prog 10 #[FV S P E G I Q, U a] w fun en w' => en = .returned (.tuple #[U b, .bool ok]) ∧ Below w.heap.size w w'
theorem m9_64 : M9 false 64 64 53 (-1074) 9223372036854775808 9218868437227405312 4503599627370496 52 1024 9221120237041090561 53 (-1074) 971 := by
  refine ⟨jo_64, by decide, form9_64, ?_⟩
  intro a ha
  refine ⟨a % 18446744073709551616, decide (a % 18446744073709551616 % 9223372036854775808 < 9218868437227405312), by omega, rfl, fun w => ?_⟩
  by_cases h : a % 18446744073709551616 % 9223372036854775808 < 9218868437227405312
  · rw [decide_eq_true h]; exact sizes9_64t a _ ha rfl h w
  · rw [decide_eq_false h]; exact sizes9_64f a _ ha rfl h w
theorem m9_32 : M9 true 32 32 24 (-149) 2147483648 2139095040 8388608 23 128 2143289345 24 (-149) 104 := by
  refine ⟨jo_32, by decide, form9_32, ?_⟩
  intro a ha
  refine ⟨a % 4294967296, decide (a % 4294967296 % 2147483648 < 2139095040), by omega, rfl, fun w => ?_⟩
  by_cases h : a % 4294967296 % 2147483648 < 2139095040
  · rw [decide_eq_true h]; exact sizes9_32t a _ ha rfl h w
  · rw [decide_eq_false h]; exact sizes9_32f a _ ha rfl h w
set_option maxRecDepth 20000 in
set_option maxHeartbeats 8000000 in
theorem orders_w {sg : Bool} {f p m l : Int} {S I H sd : Nat} {Be : Int} {Q : Nat} {P E G : Int} (L : M9 sg f p m l S I H sd Be Q P E G) (a b c : Nat) (ha : a < B64) (hb : b < B64) (hc : c < B64) (w : World) (hT : Tab w) :
    Calls Tryz.prog 5 #[.bool sg, U a, U b, U c] w fun en w' => en = .returned (.bool true) ∧ Below w.heap.size w w' := by
  have hbw : Below w.heap.size w w := Below.refl _ _
  have TB : Hid (Tab w) := hT
  obtain ⟨A, oka, hA, hka, cA⟩ := L.sizes a ha
  obtain ⟨B, okb, hB, hkb, cB⟩ := L.sizes b hb
  obtain ⟨C, okc, hC, hkc, cC⟩ := L.sizes c hc
  have HM : Hid (M9 sg f p m l S I H sd Be Q P E G) := L
  have HLT : Hid (A < 2 * S ∧ B < 2 * S ∧ C < 2 * S) := ⟨hA, hB, hC⟩
  have CA : Hid (∀ w, Calls Tryz.prog 10 #[FV S P E G I Q, U a] w fun en w' => en = .returned (.tuple #[U A, .bool oka]) ∧ Below w.heap.size w w') := cA
  have CB : Hid (∀ w, Calls Tryz.prog 10 #[FV S P E G I Q, U b] w fun en w' => en = .returned (.tuple #[U B, .bool okb]) ∧ Below w.heap.size w w') := cB
  have CC : Hid (∀ w, Calls Tryz.prog 10 #[FV S P E G I Q, U c] w fun en w' => en = .returned (.tuple #[U C, .bool okc]) ∧ Below w.heap.size w w') := cC
  have HK : Hid (oka = decide (A % S < I) ∧ okb = decide (B % S < I) ∧ okc = decide (C % S < I)) := ⟨hka, hkb, hkc⟩
  clear hT ha hb hc hA hB hC hka hkb hkc cA cB cC L
  go_enter Tryz.func5, Tryz.ntmps5
  go_wp2_with fail
  refine (awake9 _ (TB.out.below hbw)).mono ?_
  rintro e v1 ⟨rfl, hb1⟩
  replace hbw := Below.on hbw hb1
  clear hb1
  go_wp2_with fail
  refine (HM.out.form _).mono ?_
  rintro e v2 ⟨rfl, hb2⟩
  replace hbw := Below.on hbw hb2
  clear hb2
  go_wp2_with fail
  have Xm0 : Hid (B6q (v2.alloc (.cells #[U S, .int .i64 P, .int .i64 E, .int .i64 G, U I, U Q] 26)) v2.heap.size (U S) (.int .i64 P) (.int .i64 E) (.int .i64 G) (U I) (U Q)) := B6q.new v2 _ _ _ _ _ _ _
  have hbn : Below v2.heap.size v2 (v2.alloc (.cells #[U S, .int .i64 P, .int .i64 E, .int .i64 G, U I, U Q] 26)) := below1 v2 _
  generalize v2.alloc (.cells #[U S, .int .i64 P, .int .i64 E, .int .i64 G, U I, U Q] 26) = Wm at *
  have HGm : Hid (w.heap.size ≤ v2.heap.size) := hbw.size
  replace hbw := Below.on hbw hbn
  clear hbn
  generalize v2.heap.size = gm at *
  have Xm := Xm0
  clear Xm0
  obtain ⟨cm0, cm1, cm2, cm3, cm4, cm5, fm0, fm1, fm2, fm3, fm4, fm5⟩ := Xm.out
  have hnem : gm < Wm.heap.size := World.block_lt_of_cell? Wm _ cm0
  go_wp2_with fail
  clear cm0 cm1 cm2 cm3 cm4 cm5 fm0 fm1 fm2 fm3 fm4 fm5 hnem
  refine (CA.out _).mono ?_
  rintro e v3 ⟨rfl, hb3⟩
  replace Xm : Hid _ := Xm.out.below hb3
  replace hbw := Below.on hbw hb3
  clear hb3
  obtain ⟨cm0, cm1, cm2, cm3, cm4, cm5, fm0, fm1, fm2, fm3, fm4, fm5⟩ := Xm.out
  have hnem : gm < v3.heap.size := World.block_lt_of_cell? v3 _ cm0
  go_wp2_with fail
  clear cm0 cm1 cm2 cm3 cm4 cm5 fm0 fm1 fm2 fm3 fm4 fm5 hnem
  refine (CB.out _).mono ?_
  rintro e v4 ⟨rfl, hb4⟩
  replace Xm : Hid _ := Xm.out.below hb4
  replace hbw := Below.on hbw hb4
  clear hb4
  obtain ⟨cm0, cm1, cm2, cm3, cm4, cm5, fm0, fm1, fm2, fm3, fm4, fm5⟩ := Xm.out
  have hnem : gm < v4.heap.size := World.block_lt_of_cell? v4 _ cm0
  go_wp2_with fail
  clear cm0 cm1 cm2 cm3 cm4 cm5 fm0 fm1 fm2 fm3 fm4 fm5 hnem
  refine (CC.out _).mono ?_
  rintro e v5 ⟨rfl, hb5⟩
  replace Xm : Hid _ := Xm.out.below hb5
  replace hbw := Below.on hbw hb5
  clear hb5
  by_cases hoka : oka = true
  · subst hoka
    by_cases hokb : okb = true
    · subst hokb
      by_cases hokc : okc = true
      · subst hokc
        obtain ⟨cm0, cm1, cm2, cm3, cm4, cm5, fm0, fm1, fm2, fm3, fm4, fm5⟩ := Xm.out
        have hnem : gm < v5.heap.size := World.block_lt_of_cell? v5 _ cm0
        go_wp2_with fail
        clear cm0 cm1 cm2 cm3 cm4 cm5 fm0 fm1 fm2 fm3 fm4 fm5 hnem
        have HF : Hid (A % S < I ∧ B % S < I ∧ C % S < I) := ⟨of_decide_eq_true HK.out.1.symm, of_decide_eq_true HK.out.2.1.symm, of_decide_eq_true HK.out.2.2.symm⟩
        clear HK CA CB CC
        refine (soft_cmp HM.out.jo ⟨HLT.out.1, Nat.le_of_lt HF.out.1⟩ ⟨HLT.out.2.1, Nat.le_of_lt HF.out.2.1⟩ _ (TB.out.below hbw)).mono ?_
        rintro e v6 ⟨rfl, hb6⟩
        obtain ⟨d, hd⟩ : ∃ d, d = cmpI (rkS S A) (rkS S B) := ⟨_, rfl⟩
        rw [← hd]
        replace Xm : Hid _ := Xm.out.below hb6
        replace hbw := Below.on hbw hb6
        clear hb6
        have hd1 : decide (d < -1) = false := decide_eq_false (by rw [hd]; unfold cmpI; split <;> (try split) <;> omega)
        have hd2 : decide (1 < d) = false := decide_eq_false (by rw [hd]; unfold cmpI; split <;> (try split) <;> omega)
        obtain ⟨X, Y, sw, hXY, hsw⟩ : ∃ (X Y : Nat) (sw : Bool), ((sw = false ∧ X = A ∧ Y = B) ∨ (sw = true ∧ X = B ∧ Y = A)) ∧ (d == 1) = sw ∧ rkS S X ≤ rkS S Y := by
          rcases Int.lt_or_le (rkS S B) (rkS S A) with h | h
          · exact ⟨B, A, true, .inr ⟨rfl, rfl, rfl⟩, by rw [hd]; unfold cmpI; rw [if_neg (by omega), if_neg (by omega)]; rfl, by omega⟩
          · refine ⟨A, B, false, .inl ⟨rfl, rfl, rfl⟩, ?_, h⟩
            rw [hd]; unfold cmpI
            by_cases h1 : rkS S A < rkS S B
            · rw [if_pos h1]; rfl
            · rw [if_neg h1, if_pos (by omega)]; rfl
        obtain ⟨hd3, hle⟩ := hsw
        have HO : Hid (rkS S X ≤ rkS S Y ∧ X < 2 * S ∧ X % S < I ∧ Y < 2 * S ∧ Y % S < I ∧ C < 2 * S ∧ C % S < I) := by
          have h1 := HLT.out; have h2 := HF.out
          rcases hXY with ⟨_, rfl, rfl⟩ | ⟨_, rfl, rfl⟩
          · exact ⟨hle, h1.1, h2.1, h1.2.1, h2.2.1, h1.2.2, h2.2.2⟩
          · exact ⟨hle, h1.2.1, h2.2.1, h1.1, h2.1, h1.2.2, h2.2.2⟩
        clear hd hle HLT HF
        rcases hXY with ⟨rfl, rfl, rfl⟩ | ⟨rfl, rfl, rfl⟩
        all_goals
          obtain ⟨cm0, cm1, cm2, cm3, cm4, cm5, fm0, fm1, fm2, fm3, fm4, fm5⟩ := Xm.out
          have hnem : gm < v6.heap.size := World.block_lt_of_cell? v6 _ cm0
          go_wp2_with fail
          clear cm0 cm1 cm2 cm3 cm4 cm5 fm0 fm1 fm2 fm3 fm4 fm5 hnem
          clear hd1 hd2 hd3
          refine (abs_is HM.out.jo ⟨HO.out.2.2.2.2.2.1, HO.out.2.2.2.2.2.2⟩ _ (TB.out.below hbw)).mono ?_
          rintro e v7 ⟨rfl, hb7⟩
          obtain ⟨T, hT⟩ : ∃ T, T = C % S := ⟨_, rfl⟩
          rw [← hT]
          have HT : Hid (T < S ∧ T % S = T ∧ T < I) := by
            have h1 := HO.out.2.2.2.2.2.2
            have h2 := HM.out.jo.jq.jn.jm.pm.fm.lt
            exact ⟨by omega, Nat.mod_eq_of_lt (by omega), by omega⟩
          clear hT
          replace Xm : Hid _ := Xm.out.below hb7
          replace hbw := Below.on hbw hb7
          clear hb7
          obtain ⟨cm0, cm1, cm2, cm3, cm4, cm5, fm0, fm1, fm2, fm3, fm4, fm5⟩ := Xm.out
          have hnem : gm < v7.heap.size := World.block_lt_of_cell? v7 _ cm0
          go_wp2_with fail
          clear cm0 cm1 cm2 cm3 cm4 cm5 fm0 fm1 fm2 fm3 fm4 fm5 hnem
          obtain ⟨ox, kx⟩ := opb_ex HM.out.jo.jq.jn.jm.pm X
          obtain ⟨oy, ky⟩ := opb_ex HM.out.jo.jq.jn.jm.pm Y
          obtain ⟨oc, kc⟩ := opb_ex HM.out.jo.jq.jn.jm.pm C
          obtain ⟨ot, kt⟩ := opb_ex HM.out.jo.jq.jn.jm.pm T
          have HOB : Hid (OpB S I H l X ox ∧ OpB S I H l Y oy ∧ OpB S I H l C oc ∧ OpB S I H l T ot) := ⟨kx, ky, kc, kt⟩
          clear kx ky kc kt
          have HB0 : Hid (Below w.heap.size w v7) := hbw
          clear hbw
          go_loopg [17] 5 (fun gz iv wr => ∃ kd : Nat, kd + gz = 6 ∧ 1 ≤ kd ∧ iv = .int .i64 kd ∧ B6q wr gm (U S) (.int .i64 P) (.int .i64 E) (.int .i64 G) (U I) (U Q) ∧ Below w.heap.size w wr)
          case atStart => exact ⟨1, rfl, by decide, rfl, Xm.out, HB0.out⟩
          case round =>
            obtain ⟨kd, hkg, hk1, rfl, hxm, hbw⟩ := hrel
            clear Xm HB0
            cases gk with
            | zero =>
              obtain rfl : kd = 6 := by omega
              clear hkg hk1 hxm
              go_wp2_with fail
              go_ret
              exact ⟨rfl, hbw⟩
            | succ gg =>
              have Xm : Hid (B6q wr gm (U S) (.int .i64 P) (.int .i64 E) (.int .i64 G) (U I) (U Q)) := hxm
              clear hxm
              obtain rfl | rfl | rfl | rfl | rfl : kd = 1 ∨ kd = 2 ∨ kd = 3 ∨ kd = 4 ∨ kd = 5 := by omega
              · skip
                obtain ⟨cm0, cm1, cm2, cm3, cm4, cm5, fm0, fm1, fm2, fm3, fm4, fm5⟩ := Xm.out
                have hnem : gm < wr.heap.size := World.block_lt_of_cell? wr _ cm0
                go_wp2_with fail
                clear cm0 cm1 cm2 cm3 cm4 cm5 fm0 fm1 fm2 fm3 fm4 fm5 hnem
                refine (add_is HM.out.jo HO.out.2.1 HO.out.2.2.2.2.2.1 HOB.out.1 HOB.out.2.2.1 _ (TB.out.below hbw)).mono ?_
                rintro e9 v8 ⟨c1, rfl, hs, hb8⟩
                obtain ⟨p8, hp⟩ : ∃ p, p = patO l sd Be S I Q c1 := ⟨_, rfl⟩
                rw [← hp]
                have HS8 : Hid (p8 = patO l sd Be S I Q c1 ∧ SumO ox oc c1) := ⟨hp, hs⟩
                clear hp hs
                replace Xm : Hid _ := Xm.out.below hb8
                replace hbw := Below.on hbw hb8
                clear hb8
                obtain ⟨cm0, cm1, cm2, cm3, cm4, cm5, fm0, fm1, fm2, fm3, fm4, fm5⟩ := Xm.out
                have hnem : gm < v8.heap.size := World.block_lt_of_cell? v8 _ cm0
                go_wp2_with fail
                clear cm0 cm1 cm2 cm3 cm4 cm5 fm0 fm1 fm2 fm3 fm4 fm5 hnem
                refine (add_is HM.out.jo HO.out.2.2.2.1 HO.out.2.2.2.2.2.1 HOB.out.2.1 HOB.out.2.2.1 _ (TB.out.below hbw)).mono ?_
                rintro e9 v9 ⟨c2, rfl, hs, hb9⟩
                obtain ⟨p9, hp⟩ : ∃ p, p = patO l sd Be S I Q c2 := ⟨_, rfl⟩
                rw [← hp]
                have HS9 : Hid (p9 = patO l sd Be S I Q c2 ∧ SumO oy oc c2) := ⟨hp, hs⟩
                clear hp hs
                replace Xm : Hid _ := Xm.out.below hb9
                replace hbw := Below.on hbw hb9
                clear hb9
                obtain ⟨cm0, cm1, cm2, cm3, cm4, cm5, fm0, fm1, fm2, fm3, fm4, fm5⟩ := Xm.out
                have hnem : gm < v9.heap.size := World.block_lt_of_cell? v9 _ cm0
                go_wp2_with fail
                clear cm0 cm1 cm2 cm3 cm4 cm5 fm0 fm1 fm2 fm3 fm4 fm5 hnem
                have HR : Hid (Ord9 S I p8 p9) := by rw [HS8.out.1, HS9.out.1]; exact ord_add HM.out.jo.jq.jn HOB.out.1 HOB.out.2.1 HOB.out.2.2.1 HO.out.2.2.1 HO.out.2.2.2.2.1 HO.out.2.2.2.2.2.2 HO.out.1 HS8.out.2 HS9.out.2 Q
                clear HS8 HS9
                refine (soft_cmp HM.out.jo ⟨HR.out.p1, HR.out.p2⟩ ⟨HR.out.q1, HR.out.q2⟩ _ (TB.out.below hbw)).mono ?_
                rintro e v10 ⟨rfl, hb10⟩
                replace Xm : Hid _ := Xm.out.below hb10
                replace hbw := Below.on hbw hb10
                clear hb10
                have hdd := HR.out.cmp
                generalize cmpI (rkS S p8) (rkS S p9) = dd at *
                rcases hdd with rfl | rfl
                all_goals
                  obtain ⟨cm0, cm1, cm2, cm3, cm4, cm5, fm0, fm1, fm2, fm3, fm4, fm5⟩ := Xm.out
                  have hnem : gm < v10.heap.size := World.block_lt_of_cell? v10 _ cm0
                  go_wp2_with fail
                  clear cm0 cm1 cm2 cm3 cm4 cm5 fm0 fm1 fm2 fm3 fm4 fm5 hnem
                  go_roundg gg
                  case measure => omega
                  case rel => exact ⟨2, by omega, by decide, rfl, Xm.out, hbw⟩
              · skip
                obtain ⟨cm0, cm1, cm2, cm3, cm4, cm5, fm0, fm1, fm2, fm3, fm4, fm5⟩ := Xm.out
                have hnem : gm < wr.heap.size := World.block_lt_of_cell? wr _ cm0
                go_wp2_with fail
                clear cm0 cm1 cm2 cm3 cm4 cm5 fm0 fm1 fm2 fm3 fm4 fm5 hnem
                refine (sub_is HM.out.jo HO.out.2.2.2.2.2.1 HO.out.2.2.2.1 HOB.out.2.2.1 HOB.out.2.1 _ (TB.out.below hbw)).mono ?_
                rintro e9 v8 ⟨c1, rfl, hs, hb8⟩
                obtain ⟨p8, hp⟩ : ∃ p, p = patO l sd Be S I Q c1 := ⟨_, rfl⟩
                rw [← hp]
                have HS8 : Hid (p8 = patO l sd Be S I Q c1 ∧ SumO oc (negO oy) c1) := ⟨hp, hs⟩
                clear hp hs
                replace Xm : Hid _ := Xm.out.below hb8
                replace hbw := Below.on hbw hb8
                clear hb8
                obtain ⟨cm0, cm1, cm2, cm3, cm4, cm5, fm0, fm1, fm2, fm3, fm4, fm5⟩ := Xm.out
                have hnem : gm < v8.heap.size := World.block_lt_of_cell? v8 _ cm0
                go_wp2_with fail
                clear cm0 cm1 cm2 cm3 cm4 cm5 fm0 fm1 fm2 fm3 fm4 fm5 hnem
                refine (sub_is HM.out.jo HO.out.2.2.2.2.2.1 HO.out.2.1 HOB.out.2.2.1 HOB.out.1 _ (TB.out.below hbw)).mono ?_
                rintro e9 v9 ⟨c2, rfl, hs, hb9⟩
                obtain ⟨p9, hp⟩ : ∃ p, p = patO l sd Be S I Q c2 := ⟨_, rfl⟩
                rw [← hp]
                have HS9 : Hid (p9 = patO l sd Be S I Q c2 ∧ SumO oc (negO ox) c2) := ⟨hp, hs⟩
                clear hp hs
                replace Xm : Hid _ := Xm.out.below hb9
                replace hbw := Below.on hbw hb9
                clear hb9
                obtain ⟨cm0, cm1, cm2, cm3, cm4, cm5, fm0, fm1, fm2, fm3, fm4, fm5⟩ := Xm.out
                have hnem : gm < v9.heap.size := World.block_lt_of_cell? v9 _ cm0
                go_wp2_with fail
                clear cm0 cm1 cm2 cm3 cm4 cm5 fm0 fm1 fm2 fm3 fm4 fm5 hnem
                have HR : Hid (Ord9 S I p8 p9) := by rw [HS8.out.1, HS9.out.1]; exact ord_sub HM.out.jo.jq.jn HOB.out.1 HOB.out.2.1 HOB.out.2.2.1 HO.out.2.2.1 HO.out.2.2.2.2.1 HO.out.2.2.2.2.2.2 HO.out.1 HS8.out.2 HS9.out.2 Q
                clear HS8 HS9
                refine (soft_cmp HM.out.jo ⟨HR.out.p1, HR.out.p2⟩ ⟨HR.out.q1, HR.out.q2⟩ _ (TB.out.below hbw)).mono ?_
                rintro e v10 ⟨rfl, hb10⟩
                replace Xm : Hid _ := Xm.out.below hb10
                replace hbw := Below.on hbw hb10
                clear hb10
                have hdd := HR.out.cmp
                generalize cmpI (rkS S p8) (rkS S p9) = dd at *
                rcases hdd with rfl | rfl
                all_goals
                  obtain ⟨cm0, cm1, cm2, cm3, cm4, cm5, fm0, fm1, fm2, fm3, fm4, fm5⟩ := Xm.out
                  have hnem : gm < v10.heap.size := World.block_lt_of_cell? v10 _ cm0
                  go_wp2_with fail
                  clear cm0 cm1 cm2 cm3 cm4 cm5 fm0 fm1 fm2 fm3 fm4 fm5 hnem
                  go_roundg gg
                  case measure => omega
                  case rel => exact ⟨3, by omega, by decide, rfl, Xm.out, hbw⟩
              · skip
                obtain ⟨cm0, cm1, cm2, cm3, cm4, cm5, fm0, fm1, fm2, fm3, fm4, fm5⟩ := Xm.out
                have hnem : gm < wr.heap.size := World.block_lt_of_cell? wr _ cm0
                go_wp2_with fail
                clear cm0 cm1 cm2 cm3 cm4 cm5 fm0 fm1 fm2 fm3 fm4 fm5 hnem
                refine (mul_is HM.out.jo HO.out.2.1 (Nat.lt_trans HT.out.1 (by have := HT.out.1; omega)) HOB.out.1 HOB.out.2.2.2 _ (TB.out.below hbw)).mono ?_
                rintro e9 v8 ⟨c1, rfl, hs, hb8⟩
                obtain ⟨p8, hp⟩ : ∃ p, p = patO l sd Be S I Q c1 := ⟨_, rfl⟩
                rw [← hp]
                have HS8 : Hid (p8 = patO l sd Be S I Q c1 ∧ MulO ox ot c1) := ⟨hp, hs⟩
                clear hp hs
                replace Xm : Hid _ := Xm.out.below hb8
                replace hbw := Below.on hbw hb8
                clear hb8
                obtain ⟨cm0, cm1, cm2, cm3, cm4, cm5, fm0, fm1, fm2, fm3, fm4, fm5⟩ := Xm.out
                have hnem : gm < v8.heap.size := World.block_lt_of_cell? v8 _ cm0
                go_wp2_with fail
                clear cm0 cm1 cm2 cm3 cm4 cm5 fm0 fm1 fm2 fm3 fm4 fm5 hnem
                refine (mul_is HM.out.jo HO.out.2.2.2.1 (Nat.lt_trans HT.out.1 (by have := HT.out.1; omega)) HOB.out.2.1 HOB.out.2.2.2 _ (TB.out.below hbw)).mono ?_
                rintro e9 v9 ⟨c2, rfl, hs, hb9⟩
                obtain ⟨p9, hp⟩ : ∃ p, p = patO l sd Be S I Q c2 := ⟨_, rfl⟩
                rw [← hp]
                have HS9 : Hid (p9 = patO l sd Be S I Q c2 ∧ MulO oy ot c2) := ⟨hp, hs⟩
                clear hp hs
                replace Xm : Hid _ := Xm.out.below hb9
                replace hbw := Below.on hbw hb9
                clear hb9
                obtain ⟨cm0, cm1, cm2, cm3, cm4, cm5, fm0, fm1, fm2, fm3, fm4, fm5⟩ := Xm.out
                have hnem : gm < v9.heap.size := World.block_lt_of_cell? v9 _ cm0
                go_wp2_with fail
                clear cm0 cm1 cm2 cm3 cm4 cm5 fm0 fm1 fm2 fm3 fm4 fm5 hnem
                have HR : Hid (Ord9 S I p8 p9) := by rw [HS8.out.1, HS9.out.1]; exact ord_mul HM.out.jo.jq.jn HOB.out.1 HOB.out.2.1 HOB.out.2.2.2 HO.out.2.2.1 HO.out.2.2.2.2.1 (by rw [HT.out.2.1]; exact HT.out.2.2) HT.out.1 HO.out.1 HS8.out.2 HS9.out.2 Q
                clear HS8 HS9
                refine (soft_cmp HM.out.jo ⟨HR.out.p1, HR.out.p2⟩ ⟨HR.out.q1, HR.out.q2⟩ _ (TB.out.below hbw)).mono ?_
                rintro e v10 ⟨rfl, hb10⟩
                replace Xm : Hid _ := Xm.out.below hb10
                replace hbw := Below.on hbw hb10
                clear hb10
                have hdd := HR.out.cmp
                generalize cmpI (rkS S p8) (rkS S p9) = dd at *
                rcases hdd with rfl | rfl
                all_goals
                  obtain ⟨cm0, cm1, cm2, cm3, cm4, cm5, fm0, fm1, fm2, fm3, fm4, fm5⟩ := Xm.out
                  have hnem : gm < v10.heap.size := World.block_lt_of_cell? v10 _ cm0
                  go_wp2_with fail
                  clear cm0 cm1 cm2 cm3 cm4 cm5 fm0 fm1 fm2 fm3 fm4 fm5 hnem
                  go_roundg gg
                  case measure => omega
                  case rel => exact ⟨4, by omega, by decide, rfl, Xm.out, hbw⟩
              · by_cases hcc : T = 0
                · have k0 : ((T : Int) == 0) = true := by simp [hcc]
                  have k1 : (T == 0) = true := by simp [hcc]
                  have k2 : decide (T = 0) = true := decide_eq_true hcc
                  clear hcc
                  obtain ⟨cm0, cm1, cm2, cm3, cm4, cm5, fm0, fm1, fm2, fm3, fm4, fm5⟩ := Xm.out
                  have hnem : gm < wr.heap.size := World.block_lt_of_cell? wr _ cm0
                  go_wp2_with fail
                  clear cm0 cm1 cm2 cm3 cm4 cm5 fm0 fm1 fm2 fm3 fm4 fm5 hnem
                  go_roundg gg
                  case measure => omega
                  case rel => exact ⟨5, by omega, by decide, rfl, Xm.out, hbw⟩
                · have k0 : ((T : Int) == 0) = false := by simp; omega
                  have k1 : (T == 0) = false := by simp; omega
                  have k2 : decide (T = 0) = false := decide_eq_false hcc
                  have HNZ : Hid (T ≠ 0) := hcc
                  clear hcc
                  obtain ⟨cm0, cm1, cm2, cm3, cm4, cm5, fm0, fm1, fm2, fm3, fm4, fm5⟩ := Xm.out
                  have hnem : gm < wr.heap.size := World.block_lt_of_cell? wr _ cm0
                  go_wp2_with fail
                  clear cm0 cm1 cm2 cm3 cm4 cm5 fm0 fm1 fm2 fm3 fm4 fm5 hnem
                  refine (div_is HM.out.jo HM.out.md ⟨HO.out.2.1, HO.out.2.2.1⟩ ⟨(Nat.lt_trans HT.out.1 (by have := HT.out.1; omega)), by rw [HT.out.2.1]; exact HNZ.out, (by rw [HT.out.2.1]; exact HT.out.2.2)⟩ _ (TB.out.below hbw)).mono ?_
                  rintro e9 v8 ⟨p8, rfl, hs, hb8⟩
                  have HS8 : Hid (DivR S I H l X T p8) := hs
                  clear hs
                  replace Xm : Hid _ := Xm.out.below hb8
                  replace hbw := Below.on hbw hb8
                  clear hb8
                  obtain ⟨cm0, cm1, cm2, cm3, cm4, cm5, fm0, fm1, fm2, fm3, fm4, fm5⟩ := Xm.out
                  have hnem : gm < v8.heap.size := World.block_lt_of_cell? v8 _ cm0
                  go_wp2_with fail
                  clear cm0 cm1 cm2 cm3 cm4 cm5 fm0 fm1 fm2 fm3 fm4 fm5 hnem
                  refine (div_is HM.out.jo HM.out.md ⟨HO.out.2.2.2.1, HO.out.2.2.2.2.1⟩ ⟨(Nat.lt_trans HT.out.1 (by have := HT.out.1; omega)), by rw [HT.out.2.1]; exact HNZ.out, (by rw [HT.out.2.1]; exact HT.out.2.2)⟩ _ (TB.out.below hbw)).mono ?_
                  rintro e9 v9 ⟨p9, rfl, hs, hb9⟩
                  have HS9 : Hid (DivR S I H l Y T p9) := hs
                  clear hs
                  replace Xm : Hid _ := Xm.out.below hb9
                  replace hbw := Below.on hbw hb9
                  clear hb9
                  obtain ⟨cm0, cm1, cm2, cm3, cm4, cm5, fm0, fm1, fm2, fm3, fm4, fm5⟩ := Xm.out
                  have hnem : gm < v9.heap.size := World.block_lt_of_cell? v9 _ cm0
                  go_wp2_with fail
                  clear cm0 cm1 cm2 cm3 cm4 cm5 fm0 fm1 fm2 fm3 fm4 fm5 hnem
                  have HR : Hid (Ord9 S I p8 p9) := ord_div HM.out.jo.jq.jn HO.out.2.2.1 HO.out.2.2.2.2.1 (by rw [HT.out.2.1]; exact HNZ.out) HT.out.1 HO.out.1 HS8.out HS9.out
                  clear HS8 HS9
                  refine (soft_cmp HM.out.jo ⟨HR.out.p1, HR.out.p2⟩ ⟨HR.out.q1, HR.out.q2⟩ _ (TB.out.below hbw)).mono ?_
                  rintro e v10 ⟨rfl, hb10⟩
                  replace Xm : Hid _ := Xm.out.below hb10
                  replace hbw := Below.on hbw hb10
                  clear hb10
                  have hdd := HR.out.cmp
                  generalize cmpI (rkS S p8) (rkS S p9) = dd at *
                  rcases hdd with rfl | rfl
                  all_goals
                    obtain ⟨cm0, cm1, cm2, cm3, cm4, cm5, fm0, fm1, fm2, fm3, fm4, fm5⟩ := Xm.out
                    have hnem : gm < v10.heap.size := World.block_lt_of_cell? v10 _ cm0
                    go_wp2_with fail
                    clear cm0 cm1 cm2 cm3 cm4 cm5 fm0 fm1 fm2 fm3 fm4 fm5 hnem
                    go_roundg gg
                    case measure => omega
                    case rel => exact ⟨5, by omega, by decide, rfl, Xm.out, hbw⟩
              · by_cases hcc : S ≤ X
                · have k0 : decide ((S : Int) ≤ (X : Int)) = true := decide_eq_true (by omega)
                  have k1 : decide (S ≤ X) = true := decide_eq_true hcc
                  clear hcc
                  obtain ⟨cm0, cm1, cm2, cm3, cm4, cm5, fm0, fm1, fm2, fm3, fm4, fm5⟩ := Xm.out
                  have hnem : gm < wr.heap.size := World.block_lt_of_cell? wr _ cm0
                  go_wp2_with fail
                  clear cm0 cm1 cm2 cm3 cm4 cm5 fm0 fm1 fm2 fm3 fm4 fm5 hnem
                  go_roundg gg
                  case measure => omega
                  case rel => exact ⟨6, by omega, by decide, rfl, Xm.out, hbw⟩
                · have k0 : decide ((S : Int) ≤ (X : Int)) = false := decide_eq_false (by omega)
                  have k1 : decide (S ≤ X) = false := decide_eq_false hcc
                  have HNZ : Hid (0 ≤ rkS S X) := by show 0 ≤ rkS S X; unfold rkS; rw [if_neg hcc]; omega
                  clear hcc
                  obtain ⟨cm0, cm1, cm2, cm3, cm4, cm5, fm0, fm1, fm2, fm3, fm4, fm5⟩ := Xm.out
                  have hnem : gm < wr.heap.size := World.block_lt_of_cell? wr _ cm0
                  go_wp2_with fail
                  clear cm0 cm1 cm2 cm3 cm4 cm5 fm0 fm1 fm2 fm3 fm4 fm5 hnem
                  refine (sqrt_is HM.out.jo HM.out.md ⟨HO.out.2.1, HO.out.2.2.1⟩ HNZ.out _ (TB.out.below hbw)).mono ?_
                  rintro e9 v8 ⟨p8, rfl, hs, hb8⟩
                  have HS8 : Hid (SqrR S I H l X p8) := hs
                  clear hs
                  replace Xm : Hid _ := Xm.out.below hb8
                  replace hbw := Below.on hbw hb8
                  clear hb8
                  obtain ⟨cm0, cm1, cm2, cm3, cm4, cm5, fm0, fm1, fm2, fm3, fm4, fm5⟩ := Xm.out
                  have hnem : gm < v8.heap.size := World.block_lt_of_cell? v8 _ cm0
                  go_wp2_with fail
                  clear cm0 cm1 cm2 cm3 cm4 cm5 fm0 fm1 fm2 fm3 fm4 fm5 hnem
                  refine (sqrt_is HM.out.jo HM.out.md ⟨HO.out.2.2.2.1, HO.out.2.2.2.2.1⟩ (Int.le_trans HNZ.out HO.out.1) _ (TB.out.below hbw)).mono ?_
                  rintro e9 v9 ⟨p9, rfl, hs, hb9⟩
                  have HS9 : Hid (SqrR S I H l Y p9) := hs
                  clear hs
                  replace Xm : Hid _ := Xm.out.below hb9
                  replace hbw := Below.on hbw hb9
                  clear hb9
                  obtain ⟨cm0, cm1, cm2, cm3, cm4, cm5, fm0, fm1, fm2, fm3, fm4, fm5⟩ := Xm.out
                  have hnem : gm < v9.heap.size := World.block_lt_of_cell? v9 _ cm0
                  go_wp2_with fail
                  clear cm0 cm1 cm2 cm3 cm4 cm5 fm0 fm1 fm2 fm3 fm4 fm5 hnem
                  have HR : Hid (Ord9 S I p8 p9) := ord_sqrt HM.out.jo.jq.jn HO.out.1 HS8.out HS9.out
                  clear HS8 HS9
                  refine (soft_cmp HM.out.jo ⟨HR.out.p1, HR.out.p2⟩ ⟨HR.out.q1, HR.out.q2⟩ _ (TB.out.below hbw)).mono ?_
                  rintro e v10 ⟨rfl, hb10⟩
                  replace Xm : Hid _ := Xm.out.below hb10
                  replace hbw := Below.on hbw hb10
                  clear hb10
                  have hdd := HR.out.cmp
                  generalize cmpI (rkS S p8) (rkS S p9) = dd at *
                  rcases hdd with rfl | rfl
                  all_goals
                    obtain ⟨cm0, cm1, cm2, cm3, cm4, cm5, fm0, fm1, fm2, fm3, fm4, fm5⟩ := Xm.out
                    have hnem : gm < v10.heap.size := World.block_lt_of_cell? v10 _ cm0
                    go_wp2_with fail
                    clear cm0 cm1 cm2 cm3 cm4 cm5 fm0 fm1 fm2 fm3 fm4 fm5 hnem
                    go_roundg gg
                    case measure => omega
                    case rel => exact ⟨6, by omega, by decide, rfl, Xm.out, hbw⟩
      · obtain rfl : okc = false := by simpa using hokc
        clear hokc
        obtain ⟨cm0, cm1, cm2, cm3, cm4, cm5, fm0, fm1, fm2, fm3, fm4, fm5⟩ := Xm.out
        have hnem : gm < v5.heap.size := World.block_lt_of_cell? v5 _ cm0
        go_wp2_with fail
        clear cm0 cm1 cm2 cm3 cm4 cm5 fm0 fm1 fm2 fm3 fm4 fm5 hnem
        go_ret
        exact ⟨rfl, hbw⟩
    · obtain rfl : okb = false := by simpa using hokb
      clear hokb
      obtain ⟨cm0, cm1, cm2, cm3, cm4, cm5, fm0, fm1, fm2, fm3, fm4, fm5⟩ := Xm.out
      have hnem : gm < v5.heap.size := World.block_lt_of_cell? v5 _ cm0
      go_wp2_with fail
      clear cm0 cm1 cm2 cm3 cm4 cm5 fm0 fm1 fm2 fm3 fm4 fm5 hnem
      go_ret
      exact ⟨rfl, hbw⟩
  · obtain rfl : oka = false := by simpa using hoka
    clear hoka
    obtain ⟨cm0, cm1, cm2, cm3, cm4, cm5, fm0, fm1, fm2, fm3, fm4, fm5⟩ := Xm.out
    have hnem : gm < v5.heap.size := World.block_lt_of_cell? v5 _ cm0
    go_wp2_with fail
    clear cm0 cm1 cm2 cm3 cm4 cm5 fm0 fm1 fm2 fm3 fm4 fm5 hnem
    go_ret
    exact ⟨rfl, hbw⟩
theorem softOrders_w (sg : Bool) (a b c : Nat) (ha : a < B64) (hb : b < B64) (hc : c < B64) (w : World) (hT : Tab w) : Calls Tryz.prog 5 #[.bool sg, U a, U b, U c] w fun en w' => en = .returned (.bool true) ∧ Below w.heap.size w w' := by
  cases sg
  · exact orders_w m9_64 a b c ha hb hc w hT
  · exact orders_w m9_32 a b c ha hb hc w hT
end Go.Proofs.YtaffhffefedggaaGreatDoor
