import Derived.Test.YthfjjadgejmnfaaDoorJ12
import Derived.Test.YthfjjadgejmnfaaDoorJ13
namespace Go.Proofs.YthfjjadgejmnfaaDoor
open Go.RowKit
set_option maxRecDepth 20000
set_option maxHeartbeats 0
theorem dv_same {x y e : Int} (h : dv x e = dv y e) : x = y := by
  refine Int.le_antisymm (Int.not_lt.1 fun h1 => ?_) (Int.not_lt.1 fun h1 => ?_)
  · have := (dv_lt_iff e).2 h1; omega
  · have := (dv_lt_iff e).2 h1; omega
theorem mf_sg {f p m l : Int} {S I H : Nat} (F : Pm f p m l S I H) {a : Nat} {za ea zw ew : Int} {man mn : Nat} {ex sg : Int} (M : MF S I H l a za ea zw ew man mn ex sg) (hr : a % S < I) : sg = iv (decide (S ≤ a)) 1 := by
  obtain ⟨zo, eo, v1, v2⟩ := vf_ex F hr
  have hlo := F.lo
  have h1 : dv za ea = dv zo eo := by rw [M.va.v, v1.v]
  rw [v2, ← M.hm] at h1
  have h2 := M.d1
  have he : l + ((a % S / H - 1 : Nat) : Int) = ex + ((1 : Nat) : Int) := by rw [M.he]; omega
  rw [h1, he, dv_up (e := ex) 1 (by have := M.he; omega), M.hn] at h2
  refine dv_same (e := ex) ?_
  rw [h2]
  unfold iv dv
  by_cases hs : S ≤ a
  · simp only [hs, decide_true, if_true]
    rw [← Int.sub_mul]
    congr 1
    omega
  · simp only [hs, decide_false, if_false]
    rw [← Int.sub_mul]
    simp only [Bool.false_eq_true, if_false]
    congr 1
    omega
theorem t_split {q T : Nat} (q1 : 123 ≤ q) (hT : T = (q - 52) * 4503599627370496) : T = (q - 53) * 4503599627370496 + 4503599627370496 := by
  rw [hT, show q - 52 = q - 53 + 1 by omega, Nat.add_mul, Nat.one_mul]
theorem t_le {q T : Nat} (q3 : q ≤ 2000) (hT : T = (q - 52) * 4503599627370496) : T ≤ 9218868437227405312 := by
  have h : (q - 52) * 4503599627370496 ≤ 1948 * 4503599627370496 := Nat.mul_le_mul_right _ (by omega)
  rw [hT]
  exact Nat.le_trans h (by decide)
theorem half_rnp {a q T : Nat} {sg ex : Int} (hq : q = a % 9223372036854775808 / 4503599627370496 - 1) (q1 : 123 ≤ q) (q3 : q ≤ 2000) (hT : T = (q - 52) * 4503599627370496) (hsg : sg = iv (decide (9223372036854775808 ≤ a)) 1) (hex : ex = -1074 + (q : Int) - 1) :
    rnp (-1074) 52 1024 9223372036854775808 9218868437227405312 sg ex = (if 9223372036854775808 ≤ a then 9223372036854775808 + T else T) := by
  have hT2 := t_split q1 hT
  have hT3 := t_le q3 hT
  have hx0 : -4194304 ≤ ex := by clear hsg; omega
  have hx1 : (-1074 : Int) + (q : Int) - 1 = -1074 + ((q - 1 : Nat) : Int) := by clear hsg; omega
  obtain ⟨Z, h1, h2, h3, _⟩ := rnp_is jn_64 sg ex hx0
  have hn : sg.natAbs = 1 := by
    rw [hsg]
    by_cases h : 9223372036854775808 ≤ a
    · rw [decide_eq_true h]; rfl
    · rw [decide_eq_false h]; rfl
  have hlt : sg < 0 ↔ 9223372036854775808 ≤ a := by
    rw [hsg]
    by_cases h : 9223372036854775808 ≤ a
    · rw [decide_eq_true h]; exact ⟨fun _ => h, fun _ => by decide⟩
    · rw [decide_eq_false h]; exact ⟨fun k => absurd k (by decide), fun k => absurd k h⟩
  have hv : vs 4503599627370496 T = 2 ^ (q - 1) := by
    rw [hT2, vs_at _ _ (.inr (by decide)) (by decide), show 4503599627370496 = 2 ^ 52 by decide, ← Nat.pow_add]
    congr 1
    clear hsg h2 h3
    omega
  have he : dv ((sg.natAbs : Nat) : Int) ex = dv (vs 4503599627370496 T) (-1074) := by
    rw [hn, hv, hex, hx1, dv_up (e := -1074) (q - 1) (by decide), Int.natCast_one, Int.one_mul]
  rw [he] at h2
  have hZ : Z = T := h2.uniq (RNz.exact (by decide) (by decide) hT3)
  rw [h3, hZ]
  by_cases h : 9223372036854775808 ≤ a
  · rw [if_pos h, if_pos (hlt.2 h)]
  · rw [if_neg h, if_neg fun k => h (hlt.1 k)]
end Go.Proofs.YthfjjadgejmnfaaDoor
namespace Go.Proofs.YthfjjadgejmnfaaDoor
open Go.RowKit Go.Shelf
set_option maxRecDepth 20000
set_option maxHeartbeats 0
theorem Hid.mk9b {p : Prop} (h : p) : Hid p := h
theorem acceptMiddles_w (b : Nat) (hb : b < 18446744073709551616) (e : Int) (near : Nat) (hn : near < 18446744073709551616) (w : World) (hT : Tab w) :
    Calls Tryd.prog 3 #[U b, .int .i64 e, U near] w fun en w' => en = .returned (.bool true) ∧ Below w.heap.size w w' := by
  have hbw : Below w.heap.size w w := Below.refl _ _
  have TB : Hid (Tab w) := hT
  have HB : Hid (b < 18446744073709551616 ∧ near < 18446744073709551616) := ⟨hb, hn⟩
  obtain ⟨s, hd⟩ : ∃ s : Int, (b : Int) % 9223372036854775808 = s := ⟨_, rfl⟩
  have HS : Hid ((b : Int) % 9223372036854775808 = s) := hd
  clear hb hn hT
  by_cases c1 : s < 558446353793941504
  · go_enter Tryd.func3, Tryd.ntmps3
    go_wp2_with fail
    refine (awake25 _).mono ?_
    rintro e v1 ⟨rfl, hb1⟩
    replace hbw := Below.on hbw hb1
    clear hb1
    go_wp2_with fail
    go_ret
    exact ⟨rfl, hbw⟩
  · by_cases c2 : 8655918483806093312 < s
    · go_enter Tryd.func3, Tryd.ntmps3
      go_wp2_with fail
      refine (awake25 _).mono ?_
      rintro e v1 ⟨rfl, hb1⟩
      replace hbw := Below.on hbw hb1
      clear hb1
      go_wp2_with fail
      go_ret
      exact ⟨rfl, hbw⟩
    · by_cases c3 : e < -100
      · go_enter Tryd.func3, Tryd.ntmps3
        go_wp2_with fail
        refine (awake25 _).mono ?_
        rintro e v1 ⟨rfl, hb1⟩
        replace hbw := Below.on hbw hb1
        clear hb1
        go_wp2_with fail
        go_ret
        exact ⟨rfl, hbw⟩
      · by_cases c4 : -56 < e
        · go_enter Tryd.func3, Tryd.ntmps3
          go_wp2_with fail
          refine (awake25 _).mono ?_
          rintro e v1 ⟨rfl, hb1⟩
          replace hbw := Below.on hbw hb1
          clear hb1
          go_wp2_with fail
          go_ret
          exact ⟨rfl, hbw⟩
        · have HR : Hid (558446353793941504 ≤ b % 9223372036854775808 ∧ b % 9223372036854775808 ≤ 8655918483806093312 ∧ -100 ≤ e ∧ e ≤ -56) := by have h := HS.out; exact ⟨by omega, by omega, by omega, by omega⟩
          obtain ⟨za, ea, zw, ew, man, mn, ex, sg, hmf⟩ := mf_ex jm_64.pm (a := b) (by have := HB.out.1; omega) (by have := HR.out; omega)
          have MM : Hid (MF 9223372036854775808 9218868437227405312 4503599627370496 (-1074) b za ea zw ew man mn ex sg) := hmf
          obtain ⟨q, hq⟩ : ∃ q, q = b % 9223372036854775808 / 4503599627370496 - 1 := ⟨_, rfl⟩
          obtain ⟨T, hTT⟩ : ∃ T, T = (q - 52) * 4503599627370496 := ⟨_, rfl⟩
          have HQ : Hid (q = b % 9223372036854775808 / 4503599627370496 - 1 ∧ 123 ≤ q ∧ q ≤ 2000 ∧ T = (q - 52) * 4503599627370496) := ⟨hq, by have := HR.out; omega, by have := HR.out; omega, hTT⟩
          obtain ⟨lo, hlo⟩ : ∃ lo, lo = (if 9223372036854775808 ≤ b then 9223372036854775808 + T else T) := ⟨_, rfl⟩
          have HRN : Hid (rnp (-1074) 52 1024 9223372036854775808 9218868437227405312 sg ex = lo) := by rw [hlo]; exact half_rnp hq HQ.out.2.1 HQ.out.2.2.1 hTT (mf_sg jm_64.pm hmf (by have := HR.out; omega)) (by rw [hmf.he, hq])
          have HLO : Hid (lo % 9223372036854775808 = T ∧ lo < 18446744073709551616 ∧ (9223372036854775808 ≤ b ↔ 9223372036854775808 ≤ lo)) := by rw [hlo]; have h := HQ.out; have h2 := HB.out.1; by_cases h3 : 9223372036854775808 ≤ b; (rw [if_pos h3]; exact ⟨by omega, by omega, by omega⟩); (rw [if_neg h3]; exact ⟨by omega, by omega, by omega⟩)
          have HZ : Hid (SzF b) := ⟨⟨HB.out.1, by have := HR.out; omega⟩, by have := HR.out; omega, by have := HR.out; omega⟩
          have HN0 : ∀ t, t < 1024 → (t = 0 ∨ -92 ≤ e) → accB b (lo - t) e = false := by
            intro t ht hk
            cases hA : accB b (lo - t) e with
            | false => rfl
            | true =>
              obtain ⟨k, hk2, hP⟩ := accB_iff.1 hA
              have h := HLO.out; have h2 := HQ.out; have h3 := HR.out
              exact absurd hP (half_far (t := t) HZ.out h3.1 (by omega) ht (by omega) (by omega) (by omega))
          have HNN : Hid (∀ t, t < 1024 → (t = 0 ∨ -92 ≤ e) → accB b (lo - t) e = false) := HN0
          obtain ⟨zm, hzm⟩ : ∃ zm, zm = iv (decide (9223372036854775808 ≤ b)) mn := ⟨_, rfl⟩
          have HZM : Hid (zm = iv (decide (9223372036854775808 ≤ b)) mn) := hzm
          have HFM : Hid (DFm zm ex) := by rw [hzm]; exact hmf.fm
          have HD1 : Hid (dv sg ex = dv zm ex - dv za ea) := by rw [hzm]; exact hmf.d1
          have HL1 := hmf.l1
          rw [← hzm] at HL1
          have HLL := Hid.mk9b HL1
          clear hmf hq hTT hlo hzm HN0 HL1
          go_enter Tryd.func3, Tryd.ntmps3
          go_wp2_with fail
          refine (awake25 _).mono ?_
          rintro e v1 ⟨rfl, hb1⟩
          replace hbw := Below.on hbw hb1
          clear hb1
          go_wp2_with fail
          refine (mid_ok jm_64.pm b mn ex (by have := HB.out.1; omega) (by have := HR.out; omega) (by rw [MM.out.hn, MM.out.hm]) MM.out.he _ (TB.out.below hbw)).mono ?_
          rintro e2 v5 ⟨hv, hb5⟩
          obtain ⟨v, rfl, hv2⟩ := hv.form (HFM.out) (by rw [HZM.out])
          obtain ⟨s5, p5, m5, rfl, hd5⟩ := hv2.dn (HFM.out)
          clear hv hv2
          replace hbw := Below.on hbw hb5
          clear hb5
          have D5 : Hid (DN v5 s5 p5 m5 m5 (ex) (zm)) := hd5
          clear hd5
          go_wp2_with fail
          have Xm0 : Hid (B3q (v5.alloc (.cells #[.bool s5, .slice p5 m5 m5, .int .i64 (ex)] 28)) v5.heap.size (.bool s5) (.slice p5 m5 m5) (.int .i64 (ex))) := B3q.new v5 _ _ _ _
          have hbn : Below v5.heap.size v5 (v5.alloc (.cells #[.bool s5, .slice p5 m5 m5, .int .i64 (ex)] 28)) := below1 v5 _
          generalize v5.alloc (.cells #[.bool s5, .slice p5 m5 m5, .int .i64 (ex)] 28) = Wm at *
          have HGm : Hid (w.heap.size ≤ v5.heap.size) := hbw.size
          replace D5 : Hid _ := D5.out.below hbn
          replace hbw := Below.on hbw hbn
          clear hbn
          generalize v5.heap.size = gm at *
          have Xm := Xm0
          clear Xm0
          refine (value_v jm_64.pm (by have := HB.out.1; omega) (by have := HR.out; omega) MM.out.va _ (TB.out.below hbw)).mono ?_
          rintro e2 v6 ⟨v, rfl, hv, hb6⟩
          obtain ⟨s6, p6, m6, rfl, hd6⟩ := hv.dn (MM.out.va.fm)
          clear hv
          replace Xm : Hid _ := Xm.out.below hb6
          replace D5 : Hid _ := D5.out.below hb6
          replace hbw := Below.on hbw hb6
          clear hb6
          have D6 : Hid (DN v6 s6 p6 m6 m6 (ea) (za)) := hd6
          clear hd6
          obtain ⟨cm0, cm1, cm2, fm0, fm1, fm2⟩ := Xm.out
          have hnem : gm < v6.heap.size := World.block_lt_of_cell? v6 _ cm0
          go_wp2_with fail
          clear cm0 cm1 cm2 fm0 fm1 fm2 hnem
          have HDmv : Hid (gm ≠ v6.heap.size) := Nat.ne_of_lt Xm.out.lt
          have Xv0 : Hid (B3q (v6.alloc (.cells #[.bool s6, .slice p6 m6 m6, .int .i64 (ea)] 28)) v6.heap.size (.bool s6) (.slice p6 m6 m6) (.int .i64 (ea))) := B3q.new v6 _ _ _ _
          have hbn : Below v6.heap.size v6 (v6.alloc (.cells #[.bool s6, .slice p6 m6 m6, .int .i64 (ea)] 28)) := below1 v6 _
          generalize v6.alloc (.cells #[.bool s6, .slice p6 m6 m6, .int .i64 (ea)] 28) = Wv at *
          have HGv : Hid (w.heap.size ≤ v6.heap.size) := hbw.size
          replace Xm : Hid _ := Xm.out.below hbn
          replace D5 : Hid _ := D5.out.below hbn
          replace D6 : Hid _ := D6.out.below hbn
          replace hbw := Below.on hbw hbn
          clear hbn
          generalize v6.heap.size = gv at *
          have Xv := Xv0
          clear Xv0
          refine (dsub_v D5.out D6.out MM.out.fs HD1.out HLL.out (TB.out.below hbw)).mono ?_
          rintro e2 v7 ⟨v, rfl, hv, hb7⟩
          obtain ⟨s7, p7, m7, rfl, hd7⟩ := hv.dn (MM.out.fs)
          clear hv
          replace Xm : Hid _ := Xm.out.below hb7
          replace Xv : Hid _ := Xv.out.below hb7
          replace D5 : Hid _ := D5.out.below hb7
          replace D6 : Hid _ := D6.out.below hb7
          replace hbw := Below.on hbw hb7
          clear hb7
          have D7 : Hid (DN v7 s7 p7 m7 m7 (ex) (sg)) := hd7
          clear hd7
          go_wp2_with fail
          have HDmh : Hid (gm ≠ v7.heap.size) := Nat.ne_of_lt Xm.out.lt
          have HDvh : Hid (gv ≠ v7.heap.size) := Nat.ne_of_lt Xv.out.lt
          have Xh0 : Hid (B3q (v7.alloc (.cells #[.bool s7, .slice p7 m7 m7, .int .i64 (ex)] 28)) v7.heap.size (.bool s7) (.slice p7 m7 m7) (.int .i64 (ex))) := B3q.new v7 _ _ _ _
          have hbn : Below v7.heap.size v7 (v7.alloc (.cells #[.bool s7, .slice p7 m7 m7, .int .i64 (ex)] 28)) := below1 v7 _
          generalize v7.alloc (.cells #[.bool s7, .slice p7 m7 m7, .int .i64 (ex)] 28) = Wh at *
          have HGh : Hid (w.heap.size ≤ v7.heap.size) := hbw.size
          replace Xm : Hid _ := Xm.out.below hbn
          replace Xv : Hid _ := Xv.out.below hbn
          replace D5 : Hid _ := D5.out.below hbn
          replace D6 : Hid _ := D6.out.below hbn
          replace D7 : Hid _ := D7.out.below hbn
          replace hbw := Below.on hbw hbn
          clear hbn
          generalize v7.heap.size = gh at *
          have Xh := Xh0
          clear Xh0
          refine (rnearest jn_64 D7.out (TB.out.below hbw)).mono ?_
          rintro e v8 ⟨rfl, hb8⟩
          rw [HRN.out]
          replace Xm : Hid _ := Xm.out.below hb8
          replace Xv : Hid _ := Xv.out.below hb8
          replace Xh : Hid _ := Xh.out.below hb8
          replace D5 : Hid _ := D5.out.below hb8
          replace D6 : Hid _ := D6.out.below hb8
          replace D7 : Hid _ := D7.out.below hb8
          replace hbw := Below.on hbw hb8
          clear hb8
          go_wp2_with fail
          have HK0 := ask_ok b lo HB.out.1 HLO.out.2.1 e
          unfold accN at HK0
          rw [show accB b lo e = false from HNN.out 0 (by decide) (.inl rfl)] at HK0
          rw [if_neg (by decide)] at HK0
          refine (HK0 _).mono ?_
          rintro e v9 ⟨rfl, hb9⟩
          replace Xm : Hid _ := Xm.out.below hb9
          replace Xv : Hid _ := Xv.out.below hb9
          replace Xh : Hid _ := Xh.out.below hb9
          replace D5 : Hid _ := D5.out.below hb9
          replace D6 : Hid _ := D6.out.below hb9
          replace D7 : Hid _ := D7.out.below hb9
          replace hbw := Below.on hbw hb9
          clear hb9
          clear HK0
          obtain ⟨nr, hnr⟩ : ∃ nr, nr = near % 1024 := ⟨_, rfl⟩
          have hnr2 : (near : Int).tmod 1024 = (nr : Int) := by rw [Int.tmod_eq_emod_of_nonneg (by omega), hnr]; omega
          have hnr3 : (near : Int) % 1024 = (nr : Int) := by rw [hnr]; omega
          have hnr4 : nr < 1024 := by rw [hnr]; exact Nat.mod_lt _ (by decide)
          obtain ⟨lp, hlp⟩ : ∃ lp, lp = lo - nr := ⟨_, rfl⟩
          have HLP : Hid (nr < 1024 ∧ lp = lo - nr ∧ nr ≤ lo) := ⟨hnr4, hlp, by have h1 := HLO.out; have h2 := HQ.out; omega⟩
          have hw1 : IntKind.u64.wrap ((lo : Int) - (nr : Int)) = (lp : Int) := by rw [IntKind.wrap_u64]; have h1 := HLP.out; have h2 := HLO.out; omega
          have hw2 : IntKind.u64.wrap (nr : Int) = (nr : Int) := by rw [IntKind.wrap_u64]; omega
          clear hnr hlp hnr4
          go_wp2_with fail
          have HK1 := ask_ok b lp HB.out.1 (by have h1 := HLP.out; have h2 := HLO.out; omega) e
          clear hnr2 hnr3 hw1 hw2
          by_cases c5 : e < -92
          · generalize accN b lp e = R at *
            generalize accB b lp e = B at *
            refine (HK1 _).mono ?_
            rintro e v10 ⟨rfl, hb10⟩
            replace Xm : Hid _ := Xm.out.below hb10
            replace Xv : Hid _ := Xv.out.below hb10
            replace Xh : Hid _ := Xh.out.below hb10
            replace D5 : Hid _ := D5.out.below hb10
            replace D6 : Hid _ := D6.out.below hb10
            replace D7 : Hid _ := D7.out.below hb10
            replace hbw := Below.on hbw hb10
            clear hb10
            go_wp2_with fail
            go_ret
            exact ⟨rfl, hbw⟩
          · unfold accN at HK1
            rw [show accB b lp e = false from HLP.out.2.1 ▸ HNN.out nr HLP.out.1 (.inr (by omega))] at HK1
            rw [if_neg (by decide)] at HK1
            refine (HK1 _).mono ?_
            rintro e v10 ⟨rfl, hb10⟩
            replace Xm : Hid _ := Xm.out.below hb10
            replace Xv : Hid _ := Xv.out.below hb10
            replace Xh : Hid _ := Xh.out.below hb10
            replace D5 : Hid _ := D5.out.below hb10
            replace D6 : Hid _ := D6.out.below hb10
            replace D7 : Hid _ := D7.out.below hb10
            replace hbw := Below.on hbw hb10
            clear hb10
            go_wp2_with fail
            go_ret
            exact ⟨rfl, hbw⟩
end Go.Proofs.YthfjjadgejmnfaaDoor
