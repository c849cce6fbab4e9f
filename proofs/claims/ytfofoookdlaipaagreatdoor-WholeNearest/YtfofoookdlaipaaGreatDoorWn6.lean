import Derived.Test.YtfofoookdlaipaaGreatDoorWn5
import Derived.Test.YtfofoookdlaipaaGreatDoorJ24
import Derived.Test.YtfofoookdlaipaaGreatDoorJ22
namespace Go.Proofs.YtfofoookdlaipaaGreatDoor
open Go.RowKit Go.Shelf

theorem one_vf {S H one k sd : Nat} {l : Int} (h1 : one < S) (hH : H = 2 ^ sd) (hq : one / H - 1 = k) (hr : one - k * H = H) (hl : l + ((sd + k : Nat) : Int) = 0) (hl2 : -4194304 ≤ l) : VF S H l one 1 0 := by
  refine ⟨.inr ⟨by decide, by decide, by decide⟩, ?_⟩
  rw [svS_eq, if_neg (by omega), Nat.mod_eq_of_lt h1]
  have h2 : vs H one = 2 ^ (sd + k) := by
    unfold vs
    rw [hq, hr, hH, Nat.pow_add]
  have h3 := dv_up (x := 1) (e := l) (sd + k) hl2
  rw [hl, Int.one_mul] at h3
  rw [h2, h3]
structure Ln (f l : Int) (S I H : Nat) (one : Nat) : Prop where
  gr : ∀ w, Calls Tryz.prog 13 #[.int .i64 f] w fun en w' => en = .returned (U (I - 1)) ∧ Below w.heap.size w w'
  sb : ∀ b w, b < 2 * S → Calls Tryz.prog 14 #[.int .i64 f, U b] w fun en w' => en = .returned (.bool (decide (S ≤ b))) ∧ Below w.heap.size w w'
  on : VF S H l one 1 0
  ev : I % 2 = 0
theorem ln_32 : Ln 32 (-149) 2147483648 2139095040 8388608 1065353216 :=
  ⟨fun w => tgreat_32 w, fun b w hb => tsign_32 b hb w, one_vf (k := 126) (sd := 23) (by decide) (by decide) (by decide) (by decide) (by decide) (by decide), by decide⟩
theorem ln_64 : Ln 64 (-1074) 9223372036854775808 9218868437227405312 4503599627370496 4607182418800017408 :=
  ⟨fun w => tgreat_64 w, fun b w hb => tsign_64 b hb w, one_vf (k := 1022) (sd := 52) (by decide) (by decide) (by decide) (by decide) (by decide) (by decide), by decide⟩
theorem wide_any {w : World} {a : Option Addr} (hi : Int) (lo : Nat) (ex : Int) (h1 : -9223372036854775808 ≤ hi ∧ hi ≤ 9223372036854775807) (h2 : lo < B64) (hT : Tab w) :
    Calls Tryz.prog 11 #[.pointer a, .int .i64 hi, U lo, .int .i64 ex] w fun en w' => ∃ zd ed s1 p1 m1, en = .returned (DV s1 p1 m1 m1 ed) ∧ DN w' s1 p1 m1 m1 ed zd ∧ DB zd ed 128 1430 ∧ Below w.heap.size w w' := by
  by_cases h3 : lo = 0
  · exact (wide_z hi lo ex h1 h2 h3 hT).mono fun en w' ⟨_, zd, ed, s1, p1, m1, _, g1, g2, g3, _, g5⟩ => ⟨zd, ed, s1, p1, m1, g1, g2.dn, g3, g5⟩
  · exact (wide_l hi lo ex h1 h2 h3 hT).mono fun en w' ⟨_, zd, ed, s1, p1, m1, _, g1, g2, g3, _, g5⟩ => ⟨zd, ed, s1, p1, m1, g1, g2.dn, g3, g5⟩
theorem RNz.beyond {H : Nat} {l : Int} {I : Nat} {A : Int} {Z : Nat} (h : RNz H l I A Z) (hI : 0 < I) (he : I % 2 = 0) : Z = I ↔ dv (hv H (I - 1) : Int) (l - 1) ≤ A := by
  constructor
  · intro h1; rw [h1] at h; exact h.all hI
  · intro h1
    have hle := h.le
    rcases Int.lt_or_eq_of_le h1 with h2 | h2
    · have := h.hi (I - 1) (by omega) h2; omega
    · have := h.eq (I - 1) (by omega) h2.symm; omega
theorem nearestOf_ok {f p m l : Int} {S I H sd : Nat} {Be : Int} (J : Jn f p m l S I H sd Be) {q : Option Addr} {n k : Nat} {w : World} {x e : Int} {s : Bool} {a : Option Addr} (h : DN w s q n k e x) (bx : DB x e 128 1430) {c : Nat} (hri : rnp l sd Be S I x e % S < I) (hc : c < 2 * S) (hT : Tab w) :
    Calls Tryz.prog 18 #[.pointer a, .int .i64 f, DV s q n k e, U (rnp l sd Be S I x e), U c] w fun en w' => en = .returned (.bool true) ∧ Below w.heap.size w w' := by
  obtain ⟨Z, h1, h2, h3, h4, h5, h6, h7⟩ := rnp_is J x e (by have := bx.lo; omega)
  by_cases hx : c % S < I
  · refine nearestOf_f J h bx h4 hri hc hT hx ?_
    rw [h5] at hri
    have hV : dv (svS S H (rnp l sd Be S I x e)) l = if x < 0 then - dv (vs H Z : Int) l else dv (vs H Z : Int) l := by
      rw [svS_eq, h5]
      by_cases h8 : x < 0
      · rw [decide_eq_true h8] at h6
        rw [if_pos (of_decide_eq_true h6), if_pos h8, dv_neg]
      · rw [decide_eq_false h8] at h6
        rw [if_neg (of_decide_eq_false h6), if_neg h8]
    rw [h7]
    exact near_all J h2 hri c hV rfl
  · exact nearestOf_x J h bx h4 hri hc hT hx
theorem top_form {f p m l : Int} {S I H sd : Nat} {Be : Int} (J : Jn f p m l S I H sd Be) : ∃ mn : Nat, ∃ ex : Int, mn = 2 * ((I - 1) % S - ((I - 1) % S / H - 1) * H) + 1 ∧ ex = l + (((I - 1) % S / H - 1 : Nat) : Int) - 1 ∧ DFm (mn : Int) ex ∧ dv (mn : Int) ex = dv (hv H (I - 1) : Int) (l - 1) := by
  have hp := J.jm.pm.fm.pos
  have hlt := J.jm.pm.fm.lt
  have hlo := J.jm.pm.lo
  have hst := J.jm.pm.st (I - 1) (by omega)
  have h1 : (I - 1) % S = I - 1 := Nat.mod_eq_of_lt (by omega)
  rw [h1]
  have h2 := mid_dv (H := H) (l := l) (I - 1) (by omega)
  obtain ⟨q, hq⟩ : ∃ q, q = (I - 1) / H - 1 := ⟨_, rfl⟩
  rw [← hq] at h2 hst ⊢
  exact ⟨_, _, rfl, rfl, .inr ⟨by omega, by omega, by omega⟩, h2⟩
set_option maxRecDepth 20000 in
set_option maxHeartbeats 8000000 in
theorem wholeNearest_x {single : Bool} {f p m l : Int} {S I H sd : Nat} {Be : Int} {one : Nat} (J : Jn f p m l S I H sd Be) (L : Lt single f l S I H sd Be one) (N : Ln f l S I H one) (hi : Int) (lo : Nat) (ex : Int) (mo c : Nat) (h1 : -9223372036854775808 ≤ hi ∧ hi ≤ 9223372036854775807) (h2 : lo < B64) (h3 : mo < B64) (h4 : c < B64) (w : World) (hT : Tab w) :
    Calls Tryz.prog 3 #[.agg #[.bool single, .int .i64 hi, U lo, .int .i64 ex, U mo, U c]] w fun en w' => en = .returned (.bool true) ∧ Below w.heap.size w w' := by
  have HJN : Hid (Jn f p m l S I H sd Be) := J
  have HLT : Hid (Lt single f l S I H sd Be one) := L
  have HLN : Hid (Ln f l S I H one) := N
  have TB : Hid (Tab w) := hT
  have HIN : Hid ((-9223372036854775808 ≤ hi ∧ hi ≤ 9223372036854775807) ∧ lo < B64 ∧ mo < B64) := ⟨h1, h2, h3⟩
  obtain ⟨b, hb2, hbp⟩ := L.pt c h4
  have HB : Hid (b < 2 * S) := hb2
  have HBP : Hid (∀ w, Calls Tryz.prog 19 #[.int .i64 f, U c] w fun en w' => en = .returned (U b) ∧ Below w.heap.size w w') := hbp
  obtain ⟨mn, xt, hmn, hxt, hft, hvt⟩ := top_form J
  have HTF : Hid (mn = 2 * ((I - 1) % S - ((I - 1) % S / H - 1) * H) + 1 ∧ xt = l + (((I - 1) % S / H - 1 : Nat) : Int) - 1 ∧ DFm (mn : Int) xt ∧ dv (mn : Int) xt = dv (hv H (I - 1) : Int) (l - 1)) := ⟨hmn, hxt, hft, hvt⟩
  have HIS : Hid (I - 1 < 2 * S ∧ (I - 1) % S < I ∧ decide (S ≤ I - 1) = false ∧ 0 < I) := by
    have hp := J.jm.pm.fm.pos
    have hlt := J.jm.pm.fm.lt
    exact ⟨by omega, by rw [Nat.mod_eq_of_lt (by omega)]; omega, decide_eq_false (by omega), by omega⟩
  clear J L N h1 h2 h3 h4 hT hb2 hbp hmn hxt hft hvt
  go_enter Tryz.func3, Tryz.ntmps3
  go_wp2_with fail
  obtain ⟨W0, hW0⟩ : ∃ W0, W0 = (w.alloc (.cells #[.bool single, .int .i64 hi, U lo, .int .i64 ex, U mo, U c] 24)) := ⟨_, rfl⟩
  have Xin : Hid (B6q W0 (w.heap.size) (.bool single) (.int .i64 hi) (U lo) (.int .i64 ex) (U mo) (U c)) := by rw [hW0]; exact ⟨by go_simp, by go_simp, by go_simp, by go_simp, by go_simp, by go_simp, by go_simp, by go_simp, by go_simp, by go_simp, by go_simp, by go_simp⟩
  have hb0 : Below w.heap.size w W0 := by rw [hW0]; exact below1 w _
  rw [← hW0]
  clear hW0
  have hbw : Below w.heap.size w w := Below.refl _ _
  obtain ⟨gin, hgin⟩ : ∃ g, g = w.heap.size := ⟨_, rfl⟩
  have HGin : Hid (w.heap.size ≤ gin) := by rw [hgin]; show _ ≤ _; omega
  rw [← hgin] at Xin
  try rw [← hgin]
  clear hgin
  replace hbw := Below.on hbw hb0
  clear hb0
  refine (HLT.out.fmt _).mono ?_
  rintro e v1 ⟨rfl, hb1⟩
  replace Xin : Hid _ := Xin.out.below hb1
  replace hbw := Below.on hbw hb1
  clear hb1
  obtain ⟨cin0, cin1, cin2, cin3, cin4, cin5, fin0, fin1, fin2, fin3, fin4, fin5⟩ := Xin.out
  have hnein : gin < v1.heap.size := World.block_lt_of_cell? v1 _ cin0
  go_wp2_with fail
  clear cin0 cin1 cin2 cin3 cin4 cin5 fin0 fin1 fin2 fin3 fin4 fin5 hnein
  refine (dof1 (TB.out.below hbw)).mono ?_
  rintro e0 v3 ⟨s3, p3, m3, rfl, hd3, hb3⟩
  replace Xin : Hid _ := Xin.out.below hb3
  replace hbw := Below.on hbw hb3
  clear hb3
  have D3 : Hid (DN v3 s3 p3 m3 m3 0 1) := hd3
  clear hd3
  obtain ⟨cin0, cin1, cin2, cin3, cin4, cin5, fin0, fin1, fin2, fin3, fin4, fin5⟩ := Xin.out
  have hnein : gin < v3.heap.size := World.block_lt_of_cell? v3 _ cin0
  go_wp2_with fail
  clear cin0 cin1 cin2 cin3 cin4 cin5 fin0 fin1 fin2 fin3 fin4 fin5 hnein
  refine (rnearest HJN.out D3.out (TB.out.below hbw)).mono ?_
  rintro e v4 ⟨rfl, hb4⟩
  rw [HLT.out.one_]
  replace Xin : Hid _ := Xin.out.below hb4
  replace D3 : Hid _ := D3.out.below hb4
  replace hbw := Below.on hbw hb4
  clear hb4
  clear D3
  obtain ⟨cin0, cin1, cin2, cin3, cin4, cin5, fin0, fin1, fin2, fin3, fin4, fin5⟩ := Xin.out
  have hnein : gin < v4.heap.size := World.block_lt_of_cell? v4 _ cin0
  go_wp2_with fail
  clear cin0 cin1 cin2 cin3 cin4 cin5 fin0 fin1 fin2 fin3 fin4 fin5 hnein
  refine (value_v HJN.out.jm.pm HLT.out.o1.1 HLT.out.o1.2.2.1 HLN.out.on _ (TB.out.below hbw)).mono ?_
  rintro e9 v5 ⟨v, rfl, hv, hb5⟩
  obtain ⟨s5, p5, m5, rfl, hd5⟩ := hv.dn HLN.out.on.fm
  clear hv
  replace Xin : Hid _ := Xin.out.below hb5
  replace hbw := Below.on hbw hb5
  clear hb5
  have D5 : Hid (DN v5 s5 p5 m5 m5 0 1) := hd5
  clear hd5
  obtain ⟨cin0, cin1, cin2, cin3, cin4, cin5, fin0, fin1, fin2, fin3, fin4, fin5⟩ := Xin.out
  have hnein : gin < v5.heap.size := World.block_lt_of_cell? v5 _ cin0
  go_wp2_with fail
  clear cin0 cin1 cin2 cin3 cin4 cin5 fin0 fin1 fin2 fin3 fin4 fin5 hnein
  have Xbk0 : Hid (B3q (v5.alloc (.cells #[.bool s5, .slice p5 m5 m5, .int .i64 0] 34)) v5.heap.size (.bool s5) (.slice p5 m5 m5) (.int .i64 0)) := B3q.new v5 _ _ _ _
  have hbn : Below v5.heap.size v5 (v5.alloc (.cells #[.bool s5, .slice p5 m5 m5, .int .i64 0] 34)) := below1 v5 _
  generalize v5.alloc (.cells #[.bool s5, .slice p5 m5 m5, .int .i64 0] 34) = Wb at *
  have HGbk : Hid (w.heap.size ≤ v5.heap.size) := hbw.size
  replace Xin : Hid _ := Xin.out.below hbn
  replace D5 : Hid _ := D5.out.below hbn
  replace hbw := Below.on hbw hbn
  clear hbn
  generalize v5.heap.size = gbk at *
  have Xbk := Xbk0
  clear Xbk0
  obtain ⟨W6, hW6⟩ : ∃ W1, W1 = Wb.drew := ⟨_, rfl⟩
  have hbd : Below Wb.heap.size Wb W6 := by rw [hW6]; exact bDrew1 (Below.refl _ _)
  replace Xin : Hid _ := Xin.out.below hbd
  replace Xbk : Hid _ := Xbk.out.below hbd
  replace D5 : Hid _ := D5.out.below hbd
  replace hbw := Below.on hbw hbd
  clear hbd
  have HJ : Hid ((fun W' : World => W'.cell? ⟨gbk, 0, none⟩ = some (.bool s5) ∧ W'.cell? ⟨gbk, 1, none⟩ = some (.slice p5 m5 m5) ∧ W'.cell? ⟨gbk, 2, none⟩ = some (.int .i64 0)) W6) := ⟨Xbk.out.c0, Xbk.out.c1, Xbk.out.c2⟩
  refine wp_region_J (fun W' => W'.cell? ⟨gbk, 0, none⟩ = some (.bool s5) ∧ W'.cell? ⟨gbk, 1, none⟩ = some (.slice p5 m5 m5) ∧ W'.cell? ⟨gbk, 2, none⟩ = some (.int .i64 0)) (by kernel_rfl) ?_
  rw [← hW6]
  clear hW6
  refine wpJ_take (i := 0) (v := ?v1x0) rfl (by kernel_rfl) (by kernel_rfl) (by kernel_rfl) (fun _ _ _ h => h) (by kernel_rfl) ?hy1x0 HJ.out ?rest1x0
  case hy1x0 => (intro W' hJ; obtain ⟨j0, j1, j2⟩ := hJ; go_simp; first | done | with_reducible rfl)
  refine wpJ_take (i := 1) (v := ?v2x1) rfl (by kernel_rfl) (by kernel_rfl) (by kernel_rfl) (fun _ _ _ h => h) (by kernel_rfl) ?hy2x1 HJ.out ?rest2x1
  case hy2x1 => (intro W' hJ; obtain ⟨j0, j1, j2⟩ := hJ; go_simp; first | done | with_reducible rfl)
  refine wpJ_take (i := 2) (v := ?v3x2) rfl (by kernel_rfl) (by kernel_rfl) (by kernel_rfl) (fun _ _ _ h => h) (by kernel_rfl) ?hy3x2 HJ.out ?rest3x2
  case hy3x2 => (intro W' hJ; obtain ⟨j0, j1, j2⟩ := hJ; go_simp; first | done | with_reducible rfl)
  refine wpJ_take (i := 3) (v := ?v4x3) rfl (by kernel_rfl) (by kernel_rfl) (by kernel_rfl) (fun _ _ _ h => h) (by kernel_rfl) ?hy4x3 HJ.out ?rest4x3
  case hy4x3 => (intro W' hJ; obtain ⟨j0, j1, j2⟩ := hJ; go_simp; first | done | with_reducible rfl)
  refine wpJ_take (i := 4) (v := ?v5x4) rfl (by kernel_rfl) (by kernel_rfl) (by kernel_rfl) (fun _ _ _ h => h) (by kernel_rfl) ?hy5x4 HJ.out ?rest5x4
  case hy5x4 => (intro W' hJ; obtain ⟨j0, j1, j2⟩ := hJ; go_simp; first | done | with_reducible rfl)
  go_simp
  refine wpJ_take (i := 5) (v := ?v6x5) rfl (by kernel_rfl) (by kernel_rfl) (by kernel_rfl) (fun _ _ _ h => h) (by kernel_rfl) ?hy6x5 HJ.out ?rest6x5
  case hy6x5 => (intro W' hJ; obtain ⟨j0, j1, j2⟩ := hJ; go_simp; first | done | with_reducible rfl)
  refine wpJ_take (i := 6) (v := ?v7x6) rfl (by kernel_rfl) (by kernel_rfl) (by kernel_rfl) (fun _ _ _ h => h) (by kernel_rfl) ?hy7x6 HJ.out ?rest7x6
  case hy7x6 => (intro W' hJ; obtain ⟨j0, j1, j2⟩ := hJ; go_simp; first | done | with_reducible rfl)
  refine wpJ_take (i := 7) (v := ?v8x7) rfl (by kernel_rfl) (by kernel_rfl) (by kernel_rfl) (fun _ _ _ h => h) (by kernel_rfl) ?hy8x7 HJ.out ?rest8x7
  case hy8x7 => (intro W' hJ; obtain ⟨j0, j1, j2⟩ := hJ; go_simp; first | done | with_reducible rfl)
  refine wpJ_one (i := 8) (by kernel_rfl) rfl (by kernel_rfl) (fun KJ hK => ?_)
  go_simp
  refine (dof1 (TB.out.below hbw)).mono ?_
  rintro e0 v8 ⟨s8, p8, m8, rfl, hd8, hb8⟩
  replace Xin : Hid _ := Xin.out.below hb8
  replace Xbk : Hid _ := Xbk.out.below hb8
  replace D5 : Hid _ := D5.out.below hb8
  replace hbw := Below.on hbw hb8
  clear hb8
  have D8 : Hid (DN v8 s8 p8 m8 m8 0 1) := hd8
  clear hd8
  refine hK _ _ ⟨Xbk.out.c0, Xbk.out.c1, Xbk.out.c2⟩ ?_
  clear hK
  refine wpJ_one (i := 9) (by kernel_rfl) rfl (by kernel_rfl) (fun KJ hK => ?_)
  go_simp
  refine (tdy D5.out D8.out).mono ?_
  rintro e v9 ⟨rfl, hb9⟩
  rw [decide_eq_true rfl]
  replace Xin : Hid _ := Xin.out.below hb9
  replace Xbk : Hid _ := Xbk.out.below hb9
  replace D5 : Hid _ := D5.out.below hb9
  replace D8 : Hid _ := D8.out.below hb9
  replace hbw := Below.on hbw hb9
  clear hb9
  clear HJ
  have HJ : Hid ((fun W' : World => W'.cell? ⟨gbk, 0, none⟩ = some (.bool s5) ∧ W'.cell? ⟨gbk, 1, none⟩ = some (.slice p5 m5 m5) ∧ W'.cell? ⟨gbk, 2, none⟩ = some (.int .i64 0)) v9) := ⟨Xbk.out.c0, Xbk.out.c1, Xbk.out.c2⟩
  refine hK _ _ HJ.out ?_
  clear hK
  refine wpJ_take (i := 10) (v := ?v9x10) rfl (by kernel_rfl) (by kernel_rfl) (by kernel_rfl) (fun _ _ _ h => h) (by kernel_rfl) ?hy9x10 HJ.out ?rest9x10
  case hy9x10 => (intro W' hJ; obtain ⟨j0, j1, j2⟩ := hJ; go_simp; first | done | with_reducible rfl)
  refine wpJ_take (i := 11) (v := ?v10x11) rfl (by kernel_rfl) (by kernel_rfl) (by kernel_rfl) (fun _ _ _ h => h) (by kernel_rfl) ?hy10x11 HJ.out ?rest10x11
  case hy10x11 => (intro W' hJ; obtain ⟨j0, j1, j2⟩ := hJ; go_simp; first | done | with_reducible rfl)
  refine wpJ_done (by kernel_rfl) ?_ _
  clear HJ
  clear D5
  clear D8
  obtain ⟨cin0, cin1, cin2, cin3, cin4, cin5, fin0, fin1, fin2, fin3, fin4, fin5⟩ := Xin.out
  have hnein : gin < v9.heap.size := World.block_lt_of_cell? v9 _ cin0
  go_wp2_with fail
  clear cin0 cin1 cin2 cin3 cin4 cin5 fin0 fin1 fin2 fin3 fin4 fin5 hnein
  clear Xbk
  have Xsm0 : Hid (B1q (v9.alloc (.cells #[.bool false] 40)) v9.heap.size (.bool false)) := B1q.new v9 _ _
  have hbn : Below v9.heap.size v9 (v9.alloc (.cells #[.bool false] 40)) := below1 v9 _
  generalize v9.alloc (.cells #[.bool false] 40) = Wsm at *
  have HGsm : Hid (w.heap.size ≤ v9.heap.size) := hbw.size
  replace Xin : Hid _ := Xin.out.below hbn
  replace hbw := Below.on hbw hbn
  clear hbn
  generalize v9.heap.size = gsm at *
  have Xsm := Xsm0
  clear Xsm0
  refine (wide_any hi lo ex HIN.out.1 HIN.out.2.1 (TB.out.below hbw)).mono ?_
  rintro e9 v10 ⟨zd, ed, s10, p10, m10, rfl, hd, hdb, hb10⟩
  replace Xin : Hid _ := Xin.out.below hb10
  replace Xsm : Hid (B1q v10 gsm (.bool false)) := Xsm.out.below hb10
  replace hbw := Below.on hbw hb10
  clear hb10
  have D10 : Hid (DN v10 s10 p10 m10 m10 ed zd) := hd
  have HDB : Hid (DB zd ed 128 1430) := hdb
  obtain ⟨Z, z1, z2, _, z4, z5, z6, _⟩ := rnp_is HJN.out zd ed (by have := hdb.lo; omega)
  obtain ⟨r, hr⟩ : ∃ r, r = rnp l sd Be S I zd ed := ⟨_, rfl⟩
  have HRV : Hid (rnp l sd Be S I zd ed = r) := hr.symm
  rw [← hr] at z4 z5 z6
  have HR : Hid (RNz H l I (dv zd.natAbs ed) Z ∧ Z ≤ I ∧ r < 2 * S ∧ r % S = Z) := ⟨z2, z1, z4, z5⟩
  have HSG : Hid (decide (S ≤ r) = s10) := by show decide (S ≤ r) = s10; rw [z6]; exact hd.zn.sg.symm
  clear hd hdb z1 z2 z4 z5 z6 hr
  obtain ⟨cin0, cin1, cin2, cin3, cin4, cin5, fin0, fin1, fin2, fin3, fin4, fin5⟩ := Xin.out
  have hnein : gin < v10.heap.size := World.block_lt_of_cell? v10 _ cin0
  obtain ⟨csm0, fsm0⟩ := Xsm.out
  have hnesm : gsm < v10.heap.size := World.block_lt_of_cell? v10 _ csm0
  go_wp2_with fail
  clear cin0 cin1 cin2 cin3 cin4 cin5 fin0 fin1 fin2 fin3 fin4 fin5 hnein
  clear csm0 fsm0 hnesm
  have Xd0 : Hid (B3q (v10.alloc (.cells #[.bool s10, .slice p10 m10 m10, .int .i64 ed] 34)) v10.heap.size (.bool s10) (.slice p10 m10 m10) (.int .i64 ed)) := B3q.new v10 _ _ _ _
  have hbn : Below v10.heap.size v10 (v10.alloc (.cells #[.bool s10, .slice p10 m10 m10, .int .i64 ed] 34)) := below1 v10 _
  generalize v10.alloc (.cells #[.bool s10, .slice p10 m10 m10, .int .i64 ed] 34) = Wd at *
  have HGd : Hid (w.heap.size ≤ v10.heap.size) := hbw.size
  replace Xin : Hid _ := Xin.out.below hbn
  replace Xsm : Hid (B1q Wd gsm (.bool false)) := Xsm.out.below hbn
  replace D10 : Hid _ := D10.out.below hbn
  replace hbw := Below.on hbw hbn
  clear hbn
  generalize v10.heap.size = gd at *
  have Xd := Xd0
  clear Xd0
  refine (rnearest HJN.out D10.out (TB.out.below hbw)).mono ?_
  rintro e v11 ⟨rfl, hb11⟩
  rw [HRV.out]
  replace Xin : Hid _ := Xin.out.below hb11
  replace Xsm : Hid (B1q v11 gsm (.bool false)) := Xsm.out.below hb11
  replace Xd : Hid _ := Xd.out.below hb11
  replace D10 : Hid _ := D10.out.below hb11
  replace hbw := Below.on hbw hb11
  clear hb11
  obtain ⟨cin0, cin1, cin2, cin3, cin4, cin5, fin0, fin1, fin2, fin3, fin4, fin5⟩ := Xin.out
  have hnein : gin < v11.heap.size := World.block_lt_of_cell? v11 _ cin0
  obtain ⟨csm0, fsm0⟩ := Xsm.out
  have hnesm : gsm < v11.heap.size := World.block_lt_of_cell? v11 _ csm0
  obtain ⟨cd0, cd1, cd2, fd0, fd1, fd2⟩ := Xd.out
  have hned : gd < v11.heap.size := World.block_lt_of_cell? v11 _ cd0
  go_wp2_with fail
  clear cin0 cin1 cin2 cin3 cin4 cin5 fin0 fin1 fin2 fin3 fin4 fin5 hnein
  clear csm0 fsm0 hnesm
  clear cd0 cd1 cd2 fd0 fd1 fd2 hned
  refine (HLN.out.gr _).mono ?_
  rintro e v12 ⟨rfl, hb12⟩
  replace Xin : Hid _ := Xin.out.below hb12
  replace Xsm : Hid (B1q v12 gsm (.bool false)) := Xsm.out.below hb12
  replace Xd : Hid _ := Xd.out.below hb12
  replace D10 : Hid _ := D10.out.below hb12
  replace hbw := Below.on hbw hb12
  clear hb12
  obtain ⟨cin0, cin1, cin2, cin3, cin4, cin5, fin0, fin1, fin2, fin3, fin4, fin5⟩ := Xin.out
  have hnein : gin < v12.heap.size := World.block_lt_of_cell? v12 _ cin0
  obtain ⟨csm0, fsm0⟩ := Xsm.out
  have hnesm : gsm < v12.heap.size := World.block_lt_of_cell? v12 _ csm0
  obtain ⟨cd0, cd1, cd2, fd0, fd1, fd2⟩ := Xd.out
  have hned : gd < v12.heap.size := World.block_lt_of_cell? v12 _ cd0
  go_wp2_with fail
  clear cin0 cin1 cin2 cin3 cin4 cin5 fin0 fin1 fin2 fin3 fin4 fin5 hnein
  clear csm0 fsm0 hnesm
  clear cd0 cd1 cd2 fd0 fd1 fd2 hned
  refine (mid_ok HJN.out.jm.pm (I - 1) mn xt HIS.out.1 HIS.out.2.1 HTF.out.1 HTF.out.2.1 _ (TB.out.below hbw)).mono ?_
  rintro e9 v13 ⟨hv, hb13⟩
  rw [HIS.out.2.2.1] at hv
  obtain ⟨v, rfl, hv2⟩ := hv.form HTF.out.2.2.1 (show dv (mn : Int) xt = dv (iv false mn) xt from rfl)
  obtain ⟨s13, p13, m13, rfl, hd13⟩ := hv2.dn HTF.out.2.2.1
  clear hv hv2
  replace Xin : Hid _ := Xin.out.below hb13
  replace Xsm : Hid (B1q v13 gsm (.bool false)) := Xsm.out.below hb13
  replace Xd : Hid _ := Xd.out.below hb13
  replace D10 : Hid _ := D10.out.below hb13
  replace hbw := Below.on hbw hb13
  clear hb13
  have D13 : Hid (DN v13 s13 p13 m13 m13 xt (mn : Int)) := hd13
  clear hd13
  obtain ⟨cin0, cin1, cin2, cin3, cin4, cin5, fin0, fin1, fin2, fin3, fin4, fin5⟩ := Xin.out
  have hnein : gin < v13.heap.size := World.block_lt_of_cell? v13 _ cin0
  obtain ⟨csm0, fsm0⟩ := Xsm.out
  have hnesm : gsm < v13.heap.size := World.block_lt_of_cell? v13 _ csm0
  obtain ⟨cd0, cd1, cd2, fd0, fd1, fd2⟩ := Xd.out
  have hned : gd < v13.heap.size := World.block_lt_of_cell? v13 _ cd0
  go_wp2_with fail
  clear cin0 cin1 cin2 cin3 cin4 cin5 fin0 fin1 fin2 fin3 fin4 fin5 hnein
  clear csm0 fsm0 hnesm
  clear cd0 cd1 cd2 fd0 fd1 fd2 hned
  have Xt0 : Hid (B3q (v13.alloc (.cells #[.bool s13, .slice p13 m13 m13, .int .i64 xt] 34)) v13.heap.size (.bool s13) (.slice p13 m13 m13) (.int .i64 xt)) := B3q.new v13 _ _ _ _
  have hbn : Below v13.heap.size v13 (v13.alloc (.cells #[.bool s13, .slice p13 m13 m13, .int .i64 xt] 34)) := below1 v13 _
  generalize v13.alloc (.cells #[.bool s13, .slice p13 m13 m13, .int .i64 xt] 34) = Wt at *
  have HGt : Hid (w.heap.size ≤ v13.heap.size) := hbw.size
  replace Xin : Hid _ := Xin.out.below hbn
  replace Xsm : Hid (B1q Wt gsm (.bool false)) := Xsm.out.below hbn
  replace Xd : Hid _ := Xd.out.below hbn
  replace D10 : Hid _ := D10.out.below hbn
  replace D13 : Hid _ := D13.out.below hbn
  replace hbw := Below.on hbw hbn
  clear hbn
  generalize v13.heap.size = gt at *
  have Xt := Xt0
  clear Xt0
  obtain ⟨W14, hW14⟩ : ∃ W1, W1 = Wt.drew := ⟨_, rfl⟩
  have hbd : Below Wt.heap.size Wt W14 := by rw [hW14]; exact bDrew1 (Below.refl _ _)
  replace Xin : Hid _ := Xin.out.below hbd
  replace Xsm : Hid (B1q W14 gsm (.bool false)) := Xsm.out.below hbd
  replace Xd : Hid _ := Xd.out.below hbd
  replace Xt : Hid _ := Xt.out.below hbd
  replace D10 : Hid _ := D10.out.below hbd
  replace D13 : Hid _ := D13.out.below hbd
  replace hbw := Below.on hbw hbd
  clear hbd
  have HJ : Hid ((fun W' : World => W'.cell? ⟨gsm, 0, none⟩ = some (.bool false) ∧ W'.cell? ⟨gd, 0, none⟩ = some (.bool s10) ∧ W'.cell? ⟨gd, 1, none⟩ = some (.slice p10 m10 m10) ∧ W'.cell? ⟨gd, 2, none⟩ = some (.int .i64 ed)) W14) := ⟨Xsm.out.c0, Xd.out.c0, Xd.out.c1, Xd.out.c2⟩
  refine wp_region_J (fun W' => W'.cell? ⟨gsm, 0, none⟩ = some (.bool false) ∧ W'.cell? ⟨gd, 0, none⟩ = some (.bool s10) ∧ W'.cell? ⟨gd, 1, none⟩ = some (.slice p10 m10 m10) ∧ W'.cell? ⟨gd, 2, none⟩ = some (.int .i64 ed)) (by kernel_rfl) ?_
  rw [← hW14]
  clear hW14
  refine wpJ_take (i := 0) (v := ?v11x0) rfl (by kernel_rfl) (by kernel_rfl) (by kernel_rfl) (fun _ _ _ h => h) (by kernel_rfl) ?hy11x0 HJ.out ?rest11x0
  case hy11x0 => (intro W' hJ; obtain ⟨j0, j1, j2, j3⟩ := hJ; go_simp; first | done | with_reducible rfl)
  refine wpJ_take (i := 1) (v := ?v12x1) rfl (by kernel_rfl) (by kernel_rfl) (by kernel_rfl) (fun _ _ _ h => h) (by kernel_rfl) ?hy12x1 HJ.out ?rest12x1
  case hy12x1 => (intro W' hJ; obtain ⟨j0, j1, j2, j3⟩ := hJ; go_simp; first | done | with_reducible rfl)
  refine wpJ_take (i := 2) (v := ?v13x2) rfl (by kernel_rfl) (by kernel_rfl) (by kernel_rfl) (fun _ _ _ h => h) (by kernel_rfl) ?hy13x2 HJ.out ?rest13x2
  case hy13x2 => (intro W' hJ; obtain ⟨j0, j1, j2, j3⟩ := hJ; go_simp; first | done | with_reducible rfl)
  refine wpJ_take (i := 3) (v := ?v14x3) rfl (by kernel_rfl) (by kernel_rfl) (by kernel_rfl) (fun _ _ _ h => h) (by kernel_rfl) ?hy14x3 HJ.out ?rest14x3
  case hy14x3 => (intro W' hJ; obtain ⟨j0, j1, j2, j3⟩ := hJ; go_simp; first | done | with_reducible rfl)
  refine wpJ_take (i := 4) (v := ?v15x4) rfl (by kernel_rfl) (by kernel_rfl) (by kernel_rfl) (fun _ _ _ h => h) (by kernel_rfl) ?hy15x4 HJ.out ?rest15x4
  case hy15x4 => (intro W' hJ; obtain ⟨j0, j1, j2, j3⟩ := hJ; go_simp; first | done | with_reducible rfl)
  go_simp
  refine wpJ_take (i := 5) (v := ?v16x5) rfl (by kernel_rfl) (by kernel_rfl) (by kernel_rfl) (fun _ _ _ h => h) (by kernel_rfl) ?hy16x5 HJ.out ?rest16x5
  case hy16x5 => (intro W' hJ; obtain ⟨j0, j1, j2, j3⟩ := hJ; go_simp; first | done | with_reducible rfl)
  refine wpJ_take (i := 6) (v := ?v17x6) rfl (by kernel_rfl) (by kernel_rfl) (by kernel_rfl) (fun _ _ _ h => h) (by kernel_rfl) ?hy17x6 HJ.out ?rest17x6
  case hy17x6 => (intro W' hJ; obtain ⟨j0, j1, j2, j3⟩ := hJ; go_simp; first | done | with_reducible rfl)
  refine wpJ_take (i := 7) (v := ?v18x7) rfl (by kernel_rfl) (by kernel_rfl) (by kernel_rfl) (fun _ _ _ h => h) (by kernel_rfl) ?hy18x7 HJ.out ?rest18x7
  case hy18x7 => (intro W' hJ; obtain ⟨j0, j1, j2, j3⟩ := hJ; go_simp; first | done | with_reducible rfl)
  refine wpJ_take (i := 8) (v := ?v19x8) rfl (by kernel_rfl) (by kernel_rfl) (by kernel_rfl) (fun _ _ _ h => h) (by kernel_rfl) ?hy19x8 HJ.out ?rest19x8
  case hy19x8 => (intro W' hJ; obtain ⟨j0, j1, j2, j3⟩ := hJ; go_simp; first | done | with_reducible rfl)
  refine wpJ_take (i := 9) (v := ?v20x9) rfl (by kernel_rfl) (by kernel_rfl) (by kernel_rfl) (fun _ _ _ h => h) (by kernel_rfl) ?hy20x9 HJ.out ?rest20x9
  case hy20x9 => (intro W' hJ; obtain ⟨j0, j1, j2, j3⟩ := hJ; go_simp; first | done | with_reducible rfl)
  go_simp
  refine wpJ_take (i := 10) (v := ?v21x10) rfl (by kernel_rfl) (by kernel_rfl) (by kernel_rfl) (fun _ _ _ h => h) (by kernel_rfl) ?hy21x10 HJ.out ?rest21x10
  case hy21x10 => (intro W' hJ; obtain ⟨j0, j1, j2, j3⟩ := hJ; go_simp; first | done | with_reducible rfl)
  refine wpJ_take (i := 11) (v := ?v22x11) rfl (by kernel_rfl) (by kernel_rfl) (by kernel_rfl) (fun _ _ _ h => h) (by kernel_rfl) ?hy22x11 HJ.out ?rest22x11
  case hy22x11 => (intro W' hJ; obtain ⟨j0, j1, j2, j3⟩ := hJ; go_simp; first | done | with_reducible rfl)
  refine wpJ_take (i := 12) (v := ?v23x12) rfl (by kernel_rfl) (by kernel_rfl) (by kernel_rfl) (fun _ _ _ h => h) (by kernel_rfl) ?hy23x12 HJ.out ?rest23x12
  case hy23x12 => (intro W' hJ; obtain ⟨j0, j1, j2, j3⟩ := hJ; go_simp; first | done | with_reducible rfl)
  refine wpJ_take (i := 14) (v := ?v24x14) rfl (by kernel_rfl) (by kernel_rfl) (by kernel_rfl) (fun _ _ _ h => h) (by kernel_rfl) ?hy24x14 HJ.out ?rest24x14
  case hy24x14 => (intro W' hJ; obtain ⟨j0, j1, j2, j3⟩ := hJ; go_simp; first | done | with_reducible rfl)
  refine wpJ_take (i := 15) (v := ?v25x15) rfl (by kernel_rfl) (by kernel_rfl) (by kernel_rfl) (fun _ _ _ h => h) (by kernel_rfl) ?hy25x15 HJ.out ?rest25x15
  case hy25x15 => (intro W' hJ; obtain ⟨j0, j1, j2, j3⟩ := hJ; go_simp; first | done | with_reducible rfl)
  go_simp
  refine wpJ_take (i := 16) (v := ?v26x16) rfl (by kernel_rfl) (by kernel_rfl) (by kernel_rfl) (fun _ _ _ h => h) (by kernel_rfl) ?hy26x16 HJ.out ?rest26x16
  case hy26x16 => (intro W' hJ; obtain ⟨j0, j1, j2, j3⟩ := hJ; go_simp; first | done | with_reducible rfl)
  refine wpJ_one (i := 13) (by kernel_rfl) rfl (by kernel_rfl) (fun KJ hK => ?_)
  go_simp
  refine (HLN.out.sb r _ HR.out.2.2.1).mono ?_
  rintro e v14 ⟨rfl, hb14⟩
  rw [HSG.out]
  replace Xin : Hid _ := Xin.out.below hb14
  replace Xsm : Hid (B1q v14 gsm (.bool false)) := Xsm.out.below hb14
  replace Xd : Hid _ := Xd.out.below hb14
  replace Xt : Hid _ := Xt.out.below hb14
  replace D10 : Hid _ := D10.out.below hb14
  replace D13 : Hid _ := D13.out.below hb14
  replace hbw := Below.on hbw hb14
  clear hb14
  clear HJ
  have HJ : Hid ((fun W' : World => W'.cell? ⟨gsm, 0, none⟩ = some (.bool false) ∧ W'.cell? ⟨gd, 0, none⟩ = some (.bool s10) ∧ W'.cell? ⟨gd, 1, none⟩ = some (.slice p10 m10 m10) ∧ W'.cell? ⟨gd, 2, none⟩ = some (.int .i64 ed)) v14) := ⟨Xsm.out.c0, Xd.out.c0, Xd.out.c1, Xd.out.c2⟩
  refine hK _ _ HJ.out ?_
  clear hK
  refine wpJ_take (i := 17) (v := ?v27x17) rfl (by kernel_rfl) (by kernel_rfl) (by kernel_rfl) (fun _ _ _ h => h) (by kernel_rfl) ?hy27x17 HJ.out ?rest27x17
  case hy27x17 => (intro W' hJ; obtain ⟨j0, j1, j2, j3⟩ := hJ; go_simp; first | done | with_reducible rfl)
  refine wpJ_take (i := 18) (v := ?v28x18) rfl (by kernel_rfl) (by kernel_rfl) (by kernel_rfl) (fun _ _ _ h => h) (by kernel_rfl) ?hy28x18 HJ.out ?rest28x18
  case hy28x18 => (intro W' hJ; obtain ⟨j0, j1, j2, j3⟩ := hJ; go_simp; first | done | with_reducible rfl)
  refine wpJ_done (by kernel_rfl) ?_ _
  clear HJ
  have kk : (s10 != s10) = false := by cases s10 <;> rfl
  obtain ⟨cin0, cin1, cin2, cin3, cin4, cin5, fin0, fin1, fin2, fin3, fin4, fin5⟩ := Xin.out
  have hnein : gin < v14.heap.size := World.block_lt_of_cell? v14 _ cin0
  obtain ⟨csm0, fsm0⟩ := Xsm.out
  have hnesm : gsm < v14.heap.size := World.block_lt_of_cell? v14 _ csm0
  obtain ⟨cd0, cd1, cd2, fd0, fd1, fd2⟩ := Xd.out
  have hned : gd < v14.heap.size := World.block_lt_of_cell? v14 _ cd0
  obtain ⟨ct0, ct1, ct2, ft0, ft1, ft2⟩ := Xt.out
  have hnet : gt < v14.heap.size := World.block_lt_of_cell? v14 _ ct0
  go_wp2_with fail
  clear cin0 cin1 cin2 cin3 cin4 cin5 fin0 fin1 fin2 fin3 fin4 fin5 hnein
  clear csm0 fsm0 hnesm
  clear cd0 cd1 cd2 fd0 fd1 fd2 hned
  clear ct0 ct1 ct2 ft0 ft1 ft2 hnet
  obtain ⟨cn, hcn⟩ : ∃ cn, cn = clsN H I (r % S) := ⟨_, rfl⟩
  have HCN : Hid (clsN H I (r % S) = cn) := hcn.symm
  have hc4 : cn ≠ 4 := by
    rw [hcn, HR.out.2.2.2]
    have := HR.out.2.1
    unfold clsN
    split
    · omega
    · split
      · omega
      · split
        · omega
        · rw [if_pos (by omega)]; omega
  have k4 : (cn == 4) = false := by simp [hc4]
  have k5 : (cn != 4) = true := by simp [hc4]
  have HC3 : Hid ((cn = 3) ↔ Z = I) := by
    show (cn = 3) ↔ Z = I
    rw [hcn, HR.out.2.2.2]
    have := HR.out.2.1
    have hp := HJN.out.jm.pm.h2
    have hp2 := HJN.out.jm.pm.hp
    unfold clsN
    split
    · omega
    · split
      · omega
      · split
        · omega
        · rw [if_pos (by omega)]; omega
  clear hcn hc4
  refine (HJN.out.cl r _ HR.out.2.2.1).mono ?_
  rintro e v15 ⟨rfl, hb15⟩
  rw [HCN.out]
  replace Xin : Hid _ := Xin.out.below hb15
  replace Xsm : Hid (B1q v15 gsm (.bool false)) := Xsm.out.below hb15
  replace Xd : Hid _ := Xd.out.below hb15
  replace Xt : Hid _ := Xt.out.below hb15
  replace D10 : Hid _ := D10.out.below hb15
  replace D13 : Hid _ := D13.out.below hb15
  replace hbw := Below.on hbw hb15
  clear hb15
  obtain ⟨cin0, cin1, cin2, cin3, cin4, cin5, fin0, fin1, fin2, fin3, fin4, fin5⟩ := Xin.out
  have hnein : gin < v15.heap.size := World.block_lt_of_cell? v15 _ cin0
  obtain ⟨csm0, fsm0⟩ := Xsm.out
  have hnesm : gsm < v15.heap.size := World.block_lt_of_cell? v15 _ csm0
  obtain ⟨cd0, cd1, cd2, fd0, fd1, fd2⟩ := Xd.out
  have hned : gd < v15.heap.size := World.block_lt_of_cell? v15 _ cd0
  obtain ⟨ct0, ct1, ct2, ft0, ft1, ft2⟩ := Xt.out
  have hnet : gt < v15.heap.size := World.block_lt_of_cell? v15 _ ct0
  go_wp2_with fail
  clear cin0 cin1 cin2 cin3 cin4 cin5 fin0 fin1 fin2 fin3 fin4 fin5 hnein
  clear csm0 fsm0 hnesm
  clear cd0 cd1 cd2 fd0 fd1 fd2 hned
  clear ct0 ct1 ct2 ft0 ft1 ft2 hnet
  by_cases hZ : Z = I
  · obtain rfl : cn = 3 := HC3.out.2 hZ
    have HBE : Hid (dv (mn : Int) xt ≤ dv (zd.natAbs : Int) ed) := by show _ ≤ _; rw [HTF.out.2.2.2]; exact (HR.out.1.beyond HIS.out.2.2.2 HLN.out.ev).1 hZ
    clear hZ k4 k5
    obtain ⟨W16, hW16⟩ : ∃ W1, W1 = v15.drew := ⟨_, rfl⟩
    have hbd : Below v15.heap.size v15 W16 := by rw [hW16]; exact bDrew1 (Below.refl _ _)
    replace Xin : Hid _ := Xin.out.below hbd
    replace Xsm : Hid (B1q W16 gsm (.bool false)) := Xsm.out.below hbd
    replace Xd : Hid _ := Xd.out.below hbd
    replace Xt : Hid _ := Xt.out.below hbd
    replace D10 : Hid _ := D10.out.below hbd
    replace D13 : Hid _ := D13.out.below hbd
    replace hbw := Below.on hbw hbd
    clear hbd
    have HJ : Hid ((fun W' : World => W'.cell? ⟨gd, 0, none⟩ = some (.bool s10) ∧ W'.cell? ⟨gd, 1, none⟩ = some (.slice p10 m10 m10) ∧ W'.cell? ⟨gd, 2, none⟩ = some (.int .i64 ed) ∧ W'.cell? ⟨gt, 0, none⟩ = some (.bool s13) ∧ W'.cell? ⟨gt, 1, none⟩ = some (.slice p13 m13 m13) ∧ W'.cell? ⟨gt, 2, none⟩ = some (.int .i64 xt)) W16) := ⟨Xd.out.c0, Xd.out.c1, Xd.out.c2, Xt.out.c0, Xt.out.c1, Xt.out.c2⟩
    refine wp_region_J (fun W' => W'.cell? ⟨gd, 0, none⟩ = some (.bool s10) ∧ W'.cell? ⟨gd, 1, none⟩ = some (.slice p10 m10 m10) ∧ W'.cell? ⟨gd, 2, none⟩ = some (.int .i64 ed) ∧ W'.cell? ⟨gt, 0, none⟩ = some (.bool s13) ∧ W'.cell? ⟨gt, 1, none⟩ = some (.slice p13 m13 m13) ∧ W'.cell? ⟨gt, 2, none⟩ = some (.int .i64 xt)) (by kernel_rfl) ?_
    rw [← hW16]
    clear hW16
    refine wpJ_take (i := 0) (v := ?v29x0) rfl (by kernel_rfl) (by kernel_rfl) (by kernel_rfl) (fun _ _ _ h => h) (by kernel_rfl) ?hy29x0 HJ.out ?rest29x0
    case hy29x0 => (intro W' hJ; obtain ⟨j0, j1, j2, j3, j4, j5⟩ := hJ; go_simp; first | done | with_reducible rfl)
    refine wpJ_take (i := 2) (v := ?v30x2) rfl (by kernel_rfl) (by kernel_rfl) (by kernel_rfl) (fun _ _ _ h => h) (by kernel_rfl) ?hy30x2 HJ.out ?rest30x2
    case hy30x2 => (intro W' hJ; obtain ⟨j0, j1, j2, j3, j4, j5⟩ := hJ; go_simp; first | done | with_reducible rfl)
    refine wpJ_one (i := 1) (by kernel_rfl) rfl (by kernel_rfl) (fun KJ hK => ?_)
    go_simp
    refine (ssize D10.out).mono ?_
    rintro e9 v16 ⟨s16, p16, m16, c16, rfl, hd, hb16⟩
    replace Xin : Hid _ := Xin.out.below hb16
    replace Xsm : Hid (B1q v16 gsm (.bool false)) := Xsm.out.below hb16
    replace Xd : Hid _ := Xd.out.below hb16
    replace Xt : Hid _ := Xt.out.below hb16
    replace D10 : Hid _ := D10.out.below hb16
    replace D13 : Hid _ := D13.out.below hb16
    replace hbw := Below.on hbw hb16
    clear hb16
    have D16 : Hid (DN v16 s16 p16 m16 c16 ed (zd.natAbs : Int)) := hd
    clear hd
    refine hK _ _ ⟨Xd.out.c0, Xd.out.c1, Xd.out.c2, Xt.out.c0, Xt.out.c1, Xt.out.c2⟩ ?_
    clear hK
    refine wpJ_one (i := 3) (by kernel_rfl) rfl (by kernel_rfl) (fun KJ hK => ?_)
    go_simp
    refine (scmp D16.out D13.out).mono ?_
    rintro e v17 ⟨rfl, hb17⟩
    obtain ⟨cc, hcc⟩ : ∃ cc, cc = cmpI (dv (zd.natAbs : Int) ed) (dv (mn : Int) xt) := ⟨_, rfl⟩
    rw [← hcc]
    have kc : decide (0 ≤ cc) = true := by
      have h9 := HBE.out
      refine decide_eq_true ?_
      rw [hcc]; unfold cmpI; split
      · omega
      · split <;> omega
    clear hcc
    replace Xin : Hid _ := Xin.out.below hb17
    replace Xsm : Hid (B1q v17 gsm (.bool false)) := Xsm.out.below hb17
    replace Xd : Hid _ := Xd.out.below hb17
    replace Xt : Hid _ := Xt.out.below hb17
    replace D10 : Hid _ := D10.out.below hb17
    replace D13 : Hid _ := D13.out.below hb17
    replace D16 : Hid _ := D16.out.below hb17
    replace hbw := Below.on hbw hb17
    clear hb17
    clear HJ
    have HJ : Hid ((fun W' : World => W'.cell? ⟨gd, 0, none⟩ = some (.bool s10) ∧ W'.cell? ⟨gd, 1, none⟩ = some (.slice p10 m10 m10) ∧ W'.cell? ⟨gd, 2, none⟩ = some (.int .i64 ed) ∧ W'.cell? ⟨gt, 0, none⟩ = some (.bool s13) ∧ W'.cell? ⟨gt, 1, none⟩ = some (.slice p13 m13 m13) ∧ W'.cell? ⟨gt, 2, none⟩ = some (.int .i64 xt)) v17) := ⟨Xd.out.c0, Xd.out.c1, Xd.out.c2, Xt.out.c0, Xt.out.c1, Xt.out.c2⟩
    refine hK _ _ HJ.out ?_
    clear hK
    refine wpJ_take (i := 4) (v := ?v31x4) rfl (by kernel_rfl) (by kernel_rfl) (by kernel_rfl) (fun _ _ _ h => h) (by kernel_rfl) ?hy31x4 HJ.out ?rest31x4
    case hy31x4 => (intro W' hJ; obtain ⟨j0, j1, j2, j3, j4, j5⟩ := hJ; go_simp; first | done | with_reducible rfl)
    refine wpJ_take (i := 5) (v := ?v32x5) rfl (by kernel_rfl) (by kernel_rfl) (by kernel_rfl) (fun _ _ _ h => h) (by kernel_rfl) ?hy32x5 HJ.out ?rest32x5
    case hy32x5 => (intro W' hJ; obtain ⟨j0, j1, j2, j3, j4, j5⟩ := hJ; go_simp; first | done | with_reducible rfl)
    refine wpJ_done (by kernel_rfl) ?_ _
    clear HJ
    clear D16
    obtain ⟨cin0, cin1, cin2, cin3, cin4, cin5, fin0, fin1, fin2, fin3, fin4, fin5⟩ := Xin.out
    have hnein : gin < v17.heap.size := World.block_lt_of_cell? v17 _ cin0
    obtain ⟨csm0, fsm0⟩ := Xsm.out
    have hnesm : gsm < v17.heap.size := World.block_lt_of_cell? v17 _ csm0
    obtain ⟨cd0, cd1, cd2, fd0, fd1, fd2⟩ := Xd.out
    have hned : gd < v17.heap.size := World.block_lt_of_cell? v17 _ cd0
    obtain ⟨ct0, ct1, ct2, ft0, ft1, ft2⟩ := Xt.out
    have hnet : gt < v17.heap.size := World.block_lt_of_cell? v17 _ ct0
    go_wp2_with fail
    clear cin0 cin1 cin2 cin3 cin4 cin5 fin0 fin1 fin2 fin3 fin4 fin5 hnein
    clear csm0 fsm0 hnesm
    clear cd0 cd1 cd2 fd0 fd1 fd2 hned
    clear ct0 ct1 ct2 ft0 ft1 ft2 hnet
    obtain ⟨W18, hW18⟩ : ∃ W1, W1 = v17.drew := ⟨_, rfl⟩
    have hbd : Below v17.heap.size v17 W18 := by rw [hW18]; exact bDrew1 (Below.refl _ _)
    replace Xin : Hid _ := Xin.out.below hbd
    replace Xsm : Hid (B1q W18 gsm (.bool false)) := Xsm.out.below hbd
    replace Xd : Hid _ := Xd.out.below hbd
    replace Xt : Hid _ := Xt.out.below hbd
    replace D10 : Hid _ := D10.out.below hbd
    replace D13 : Hid _ := D13.out.below hbd
    replace hbw := Below.on hbw hbd
    clear hbd
    have HJ : Hid ((fun W' : World => W'.cell? ⟨gd, 0, none⟩ = some (.bool s10) ∧ W'.cell? ⟨gd, 1, none⟩ = some (.slice p10 m10 m10) ∧ W'.cell? ⟨gd, 2, none⟩ = some (.int .i64 ed) ∧ W'.cell? ⟨gin, 0, none⟩ = some (.bool single) ∧ W'.cell? ⟨gin, 1, none⟩ = some (.int .i64 hi) ∧ W'.cell? ⟨gin, 2, none⟩ = some (U lo) ∧ W'.cell? ⟨gin, 3, none⟩ = some (.int .i64 ex) ∧ W'.cell? ⟨gin, 4, none⟩ = some (U mo) ∧ W'.cell? ⟨gin, 5, none⟩ = some (U c)) W18) := ⟨Xd.out.c0, Xd.out.c1, Xd.out.c2, Xin.out.c0, Xin.out.c1, Xin.out.c2, Xin.out.c3, Xin.out.c4, Xin.out.c5⟩
    refine wp_region_J (fun W' => W'.cell? ⟨gd, 0, none⟩ = some (.bool s10) ∧ W'.cell? ⟨gd, 1, none⟩ = some (.slice p10 m10 m10) ∧ W'.cell? ⟨gd, 2, none⟩ = some (.int .i64 ed) ∧ W'.cell? ⟨gin, 0, none⟩ = some (.bool single) ∧ W'.cell? ⟨gin, 1, none⟩ = some (.int .i64 hi) ∧ W'.cell? ⟨gin, 2, none⟩ = some (U lo) ∧ W'.cell? ⟨gin, 3, none⟩ = some (.int .i64 ex) ∧ W'.cell? ⟨gin, 4, none⟩ = some (U mo) ∧ W'.cell? ⟨gin, 5, none⟩ = some (U c)) (by kernel_rfl) ?_
    rw [← hW18]
    clear hW18
    refine wpJ_take (i := 0) (v := ?v33x0) rfl (by kernel_rfl) (by kernel_rfl) (by kernel_rfl) (fun _ _ _ h => h) (by kernel_rfl) ?hy33x0 HJ.out ?rest33x0
    case hy33x0 => (intro W' hJ; obtain ⟨j0, j1, j2, j3, j4, j5, j6, j7, j8⟩ := hJ; go_simp; first | done | with_reducible rfl)
    refine wpJ_take (i := 1) (v := ?v34x1) rfl (by kernel_rfl) (by kernel_rfl) (by kernel_rfl) (fun _ _ _ h => h) (by kernel_rfl) ?hy34x1 HJ.out ?rest34x1
    case hy34x1 => (intro W' hJ; obtain ⟨j0, j1, j2, j3, j4, j5, j6, j7, j8⟩ := hJ; go_simp; first | done | with_reducible rfl)
    refine wpJ_take (i := 2) (v := ?v35x2) rfl (by kernel_rfl) (by kernel_rfl) (by kernel_rfl) (fun _ _ _ h => h) (by kernel_rfl) ?hy35x2 HJ.out ?rest35x2
    case hy35x2 => (intro W' hJ; obtain ⟨j0, j1, j2, j3, j4, j5, j6, j7, j8⟩ := hJ; go_simp; first | done | with_reducible rfl)
    go_simp
    refine wpJ_skip (i := 3) rfl (by kernel_rfl) (by kernel_rfl) (by kernel_rfl) (fun _ _ _ h => h) (by kernel_rfl) HJ.out ?_
    refine wpJ_skip (i := 4) rfl (by kernel_rfl) (by kernel_rfl) (by kernel_rfl) (fun _ _ _ h => h) (by kernel_rfl) HJ.out ?_
    refine wpJ_skip (i := 5) rfl (by kernel_rfl) (by kernel_rfl) (by kernel_rfl) (fun _ _ _ h => h) (by kernel_rfl) HJ.out ?_
    go_simp
    refine wpJ_skip (i := 6) rfl (by kernel_rfl) (by kernel_rfl) (by kernel_rfl) (fun _ _ _ h => h) (by kernel_rfl) HJ.out ?_
    refine wpJ_skip (i := 7) rfl (by kernel_rfl) (by kernel_rfl) (by kernel_rfl) (fun _ _ _ h => h) (by kernel_rfl) HJ.out ?_
    refine wpJ_skip (i := 8) rfl (by kernel_rfl) (by kernel_rfl) (by kernel_rfl) (fun _ _ _ h => h) (by kernel_rfl) HJ.out ?_
    go_simp
    refine wpJ_skip (i := 9) rfl (by kernel_rfl) (by kernel_rfl) (by kernel_rfl) (fun _ _ _ h => h) (by kernel_rfl) HJ.out ?_
    refine wpJ_skip (i := 10) rfl (by kernel_rfl) (by kernel_rfl) (by kernel_rfl) (fun _ _ _ h => h) (by kernel_rfl) HJ.out ?_
    refine wpJ_skip (i := 11) rfl (by kernel_rfl) (by kernel_rfl) (by kernel_rfl) (fun _ _ _ h => h) (by kernel_rfl) HJ.out ?_
    go_simp
    refine wpJ_take (i := 12) (v := ?v36x12) rfl (by kernel_rfl) (by kernel_rfl) (by kernel_rfl) (fun _ _ _ h => h) (by kernel_rfl) ?hy36x12 HJ.out ?rest36x12
    case hy36x12 => (intro W' hJ; obtain ⟨j0, j1, j2, j3, j4, j5, j6, j7, j8⟩ := hJ; go_simp; first | done | with_reducible rfl)
    refine wpJ_done (by kernel_rfl) ?_ _
    clear HJ
    obtain ⟨cin0, cin1, cin2, cin3, cin4, cin5, fin0, fin1, fin2, fin3, fin4, fin5⟩ := Xin.out
    have hnein : gin < W18.heap.size := World.block_lt_of_cell? W18 _ cin0
    obtain ⟨csm0, fsm0⟩ := Xsm.out
    have hnesm : gsm < W18.heap.size := World.block_lt_of_cell? W18 _ csm0
    obtain ⟨cd0, cd1, cd2, fd0, fd1, fd2⟩ := Xd.out
    have hned : gd < W18.heap.size := World.block_lt_of_cell? W18 _ cd0
    obtain ⟨ct0, ct1, ct2, ft0, ft1, ft2⟩ := Xt.out
    have hnet : gt < W18.heap.size := World.block_lt_of_cell? W18 _ ct0
    go_wp2_with fail
    clear cin0 cin1 cin2 cin3 cin4 cin5 fin0 fin1 fin2 fin3 fin4 fin5 hnein
    clear csm0 fsm0 hnesm
    clear cd0 cd1 cd2 fd0 fd1 fd2 hned
    clear ct0 ct1 ct2 ft0 ft1 ft2 hnet
    refine (decided_n HJN.out D10.out HDB.out mo HIN.out.2.2 (TB.out.below hbw)).mono ?_
    rintro e v20 ⟨rfl, hb20⟩
    replace Xin : Hid _ := Xin.out.below hb20
    replace Xsm : Hid (B1q v20 gsm (.bool false)) := Xsm.out.below hb20
    replace Xd : Hid _ := Xd.out.below hb20
    replace Xt : Hid _ := Xt.out.below hb20
    replace D10 : Hid _ := D10.out.below hb20
    replace D13 : Hid _ := D13.out.below hb20
    replace hbw := Below.on hbw hb20
    clear hb20
    obtain ⟨csm0, fsm0⟩ := Xsm.out
    have hnesm : gsm < v20.heap.size := World.block_lt_of_cell? v20 _ csm0
    go_wp2_with fail
    clear csm0 fsm0 hnesm
    go_ret
    exact ⟨rfl, hbw⟩
  · have n3 : ¬ cn = 3 := fun h => hZ (HC3.out.1 h)
    have k6 : (cn == 3) = false := by simp [n3]
    have HBE : Hid (dv (zd.natAbs : Int) ed < dv (mn : Int) xt) := by
      show _ < _
      rw [HTF.out.2.2.2]
      exact Int.not_le.1 fun h => hZ ((HR.out.1.beyond HIS.out.2.2.2 HLN.out.ev).2 h)
    have HZL : Hid (r % S < I) := by show _ < _; rw [HR.out.2.2.2]; have := HR.out.2.1; omega
    clear hZ n3
    obtain ⟨W16, hW16⟩ : ∃ W1, W1 = v15.drew := ⟨_, rfl⟩
    have hbd : Below v15.heap.size v15 W16 := by rw [hW16]; exact bDrew1 (Below.refl _ _)
    replace Xin : Hid _ := Xin.out.below hbd
    replace Xsm : Hid (B1q W16 gsm (.bool false)) := Xsm.out.below hbd
    replace Xd : Hid _ := Xd.out.below hbd
    replace Xt : Hid _ := Xt.out.below hbd
    replace D10 : Hid _ := D10.out.below hbd
    replace D13 : Hid _ := D13.out.below hbd
    replace hbw := Below.on hbw hbd
    clear hbd
    have HJ : Hid ((fun W' : World => W'.cell? ⟨gd, 0, none⟩ = some (.bool s10) ∧ W'.cell? ⟨gd, 1, none⟩ = some (.slice p10 m10 m10) ∧ W'.cell? ⟨gd, 2, none⟩ = some (.int .i64 ed) ∧ W'.cell? ⟨gt, 0, none⟩ = some (.bool s13) ∧ W'.cell? ⟨gt, 1, none⟩ = some (.slice p13 m13 m13) ∧ W'.cell? ⟨gt, 2, none⟩ = some (.int .i64 xt)) W16) := ⟨Xd.out.c0, Xd.out.c1, Xd.out.c2, Xt.out.c0, Xt.out.c1, Xt.out.c2⟩
    refine wp_region_J (fun W' => W'.cell? ⟨gd, 0, none⟩ = some (.bool s10) ∧ W'.cell? ⟨gd, 1, none⟩ = some (.slice p10 m10 m10) ∧ W'.cell? ⟨gd, 2, none⟩ = some (.int .i64 ed) ∧ W'.cell? ⟨gt, 0, none⟩ = some (.bool s13) ∧ W'.cell? ⟨gt, 1, none⟩ = some (.slice p13 m13 m13) ∧ W'.cell? ⟨gt, 2, none⟩ = some (.int .i64 xt)) (by kernel_rfl) ?_
    rw [← hW16]
    clear hW16
    refine wpJ_take (i := 0) (v := ?v37x0) rfl (by kernel_rfl) (by kernel_rfl) (by kernel_rfl) (fun _ _ _ h => h) (by kernel_rfl) ?hy37x0 HJ.out ?rest37x0
    case hy37x0 => (intro W' hJ; obtain ⟨j0, j1, j2, j3, j4, j5⟩ := hJ; go_simp; first | done | with_reducible rfl)
    refine wpJ_take (i := 2) (v := ?v38x2) rfl (by kernel_rfl) (by kernel_rfl) (by kernel_rfl) (fun _ _ _ h => h) (by kernel_rfl) ?hy38x2 HJ.out ?rest38x2
    case hy38x2 => (intro W' hJ; obtain ⟨j0, j1, j2, j3, j4, j5⟩ := hJ; go_simp; first | done | with_reducible rfl)
    refine wpJ_one (i := 1) (by kernel_rfl) rfl (by kernel_rfl) (fun KJ hK => ?_)
    go_simp
    refine (ssize D10.out).mono ?_
    rintro e9 v16 ⟨s16, p16, m16, c16, rfl, hd, hb16⟩
    replace Xin : Hid _ := Xin.out.below hb16
    replace Xsm : Hid (B1q v16 gsm (.bool false)) := Xsm.out.below hb16
    replace Xd : Hid _ := Xd.out.below hb16
    replace Xt : Hid _ := Xt.out.below hb16
    replace D10 : Hid _ := D10.out.below hb16
    replace D13 : Hid _ := D13.out.below hb16
    replace hbw := Below.on hbw hb16
    clear hb16
    have D16 : Hid (DN v16 s16 p16 m16 c16 ed (zd.natAbs : Int)) := hd
    clear hd
    refine hK _ _ ⟨Xd.out.c0, Xd.out.c1, Xd.out.c2, Xt.out.c0, Xt.out.c1, Xt.out.c2⟩ ?_
    clear hK
    refine wpJ_one (i := 3) (by kernel_rfl) rfl (by kernel_rfl) (fun KJ hK => ?_)
    go_simp
    refine (scmp D16.out D13.out).mono ?_
    rintro e v17 ⟨rfl, hb17⟩
    obtain ⟨cc, hcc⟩ : ∃ cc, cc = cmpI (dv (zd.natAbs : Int) ed) (dv (mn : Int) xt) := ⟨_, rfl⟩
    rw [← hcc]
    obtain rfl : cc = -1 := by rw [hcc]; exact cmp_l HBE.out
    clear hcc
    replace Xin : Hid _ := Xin.out.below hb17
    replace Xsm : Hid (B1q v17 gsm (.bool false)) := Xsm.out.below hb17
    replace Xd : Hid _ := Xd.out.below hb17
    replace Xt : Hid _ := Xt.out.below hb17
    replace D10 : Hid _ := D10.out.below hb17
    replace D13 : Hid _ := D13.out.below hb17
    replace D16 : Hid _ := D16.out.below hb17
    replace hbw := Below.on hbw hb17
    clear hb17
    clear HJ
    have HJ : Hid ((fun W' : World => W'.cell? ⟨gd, 0, none⟩ = some (.bool s10) ∧ W'.cell? ⟨gd, 1, none⟩ = some (.slice p10 m10 m10) ∧ W'.cell? ⟨gd, 2, none⟩ = some (.int .i64 ed) ∧ W'.cell? ⟨gt, 0, none⟩ = some (.bool s13) ∧ W'.cell? ⟨gt, 1, none⟩ = some (.slice p13 m13 m13) ∧ W'.cell? ⟨gt, 2, none⟩ = some (.int .i64 xt)) v17) := ⟨Xd.out.c0, Xd.out.c1, Xd.out.c2, Xt.out.c0, Xt.out.c1, Xt.out.c2⟩
    refine hK _ _ HJ.out ?_
    clear hK
    refine wpJ_take (i := 4) (v := ?v39x4) rfl (by kernel_rfl) (by kernel_rfl) (by kernel_rfl) (fun _ _ _ h => h) (by kernel_rfl) ?hy39x4 HJ.out ?rest39x4
    case hy39x4 => (intro W' hJ; obtain ⟨j0, j1, j2, j3, j4, j5⟩ := hJ; go_simp; first | done | with_reducible rfl)
    refine wpJ_take (i := 5) (v := ?v40x5) rfl (by kernel_rfl) (by kernel_rfl) (by kernel_rfl) (fun _ _ _ h => h) (by kernel_rfl) ?hy40x5 HJ.out ?rest40x5
    case hy40x5 => (intro W' hJ; obtain ⟨j0, j1, j2, j3, j4, j5⟩ := hJ; go_simp; first | done | with_reducible rfl)
    refine wpJ_done (by kernel_rfl) ?_ _
    clear HJ
    clear D16
    obtain ⟨cin0, cin1, cin2, cin3, cin4, cin5, fin0, fin1, fin2, fin3, fin4, fin5⟩ := Xin.out
    have hnein : gin < v17.heap.size := World.block_lt_of_cell? v17 _ cin0
    obtain ⟨csm0, fsm0⟩ := Xsm.out
    have hnesm : gsm < v17.heap.size := World.block_lt_of_cell? v17 _ csm0
    obtain ⟨cd0, cd1, cd2, fd0, fd1, fd2⟩ := Xd.out
    have hned : gd < v17.heap.size := World.block_lt_of_cell? v17 _ cd0
    obtain ⟨ct0, ct1, ct2, ft0, ft1, ft2⟩ := Xt.out
    have hnet : gt < v17.heap.size := World.block_lt_of_cell? v17 _ ct0
    go_wp2_with fail
    clear cin0 cin1 cin2 cin3 cin4 cin5 fin0 fin1 fin2 fin3 fin4 fin5 hnein
    clear csm0 fsm0 hnesm
    clear cd0 cd1 cd2 fd0 fd1 fd2 hned
    clear ct0 ct1 ct2 ft0 ft1 ft2 hnet
    obtain ⟨W18, hW18⟩ : ∃ W1, W1 = v17.drew := ⟨_, rfl⟩
    have hbd : Below v17.heap.size v17 W18 := by rw [hW18]; exact bDrew1 (Below.refl _ _)
    replace Xin : Hid _ := Xin.out.below hbd
    replace Xsm : Hid (B1q W18 gsm (.bool false)) := Xsm.out.below hbd
    replace Xd : Hid _ := Xd.out.below hbd
    replace Xt : Hid _ := Xt.out.below hbd
    replace D10 : Hid _ := D10.out.below hbd
    replace D13 : Hid _ := D13.out.below hbd
    replace hbw := Below.on hbw hbd
    clear hbd
    have HJ : Hid ((fun W' : World => W'.cell? ⟨gd, 0, none⟩ = some (.bool s10) ∧ W'.cell? ⟨gd, 1, none⟩ = some (.slice p10 m10 m10) ∧ W'.cell? ⟨gd, 2, none⟩ = some (.int .i64 ed) ∧ W'.cell? ⟨gin, 0, none⟩ = some (.bool single) ∧ W'.cell? ⟨gin, 1, none⟩ = some (.int .i64 hi) ∧ W'.cell? ⟨gin, 2, none⟩ = some (U lo) ∧ W'.cell? ⟨gin, 3, none⟩ = some (.int .i64 ex) ∧ W'.cell? ⟨gin, 4, none⟩ = some (U mo) ∧ W'.cell? ⟨gin, 5, none⟩ = some (U c)) W18) := ⟨Xd.out.c0, Xd.out.c1, Xd.out.c2, Xin.out.c0, Xin.out.c1, Xin.out.c2, Xin.out.c3, Xin.out.c4, Xin.out.c5⟩
    refine wp_region_J (fun W' => W'.cell? ⟨gd, 0, none⟩ = some (.bool s10) ∧ W'.cell? ⟨gd, 1, none⟩ = some (.slice p10 m10 m10) ∧ W'.cell? ⟨gd, 2, none⟩ = some (.int .i64 ed) ∧ W'.cell? ⟨gin, 0, none⟩ = some (.bool single) ∧ W'.cell? ⟨gin, 1, none⟩ = some (.int .i64 hi) ∧ W'.cell? ⟨gin, 2, none⟩ = some (U lo) ∧ W'.cell? ⟨gin, 3, none⟩ = some (.int .i64 ex) ∧ W'.cell? ⟨gin, 4, none⟩ = some (U mo) ∧ W'.cell? ⟨gin, 5, none⟩ = some (U c)) (by kernel_rfl) ?_
    rw [← hW18]
    clear hW18
    refine wpJ_take (i := 0) (v := ?v41x0) rfl (by kernel_rfl) (by kernel_rfl) (by kernel_rfl) (fun _ _ _ h => h) (by kernel_rfl) ?hy41x0 HJ.out ?rest41x0
    case hy41x0 => (intro W' hJ; obtain ⟨j0, j1, j2, j3, j4, j5, j6, j7, j8⟩ := hJ; go_simp; first | done | with_reducible rfl)
    refine wpJ_take (i := 1) (v := ?v42x1) rfl (by kernel_rfl) (by kernel_rfl) (by kernel_rfl) (fun _ _ _ h => h) (by kernel_rfl) ?hy42x1 HJ.out ?rest42x1
    case hy42x1 => (intro W' hJ; obtain ⟨j0, j1, j2, j3, j4, j5, j6, j7, j8⟩ := hJ; go_simp; first | done | with_reducible rfl)
    refine wpJ_take (i := 2) (v := ?v43x2) rfl (by kernel_rfl) (by kernel_rfl) (by kernel_rfl) (fun _ _ _ h => h) (by kernel_rfl) ?hy43x2 HJ.out ?rest43x2
    case hy43x2 => (intro W' hJ; obtain ⟨j0, j1, j2, j3, j4, j5, j6, j7, j8⟩ := hJ; go_simp; first | done | with_reducible rfl)
    go_simp
    refine wpJ_take (i := 3) (v := ?v44x3) rfl (by kernel_rfl) (by kernel_rfl) (by kernel_rfl) (fun _ _ _ h => h) (by kernel_rfl) ?hy44x3 HJ.out ?rest44x3
    case hy44x3 => (intro W' hJ; obtain ⟨j0, j1, j2, j3, j4, j5, j6, j7, j8⟩ := hJ; go_simp; first | done | with_reducible rfl)
    refine wpJ_take (i := 4) (v := ?v45x4) rfl (by kernel_rfl) (by kernel_rfl) (by kernel_rfl) (fun _ _ _ h => h) (by kernel_rfl) ?hy45x4 HJ.out ?rest45x4
    case hy45x4 => (intro W' hJ; obtain ⟨j0, j1, j2, j3, j4, j5, j6, j7, j8⟩ := hJ; go_simp; first | done | with_reducible rfl)
    refine wpJ_take (i := 5) (v := ?v46x5) rfl (by kernel_rfl) (by kernel_rfl) (by kernel_rfl) (fun _ _ _ h => h) (by kernel_rfl) ?hy46x5 HJ.out ?rest46x5
    case hy46x5 => (intro W' hJ; obtain ⟨j0, j1, j2, j3, j4, j5, j6, j7, j8⟩ := hJ; go_simp; first | done | with_reducible rfl)
    go_simp
    refine wpJ_take (i := 6) (v := ?v47x6) rfl (by kernel_rfl) (by kernel_rfl) (by kernel_rfl) (fun _ _ _ h => h) (by kernel_rfl) ?hy47x6 HJ.out ?rest47x6
    case hy47x6 => (intro W' hJ; obtain ⟨j0, j1, j2, j3, j4, j5, j6, j7, j8⟩ := hJ; go_simp; first | done | with_reducible rfl)
    refine wpJ_take (i := 7) (v := ?v48x7) rfl (by kernel_rfl) (by kernel_rfl) (by kernel_rfl) (fun _ _ _ h => h) (by kernel_rfl) ?hy48x7 HJ.out ?rest48x7
    case hy48x7 => (intro W' hJ; obtain ⟨j0, j1, j2, j3, j4, j5, j6, j7, j8⟩ := hJ; go_simp; first | done | with_reducible rfl)
    refine wpJ_take (i := 8) (v := ?v49x8) rfl (by kernel_rfl) (by kernel_rfl) (by kernel_rfl) (fun _ _ _ h => h) (by kernel_rfl) ?hy49x8 HJ.out ?rest49x8
    case hy49x8 => (intro W' hJ; obtain ⟨j0, j1, j2, j3, j4, j5, j6, j7, j8⟩ := hJ; go_simp; first | done | with_reducible rfl)
    go_simp
    refine wpJ_one (i := 9) (by kernel_rfl) rfl (by kernel_rfl) (fun KJ hK => ?_)
    go_simp
    refine (HBP.out _).mono ?_
    rintro e v18 ⟨rfl, hb18⟩
    replace Xin : Hid _ := Xin.out.below hb18
    replace Xsm : Hid (B1q v18 gsm (.bool false)) := Xsm.out.below hb18
    replace Xd : Hid _ := Xd.out.below hb18
    replace Xt : Hid _ := Xt.out.below hb18
    replace D10 : Hid _ := D10.out.below hb18
    replace D13 : Hid _ := D13.out.below hb18
    replace hbw := Below.on hbw hb18
    clear hb18
    refine hK _ _ ⟨Xd.out.c0, Xd.out.c1, Xd.out.c2, Xin.out.c0, Xin.out.c1, Xin.out.c2, Xin.out.c3, Xin.out.c4, Xin.out.c5⟩ ?_
    clear hK
    refine wpJ_one (i := 10) (by kernel_rfl) rfl (by kernel_rfl) (fun KJ hK => ?_)
    go_simp
    have hN := fun a : Option Addr => nearestOf_ok (a := a) HJN.out D10.out HDB.out (c := b) (by rw [HRV.out]; exact HZL.out) HB.out (TB.out.below hbw)
    rw [HRV.out] at hN
    refine (hN _).mono ?_
    rintro e v19 ⟨rfl, hb19⟩
    clear hN
    replace Xin : Hid _ := Xin.out.below hb19
    replace Xsm : Hid (B1q v19 gsm (.bool false)) := Xsm.out.below hb19
    replace Xd : Hid _ := Xd.out.below hb19
    replace Xt : Hid _ := Xt.out.below hb19
    replace D10 : Hid _ := D10.out.below hb19
    replace D13 : Hid _ := D13.out.below hb19
    replace hbw := Below.on hbw hb19
    clear hb19
    clear HJ
    have HJ : Hid ((fun W' : World => W'.cell? ⟨gd, 0, none⟩ = some (.bool s10) ∧ W'.cell? ⟨gd, 1, none⟩ = some (.slice p10 m10 m10) ∧ W'.cell? ⟨gd, 2, none⟩ = some (.int .i64 ed) ∧ W'.cell? ⟨gin, 0, none⟩ = some (.bool single) ∧ W'.cell? ⟨gin, 1, none⟩ = some (.int .i64 hi) ∧ W'.cell? ⟨gin, 2, none⟩ = some (U lo) ∧ W'.cell? ⟨gin, 3, none⟩ = some (.int .i64 ex) ∧ W'.cell? ⟨gin, 4, none⟩ = some (U mo) ∧ W'.cell? ⟨gin, 5, none⟩ = some (U c)) v19) := ⟨Xd.out.c0, Xd.out.c1, Xd.out.c2, Xin.out.c0, Xin.out.c1, Xin.out.c2, Xin.out.c3, Xin.out.c4, Xin.out.c5⟩
    refine hK _ _ HJ.out ?_
    clear hK
    refine wpJ_take (i := 11) (v := ?v50x11) rfl (by kernel_rfl) (by kernel_rfl) (by kernel_rfl) (fun _ _ _ h => h) (by kernel_rfl) ?hy50x11 HJ.out ?rest50x11
    case hy50x11 => (intro W' hJ; obtain ⟨j0, j1, j2, j3, j4, j5, j6, j7, j8⟩ := hJ; go_simp; first | done | with_reducible rfl)
    refine wpJ_take (i := 12) (v := ?v51x12) rfl (by kernel_rfl) (by kernel_rfl) (by kernel_rfl) (fun _ _ _ h => h) (by kernel_rfl) ?hy51x12 HJ.out ?rest51x12
    case hy51x12 => (intro W' hJ; obtain ⟨j0, j1, j2, j3, j4, j5, j6, j7, j8⟩ := hJ; go_simp; first | done | with_reducible rfl)
    refine wpJ_done (by kernel_rfl) ?_ _
    clear HJ
    obtain ⟨cin0, cin1, cin2, cin3, cin4, cin5, fin0, fin1, fin2, fin3, fin4, fin5⟩ := Xin.out
    have hnein : gin < v19.heap.size := World.block_lt_of_cell? v19 _ cin0
    obtain ⟨csm0, fsm0⟩ := Xsm.out
    have hnesm : gsm < v19.heap.size := World.block_lt_of_cell? v19 _ csm0
    obtain ⟨cd0, cd1, cd2, fd0, fd1, fd2⟩ := Xd.out
    have hned : gd < v19.heap.size := World.block_lt_of_cell? v19 _ cd0
    obtain ⟨ct0, ct1, ct2, ft0, ft1, ft2⟩ := Xt.out
    have hnet : gt < v19.heap.size := World.block_lt_of_cell? v19 _ ct0
    go_wp2_with fail
    clear cin0 cin1 cin2 cin3 cin4 cin5 fin0 fin1 fin2 fin3 fin4 fin5 hnein
    clear csm0 fsm0 hnesm
    clear cd0 cd1 cd2 fd0 fd1 fd2 hned
    clear ct0 ct1 ct2 ft0 ft1 ft2 hnet
    refine (decided_n HJN.out D10.out HDB.out mo HIN.out.2.2 (TB.out.below hbw)).mono ?_
    rintro e v20 ⟨rfl, hb20⟩
    replace Xin : Hid _ := Xin.out.below hb20
    replace Xsm : Hid (B1q v20 gsm (.bool false)) := Xsm.out.below hb20
    replace Xd : Hid _ := Xd.out.below hb20
    replace Xt : Hid _ := Xt.out.below hb20
    replace D10 : Hid _ := D10.out.below hb20
    replace D13 : Hid _ := D13.out.below hb20
    replace hbw := Below.on hbw hb20
    clear hb20
    obtain ⟨csm0, fsm0⟩ := Xsm.out
    have hnesm : gsm < v20.heap.size := World.block_lt_of_cell? v20 _ csm0
    go_wp2_with fail
    clear csm0 fsm0 hnesm
    go_ret
    exact ⟨rfl, hbw⟩
theorem wholeNearest_w (single : Bool) (hi : Int) (lo : Nat) (ex : Int) (mo c : Nat) (h1 : -9223372036854775808 ≤ hi ∧ hi ≤ 9223372036854775807) (h2 : lo < B64) (h3 : mo < B64) (h4 : c < B64) {w : World} (hT : Tab w) :
    Calls Tryz.prog 3 #[.agg #[.bool single, .int .i64 hi, U lo, .int .i64 ex, U mo, U c]] w fun en w' => en = .returned (.bool true) ∧ Below w.heap.size w w' := by
  cases single
  · exact wholeNearest_x jn_64 lt_64 ln_64 hi lo ex mo c h1 h2 h3 h4 w hT
  · exact wholeNearest_x jn_32 lt_32 ln_32 hi lo ex mo c h1 h2 h3 h4 w hT
end Go.Proofs.YtfofoookdlaipaaGreatDoor

