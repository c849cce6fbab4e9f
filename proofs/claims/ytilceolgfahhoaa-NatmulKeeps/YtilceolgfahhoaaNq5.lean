import Derived.Test.YtilceolgfahhoaaJ13
import Derived.Test.YtilceolgfahhoaaJ9
namespace Go.Proofs.Ytilceolgfahhoaa
open Go.RowKit Go.Shelf
set_option maxRecDepth 20000
set_option maxHeartbeats 0
def LsM (w : World) (g : Nat) : Prop := ∃ k pc nc cc xc pd nd cd xd np pm nm cm, B5q w g (.int .i64 k) (.slice pc nc cc) (.slice pd nd cd) (.int .i64 np) (.slice pm nm cm) ∧ OpM w pc nc cc xc pd nd cd xd np ∧ KM k
theorem B5q.put5 {w : World} {g : Nat} {a0 a1 a2 a3 a4 : Value} (h : B5q w g a0 a1 a2 a3 a4) (v0 v1 v2 v3 v4 : Value) : B5q (((((w.setCell ⟨g, 0, none⟩ v0).setCell ⟨g, 1, none⟩ v1).setCell ⟨g, 2, none⟩ v2).setCell ⟨g, 3, none⟩ v3).setCell ⟨g, 4, none⟩ v4) g v0 v1 v2 v3 v4 := by
  obtain ⟨c0, c1, c2, c3, c4, f0, f1, f2, f3, f4⟩ := h
  exact ⟨by go_simp, by go_simp, by go_simp, by go_simp, by go_simp, by go_simp, by go_simp, by go_simp, by go_simp, by go_simp⟩
theorem LsM.below {w w' : World} {g : Nat} (h : LsM w g) (hb : Below w.heap.size w w') : LsM w' g := by
  obtain ⟨k, pc, nc, cc, xc, pd, nd, cd, xd, np, pm, nm, cm, h1, h2, h3⟩ := h
  exact ⟨k, pc, nc, cc, xc, pd, nd, cd, xd, np, pm, nm, cm, h1.below hb, h2.below hb, h3⟩
theorem natmulKeeps_walk {P : Option Addr} {N C : Nat} {its : List Op5} {w : World} (h : Scr w P N C its) :
    Calls Try.prog 3 #[.slice P N C] w fun e w' => e = .returned (.bool true) ∧ Below w.heap.size w w' := by
  have H : Hid (Scr w P N C its) := h
  have HLN : Hid (its.length = N) := h.len
  have cap := h.cap; have big := h.big
  unfold maxLen at big
  clear h
  have hbw : Below w.heap.size w w := Below.refl _ _
  go_enter Try.func3, Try.ntmps3
  go_wp2_with fail
  obtain ⟨W0, hW0⟩ : ∃ W0, W0 = (((w.alloc (.cells #[.int .u64 18446744073709551615, .int .u64 3] 23)).alloc (.cells #[.int .u64 7] 23)).alloc (.cells #[.int .i64 1, .slice (some ⟨w.heap.size, 0, none⟩) 2 2, .slice (some ⟨w.heap.size + 1, 0, none⟩) 1 1, .int .i64 0, .slice none 0 0] 27)) := ⟨_, rfl⟩
  have FA : Hid (At W0 (some ⟨w.heap.size, 0, none⟩) 2 2 [18446744073709551615, 3]) := by rw [hW0]; exact ((lit_at w _ [18446744073709551615, 3] 2 rfl rfl (dig2 (by decide) (by decide)) (by omega)).alloc _).alloc _
  have FB : Hid (At W0 (some ⟨w.heap.size + 1, 0, none⟩) 1 1 [7]) := by rw [hW0]; have h9 := lit_at (w.alloc (.cells #[.int .u64 18446744073709551615, .int .u64 3] 23)) _ [7] 1 rfl rfl (dig1 (by decide)) (by omega); rw [show (w.alloc (.cells #[.int .u64 18446744073709551615, .int .u64 3] 23)).heap.size = w.heap.size + 1 from by simp] at h9; exact h9.alloc _
  have Xl : Hid (B5q W0 (w.heap.size + 1 + 1) (.int .i64 1) (.slice (some ⟨w.heap.size, 0, none⟩) 2 2) (.slice (some ⟨w.heap.size + 1, 0, none⟩) 1 1) (.int .i64 0) (.slice none 0 0)) := by rw [hW0]; exact ⟨by go_simp, by go_simp, by go_simp, by go_simp, by go_simp, by go_simp, by go_simp, by go_simp, by go_simp, by go_simp⟩
  have hb0 : Below w.heap.size w W0 := by rw [hW0]; exact below3 w _ _ _
  rw [← hW0]
  clear hW0 hbw
  have hbw := hb0
  clear hb0
  obtain ⟨gl, hgl⟩ : ∃ g, g = w.heap.size + 1 + 1 := ⟨_, rfl⟩
  have HGl : Hid (w.heap.size ≤ gl) := by rw [hgl]; show _ ≤ _; omega
  rw [← hgl] at Xl ⊢
  clear hgl
  generalize (some ⟨w.heap.size, 0, none⟩ : Option Addr) = f1 at *
  generalize (some ⟨w.heap.size + 1, 0, none⟩ : Option Addr) = f2 at *
  refine (awake_any _).mono ?_
  rintro e v1 ⟨rfl, hb1⟩
  replace Xl : Hid _ := Xl.out.below hb1
  replace FA : Hid _ := FA.out.below hb1
  replace FB : Hid _ := FB.out.below hb1
  replace hbw := Below.on hbw hb1
  clear hb1
  obtain ⟨cl0, cl1, cl2, cl3, cl4, fl0, fl1, fl2, fl3, fl4⟩ := Xl.out
  have hnel : gl < v1.heap.size := World.block_lt_of_cell? v1 _ cl0
  go_wp2_with fail
  clear cl0 cl1 cl2 cl3 cl4 fl0 fl1 fl2 fl3 fl4 hnel
  obtain ⟨W1, hW1⟩ : ∃ W1, W1 = (v1.alloc (.cells #[.int .u64 9, .int .u64 9] 23)) := ⟨_, rfl⟩
  have GA : Hid (At W1 (some ⟨v1.heap.size, 0, none⟩) 2 2 [9, 9]) := by rw [hW1]; exact lit_at v1 _ [9, 9] 2 rfl rfl (dig2 (by decide) (by decide)) (by omega)
  have GB : Hid (At W1 none 0 0 []) := At.empty _ none 0 (by decide)
  have hb0 : Below v1.heap.size v1 W1 := by rw [hW1]; exact below1 v1 _
  rw [← hW1]
  clear hW1
  replace Xl : Hid _ := Xl.out.below hb0
  replace FA : Hid _ := FA.out.below hb0
  replace FB : Hid _ := FB.out.below hb0
  replace hbw := Below.on hbw hb0
  clear hb0
  refine (keepsM ⟨FA.out, FB.out, by decide, by decide, by decide, by decide⟩ ⟨GA.out, GB.out, by decide, by decide, by decide, by decide⟩ ⟨by decide, by decide⟩ ⟨by decide, by decide⟩).mono ?_
  rintro e v2 ⟨rfl, hb⟩
  clear GA GB
  replace Xl : Hid _ := Xl.out.below hb
  replace FA : Hid _ := FA.out.below hb
  replace FB : Hid _ := FB.out.below hb
  replace hbw := Below.on hbw hb
  clear hb
  go_wp2_with fail
  have HLO : Hid (LsM v2 gl) := ⟨1, f1, 2, 2, _, f2, 1, 1, _, 0, none, 0, 0, Xl.out, ⟨FA.out, FB.out, by decide, by decide, by decide, by decide⟩, ⟨by decide, by decide⟩⟩
  clear FA
  clear FB
  clear Xl
  go_loopg [21] N (fun gk iv wr => ∃ k : Nat, k + gk = N ∧ iv = .int .i64 k ∧ Below w.heap.size w wr ∧ LsM wr gl)
  case atStart => exact ⟨0, by omega, rfl, hbw, HLO.out⟩
  case round =>
    clear hbw HLO
    obtain ⟨k, hkg, rfl, hbw, xl⟩ := hrel
    have HLO : Hid (LsM wr gl) := xl
    clear xl
    cases gk with
    | zero =>
      obtain rfl : k = N := by omega
      have hnk : ¬ (k : Int) < (k : Int) := by omega
      go_wp2_with fail
      go_ret
      exact ⟨rfl, hbw⟩
    | succ gg =>
      have hki : k < its.length := by rw [HLN.out]; omega
      obtain ⟨g, off, rfl, hc⟩ := (H.out.below hbw).cells.resolve_left (by omega)
      obtain ⟨e0, e1, e2, e3, e4⟩ := hc k hki
      obtain ⟨hA, hB, hna, hnb, hn1, hn2⟩ := H.out.ats its[k] (List.getElem_mem hki)
      have HOW : Hid (OpM w its[k].pa its[k].na its[k].ca its[k].xa its[k].pb its[k].nb its[k].cb its[k].xb its[k].nn) := ⟨hA, hB, hna, hnb, hn1, hn2⟩
      have hkk : (k : Int) < (N : Int) := by omega
      have hlt : g < wr.heap.size := World.block_lt_of_cell? wr _ e0
      clear hc hA hB hn1 hn2 hna hnb
      generalize its[k].k = kd at *
      generalize its[k].pa = pa at *
      generalize its[k].na = na at *
      generalize its[k].ca = ca at *
      generalize its[k].xa = xa at *
      generalize its[k].pb = pb at *
      generalize its[k].nb = nb at *
      generalize its[k].cb = cb at *
      generalize its[k].xb = xb at *
      generalize its[k].nn = nn at *
      generalize its[k].pl = pl at *
      generalize its[k].nl = nl at *
      generalize its[k].cl = cl at *
      by_cases c1 : kd < 1
      · have d1 : decide (kd < 1) = true := decide_eq_true c1
        have hb2 := below1 wr (.cells #[.int .i64 kd, .slice pa na ca, .slice pb nb cb, .int .i64 nn, .slice pl nl cl] 27)
        go_wp2_with fail
        go_roundg gg
        case measure => omega
        case rel => exact ⟨k + 1, by omega, by go_num, Below.on hbw hb2, HLO.out.below hb2⟩
      by_cases c2 : 5 < kd
      · have d1 : decide (kd < 1) = false := decide_eq_false c1
        have d2 : decide (5 < kd) = true := decide_eq_true c2
        have hb2 := below1 wr (.cells #[.int .i64 kd, .slice pa na ca, .slice pb nb cb, .int .i64 nn, .slice pl nl cl] 27)
        go_wp2_with fail
        go_roundg gg
        case measure => omega
        case rel => exact ⟨k + 1, by omega, by go_num, Below.on hbw hb2, HLO.out.below hb2⟩
      have HLK : Hid (KM kd) := ⟨by omega, by omega⟩
      have d1 : decide (kd < 1) = false := decide_eq_false c1
      have d2 : decide (5 < kd) = false := decide_eq_false c2
      obtain ⟨kp, pc, nc, cc, xc, pd, nd, cd, xd, np, pm, nm, cm, xl, ol, lk⟩ := HLO.out
      have Xl : Hid (B5q wr gl (.int .i64 kp) (.slice pc nc cc) (.slice pd nd cd) (.int .i64 np) (.slice pm nm cm)) := xl
      have HOP : Hid (OpM wr pc nc cc xc pd nd cd xd np ∧ KM kp) := ⟨ol, lk⟩
      clear xl ol lk HLO
      obtain ⟨cl0, cl1, cl2, cl3, cl4, fl0, fl1, fl2, fl3, fl4⟩ := Xl.out
      have hnel : gl < wr.heap.size := World.block_lt_of_cell? wr _ cl0
      go_wp2_with fail
      clear cl0 cl1 cl2 cl3 cl4 fl0 fl1 fl2 fl3 fl4 hnel
      obtain ⟨Ws, hWs⟩ : ∃ Ws, Ws = ((wr.alloc (.cells #[.int .i64 kd, .slice pa na ca, .slice pb nb cb, .int .i64 nn, .slice pl nl cl] 27)).alloc (.cells #[.int .i64 kd, .slice pc nc cc, .slice pd nd cd, .int .i64 np, .slice pm nm cm] 27)) := ⟨_, rfl⟩
      have Xo : Hid (B5q Ws wr.heap.size (.int .i64 kd) (.slice pa na ca) (.slice pb nb cb) (.int .i64 nn) (.slice pl nl cl)) := by rw [hWs]; exact ⟨by go_simp, by go_simp, by go_simp, by go_simp, by go_simp, by go_simp, by go_simp, by go_simp, by go_simp, by go_simp⟩
      have Xs : Hid (B5q Ws (wr.heap.size + 1) (.int .i64 kd) (.slice pc nc cc) (.slice pd nd cd) (.int .i64 np) (.slice pm nm cm)) := by rw [hWs]; exact ⟨by go_simp, by go_simp, by go_simp, by go_simp, by go_simp, by go_simp, by go_simp, by go_simp, by go_simp, by go_simp⟩
      have hb0 : Below wr.heap.size wr Ws := by rw [hWs]; exact below2 wr _ _
      rw [← hWs]
      clear hWs e0 e1 e2 e3 e4 hlt
      have HOP2 : Hid (OpM Ws pc nc cc xc pd nd cd xd np) := HOP.out.1.below hb0
      have HKP : Hid (KM kp) := HOP.out.2
      clear HOP
      replace Xl : Hid _ := Xl.out.below hb0
      replace hbw := Below.on hbw hb0
      clear hb0
      generalize wr.heap.size = go at *
      obtain ⟨gs, hgs⟩ : ∃ gs, gs = go + 1 := ⟨_, rfl⟩
      rw [← hgs] at Xs ⊢
      clear hgs
      refine (keepsM (HOW.out.below hbw) HOP2.out HLK.out HKP.out).mono ?_
      rintro e v41 ⟨rfl, hb41⟩
      replace Xl : Hid _ := Xl.out.below hb41
      replace Xo : Hid _ := Xo.out.below hb41
      replace Xs : Hid _ := Xs.out.below hb41
      replace HOP2 : Hid (OpM v41 pc nc cc xc pd nd cd xd np) := HOP2.out.below hb41
      replace hbw := Below.on hbw hb41
      clear hb41
      obtain ⟨co0, co1, co2, co3, co4, fo0, fo1, fo2, fo3, fo4⟩ := Xo.out
      have hneo : go < v41.heap.size := World.block_lt_of_cell? v41 _ co0
      obtain ⟨cs0, cs1, cs2, cs3, cs4, fs0, fs1, fs2, fs3, fs4⟩ := Xs.out
      have hnes : gs < v41.heap.size := World.block_lt_of_cell? v41 _ cs0
      go_wp2_with fail
      clear co0 co1 co2 co3 co4 fo0 fo1 fo2 fo3 fo4 hneo
      clear cs0 cs1 cs2 cs3 cs4 fs0 fs1 fs2 fs3 fs4 hnes
      refine (keepsM (HOW.out.below hbw) HOP2.out HLK.out HLK.out).mono ?_
      rintro e v42 ⟨rfl, hb42⟩
      replace Xl : Hid _ := Xl.out.below hb42
      replace Xo : Hid _ := Xo.out.below hb42
      replace Xs : Hid _ := Xs.out.below hb42
      replace HOP2 : Hid (OpM v42 pc nc cc xc pd nd cd xd np) := HOP2.out.below hb42
      replace hbw := Below.on hbw hb42
      clear hb42
      obtain ⟨co0, co1, co2, co3, co4, fo0, fo1, fo2, fo3, fo4⟩ := Xo.out
      have hneo : go < v42.heap.size := World.block_lt_of_cell? v42 _ co0
      obtain ⟨cl0, cl1, cl2, cl3, cl4, fl0, fl1, fl2, fl3, fl4⟩ := Xl.out
      have hnel : gl < v42.heap.size := World.block_lt_of_cell? v42 _ cl0
      go_wp2_with fail
      clear co0 co1 co2 co3 co4 fo0 fo1 fo2 fo3 fo4 hneo
      clear cl0 cl1 cl2 cl3 cl4 fl0 fl1 fl2 fl3 fl4 hnel
      have hbz : Below w.heap.size w (((((v42.setCell ⟨gl, 0, none⟩ (.int .i64 kd)).setCell ⟨gl, 1, none⟩ (.slice pa na ca)).setCell ⟨gl, 2, none⟩ (.slice pb nb cb)).setCell ⟨gl, 3, none⟩ (.int .i64 nn)).setCell ⟨gl, 4, none⟩ (.slice pl nl cl)) := bSet (bSet (bSet (bSet (bSet hbw _ _ _ HGl.out) _ _ _ HGl.out) _ _ _ HGl.out) _ _ _ HGl.out) _ _ _ HGl.out
      have HLZ : Hid (LsM (((((v42.setCell ⟨gl, 0, none⟩ (.int .i64 kd)).setCell ⟨gl, 1, none⟩ (.slice pa na ca)).setCell ⟨gl, 2, none⟩ (.slice pb nb cb)).setCell ⟨gl, 3, none⟩ (.int .i64 nn)).setCell ⟨gl, 4, none⟩ (.slice pl nl cl)) gl) := ⟨kd, pa, na, ca, xa, pb, nb, cb, xb, nn, pl, nl, cl, Xl.out.put5 _ _ _ _ _, HOW.out.below hbz, HLK.out⟩
      go_roundg gg
      case measure => omega
      case rel => exact ⟨k + 1, by omega, by go_num, hbz, HLZ.out⟩
end Go.Proofs.Ytilceolgfahhoaa
