import Derived.Test.YtgodajcnhipleaaGreatDoorJ17
import Derived.Test.YtgodajcnhipleaaGreatDoorJ15
namespace Go.Proofs.YtgodajcnhipleaaGreatDoor
open Go.RowKit Go.Shelf

set_option maxRecDepth 20000 in
set_option maxHeartbeats 8000000 in
theorem docdiv_a {p q : Option Addr} {m c n d : Nat} {xs ys : List Nat} {w : World} (kd : Int) (r : Int → Int → Int) (s t : Bool) (h : At w p m c xs) (k : At w q n d ys) (hf : formZ s xs = true) (kf : formZ t ys = true) (hkd : kd = 3 ∧ r = rFd ∨ kd = 4 ∧ r = rCd ∨ kd = 5 ∧ r = rNd ∨ kd = 6 ∧ r = rMo) :
    Calls Tryz.prog 58 #[.int .i64 kd, ZV s p m c, ZV t q n d] w fun e w' => ∃ s' p' m' c' us er, e = .returned (.tuple #[ZV s' p' m' c', .int .i64 er]) ∧ NewAt w.heap.size w' p' m' c' us ∧ DivZ r s xs t ys s' us er ∧ Below w.heap.size w w' := by
  have H : Hid (At w p m c xs) := h
  have K : Hid (At w q n d ys) := k
  have HFX : Hid (formZ s xs = true) := hf
  have HFY : Hid (formZ t ys = true) := kf
  have HF : Hid ((formZ s xs && formZ t ys) = true) := by show _ = _; rw [HFX.out, HFY.out]; rfl
  have HKD : Hid (kd = 3 ∧ r = rFd ∨ kd = 4 ∧ r = rCd ∨ kd = 5 ∧ r = rNd ∨ kd = 6 ∧ r = rMo) := hkd
  clear h k hf kf hkd
  go_enter Tryz.func58, Tryz.ntmps58
  go_wp2_with fail
  obtain ⟨W0, hW0⟩ : ∃ W0, W0 = (((w.alloc (.cells #[.bool s, .slice p m c] 28)).alloc (.cells #[.bool t, .slice q n d] 28)).alloc (.cells #[.bool false, .slice none 0 0] 28)) := ⟨_, rfl⟩
  have Xx : Hid (Box W0 (w.heap.size) (.bool s) (.slice p m c)) := by rw [hW0]; exact ⟨by go_simp, by go_simp, by go_simp, by go_simp⟩
  have Xy : Hid (Box W0 (w.heap.size + 1) (.bool t) (.slice q n d)) := by rw [hW0]; exact ⟨by go_simp, by go_simp, by go_simp, by go_simp⟩
  have Xr : Hid (Box W0 (w.heap.size + 1 + 1) (.bool false) (.slice none 0 0)) := by rw [hW0]; exact ⟨by go_simp, by go_simp, by go_simp, by go_simp⟩
  have hb0 : Below w.heap.size w W0 := by rw [hW0]; exact below3 w _ _ _
  rw [← hW0]
  clear hW0
  have hbw : Below w.heap.size w w := Below.refl _ _
  obtain ⟨gr, hgr⟩ : ∃ g, g = w.heap.size + 1 + 1 := ⟨_, rfl⟩
  have HGr : Hid (w.heap.size ≤ gr) := by rw [hgr]; show _ ≤ _; omega
  rw [← hgr] at Xr
  try rw [← hgr]
  obtain ⟨gy, hgy⟩ : ∃ g, g = w.heap.size + 1 := ⟨_, rfl⟩
  have HGy : Hid (w.heap.size ≤ gy) := by rw [hgy]; show _ ≤ _; omega
  rw [← hgy] at Xy
  try rw [← hgy]
  obtain ⟨gx, hgx⟩ : ∃ g, g = w.heap.size := ⟨_, rfl⟩
  have HGx : Hid (w.heap.size ≤ gx) := by rw [hgx]; show _ ≤ _; omega
  rw [← hgx] at Xx
  try rw [← hgx]
  have HGD : Hid (gx ≠ gy ∧ gx ≠ gr ∧ gy ≠ gx ∧ gy ≠ gr ∧ gr ≠ gx ∧ gr ≠ gy) := by rw [hgx, hgy, hgr]; exact ⟨by omega, by omega, by omega, by omega, by omega, by omega⟩
  clear hgx hgy hgr
  replace H : Hid _ := H.out.below hb0
  replace K : Hid _ := K.out.below hb0
  replace hbw := Below.on hbw hb0
  clear hb0
  refine (docform4 s H.out).mono ?_
  rintro e v1 ⟨rfl, hb1⟩
  rw [HFX.out]
  replace Xx : Hid _ := Xx.out.below hb1
  replace Xy : Hid _ := Xy.out.below hb1
  replace Xr : Hid _ := Xr.out.below hb1
  replace H : Hid _ := H.out.below hb1
  replace K : Hid _ := K.out.below hb1
  replace hbw := Below.on hbw hb1
  clear hb1
  obtain ⟨cy0, cy1, fy0, fy1⟩ := Xy.out
  have hney := Xy.out.lt
  go_wp2_with fail
  clear cy0 cy1 fy0 fy1 hney
  refine (docform4 t K.out).mono ?_
  rintro e v2 ⟨rfl, hb2⟩
  rw [HFY.out]
  replace Xx : Hid _ := Xx.out.below hb2
  replace Xy : Hid _ := Xy.out.below hb2
  replace Xr : Hid _ := Xr.out.below hb2
  replace H : Hid _ := H.out.below hb2
  replace K : Hid _ := K.out.below hb2
  replace hbw := Below.on hbw hb2
  clear hb2
  obtain ⟨cx0, cx1, fx0, fx1⟩ := Xx.out
  have hnex := Xx.out.lt
  go_wp2_with fail
  clear cx0 cx1 fx0 fx1 hnex
  have hm : m ≤ 8192 := by have := formZ_len HFX.out; rw [H.out.len] at this; exact this
  have hn : n ≤ 8192 := by have := formZ_len HFY.out; rw [K.out.len] at this; exact this
  have HM : Hid (m ≤ 8192 ∧ n ≤ 8192) := ⟨hm, hn⟩
  clear hm hn
  obtain ⟨W3, hW3⟩ : ∃ W1, W1 = v2.drew := ⟨_, rfl⟩
  have hbd : Below v2.heap.size v2 W3 := by rw [hW3]; exact bDrew1 (Below.refl _ _)
  replace Xx : Hid _ := Xx.out.below hbd
  replace Xy : Hid _ := Xy.out.below hbd
  replace Xr : Hid _ := Xr.out.below hbd
  replace H : Hid _ := H.out.below hbd
  replace K : Hid _ := K.out.below hbd
  replace hbw := Below.on hbw hbd
  clear hbd
  have HJ : Hid ((fun W' : World => W'.cell? ⟨gx, 0, none⟩ = some (.bool s) ∧ W'.cell? ⟨gx, 1, none⟩ = some (.slice p m c) ∧ W'.cell? ⟨gy, 0, none⟩ = some (.bool t) ∧ W'.cell? ⟨gy, 1, none⟩ = some (.slice q n d)) W3) := ⟨Xx.out.c0, Xx.out.c1, Xy.out.c0, Xy.out.c1⟩
  refine wp_region_J (fun W' => W'.cell? ⟨gx, 0, none⟩ = some (.bool s) ∧ W'.cell? ⟨gx, 1, none⟩ = some (.slice p m c) ∧ W'.cell? ⟨gy, 0, none⟩ = some (.bool t) ∧ W'.cell? ⟨gy, 1, none⟩ = some (.slice q n d)) (by kernel_rfl) ?_
  rw [← hW3]
  clear hW3
  refine wpJ_take (i := 0) (v := ?v1x0) rfl (by kernel_rfl) (by kernel_rfl) (by kernel_rfl) (fun _ _ _ h => h) (by kernel_rfl) ?hy1x0 HJ.out ?rest1x0
  case hy1x0 => (intro W' hJ; obtain ⟨j0, j1, j2, j3⟩ := hJ; go_simp; first | done | with_reducible rfl)
  refine wpJ_take (i := 2) (v := ?v2x2) rfl (by kernel_rfl) (by kernel_rfl) (by kernel_rfl) (fun _ _ _ h => h) (by kernel_rfl) ?hy2x2 HJ.out ?rest2x2
  case hy2x2 => (intro W' hJ; obtain ⟨j0, j1, j2, j3⟩ := hJ; go_simp; first | done | with_reducible rfl)
  refine wpJ_cutA (fun a0 a' W' => ∃ ga gb s4 g4 m4 s5 g5 m5, a' = (((a0.put (some 20) (.agg #[.bool s4, .slice (some ⟨g4, 0, none⟩) m4 m4])).put (some 22) (.agg #[.bool s5, .slice (some ⟨g5, 0, none⟩) m5 m5])).put (some 8) (.pointer (some ⟨ga, 0, none⟩))).put (some 9) (.pointer (some ⟨gb, 0, none⟩)) ∧ Box W' ga (.bool s4) (.slice (some ⟨g4, 0, none⟩) m4 m4) ∧ Box W' gb (.bool s5) (.slice (some ⟨g5, 0, none⟩) m5 m5) ∧ ZR W' s4 (some ⟨g4, 0, none⟩) m4 (iv s (valB B64 xs)) ∧ ZR W' s5 (some ⟨g5, 0, none⟩) m5 (iv t (valB B64 ys)) ∧ m4 ≤ 16384 ∧ m5 ≤ 16384 ∧ Box W' gr (.bool false) (.slice none 0 0) ∧ Below w.heap.size w W') ?_ ?_
  · rintro a' Wc ⟨ga, gb, s4, g4, m4, s5, g5, m5, rfl, xa, xb, z4, z5, l4, l5, xr, hbc⟩
    have XaC : Hid (Box Wc ga (.bool s4) (.slice (some ⟨g4, 0, none⟩) m4 m4)) := xa
    have XbC : Hid (Box Wc gb (.bool s5) (.slice (some ⟨g5, 0, none⟩) m5 m5)) := xb
    have Z4 : Hid (ZR Wc s4 (some ⟨g4, 0, none⟩) m4 (iv s (valB B64 xs))) := z4
    have Z5 : Hid (ZR Wc s5 (some ⟨g5, 0, none⟩) m5 (iv t (valB B64 ys))) := z5
    have HL4 : Hid (m4 ≤ 16384) := l4
    have HL5 : Hid (m5 ≤ 16384) := l5
    clear hbw Xx Xy Xr H K HJ xa xb z4 z5 l4 l5
    have Xr : Hid (Box Wc gr (.bool false) (.slice none 0 0)) := xr
    have hbw := hbc
    have Xa := XaC
    have Xb := XbC
    clear xr hbc XaC XbC
    rcases HKD.out with ⟨rfl, rfl⟩ | ⟨rfl, rfl⟩ | ⟨rfl, rfl⟩ | ⟨rfl, rfl⟩
    · obtain ⟨cb0, cb1, fb0, fb1⟩ := Xb.out
      have hneb : gb < Wc.heap.size := World.block_lt_of_cell? Wc _ cb0
      go_wp2_with fail
      clear cb0 cb1 fb0 fb1 hneb
      by_cases hy : iv t (valB B64 ys) = 0
      · have HY : Hid (iv t (valB B64 ys) = 0) := hy
        clear hy
        refine (rsign04 s5 Z5.out).mono ?_
        rintro e v6 ⟨rfl, hb6⟩
        rw [HY.out, show sgnI 0 = 0 from rfl]
        replace Xr : Hid _ := Xr.out.below hb6
        replace Xa : Hid _ := Xa.out.below hb6
        replace Xb : Hid _ := Xb.out.below hb6
        replace Z4 : Hid _ := Z4.out.below hb6
        replace Z5 : Hid _ := Z5.out.below hb6
        replace hbw := Below.on hbw hb6
        clear hb6
        obtain ⟨cr0, cr1, fr0, fr1⟩ := Xr.out
        have hner := Xr.out.lt
        go_wp2_with fail
        refine bodyPost_ret (v := .tuple #[ZV false none 0 0, .int .i64 4]) (by rw [results_cell_tmp rfl]; go_simp) rfl ⟨false, none, 0, 0, [], 4, rfl, ⟨At.empty _ none 0 (by decide), .inl rfl⟩, .inr (.inl ⟨HF.out, HY.out, rfl, rfl, rfl⟩), ?_⟩
        exact bSet (bSet hbw _ _ _ HGr.out) _ _ _ HGr.out
      · have HY : Hid (iv t (valB B64 ys) ≠ 0) := hy
        clear hy
        refine (rsign04 s5 Z5.out).mono ?_
        rintro e v6 ⟨rfl, hb6⟩
        obtain ⟨sg, hsg⟩ : ∃ sg, sg = sgnI (iv t (valB B64 ys)) := ⟨_, rfl⟩
        rw [← hsg]
        have hs0 : (sg == 0) = false := by rw [hsg]; have := HY.out; unfold sgnI; split <;> (try split) <;> simp <;> omega
        clear hsg
        replace Xr : Hid _ := Xr.out.below hb6
        replace Xa : Hid _ := Xa.out.below hb6
        replace Xb : Hid _ := Xb.out.below hb6
        replace Z4 : Hid _ := Z4.out.below hb6
        replace Z5 : Hid _ := Z5.out.below hb6
        replace hbw := Below.on hbw hb6
        clear hb6
        obtain ⟨ca0, ca1, fa0, fa1⟩ := Xa.out
        have hnea := Xa.out.lt
        obtain ⟨cb0, cb1, fb0, fb1⟩ := Xb.out
        have hneb := Xb.out.lt
        go_wp2_with fail
        clear ca0 ca1 fa0 fa1 hnea
        clear cb0 cb1 fb0 fb1 hneb
        clear hs0
        refine (rfloordiv04 s4 s5 Z4.out Z5.out HL4.out HL5.out HY.out).mono ?_
        rintro e v8 ⟨v, rfl, hv, hb8⟩
        obtain ⟨s8, g8, m8, rfl, hg8, hz8, hl8⟩ := hv
        replace Xr : Hid _ := Xr.out.below hb8
        replace Xa : Hid _ := Xa.out.below hb8
        replace Xb : Hid _ := Xb.out.below hb8
        replace Z4 : Hid _ := Z4.out.below hb8
        replace Z5 : Hid _ := Z5.out.below hb8
        replace hbw := Below.on hbw hb8
        clear hb8
        have Z8 : Hid (ZR v8 s8 (some ⟨g8, 0, none⟩) m8 (rFd (iv s (valB B64 xs)) (iv t (valB B64 ys)))) := hz8
        have HL8 : Hid (m8 ≤ 50000) := Nat.le_trans hl8 (by decide)
        clear hg8 hz8 hl8
        go_wp2_with fail
        refine (rtold04 s8 Z8.out (by have := HL8.out; omega)).mono ?_
        rintro e v9 ⟨s9, p9, m9, c9, u9, er9, rfl, hA9, hD9, hb9⟩
        have HRL0 : Hid (gr < v8.heap.size ∧ w.heap.size ≤ v8.heap.size) := ⟨Xr.out.lt, hbw.size⟩
        replace Xr : Hid _ := Xr.out.below hb9
        replace Xa : Hid _ := Xa.out.below hb9
        replace Xb : Hid _ := Xb.out.below hb9
        replace Z4 : Hid _ := Z4.out.below hb9
        replace Z5 : Hid _ := Z5.out.below hb9
        replace Z8 : Hid _ := Z8.out.below hb9
        replace hbw := Below.on hbw hb9
        clear hb9
        have A9 : Hid (NewAt v8.heap.size v9 p9 m9 c9 u9) := hA9
        have D9 : Hid (DocZ (rFd (iv s (valB B64 xs)) (iv t (valB B64 ys))) s9 u9 er9) := hD9
        clear hA9 hD9
        obtain ⟨cr0, cr1, fr0, fr1⟩ := Xr.out
        have hner := Xr.out.lt
        go_wp2_with fail
        refine bodyPost_ret (v := .tuple #[ZV s9 p9 m9 c9, .int .i64 er9]) (by rw [results_cell_tmp rfl]; go_simp) rfl ⟨s9, p9, m9, c9, u9, er9, rfl, ?_, .inr (.inr ⟨HF.out, HY.out, D9.out⟩), ?_⟩
        · exact A9.out.set2 HRL0.out.1 HRL0.out.2 _ _
        · exact bSet (bSet hbw _ _ _ HGr.out) _ _ _ HGr.out
    · obtain ⟨cb0, cb1, fb0, fb1⟩ := Xb.out
      have hneb : gb < Wc.heap.size := World.block_lt_of_cell? Wc _ cb0
      go_wp2_with fail
      clear cb0 cb1 fb0 fb1 hneb
      by_cases hy : iv t (valB B64 ys) = 0
      · have HY : Hid (iv t (valB B64 ys) = 0) := hy
        clear hy
        refine (rsign04 s5 Z5.out).mono ?_
        rintro e v6 ⟨rfl, hb6⟩
        rw [HY.out, show sgnI 0 = 0 from rfl]
        replace Xr : Hid _ := Xr.out.below hb6
        replace Xa : Hid _ := Xa.out.below hb6
        replace Xb : Hid _ := Xb.out.below hb6
        replace Z4 : Hid _ := Z4.out.below hb6
        replace Z5 : Hid _ := Z5.out.below hb6
        replace hbw := Below.on hbw hb6
        clear hb6
        obtain ⟨cr0, cr1, fr0, fr1⟩ := Xr.out
        have hner := Xr.out.lt
        go_wp2_with fail
        refine bodyPost_ret (v := .tuple #[ZV false none 0 0, .int .i64 4]) (by rw [results_cell_tmp rfl]; go_simp) rfl ⟨false, none, 0, 0, [], 4, rfl, ⟨At.empty _ none 0 (by decide), .inl rfl⟩, .inr (.inl ⟨HF.out, HY.out, rfl, rfl, rfl⟩), ?_⟩
        exact bSet (bSet hbw _ _ _ HGr.out) _ _ _ HGr.out
      · have HY : Hid (iv t (valB B64 ys) ≠ 0) := hy
        clear hy
        refine (rsign04 s5 Z5.out).mono ?_
        rintro e v6 ⟨rfl, hb6⟩
        obtain ⟨sg, hsg⟩ : ∃ sg, sg = sgnI (iv t (valB B64 ys)) := ⟨_, rfl⟩
        rw [← hsg]
        have hs0 : (sg == 0) = false := by rw [hsg]; have := HY.out; unfold sgnI; split <;> (try split) <;> simp <;> omega
        clear hsg
        replace Xr : Hid _ := Xr.out.below hb6
        replace Xa : Hid _ := Xa.out.below hb6
        replace Xb : Hid _ := Xb.out.below hb6
        replace Z4 : Hid _ := Z4.out.below hb6
        replace Z5 : Hid _ := Z5.out.below hb6
        replace hbw := Below.on hbw hb6
        clear hb6
        obtain ⟨ca0, ca1, fa0, fa1⟩ := Xa.out
        have hnea := Xa.out.lt
        obtain ⟨cb0, cb1, fb0, fb1⟩ := Xb.out
        have hneb := Xb.out.lt
        go_wp2_with fail
        clear ca0 ca1 fa0 fa1 hnea
        clear cb0 cb1 fb0 fb1 hneb
        clear hs0
        refine (rceildiv04 s4 s5 Z4.out Z5.out HL4.out HL5.out HY.out).mono ?_
        rintro e v8 ⟨v, rfl, hv, hb8⟩
        obtain ⟨s8, g8, m8, rfl, hg8, hz8, hl8⟩ := hv
        replace Xr : Hid _ := Xr.out.below hb8
        replace Xa : Hid _ := Xa.out.below hb8
        replace Xb : Hid _ := Xb.out.below hb8
        replace Z4 : Hid _ := Z4.out.below hb8
        replace Z5 : Hid _ := Z5.out.below hb8
        replace hbw := Below.on hbw hb8
        clear hb8
        have Z8 : Hid (ZR v8 s8 (some ⟨g8, 0, none⟩) m8 (rCd (iv s (valB B64 xs)) (iv t (valB B64 ys)))) := hz8
        have HL8 : Hid (m8 ≤ 50000) := Nat.le_trans hl8 (by decide)
        clear hg8 hz8 hl8
        go_wp2_with fail
        refine (rtold04 s8 Z8.out (by have := HL8.out; omega)).mono ?_
        rintro e v9 ⟨s9, p9, m9, c9, u9, er9, rfl, hA9, hD9, hb9⟩
        have HRL0 : Hid (gr < v8.heap.size ∧ w.heap.size ≤ v8.heap.size) := ⟨Xr.out.lt, hbw.size⟩
        replace Xr : Hid _ := Xr.out.below hb9
        replace Xa : Hid _ := Xa.out.below hb9
        replace Xb : Hid _ := Xb.out.below hb9
        replace Z4 : Hid _ := Z4.out.below hb9
        replace Z5 : Hid _ := Z5.out.below hb9
        replace Z8 : Hid _ := Z8.out.below hb9
        replace hbw := Below.on hbw hb9
        clear hb9
        have A9 : Hid (NewAt v8.heap.size v9 p9 m9 c9 u9) := hA9
        have D9 : Hid (DocZ (rCd (iv s (valB B64 xs)) (iv t (valB B64 ys))) s9 u9 er9) := hD9
        clear hA9 hD9
        obtain ⟨cr0, cr1, fr0, fr1⟩ := Xr.out
        have hner := Xr.out.lt
        go_wp2_with fail
        refine bodyPost_ret (v := .tuple #[ZV s9 p9 m9 c9, .int .i64 er9]) (by rw [results_cell_tmp rfl]; go_simp) rfl ⟨s9, p9, m9, c9, u9, er9, rfl, ?_, .inr (.inr ⟨HF.out, HY.out, D9.out⟩), ?_⟩
        · exact A9.out.set2 HRL0.out.1 HRL0.out.2 _ _
        · exact bSet (bSet hbw _ _ _ HGr.out) _ _ _ HGr.out
    · obtain ⟨cb0, cb1, fb0, fb1⟩ := Xb.out
      have hneb : gb < Wc.heap.size := World.block_lt_of_cell? Wc _ cb0
      go_wp2_with fail
      clear cb0 cb1 fb0 fb1 hneb
      by_cases hy : iv t (valB B64 ys) = 0
      · have HY : Hid (iv t (valB B64 ys) = 0) := hy
        clear hy
        refine (rsign04 s5 Z5.out).mono ?_
        rintro e v6 ⟨rfl, hb6⟩
        rw [HY.out, show sgnI 0 = 0 from rfl]
        replace Xr : Hid _ := Xr.out.below hb6
        replace Xa : Hid _ := Xa.out.below hb6
        replace Xb : Hid _ := Xb.out.below hb6
        replace Z4 : Hid _ := Z4.out.below hb6
        replace Z5 : Hid _ := Z5.out.below hb6
        replace hbw := Below.on hbw hb6
        clear hb6
        obtain ⟨cr0, cr1, fr0, fr1⟩ := Xr.out
        have hner := Xr.out.lt
        go_wp2_with fail
        refine bodyPost_ret (v := .tuple #[ZV false none 0 0, .int .i64 4]) (by rw [results_cell_tmp rfl]; go_simp) rfl ⟨false, none, 0, 0, [], 4, rfl, ⟨At.empty _ none 0 (by decide), .inl rfl⟩, .inr (.inl ⟨HF.out, HY.out, rfl, rfl, rfl⟩), ?_⟩
        exact bSet (bSet hbw _ _ _ HGr.out) _ _ _ HGr.out
      · have HY : Hid (iv t (valB B64 ys) ≠ 0) := hy
        clear hy
        refine (rsign04 s5 Z5.out).mono ?_
        rintro e v6 ⟨rfl, hb6⟩
        obtain ⟨sg, hsg⟩ : ∃ sg, sg = sgnI (iv t (valB B64 ys)) := ⟨_, rfl⟩
        rw [← hsg]
        have hs0 : (sg == 0) = false := by rw [hsg]; have := HY.out; unfold sgnI; split <;> (try split) <;> simp <;> omega
        clear hsg
        replace Xr : Hid _ := Xr.out.below hb6
        replace Xa : Hid _ := Xa.out.below hb6
        replace Xb : Hid _ := Xb.out.below hb6
        replace Z4 : Hid _ := Z4.out.below hb6
        replace Z5 : Hid _ := Z5.out.below hb6
        replace hbw := Below.on hbw hb6
        clear hb6
        obtain ⟨ca0, ca1, fa0, fa1⟩ := Xa.out
        have hnea := Xa.out.lt
        obtain ⟨cb0, cb1, fb0, fb1⟩ := Xb.out
        have hneb := Xb.out.lt
        go_wp2_with fail
        clear ca0 ca1 fa0 fa1 hnea
        clear cb0 cb1 fb0 fb1 hneb
        clear hs0
        refine (rneardiv04 s4 s5 Z4.out Z5.out HL4.out HL5.out HY.out).mono ?_
        rintro e v8 ⟨v, rfl, hv, hb8⟩
        obtain ⟨s8, g8, m8, rfl, hg8, hz8, hl8⟩ := hv
        replace Xr : Hid _ := Xr.out.below hb8
        replace Xa : Hid _ := Xa.out.below hb8
        replace Xb : Hid _ := Xb.out.below hb8
        replace Z4 : Hid _ := Z4.out.below hb8
        replace Z5 : Hid _ := Z5.out.below hb8
        replace hbw := Below.on hbw hb8
        clear hb8
        have Z8 : Hid (ZR v8 s8 (some ⟨g8, 0, none⟩) m8 (rNd (iv s (valB B64 xs)) (iv t (valB B64 ys)))) := hz8
        have HL8 : Hid (m8 ≤ 50000) := Nat.le_trans hl8 (by decide)
        clear hg8 hz8 hl8
        go_wp2_with fail
        refine (rtold04 s8 Z8.out (by have := HL8.out; omega)).mono ?_
        rintro e v9 ⟨s9, p9, m9, c9, u9, er9, rfl, hA9, hD9, hb9⟩
        have HRL0 : Hid (gr < v8.heap.size ∧ w.heap.size ≤ v8.heap.size) := ⟨Xr.out.lt, hbw.size⟩
        replace Xr : Hid _ := Xr.out.below hb9
        replace Xa : Hid _ := Xa.out.below hb9
        replace Xb : Hid _ := Xb.out.below hb9
        replace Z4 : Hid _ := Z4.out.below hb9
        replace Z5 : Hid _ := Z5.out.below hb9
        replace Z8 : Hid _ := Z8.out.below hb9
        replace hbw := Below.on hbw hb9
        clear hb9
        have A9 : Hid (NewAt v8.heap.size v9 p9 m9 c9 u9) := hA9
        have D9 : Hid (DocZ (rNd (iv s (valB B64 xs)) (iv t (valB B64 ys))) s9 u9 er9) := hD9
        clear hA9 hD9
        obtain ⟨cr0, cr1, fr0, fr1⟩ := Xr.out
        have hner := Xr.out.lt
        go_wp2_with fail
        refine bodyPost_ret (v := .tuple #[ZV s9 p9 m9 c9, .int .i64 er9]) (by rw [results_cell_tmp rfl]; go_simp) rfl ⟨s9, p9, m9, c9, u9, er9, rfl, ?_, .inr (.inr ⟨HF.out, HY.out, D9.out⟩), ?_⟩
        · exact A9.out.set2 HRL0.out.1 HRL0.out.2 _ _
        · exact bSet (bSet hbw _ _ _ HGr.out) _ _ _ HGr.out
    · obtain ⟨cb0, cb1, fb0, fb1⟩ := Xb.out
      have hneb : gb < Wc.heap.size := World.block_lt_of_cell? Wc _ cb0
      go_wp2_with fail
      clear cb0 cb1 fb0 fb1 hneb
      by_cases hy : iv t (valB B64 ys) = 0
      · have HY : Hid (iv t (valB B64 ys) = 0) := hy
        clear hy
        refine (rsign04 s5 Z5.out).mono ?_
        rintro e v6 ⟨rfl, hb6⟩
        rw [HY.out, show sgnI 0 = 0 from rfl]
        replace Xr : Hid _ := Xr.out.below hb6
        replace Xa : Hid _ := Xa.out.below hb6
        replace Xb : Hid _ := Xb.out.below hb6
        replace Z4 : Hid _ := Z4.out.below hb6
        replace Z5 : Hid _ := Z5.out.below hb6
        replace hbw := Below.on hbw hb6
        clear hb6
        obtain ⟨cr0, cr1, fr0, fr1⟩ := Xr.out
        have hner := Xr.out.lt
        go_wp2_with fail
        refine bodyPost_ret (v := .tuple #[ZV false none 0 0, .int .i64 4]) (by rw [results_cell_tmp rfl]; go_simp) rfl ⟨false, none, 0, 0, [], 4, rfl, ⟨At.empty _ none 0 (by decide), .inl rfl⟩, .inr (.inl ⟨HF.out, HY.out, rfl, rfl, rfl⟩), ?_⟩
        exact bSet (bSet hbw _ _ _ HGr.out) _ _ _ HGr.out
      · have HY : Hid (iv t (valB B64 ys) ≠ 0) := hy
        clear hy
        refine (rsign04 s5 Z5.out).mono ?_
        rintro e v6 ⟨rfl, hb6⟩
        obtain ⟨sg, hsg⟩ : ∃ sg, sg = sgnI (iv t (valB B64 ys)) := ⟨_, rfl⟩
        rw [← hsg]
        have hs0 : (sg == 0) = false := by rw [hsg]; have := HY.out; unfold sgnI; split <;> (try split) <;> simp <;> omega
        clear hsg
        replace Xr : Hid _ := Xr.out.below hb6
        replace Xa : Hid _ := Xa.out.below hb6
        replace Xb : Hid _ := Xb.out.below hb6
        replace Z4 : Hid _ := Z4.out.below hb6
        replace Z5 : Hid _ := Z5.out.below hb6
        replace hbw := Below.on hbw hb6
        clear hb6
        obtain ⟨ca0, ca1, fa0, fa1⟩ := Xa.out
        have hnea := Xa.out.lt
        obtain ⟨cb0, cb1, fb0, fb1⟩ := Xb.out
        have hneb := Xb.out.lt
        go_wp2_with fail
        clear ca0 ca1 fa0 fa1 hnea
        clear cb0 cb1 fb0 fb1 hneb
        clear hs0
        refine (rmod04 s4 s5 Z4.out Z5.out HL4.out HL5.out HY.out).mono ?_
        rintro e v8 ⟨v, rfl, hv, hb8⟩
        obtain ⟨s8, g8, m8, rfl, hg8, hz8, hl8⟩ := hv
        replace Xr : Hid _ := Xr.out.below hb8
        replace Xa : Hid _ := Xa.out.below hb8
        replace Xb : Hid _ := Xb.out.below hb8
        replace Z4 : Hid _ := Z4.out.below hb8
        replace Z5 : Hid _ := Z5.out.below hb8
        replace hbw := Below.on hbw hb8
        clear hb8
        have Z8 : Hid (ZR v8 s8 (some ⟨g8, 0, none⟩) m8 (rMo (iv s (valB B64 xs)) (iv t (valB B64 ys)))) := hz8
        have HL8 : Hid (m8 ≤ 50000) := Nat.le_trans hl8 (by decide)
        clear hg8 hz8 hl8
        go_wp2_with fail
        refine (rtold04 s8 Z8.out (by have := HL8.out; omega)).mono ?_
        rintro e v9 ⟨s9, p9, m9, c9, u9, er9, rfl, hA9, hD9, hb9⟩
        have HRL0 : Hid (gr < v8.heap.size ∧ w.heap.size ≤ v8.heap.size) := ⟨Xr.out.lt, hbw.size⟩
        replace Xr : Hid _ := Xr.out.below hb9
        replace Xa : Hid _ := Xa.out.below hb9
        replace Xb : Hid _ := Xb.out.below hb9
        replace Z4 : Hid _ := Z4.out.below hb9
        replace Z5 : Hid _ := Z5.out.below hb9
        replace Z8 : Hid _ := Z8.out.below hb9
        replace hbw := Below.on hbw hb9
        clear hb9
        have A9 : Hid (NewAt v8.heap.size v9 p9 m9 c9 u9) := hA9
        have D9 : Hid (DocZ (rMo (iv s (valB B64 xs)) (iv t (valB B64 ys))) s9 u9 er9) := hD9
        clear hA9 hD9
        obtain ⟨cr0, cr1, fr0, fr1⟩ := Xr.out
        have hner := Xr.out.lt
        go_wp2_with fail
        refine bodyPost_ret (v := .tuple #[ZV s9 p9 m9 c9, .int .i64 er9]) (by rw [results_cell_tmp rfl]; go_simp) rfl ⟨s9, p9, m9, c9, u9, er9, rfl, ?_, .inr (.inr ⟨HF.out, HY.out, D9.out⟩), ?_⟩
        · exact A9.out.set2 HRL0.out.1 HRL0.out.2 _ _
        · exact bSet (bSet hbw _ _ _ HGr.out) _ _ _ HGr.out
  · clear HKD
    refine wpJ_three (i := 1) (k := 4) (l := 5) (by kernel_rfl) rfl rfl rfl (by kernel_rfl) (by kernel_rfl) (by kernel_rfl) (fun KJ hK => ?_) (fun KJ hK => ?_) (fun KJ hK => ?_)
    · go_simp
      refine (rfrom04g s H.out (by have := HM.out; omega)).mono ?_
      rintro e v4 ⟨v, rfl, hv, hb4⟩
      obtain ⟨s4, g4, m4, rfl, hg4, hz4, hl4⟩ := hv
      replace Xx : Hid _ := Xx.out.below hb4
      replace Xy : Hid _ := Xy.out.below hb4
      replace Xr : Hid _ := Xr.out.below hb4
      replace H : Hid _ := H.out.below hb4
      replace K : Hid _ := K.out.below hb4
      replace hbw := Below.on hbw hb4
      clear hb4
      have Z4 : Hid (ZR v4 s4 (some ⟨g4, 0, none⟩) m4 (iv s (valB B64 xs))) := hz4
      have HL4 : Hid (m4 ≤ 16384) := by have := HM.out; show m4 ≤ _; omega
      clear hz4 hl4 hg4
      clear HJ
      have HJ : Hid ((fun W' : World => W'.cell? ⟨gx, 0, none⟩ = some (.bool s) ∧ W'.cell? ⟨gx, 1, none⟩ = some (.slice p m c) ∧ W'.cell? ⟨gy, 0, none⟩ = some (.bool t) ∧ W'.cell? ⟨gy, 1, none⟩ = some (.slice q n d)) v4) := ⟨Xx.out.c0, Xx.out.c1, Xy.out.c0, Xy.out.c1⟩
      refine hK _ _ HJ.out ?_
      clear hK
      refine wpJ_three (i := 3) (k := 4) (l := 5) (by kernel_rfl) rfl rfl rfl (by kernel_rfl) (by kernel_rfl) (by kernel_rfl) (fun KJ hK => ?_) (fun KJ hK => ?_) (fun KJ hK => ?_)
      · go_simp
        refine (rfrom04g t K.out (by have := HM.out; omega)).mono ?_
        rintro e v5 ⟨v, rfl, hv, hb5⟩
        obtain ⟨s5, g5, m5, rfl, hg5, hz5, hl5⟩ := hv
        replace Xx : Hid _ := Xx.out.below hb5
        replace Xy : Hid _ := Xy.out.below hb5
        replace Xr : Hid _ := Xr.out.below hb5
        replace H : Hid _ := H.out.below hb5
        replace K : Hid _ := K.out.below hb5
        replace Z4 : Hid _ := Z4.out.below hb5
        replace hbw := Below.on hbw hb5
        clear hb5
        have Z5 : Hid (ZR v5 s5 (some ⟨g5, 0, none⟩) m5 (iv t (valB B64 ys))) := hz5
        have HL5 : Hid (m5 ≤ 16384) := by have := HM.out; show m5 ≤ _; omega
        clear hz5 hl5 hg5
        clear HJ
        have HJ : Hid ((fun W' : World => W'.cell? ⟨gx, 0, none⟩ = some (.bool s) ∧ W'.cell? ⟨gx, 1, none⟩ = some (.slice p m c) ∧ W'.cell? ⟨gy, 0, none⟩ = some (.bool t) ∧ W'.cell? ⟨gy, 1, none⟩ = some (.slice q n d)) v5) := ⟨Xx.out.c0, Xx.out.c1, Xy.out.c0, Xy.out.c1⟩
        refine hK _ _ HJ.out ?_
        clear hK
        refine wpJ_two (i := 4) (k := 5) (by kernel_rfl) rfl rfl (by kernel_rfl) (by kernel_rfl) (fun KJ hK => ?_) (fun KJ hK => ?_)
        · go_simp
          have HDa : Hid (gx ≠ v5.heap.size ∧ gy ≠ v5.heap.size ∧ gr ≠ v5.heap.size) := ⟨Nat.ne_of_lt Xx.out.lt, Nat.ne_of_lt Xy.out.lt, Nat.ne_of_lt Xr.out.lt⟩
          have HO4a : Hid (OffR g4 m4 v5.heap.size) := Z4.out.off_new
          have HO5a : Hid (OffR g5 m5 v5.heap.size) := Z5.out.off_new
          have Xa0 : Hid (Box (v5.alloc (.cells #[.bool false, .slice none 0 0] 70)) v5.heap.size (.bool false) (.slice none 0 0)) := Box.new v5 _ _ _
          have hbn : Below v5.heap.size v5 (v5.alloc (.cells #[.bool false, .slice none 0 0] 70)) := below1 v5 _
          generalize v5.alloc (.cells #[.bool false, .slice none 0 0] 70) = Wa at *
          have HGa : Hid (w.heap.size ≤ v5.heap.size) := hbw.size
          replace Xx : Hid _ := Xx.out.below hbn
          replace Xy : Hid _ := Xy.out.below hbn
          replace Xr : Hid _ := Xr.out.below hbn
          replace H : Hid _ := H.out.below hbn
          replace K : Hid _ := K.out.below hbn
          replace Z4 : Hid _ := Z4.out.below hbn
          replace Z5 : Hid _ := Z5.out.below hbn
          replace hbw := Below.on hbw hbn
          clear hbn
          generalize v5.heap.size = ga at *
          have Xa := Xa0
          clear Xa0
          refine hK _ _ ⟨Xx.out.c0, Xx.out.c1, Xy.out.c0, Xy.out.c1⟩ ?_
          clear hK
          refine wpJ_one (i := 5) (by kernel_rfl) rfl (by kernel_rfl) (fun KJ hK => ?_)
          go_simp
          have HDb : Hid (gx ≠ Wa.heap.size ∧ gy ≠ Wa.heap.size ∧ gr ≠ Wa.heap.size ∧ ga ≠ Wa.heap.size) := ⟨Nat.ne_of_lt Xx.out.lt, Nat.ne_of_lt Xy.out.lt, Nat.ne_of_lt Xr.out.lt, Nat.ne_of_lt Xa.out.lt⟩
          have HO4b : Hid (OffR g4 m4 Wa.heap.size) := Z4.out.off_new
          have HO5b : Hid (OffR g5 m5 Wa.heap.size) := Z5.out.off_new
          have Xb0 : Hid (Box (Wa.alloc (.cells #[.bool false, .slice none 0 0] 70)) Wa.heap.size (.bool false) (.slice none 0 0)) := Box.new Wa _ _ _
          have hbn : Below Wa.heap.size Wa (Wa.alloc (.cells #[.bool false, .slice none 0 0] 70)) := below1 Wa _
          generalize Wa.alloc (.cells #[.bool false, .slice none 0 0] 70) = Wb at *
          have HGb : Hid (w.heap.size ≤ Wa.heap.size) := hbw.size
          replace Xx : Hid _ := Xx.out.below hbn
          replace Xy : Hid _ := Xy.out.below hbn
          replace Xr : Hid _ := Xr.out.below hbn
          replace Xa : Hid _ := Xa.out.below hbn
          replace H : Hid _ := H.out.below hbn
          replace K : Hid _ := K.out.below hbn
          replace Z4 : Hid _ := Z4.out.below hbn
          replace Z5 : Hid _ := Z5.out.below hbn
          replace hbw := Below.on hbw hbn
          clear hbn
          generalize Wa.heap.size = gb at *
          have Xb := Xb0
          clear Xb0
          refine hK _ _ ⟨Xx.out.c0, Xx.out.c1, Xy.out.c0, Xy.out.c1⟩ ?_
          clear hK
          obtain ⟨ca0, ca1, fa0, fa1⟩ := Xa.out
          have hnea := Xa.out.lt
          obtain ⟨cx0, cx1, fx0, fx1⟩ := Xx.out
          have hnex := Xx.out.lt
          obtain ⟨cy0, cy1, fy0, fy1⟩ := Xy.out
          have hney := Xy.out.lt
          obtain ⟨cr0, cr1, fr0, fr1⟩ := Xr.out
          have hner := Xr.out.lt
          obtain ⟨cb0, cb1, fb0, fb1⟩ := Xb.out
          have hneb := Xb.out.lt
          have qax : gx ≠ ga := HDa.out.1
          have qxa : ga ≠ gx := fun h => qax h.symm
          have qay : gy ≠ ga := HDa.out.2.1
          have qya : ga ≠ gy := fun h => qay h.symm
          have qar : gr ≠ ga := HDa.out.2.2
          have qra : ga ≠ gr := fun h => qar h.symm
          have qba : ga ≠ gb := HDb.out.2.2.2
          have qab : gb ≠ ga := fun h => qba h.symm
          refine wpJ_one (i := 6) (by kernel_rfl) rfl (by kernel_rfl) (fun KJ hK => ?_)
          go_simp
          have HJ2 : Hid ((fun W' : World => W'.cell? ⟨gx, 0, none⟩ = some (.bool s) ∧ W'.cell? ⟨gx, 1, none⟩ = some (.slice p m c) ∧ W'.cell? ⟨gy, 0, none⟩ = some (.bool t) ∧ W'.cell? ⟨gy, 1, none⟩ = some (.slice q n d)) ((Wb.setCell ⟨ga, 0, none⟩ (.bool s4)).setCell ⟨ga, 1, none⟩ (.slice (some ⟨g4, 0, none⟩) m4 m4))) := ⟨by go_simp, by go_simp, by go_simp, by go_simp⟩
          have Xa2 : Hid (Box ((Wb.setCell ⟨ga, 0, none⟩ (.bool s4)).setCell ⟨ga, 1, none⟩ (.slice (some ⟨g4, 0, none⟩) m4 m4)) ga (.bool s4) (.slice (some ⟨g4, 0, none⟩) m4 m4)) := ⟨by go_simp, by go_simp, by go_simp, by go_simp⟩
          have Xx2 : Hid (Box ((Wb.setCell ⟨ga, 0, none⟩ (.bool s4)).setCell ⟨ga, 1, none⟩ (.slice (some ⟨g4, 0, none⟩) m4 m4)) gx (.bool s) (.slice p m c)) := ⟨by go_simp, by go_simp, by go_simp, by go_simp⟩
          have Xy2 : Hid (Box ((Wb.setCell ⟨ga, 0, none⟩ (.bool s4)).setCell ⟨ga, 1, none⟩ (.slice (some ⟨g4, 0, none⟩) m4 m4)) gy (.bool t) (.slice q n d)) := ⟨by go_simp, by go_simp, by go_simp, by go_simp⟩
          have Xr2 : Hid (Box ((Wb.setCell ⟨ga, 0, none⟩ (.bool s4)).setCell ⟨ga, 1, none⟩ (.slice (some ⟨g4, 0, none⟩) m4 m4)) gr (.bool false) (.slice none 0 0)) := ⟨by go_simp, by go_simp, by go_simp, by go_simp⟩
          have Xb2 : Hid (Box ((Wb.setCell ⟨ga, 0, none⟩ (.bool s4)).setCell ⟨ga, 1, none⟩ (.slice (some ⟨g4, 0, none⟩) m4 m4)) gb (.bool false) (.slice none 0 0)) := ⟨by go_simp, by go_simp, by go_simp, by go_simp⟩
          have Z42 : Hid (ZR ((Wb.setCell ⟨ga, 0, none⟩ (.bool s4)).setCell ⟨ga, 1, none⟩ (.slice (some ⟨g4, 0, none⟩) m4 m4)) s4 (some ⟨g4, 0, none⟩) m4 (iv s (valB B64 xs))) := (Z4.out.setOff HO4a.out _ _).setOff HO4a.out _ _
          have Z52 : Hid (ZR ((Wb.setCell ⟨ga, 0, none⟩ (.bool s4)).setCell ⟨ga, 1, none⟩ (.slice (some ⟨g4, 0, none⟩) m4 m4)) s5 (some ⟨g5, 0, none⟩) m5 (iv t (valB B64 ys))) := (Z5.out.setOff HO5a.out _ _).setOff HO5a.out _ _
          have hbw2 : Below w.heap.size w ((Wb.setCell ⟨ga, 0, none⟩ (.bool s4)).setCell ⟨ga, 1, none⟩ (.slice (some ⟨g4, 0, none⟩) m4 m4)) := bSet (bSet hbw _ _ _ HGa.out) _ _ _ HGa.out
          refine hK _ _ HJ2.out ?_
          clear hK HJ
          have HJ := HJ2
          clear HJ2 hbw Z4 Z5 H K
          clear ca0 ca1 fa0 fa1 hnea
          clear cx0 cx1 fx0 fx1 hnex
          clear cy0 cy1 fy0 fy1 hney
          clear cr0 cr1 fr0 fr1 hner
          clear cb0 cb1 fb0 fb1 hneb
          clear qax qxa qay qya qar qra qab qba Xa Xx Xy Xr Xb
          generalize ((Wb.setCell ⟨ga, 0, none⟩ (.bool s4)).setCell ⟨ga, 1, none⟩ (.slice (some ⟨g4, 0, none⟩) m4 m4)) = Ws at *
          have hbw := hbw2
          have Z4 := Z42
          have Z5 := Z52
          have Xa := Xa2
          have Xx := Xx2
          have Xy := Xy2
          have Xr := Xr2
          have Xb := Xb2
          clear hbw2 Z42 Z52 Xa2 Xx2 Xy2 Xr2 Xb2
          obtain ⟨cb0, cb1, fb0, fb1⟩ := Xb.out
          have hneb := Xb.out.lt
          obtain ⟨cx0, cx1, fx0, fx1⟩ := Xx.out
          have hnex := Xx.out.lt
          obtain ⟨cy0, cy1, fy0, fy1⟩ := Xy.out
          have hney := Xy.out.lt
          obtain ⟨cr0, cr1, fr0, fr1⟩ := Xr.out
          have hner := Xr.out.lt
          obtain ⟨ca0, ca1, fa0, fa1⟩ := Xa.out
          have hnea := Xa.out.lt
          have qbx : gx ≠ gb := HDb.out.1
          have qxb : gb ≠ gx := fun h => qbx h.symm
          have qby : gy ≠ gb := HDb.out.2.1
          have qyb : gb ≠ gy := fun h => qby h.symm
          have qbr : gr ≠ gb := HDb.out.2.2.1
          have qrb : gb ≠ gr := fun h => qbr h.symm
          have qba : ga ≠ gb := HDb.out.2.2.2
          have qab : gb ≠ ga := fun h => qba h.symm
          refine wpJ_one (i := 7) (by kernel_rfl) rfl (by kernel_rfl) (fun KJ hK => ?_)
          go_simp
          have HJ2 : Hid ((fun W' : World => W'.cell? ⟨gx, 0, none⟩ = some (.bool s) ∧ W'.cell? ⟨gx, 1, none⟩ = some (.slice p m c) ∧ W'.cell? ⟨gy, 0, none⟩ = some (.bool t) ∧ W'.cell? ⟨gy, 1, none⟩ = some (.slice q n d)) ((Ws.setCell ⟨gb, 0, none⟩ (.bool s5)).setCell ⟨gb, 1, none⟩ (.slice (some ⟨g5, 0, none⟩) m5 m5))) := ⟨by go_simp, by go_simp, by go_simp, by go_simp⟩
          have Xb2 : Hid (Box ((Ws.setCell ⟨gb, 0, none⟩ (.bool s5)).setCell ⟨gb, 1, none⟩ (.slice (some ⟨g5, 0, none⟩) m5 m5)) gb (.bool s5) (.slice (some ⟨g5, 0, none⟩) m5 m5)) := ⟨by go_simp, by go_simp, by go_simp, by go_simp⟩
          have Xx2 : Hid (Box ((Ws.setCell ⟨gb, 0, none⟩ (.bool s5)).setCell ⟨gb, 1, none⟩ (.slice (some ⟨g5, 0, none⟩) m5 m5)) gx (.bool s) (.slice p m c)) := ⟨by go_simp, by go_simp, by go_simp, by go_simp⟩
          have Xy2 : Hid (Box ((Ws.setCell ⟨gb, 0, none⟩ (.bool s5)).setCell ⟨gb, 1, none⟩ (.slice (some ⟨g5, 0, none⟩) m5 m5)) gy (.bool t) (.slice q n d)) := ⟨by go_simp, by go_simp, by go_simp, by go_simp⟩
          have Xr2 : Hid (Box ((Ws.setCell ⟨gb, 0, none⟩ (.bool s5)).setCell ⟨gb, 1, none⟩ (.slice (some ⟨g5, 0, none⟩) m5 m5)) gr (.bool false) (.slice none 0 0)) := ⟨by go_simp, by go_simp, by go_simp, by go_simp⟩
          have Xa2 : Hid (Box ((Ws.setCell ⟨gb, 0, none⟩ (.bool s5)).setCell ⟨gb, 1, none⟩ (.slice (some ⟨g5, 0, none⟩) m5 m5)) ga (.bool s4) (.slice (some ⟨g4, 0, none⟩) m4 m4)) := ⟨by go_simp, by go_simp, by go_simp, by go_simp⟩
          have Z42 : Hid (ZR ((Ws.setCell ⟨gb, 0, none⟩ (.bool s5)).setCell ⟨gb, 1, none⟩ (.slice (some ⟨g5, 0, none⟩) m5 m5)) s4 (some ⟨g4, 0, none⟩) m4 (iv s (valB B64 xs))) := (Z4.out.setOff HO4b.out _ _).setOff HO4b.out _ _
          have Z52 : Hid (ZR ((Ws.setCell ⟨gb, 0, none⟩ (.bool s5)).setCell ⟨gb, 1, none⟩ (.slice (some ⟨g5, 0, none⟩) m5 m5)) s5 (some ⟨g5, 0, none⟩) m5 (iv t (valB B64 ys))) := (Z5.out.setOff HO5b.out _ _).setOff HO5b.out _ _
          have hbw2 : Below w.heap.size w ((Ws.setCell ⟨gb, 0, none⟩ (.bool s5)).setCell ⟨gb, 1, none⟩ (.slice (some ⟨g5, 0, none⟩) m5 m5)) := bSet (bSet hbw _ _ _ HGb.out) _ _ _ HGb.out
          refine hK _ _ HJ2.out ?_
          clear hK HJ
          have HJ := HJ2
          clear HJ2 hbw Z4 Z5 
          clear cb0 cb1 fb0 fb1 hneb
          clear cx0 cx1 fx0 fx1 hnex
          clear cy0 cy1 fy0 fy1 hney
          clear cr0 cr1 fr0 fr1 hner
          clear ca0 ca1 fa0 fa1 hnea
          clear qbx qxb qby qyb qbr qrb qba qab Xb Xx Xy Xr Xa
          generalize ((Ws.setCell ⟨gb, 0, none⟩ (.bool s5)).setCell ⟨gb, 1, none⟩ (.slice (some ⟨g5, 0, none⟩) m5 m5)) = Wt at *
          have hbw := hbw2
          have Z4 := Z42
          have Z5 := Z52
          have Xb := Xb2
          have Xx := Xx2
          have Xy := Xy2
          have Xr := Xr2
          have Xa := Xa2
          clear hbw2 Z42 Z52 Xb2 Xx2 Xy2 Xr2 Xa2
          refine wpJ_done (by kernel_rfl) ?_ _
          exact ⟨rfl, ga, gb, s4, g4, m4, s5, g5, m5, by kernel_rfl, Xa.out, Xb.out, Z4.out, Z5.out, HL4.out, HL5.out, Xr.out, hbw⟩
        · go_simp
          have HDb : Hid (gx ≠ v5.heap.size ∧ gy ≠ v5.heap.size ∧ gr ≠ v5.heap.size) := ⟨Nat.ne_of_lt Xx.out.lt, Nat.ne_of_lt Xy.out.lt, Nat.ne_of_lt Xr.out.lt⟩
          have HO4b : Hid (OffR g4 m4 v5.heap.size) := Z4.out.off_new
          have HO5b : Hid (OffR g5 m5 v5.heap.size) := Z5.out.off_new
          have Xb0 : Hid (Box (v5.alloc (.cells #[.bool false, .slice none 0 0] 70)) v5.heap.size (.bool false) (.slice none 0 0)) := Box.new v5 _ _ _
          have hbn : Below v5.heap.size v5 (v5.alloc (.cells #[.bool false, .slice none 0 0] 70)) := below1 v5 _
          generalize v5.alloc (.cells #[.bool false, .slice none 0 0] 70) = Wb at *
          have HGb : Hid (w.heap.size ≤ v5.heap.size) := hbw.size
          replace Xx : Hid _ := Xx.out.below hbn
          replace Xy : Hid _ := Xy.out.below hbn
          replace Xr : Hid _ := Xr.out.below hbn
          replace H : Hid _ := H.out.below hbn
          replace K : Hid _ := K.out.below hbn
          replace Z4 : Hid _ := Z4.out.below hbn
          replace Z5 : Hid _ := Z5.out.below hbn
          replace hbw := Below.on hbw hbn
          clear hbn
          generalize v5.heap.size = gb at *
          have Xb := Xb0
          clear Xb0
          refine hK _ _ ⟨Xx.out.c0, Xx.out.c1, Xy.out.c0, Xy.out.c1⟩ ?_
          clear hK
          refine wpJ_one (i := 4) (by kernel_rfl) rfl (by kernel_rfl) (fun KJ hK => ?_)
          go_simp
          have HDa : Hid (gx ≠ Wb.heap.size ∧ gy ≠ Wb.heap.size ∧ gr ≠ Wb.heap.size ∧ gb ≠ Wb.heap.size) := ⟨Nat.ne_of_lt Xx.out.lt, Nat.ne_of_lt Xy.out.lt, Nat.ne_of_lt Xr.out.lt, Nat.ne_of_lt Xb.out.lt⟩
          have HO4a : Hid (OffR g4 m4 Wb.heap.size) := Z4.out.off_new
          have HO5a : Hid (OffR g5 m5 Wb.heap.size) := Z5.out.off_new
          have Xa0 : Hid (Box (Wb.alloc (.cells #[.bool false, .slice none 0 0] 70)) Wb.heap.size (.bool false) (.slice none 0 0)) := Box.new Wb _ _ _
          have hbn : Below Wb.heap.size Wb (Wb.alloc (.cells #[.bool false, .slice none 0 0] 70)) := below1 Wb _
          generalize Wb.alloc (.cells #[.bool false, .slice none 0 0] 70) = Wa at *
          have HGa : Hid (w.heap.size ≤ Wb.heap.size) := hbw.size
          replace Xx : Hid _ := Xx.out.below hbn
          replace Xy : Hid _ := Xy.out.below hbn
          replace Xr : Hid _ := Xr.out.below hbn
          replace Xb : Hid _ := Xb.out.below hbn
          replace H : Hid _ := H.out.below hbn
          replace K : Hid _ := K.out.below hbn
          replace Z4 : Hid _ := Z4.out.below hbn
          replace Z5 : Hid _ := Z5.out.below hbn
          replace hbw := Below.on hbw hbn
          clear hbn
          generalize Wb.heap.size = ga at *
          have Xa := Xa0
          clear Xa0
          refine hK _ _ ⟨Xx.out.c0, Xx.out.c1, Xy.out.c0, Xy.out.c1⟩ ?_
          clear hK
          obtain ⟨ca0, ca1, fa0, fa1⟩ := Xa.out
          have hnea := Xa.out.lt
          obtain ⟨cx0, cx1, fx0, fx1⟩ := Xx.out
          have hnex := Xx.out.lt
          obtain ⟨cy0, cy1, fy0, fy1⟩ := Xy.out
          have hney := Xy.out.lt
          obtain ⟨cr0, cr1, fr0, fr1⟩ := Xr.out
          have hner := Xr.out.lt
          obtain ⟨cb0, cb1, fb0, fb1⟩ := Xb.out
          have hneb := Xb.out.lt
          have qax : gx ≠ ga := HDa.out.1
          have qxa : ga ≠ gx := fun h => qax h.symm
          have qay : gy ≠ ga := HDa.out.2.1
          have qya : ga ≠ gy := fun h => qay h.symm
          have qar : gr ≠ ga := HDa.out.2.2.1
          have qra : ga ≠ gr := fun h => qar h.symm
          have qab : gb ≠ ga := HDa.out.2.2.2
          have qba : ga ≠ gb := fun h => qab h.symm
          refine wpJ_one (i := 6) (by kernel_rfl) rfl (by kernel_rfl) (fun KJ hK => ?_)
          go_simp
          have HJ2 : Hid ((fun W' : World => W'.cell? ⟨gx, 0, none⟩ = some (.bool s) ∧ W'.cell? ⟨gx, 1, none⟩ = some (.slice p m c) ∧ W'.cell? ⟨gy, 0, none⟩ = some (.bool t) ∧ W'.cell? ⟨gy, 1, none⟩ = some (.slice q n d)) ((Wa.setCell ⟨ga, 0, none⟩ (.bool s4)).setCell ⟨ga, 1, none⟩ (.slice (some ⟨g4, 0, none⟩) m4 m4))) := ⟨by go_simp, by go_simp, by go_simp, by go_simp⟩
          have Xa2 : Hid (Box ((Wa.setCell ⟨ga, 0, none⟩ (.bool s4)).setCell ⟨ga, 1, none⟩ (.slice (some ⟨g4, 0, none⟩) m4 m4)) ga (.bool s4) (.slice (some ⟨g4, 0, none⟩) m4 m4)) := ⟨by go_simp, by go_simp, by go_simp, by go_simp⟩
          have Xx2 : Hid (Box ((Wa.setCell ⟨ga, 0, none⟩ (.bool s4)).setCell ⟨ga, 1, none⟩ (.slice (some ⟨g4, 0, none⟩) m4 m4)) gx (.bool s) (.slice p m c)) := ⟨by go_simp, by go_simp, by go_simp, by go_simp⟩
          have Xy2 : Hid (Box ((Wa.setCell ⟨ga, 0, none⟩ (.bool s4)).setCell ⟨ga, 1, none⟩ (.slice (some ⟨g4, 0, none⟩) m4 m4)) gy (.bool t) (.slice q n d)) := ⟨by go_simp, by go_simp, by go_simp, by go_simp⟩
          have Xr2 : Hid (Box ((Wa.setCell ⟨ga, 0, none⟩ (.bool s4)).setCell ⟨ga, 1, none⟩ (.slice (some ⟨g4, 0, none⟩) m4 m4)) gr (.bool false) (.slice none 0 0)) := ⟨by go_simp, by go_simp, by go_simp, by go_simp⟩
          have Xb2 : Hid (Box ((Wa.setCell ⟨ga, 0, none⟩ (.bool s4)).setCell ⟨ga, 1, none⟩ (.slice (some ⟨g4, 0, none⟩) m4 m4)) gb (.bool false) (.slice none 0 0)) := ⟨by go_simp, by go_simp, by go_simp, by go_simp⟩
          have Z42 : Hid (ZR ((Wa.setCell ⟨ga, 0, none⟩ (.bool s4)).setCell ⟨ga, 1, none⟩ (.slice (some ⟨g4, 0, none⟩) m4 m4)) s4 (some ⟨g4, 0, none⟩) m4 (iv s (valB B64 xs))) := (Z4.out.setOff HO4a.out _ _).setOff HO4a.out _ _
          have Z52 : Hid (ZR ((Wa.setCell ⟨ga, 0, none⟩ (.bool s4)).setCell ⟨ga, 1, none⟩ (.slice (some ⟨g4, 0, none⟩) m4 m4)) s5 (some ⟨g5, 0, none⟩) m5 (iv t (valB B64 ys))) := (Z5.out.setOff HO5a.out _ _).setOff HO5a.out _ _
          have hbw2 : Below w.heap.size w ((Wa.setCell ⟨ga, 0, none⟩ (.bool s4)).setCell ⟨ga, 1, none⟩ (.slice (some ⟨g4, 0, none⟩) m4 m4)) := bSet (bSet hbw _ _ _ HGa.out) _ _ _ HGa.out
          refine hK _ _ HJ2.out ?_
          clear hK HJ
          have HJ := HJ2
          clear HJ2 hbw Z4 Z5 H K
          clear ca0 ca1 fa0 fa1 hnea
          clear cx0 cx1 fx0 fx1 hnex
          clear cy0 cy1 fy0 fy1 hney
          clear cr0 cr1 fr0 fr1 hner
          clear cb0 cb1 fb0 fb1 hneb
          clear qax qxa qay qya qar qra qab qba Xa Xx Xy Xr Xb
          generalize ((Wa.setCell ⟨ga, 0, none⟩ (.bool s4)).setCell ⟨ga, 1, none⟩ (.slice (some ⟨g4, 0, none⟩) m4 m4)) = Ws at *
          have hbw := hbw2
          have Z4 := Z42
          have Z5 := Z52
          have Xa := Xa2
          have Xx := Xx2
          have Xy := Xy2
          have Xr := Xr2
          have Xb := Xb2
          clear hbw2 Z42 Z52 Xa2 Xx2 Xy2 Xr2 Xb2
          obtain ⟨cb0, cb1, fb0, fb1⟩ := Xb.out
          have hneb := Xb.out.lt
          obtain ⟨cx0, cx1, fx0, fx1⟩ := Xx.out
          have hnex := Xx.out.lt
          obtain ⟨cy0, cy1, fy0, fy1⟩ := Xy.out
          have hney := Xy.out.lt
          obtain ⟨cr0, cr1, fr0, fr1⟩ := Xr.out
          have hner := Xr.out.lt
          obtain ⟨ca0, ca1, fa0, fa1⟩ := Xa.out
          have hnea := Xa.out.lt
          have qbx : gx ≠ gb := HDb.out.1
          have qxb : gb ≠ gx := fun h => qbx h.symm
          have qby : gy ≠ gb := HDb.out.2.1
          have qyb : gb ≠ gy := fun h => qby h.symm
          have qbr : gr ≠ gb := HDb.out.2.2
          have qrb : gb ≠ gr := fun h => qbr h.symm
          have qab : gb ≠ ga := HDa.out.2.2.2
          have qba : ga ≠ gb := fun h => qab h.symm
          refine wpJ_one (i := 7) (by kernel_rfl) rfl (by kernel_rfl) (fun KJ hK => ?_)
          go_simp
          have HJ2 : Hid ((fun W' : World => W'.cell? ⟨gx, 0, none⟩ = some (.bool s) ∧ W'.cell? ⟨gx, 1, none⟩ = some (.slice p m c) ∧ W'.cell? ⟨gy, 0, none⟩ = some (.bool t) ∧ W'.cell? ⟨gy, 1, none⟩ = some (.slice q n d)) ((Ws.setCell ⟨gb, 0, none⟩ (.bool s5)).setCell ⟨gb, 1, none⟩ (.slice (some ⟨g5, 0, none⟩) m5 m5))) := ⟨by go_simp, by go_simp, by go_simp, by go_simp⟩
          have Xb2 : Hid (Box ((Ws.setCell ⟨gb, 0, none⟩ (.bool s5)).setCell ⟨gb, 1, none⟩ (.slice (some ⟨g5, 0, none⟩) m5 m5)) gb (.bool s5) (.slice (some ⟨g5, 0, none⟩) m5 m5)) := ⟨by go_simp, by go_simp, by go_simp, by go_simp⟩
          have Xx2 : Hid (Box ((Ws.setCell ⟨gb, 0, none⟩ (.bool s5)).setCell ⟨gb, 1, none⟩ (.slice (some ⟨g5, 0, none⟩) m5 m5)) gx (.bool s) (.slice p m c)) := ⟨by go_simp, by go_simp, by go_simp, by go_simp⟩
          have Xy2 : Hid (Box ((Ws.setCell ⟨gb, 0, none⟩ (.bool s5)).setCell ⟨gb, 1, none⟩ (.slice (some ⟨g5, 0, none⟩) m5 m5)) gy (.bool t) (.slice q n d)) := ⟨by go_simp, by go_simp, by go_simp, by go_simp⟩
          have Xr2 : Hid (Box ((Ws.setCell ⟨gb, 0, none⟩ (.bool s5)).setCell ⟨gb, 1, none⟩ (.slice (some ⟨g5, 0, none⟩) m5 m5)) gr (.bool false) (.slice none 0 0)) := ⟨by go_simp, by go_simp, by go_simp, by go_simp⟩
          have Xa2 : Hid (Box ((Ws.setCell ⟨gb, 0, none⟩ (.bool s5)).setCell ⟨gb, 1, none⟩ (.slice (some ⟨g5, 0, none⟩) m5 m5)) ga (.bool s4) (.slice (some ⟨g4, 0, none⟩) m4 m4)) := ⟨by go_simp, by go_simp, by go_simp, by go_simp⟩
          have Z42 : Hid (ZR ((Ws.setCell ⟨gb, 0, none⟩ (.bool s5)).setCell ⟨gb, 1, none⟩ (.slice (some ⟨g5, 0, none⟩) m5 m5)) s4 (some ⟨g4, 0, none⟩) m4 (iv s (valB B64 xs))) := (Z4.out.setOff HO4b.out _ _).setOff HO4b.out _ _
          have Z52 : Hid (ZR ((Ws.setCell ⟨gb, 0, none⟩ (.bool s5)).setCell ⟨gb, 1, none⟩ (.slice (some ⟨g5, 0, none⟩) m5 m5)) s5 (some ⟨g5, 0, none⟩) m5 (iv t (valB B64 ys))) := (Z5.out.setOff HO5b.out _ _).setOff HO5b.out _ _
          have hbw2 : Below w.heap.size w ((Ws.setCell ⟨gb, 0, none⟩ (.bool s5)).setCell ⟨gb, 1, none⟩ (.slice (some ⟨g5, 0, none⟩) m5 m5)) := bSet (bSet hbw _ _ _ HGb.out) _ _ _ HGb.out
          refine hK _ _ HJ2.out ?_
          clear hK HJ
          have HJ := HJ2
          clear HJ2 hbw Z4 Z5 
          clear cb0 cb1 fb0 fb1 hneb
          clear cx0 cx1 fx0 fx1 hnex
          clear cy0 cy1 fy0 fy1 hney
          clear cr0 cr1 fr0 fr1 hner
          clear ca0 ca1 fa0 fa1 hnea
          clear qbx qxb qby qyb qbr qrb qba qab Xb Xx Xy Xr Xa
          generalize ((Ws.setCell ⟨gb, 0, none⟩ (.bool s5)).setCell ⟨gb, 1, none⟩ (.slice (some ⟨g5, 0, none⟩) m5 m5)) = Wt at *
          have hbw := hbw2
          have Z4 := Z42
          have Z5 := Z52
          have Xb := Xb2
          have Xx := Xx2
          have Xy := Xy2
          have Xr := Xr2
          have Xa := Xa2
          clear hbw2 Z42 Z52 Xb2 Xx2 Xy2 Xr2 Xa2
          refine wpJ_done (by kernel_rfl) ?_ _
          exact ⟨rfl, ga, gb, s4, g4, m4, s5, g5, m5, by kernel_rfl, Xa.out, Xb.out, Z4.out, Z5.out, HL4.out, HL5.out, Xr.out, hbw⟩
      · go_simp
        have HDa : Hid (gx ≠ v4.heap.size ∧ gy ≠ v4.heap.size ∧ gr ≠ v4.heap.size) := ⟨Nat.ne_of_lt Xx.out.lt, Nat.ne_of_lt Xy.out.lt, Nat.ne_of_lt Xr.out.lt⟩
        have HO4a : Hid (OffR g4 m4 v4.heap.size) := Z4.out.off_new
        have Xa0 : Hid (Box (v4.alloc (.cells #[.bool false, .slice none 0 0] 70)) v4.heap.size (.bool false) (.slice none 0 0)) := Box.new v4 _ _ _
        have hbn : Below v4.heap.size v4 (v4.alloc (.cells #[.bool false, .slice none 0 0] 70)) := below1 v4 _
        generalize v4.alloc (.cells #[.bool false, .slice none 0 0] 70) = Wa at *
        have HGa : Hid (w.heap.size ≤ v4.heap.size) := hbw.size
        replace Xx : Hid _ := Xx.out.below hbn
        replace Xy : Hid _ := Xy.out.below hbn
        replace Xr : Hid _ := Xr.out.below hbn
        replace H : Hid _ := H.out.below hbn
        replace K : Hid _ := K.out.below hbn
        replace Z4 : Hid _ := Z4.out.below hbn
        replace hbw := Below.on hbw hbn
        clear hbn
        generalize v4.heap.size = ga at *
        have Xa := Xa0
        clear Xa0
        clear HJ
        have HJ : Hid ((fun W' : World => W'.cell? ⟨gx, 0, none⟩ = some (.bool s) ∧ W'.cell? ⟨gx, 1, none⟩ = some (.slice p m c) ∧ W'.cell? ⟨gy, 0, none⟩ = some (.bool t) ∧ W'.cell? ⟨gy, 1, none⟩ = some (.slice q n d)) Wa) := ⟨Xx.out.c0, Xx.out.c1, Xy.out.c0, Xy.out.c1⟩
        refine hK _ _ HJ.out ?_
        clear hK
        refine wpJ_two (i := 3) (k := 5) (by kernel_rfl) rfl rfl (by kernel_rfl) (by kernel_rfl) (fun KJ hK => ?_) (fun KJ hK => ?_)
        · go_simp
          refine (rfrom04g t K.out (by have := HM.out; omega)).mono ?_
          rintro e v5 ⟨v, rfl, hv, hb5⟩
          obtain ⟨s5, g5, m5, rfl, hg5, hz5, hl5⟩ := hv
          have HO5a : Hid (OffR g5 m5 ga) := .inr (Nat.ne_of_gt (Nat.lt_of_lt_of_le Xa.out.lt hg5))
          replace Xx : Hid _ := Xx.out.below hb5
          replace Xy : Hid _ := Xy.out.below hb5
          replace Xr : Hid _ := Xr.out.below hb5
          replace Xa : Hid _ := Xa.out.below hb5
          replace H : Hid _ := H.out.below hb5
          replace K : Hid _ := K.out.below hb5
          replace Z4 : Hid _ := Z4.out.below hb5
          replace hbw := Below.on hbw hb5
          clear hb5
          have Z5 : Hid (ZR v5 s5 (some ⟨g5, 0, none⟩) m5 (iv t (valB B64 ys))) := hz5
          have HL5 : Hid (m5 ≤ 16384) := by have := HM.out; show m5 ≤ _; omega
          clear hz5 hl5 hg5
          refine hK _ _ ⟨Xx.out.c0, Xx.out.c1, Xy.out.c0, Xy.out.c1⟩ ?_
          clear hK
          refine wpJ_one (i := 5) (by kernel_rfl) rfl (by kernel_rfl) (fun KJ hK => ?_)
          go_simp
          have HDb : Hid (gx ≠ v5.heap.size ∧ gy ≠ v5.heap.size ∧ gr ≠ v5.heap.size ∧ ga ≠ v5.heap.size) := ⟨Nat.ne_of_lt Xx.out.lt, Nat.ne_of_lt Xy.out.lt, Nat.ne_of_lt Xr.out.lt, Nat.ne_of_lt Xa.out.lt⟩
          have HO4b : Hid (OffR g4 m4 v5.heap.size) := Z4.out.off_new
          have HO5b : Hid (OffR g5 m5 v5.heap.size) := Z5.out.off_new
          have Xb0 : Hid (Box (v5.alloc (.cells #[.bool false, .slice none 0 0] 70)) v5.heap.size (.bool false) (.slice none 0 0)) := Box.new v5 _ _ _
          have hbn : Below v5.heap.size v5 (v5.alloc (.cells #[.bool false, .slice none 0 0] 70)) := below1 v5 _
          generalize v5.alloc (.cells #[.bool false, .slice none 0 0] 70) = Wb at *
          have HGb : Hid (w.heap.size ≤ v5.heap.size) := hbw.size
          replace Xx : Hid _ := Xx.out.below hbn
          replace Xy : Hid _ := Xy.out.below hbn
          replace Xr : Hid _ := Xr.out.below hbn
          replace Xa : Hid _ := Xa.out.below hbn
          replace H : Hid _ := H.out.below hbn
          replace K : Hid _ := K.out.below hbn
          replace Z4 : Hid _ := Z4.out.below hbn
          replace Z5 : Hid _ := Z5.out.below hbn
          replace hbw := Below.on hbw hbn
          clear hbn
          generalize v5.heap.size = gb at *
          have Xb := Xb0
          clear Xb0
          refine hK _ _ ⟨Xx.out.c0, Xx.out.c1, Xy.out.c0, Xy.out.c1⟩ ?_
          clear hK
          obtain ⟨ca0, ca1, fa0, fa1⟩ := Xa.out
          have hnea := Xa.out.lt
          obtain ⟨cx0, cx1, fx0, fx1⟩ := Xx.out
          have hnex := Xx.out.lt
          obtain ⟨cy0, cy1, fy0, fy1⟩ := Xy.out
          have hney := Xy.out.lt
          obtain ⟨cr0, cr1, fr0, fr1⟩ := Xr.out
          have hner := Xr.out.lt
          obtain ⟨cb0, cb1, fb0, fb1⟩ := Xb.out
          have hneb := Xb.out.lt
          have qax : gx ≠ ga := HDa.out.1
          have qxa : ga ≠ gx := fun h => qax h.symm
          have qay : gy ≠ ga := HDa.out.2.1
          have qya : ga ≠ gy := fun h => qay h.symm
          have qar : gr ≠ ga := HDa.out.2.2
          have qra : ga ≠ gr := fun h => qar h.symm
          have qba : ga ≠ gb := HDb.out.2.2.2
          have qab : gb ≠ ga := fun h => qba h.symm
          refine wpJ_one (i := 6) (by kernel_rfl) rfl (by kernel_rfl) (fun KJ hK => ?_)
          go_simp
          have HJ2 : Hid ((fun W' : World => W'.cell? ⟨gx, 0, none⟩ = some (.bool s) ∧ W'.cell? ⟨gx, 1, none⟩ = some (.slice p m c) ∧ W'.cell? ⟨gy, 0, none⟩ = some (.bool t) ∧ W'.cell? ⟨gy, 1, none⟩ = some (.slice q n d)) ((Wb.setCell ⟨ga, 0, none⟩ (.bool s4)).setCell ⟨ga, 1, none⟩ (.slice (some ⟨g4, 0, none⟩) m4 m4))) := ⟨by go_simp, by go_simp, by go_simp, by go_simp⟩
          have Xa2 : Hid (Box ((Wb.setCell ⟨ga, 0, none⟩ (.bool s4)).setCell ⟨ga, 1, none⟩ (.slice (some ⟨g4, 0, none⟩) m4 m4)) ga (.bool s4) (.slice (some ⟨g4, 0, none⟩) m4 m4)) := ⟨by go_simp, by go_simp, by go_simp, by go_simp⟩
          have Xx2 : Hid (Box ((Wb.setCell ⟨ga, 0, none⟩ (.bool s4)).setCell ⟨ga, 1, none⟩ (.slice (some ⟨g4, 0, none⟩) m4 m4)) gx (.bool s) (.slice p m c)) := ⟨by go_simp, by go_simp, by go_simp, by go_simp⟩
          have Xy2 : Hid (Box ((Wb.setCell ⟨ga, 0, none⟩ (.bool s4)).setCell ⟨ga, 1, none⟩ (.slice (some ⟨g4, 0, none⟩) m4 m4)) gy (.bool t) (.slice q n d)) := ⟨by go_simp, by go_simp, by go_simp, by go_simp⟩
          have Xr2 : Hid (Box ((Wb.setCell ⟨ga, 0, none⟩ (.bool s4)).setCell ⟨ga, 1, none⟩ (.slice (some ⟨g4, 0, none⟩) m4 m4)) gr (.bool false) (.slice none 0 0)) := ⟨by go_simp, by go_simp, by go_simp, by go_simp⟩
          have Xb2 : Hid (Box ((Wb.setCell ⟨ga, 0, none⟩ (.bool s4)).setCell ⟨ga, 1, none⟩ (.slice (some ⟨g4, 0, none⟩) m4 m4)) gb (.bool false) (.slice none 0 0)) := ⟨by go_simp, by go_simp, by go_simp, by go_simp⟩
          have Z42 : Hid (ZR ((Wb.setCell ⟨ga, 0, none⟩ (.bool s4)).setCell ⟨ga, 1, none⟩ (.slice (some ⟨g4, 0, none⟩) m4 m4)) s4 (some ⟨g4, 0, none⟩) m4 (iv s (valB B64 xs))) := (Z4.out.setOff HO4a.out _ _).setOff HO4a.out _ _
          have Z52 : Hid (ZR ((Wb.setCell ⟨ga, 0, none⟩ (.bool s4)).setCell ⟨ga, 1, none⟩ (.slice (some ⟨g4, 0, none⟩) m4 m4)) s5 (some ⟨g5, 0, none⟩) m5 (iv t (valB B64 ys))) := (Z5.out.setOff HO5a.out _ _).setOff HO5a.out _ _
          have hbw2 : Below w.heap.size w ((Wb.setCell ⟨ga, 0, none⟩ (.bool s4)).setCell ⟨ga, 1, none⟩ (.slice (some ⟨g4, 0, none⟩) m4 m4)) := bSet (bSet hbw _ _ _ HGa.out) _ _ _ HGa.out
          refine hK _ _ HJ2.out ?_
          clear hK HJ
          have HJ := HJ2
          clear HJ2 hbw Z4 Z5 H K
          clear ca0 ca1 fa0 fa1 hnea
          clear cx0 cx1 fx0 fx1 hnex
          clear cy0 cy1 fy0 fy1 hney
          clear cr0 cr1 fr0 fr1 hner
          clear cb0 cb1 fb0 fb1 hneb
          clear qax qxa qay qya qar qra qab qba Xa Xx Xy Xr Xb
          generalize ((Wb.setCell ⟨ga, 0, none⟩ (.bool s4)).setCell ⟨ga, 1, none⟩ (.slice (some ⟨g4, 0, none⟩) m4 m4)) = Ws at *
          have hbw := hbw2
          have Z4 := Z42
          have Z5 := Z52
          have Xa := Xa2
          have Xx := Xx2
          have Xy := Xy2
          have Xr := Xr2
          have Xb := Xb2
          clear hbw2 Z42 Z52 Xa2 Xx2 Xy2 Xr2 Xb2
          obtain ⟨cb0, cb1, fb0, fb1⟩ := Xb.out
          have hneb := Xb.out.lt
          obtain ⟨cx0, cx1, fx0, fx1⟩ := Xx.out
          have hnex := Xx.out.lt
          obtain ⟨cy0, cy1, fy0, fy1⟩ := Xy.out
          have hney := Xy.out.lt
          obtain ⟨cr0, cr1, fr0, fr1⟩ := Xr.out
          have hner := Xr.out.lt
          obtain ⟨ca0, ca1, fa0, fa1⟩ := Xa.out
          have hnea := Xa.out.lt
          have qbx : gx ≠ gb := HDb.out.1
          have qxb : gb ≠ gx := fun h => qbx h.symm
          have qby : gy ≠ gb := HDb.out.2.1
          have qyb : gb ≠ gy := fun h => qby h.symm
          have qbr : gr ≠ gb := HDb.out.2.2.1
          have qrb : gb ≠ gr := fun h => qbr h.symm
          have qba : ga ≠ gb := HDb.out.2.2.2
          have qab : gb ≠ ga := fun h => qba h.symm
          refine wpJ_one (i := 7) (by kernel_rfl) rfl (by kernel_rfl) (fun KJ hK => ?_)
          go_simp
          have HJ2 : Hid ((fun W' : World => W'.cell? ⟨gx, 0, none⟩ = some (.bool s) ∧ W'.cell? ⟨gx, 1, none⟩ = some (.slice p m c) ∧ W'.cell? ⟨gy, 0, none⟩ = some (.bool t) ∧ W'.cell? ⟨gy, 1, none⟩ = some (.slice q n d)) ((Ws.setCell ⟨gb, 0, none⟩ (.bool s5)).setCell ⟨gb, 1, none⟩ (.slice (some ⟨g5, 0, none⟩) m5 m5))) := ⟨by go_simp, by go_simp, by go_simp, by go_simp⟩
          have Xb2 : Hid (Box ((Ws.setCell ⟨gb, 0, none⟩ (.bool s5)).setCell ⟨gb, 1, none⟩ (.slice (some ⟨g5, 0, none⟩) m5 m5)) gb (.bool s5) (.slice (some ⟨g5, 0, none⟩) m5 m5)) := ⟨by go_simp, by go_simp, by go_simp, by go_simp⟩
          have Xx2 : Hid (Box ((Ws.setCell ⟨gb, 0, none⟩ (.bool s5)).setCell ⟨gb, 1, none⟩ (.slice (some ⟨g5, 0, none⟩) m5 m5)) gx (.bool s) (.slice p m c)) := ⟨by go_simp, by go_simp, by go_simp, by go_simp⟩
          have Xy2 : Hid (Box ((Ws.setCell ⟨gb, 0, none⟩ (.bool s5)).setCell ⟨gb, 1, none⟩ (.slice (some ⟨g5, 0, none⟩) m5 m5)) gy (.bool t) (.slice q n d)) := ⟨by go_simp, by go_simp, by go_simp, by go_simp⟩
          have Xr2 : Hid (Box ((Ws.setCell ⟨gb, 0, none⟩ (.bool s5)).setCell ⟨gb, 1, none⟩ (.slice (some ⟨g5, 0, none⟩) m5 m5)) gr (.bool false) (.slice none 0 0)) := ⟨by go_simp, by go_simp, by go_simp, by go_simp⟩
          have Xa2 : Hid (Box ((Ws.setCell ⟨gb, 0, none⟩ (.bool s5)).setCell ⟨gb, 1, none⟩ (.slice (some ⟨g5, 0, none⟩) m5 m5)) ga (.bool s4) (.slice (some ⟨g4, 0, none⟩) m4 m4)) := ⟨by go_simp, by go_simp, by go_simp, by go_simp⟩
          have Z42 : Hid (ZR ((Ws.setCell ⟨gb, 0, none⟩ (.bool s5)).setCell ⟨gb, 1, none⟩ (.slice (some ⟨g5, 0, none⟩) m5 m5)) s4 (some ⟨g4, 0, none⟩) m4 (iv s (valB B64 xs))) := (Z4.out.setOff HO4b.out _ _).setOff HO4b.out _ _
          have Z52 : Hid (ZR ((Ws.setCell ⟨gb, 0, none⟩ (.bool s5)).setCell ⟨gb, 1, none⟩ (.slice (some ⟨g5, 0, none⟩) m5 m5)) s5 (some ⟨g5, 0, none⟩) m5 (iv t (valB B64 ys))) := (Z5.out.setOff HO5b.out _ _).setOff HO5b.out _ _
          have hbw2 : Below w.heap.size w ((Ws.setCell ⟨gb, 0, none⟩ (.bool s5)).setCell ⟨gb, 1, none⟩ (.slice (some ⟨g5, 0, none⟩) m5 m5)) := bSet (bSet hbw _ _ _ HGb.out) _ _ _ HGb.out
          refine hK _ _ HJ2.out ?_
          clear hK HJ
          have HJ := HJ2
          clear HJ2 hbw Z4 Z5 
          clear cb0 cb1 fb0 fb1 hneb
          clear cx0 cx1 fx0 fx1 hnex
          clear cy0 cy1 fy0 fy1 hney
          clear cr0 cr1 fr0 fr1 hner
          clear ca0 ca1 fa0 fa1 hnea
          clear qbx qxb qby qyb qbr qrb qba qab Xb Xx Xy Xr Xa
          generalize ((Ws.setCell ⟨gb, 0, none⟩ (.bool s5)).setCell ⟨gb, 1, none⟩ (.slice (some ⟨g5, 0, none⟩) m5 m5)) = Wt at *
          have hbw := hbw2
          have Z4 := Z42
          have Z5 := Z52
          have Xb := Xb2
          have Xx := Xx2
          have Xy := Xy2
          have Xr := Xr2
          have Xa := Xa2
          clear hbw2 Z42 Z52 Xb2 Xx2 Xy2 Xr2 Xa2
          refine wpJ_done (by kernel_rfl) ?_ _
          exact ⟨rfl, ga, gb, s4, g4, m4, s5, g5, m5, by kernel_rfl, Xa.out, Xb.out, Z4.out, Z5.out, HL4.out, HL5.out, Xr.out, hbw⟩
        · go_simp
          have HDb : Hid (gx ≠ Wa.heap.size ∧ gy ≠ Wa.heap.size ∧ gr ≠ Wa.heap.size ∧ ga ≠ Wa.heap.size) := ⟨Nat.ne_of_lt Xx.out.lt, Nat.ne_of_lt Xy.out.lt, Nat.ne_of_lt Xr.out.lt, Nat.ne_of_lt Xa.out.lt⟩
          have HO4b : Hid (OffR g4 m4 Wa.heap.size) := Z4.out.off_new
          have Xb0 : Hid (Box (Wa.alloc (.cells #[.bool false, .slice none 0 0] 70)) Wa.heap.size (.bool false) (.slice none 0 0)) := Box.new Wa _ _ _
          have hbn : Below Wa.heap.size Wa (Wa.alloc (.cells #[.bool false, .slice none 0 0] 70)) := below1 Wa _
          generalize Wa.alloc (.cells #[.bool false, .slice none 0 0] 70) = Wb at *
          have HGb : Hid (w.heap.size ≤ Wa.heap.size) := hbw.size
          replace Xx : Hid _ := Xx.out.below hbn
          replace Xy : Hid _ := Xy.out.below hbn
          replace Xr : Hid _ := Xr.out.below hbn
          replace Xa : Hid _ := Xa.out.below hbn
          replace H : Hid _ := H.out.below hbn
          replace K : Hid _ := K.out.below hbn
          replace Z4 : Hid _ := Z4.out.below hbn
          replace hbw := Below.on hbw hbn
          clear hbn
          generalize Wa.heap.size = gb at *
          have Xb := Xb0
          clear Xb0
          refine hK _ _ ⟨Xx.out.c0, Xx.out.c1, Xy.out.c0, Xy.out.c1⟩ ?_
          clear hK
          refine wpJ_one (i := 3) (by kernel_rfl) rfl (by kernel_rfl) (fun KJ hK => ?_)
          go_simp
          refine (rfrom04g t K.out (by have := HM.out; omega)).mono ?_
          rintro e v5 ⟨v, rfl, hv, hb5⟩
          obtain ⟨s5, g5, m5, rfl, hg5, hz5, hl5⟩ := hv
          have HO5a : Hid (OffR g5 m5 ga) := .inr (Nat.ne_of_gt (Nat.lt_of_lt_of_le Xa.out.lt hg5))
          have HO5b : Hid (OffR g5 m5 gb) := .inr (Nat.ne_of_gt (Nat.lt_of_lt_of_le Xb.out.lt hg5))
          replace Xx : Hid _ := Xx.out.below hb5
          replace Xy : Hid _ := Xy.out.below hb5
          replace Xr : Hid _ := Xr.out.below hb5
          replace Xa : Hid _ := Xa.out.below hb5
          replace Xb : Hid _ := Xb.out.below hb5
          replace H : Hid _ := H.out.below hb5
          replace K : Hid _ := K.out.below hb5
          replace Z4 : Hid _ := Z4.out.below hb5
          replace hbw := Below.on hbw hb5
          clear hb5
          have Z5 : Hid (ZR v5 s5 (some ⟨g5, 0, none⟩) m5 (iv t (valB B64 ys))) := hz5
          have HL5 : Hid (m5 ≤ 16384) := by have := HM.out; show m5 ≤ _; omega
          clear hz5 hl5 hg5
          refine hK _ _ ⟨Xx.out.c0, Xx.out.c1, Xy.out.c0, Xy.out.c1⟩ ?_
          clear hK
          obtain ⟨ca0, ca1, fa0, fa1⟩ := Xa.out
          have hnea := Xa.out.lt
          obtain ⟨cx0, cx1, fx0, fx1⟩ := Xx.out
          have hnex := Xx.out.lt
          obtain ⟨cy0, cy1, fy0, fy1⟩ := Xy.out
          have hney := Xy.out.lt
          obtain ⟨cr0, cr1, fr0, fr1⟩ := Xr.out
          have hner := Xr.out.lt
          obtain ⟨cb0, cb1, fb0, fb1⟩ := Xb.out
          have hneb := Xb.out.lt
          have qax : gx ≠ ga := HDa.out.1
          have qxa : ga ≠ gx := fun h => qax h.symm
          have qay : gy ≠ ga := HDa.out.2.1
          have qya : ga ≠ gy := fun h => qay h.symm
          have qar : gr ≠ ga := HDa.out.2.2
          have qra : ga ≠ gr := fun h => qar h.symm
          have qba : ga ≠ gb := HDb.out.2.2.2
          have qab : gb ≠ ga := fun h => qba h.symm
          refine wpJ_one (i := 6) (by kernel_rfl) rfl (by kernel_rfl) (fun KJ hK => ?_)
          go_simp
          have HJ2 : Hid ((fun W' : World => W'.cell? ⟨gx, 0, none⟩ = some (.bool s) ∧ W'.cell? ⟨gx, 1, none⟩ = some (.slice p m c) ∧ W'.cell? ⟨gy, 0, none⟩ = some (.bool t) ∧ W'.cell? ⟨gy, 1, none⟩ = some (.slice q n d)) ((v5.setCell ⟨ga, 0, none⟩ (.bool s4)).setCell ⟨ga, 1, none⟩ (.slice (some ⟨g4, 0, none⟩) m4 m4))) := ⟨by go_simp, by go_simp, by go_simp, by go_simp⟩
          have Xa2 : Hid (Box ((v5.setCell ⟨ga, 0, none⟩ (.bool s4)).setCell ⟨ga, 1, none⟩ (.slice (some ⟨g4, 0, none⟩) m4 m4)) ga (.bool s4) (.slice (some ⟨g4, 0, none⟩) m4 m4)) := ⟨by go_simp, by go_simp, by go_simp, by go_simp⟩
          have Xx2 : Hid (Box ((v5.setCell ⟨ga, 0, none⟩ (.bool s4)).setCell ⟨ga, 1, none⟩ (.slice (some ⟨g4, 0, none⟩) m4 m4)) gx (.bool s) (.slice p m c)) := ⟨by go_simp, by go_simp, by go_simp, by go_simp⟩
          have Xy2 : Hid (Box ((v5.setCell ⟨ga, 0, none⟩ (.bool s4)).setCell ⟨ga, 1, none⟩ (.slice (some ⟨g4, 0, none⟩) m4 m4)) gy (.bool t) (.slice q n d)) := ⟨by go_simp, by go_simp, by go_simp, by go_simp⟩
          have Xr2 : Hid (Box ((v5.setCell ⟨ga, 0, none⟩ (.bool s4)).setCell ⟨ga, 1, none⟩ (.slice (some ⟨g4, 0, none⟩) m4 m4)) gr (.bool false) (.slice none 0 0)) := ⟨by go_simp, by go_simp, by go_simp, by go_simp⟩
          have Xb2 : Hid (Box ((v5.setCell ⟨ga, 0, none⟩ (.bool s4)).setCell ⟨ga, 1, none⟩ (.slice (some ⟨g4, 0, none⟩) m4 m4)) gb (.bool false) (.slice none 0 0)) := ⟨by go_simp, by go_simp, by go_simp, by go_simp⟩
          have Z42 : Hid (ZR ((v5.setCell ⟨ga, 0, none⟩ (.bool s4)).setCell ⟨ga, 1, none⟩ (.slice (some ⟨g4, 0, none⟩) m4 m4)) s4 (some ⟨g4, 0, none⟩) m4 (iv s (valB B64 xs))) := (Z4.out.setOff HO4a.out _ _).setOff HO4a.out _ _
          have Z52 : Hid (ZR ((v5.setCell ⟨ga, 0, none⟩ (.bool s4)).setCell ⟨ga, 1, none⟩ (.slice (some ⟨g4, 0, none⟩) m4 m4)) s5 (some ⟨g5, 0, none⟩) m5 (iv t (valB B64 ys))) := (Z5.out.setOff HO5a.out _ _).setOff HO5a.out _ _
          have hbw2 : Below w.heap.size w ((v5.setCell ⟨ga, 0, none⟩ (.bool s4)).setCell ⟨ga, 1, none⟩ (.slice (some ⟨g4, 0, none⟩) m4 m4)) := bSet (bSet hbw _ _ _ HGa.out) _ _ _ HGa.out
          refine hK _ _ HJ2.out ?_
          clear hK HJ
          have HJ := HJ2
          clear HJ2 hbw Z4 Z5 H K
          clear ca0 ca1 fa0 fa1 hnea
          clear cx0 cx1 fx0 fx1 hnex
          clear cy0 cy1 fy0 fy1 hney
          clear cr0 cr1 fr0 fr1 hner
          clear cb0 cb1 fb0 fb1 hneb
          clear qax qxa qay qya qar qra qab qba Xa Xx Xy Xr Xb
          generalize ((v5.setCell ⟨ga, 0, none⟩ (.bool s4)).setCell ⟨ga, 1, none⟩ (.slice (some ⟨g4, 0, none⟩) m4 m4)) = Ws at *
          have hbw := hbw2
          have Z4 := Z42
          have Z5 := Z52
          have Xa := Xa2
          have Xx := Xx2
          have Xy := Xy2
          have Xr := Xr2
          have Xb := Xb2
          clear hbw2 Z42 Z52 Xa2 Xx2 Xy2 Xr2 Xb2
          obtain ⟨cb0, cb1, fb0, fb1⟩ := Xb.out
          have hneb := Xb.out.lt
          obtain ⟨cx0, cx1, fx0, fx1⟩ := Xx.out
          have hnex := Xx.out.lt
          obtain ⟨cy0, cy1, fy0, fy1⟩ := Xy.out
          have hney := Xy.out.lt
          obtain ⟨cr0, cr1, fr0, fr1⟩ := Xr.out
          have hner := Xr.out.lt
          obtain ⟨ca0, ca1, fa0, fa1⟩ := Xa.out
          have hnea := Xa.out.lt
          have qbx : gx ≠ gb := HDb.out.1
          have qxb : gb ≠ gx := fun h => qbx h.symm
          have qby : gy ≠ gb := HDb.out.2.1
          have qyb : gb ≠ gy := fun h => qby h.symm
          have qbr : gr ≠ gb := HDb.out.2.2.1
          have qrb : gb ≠ gr := fun h => qbr h.symm
          have qba : ga ≠ gb := HDb.out.2.2.2
          have qab : gb ≠ ga := fun h => qba h.symm
          refine wpJ_one (i := 7) (by kernel_rfl) rfl (by kernel_rfl) (fun KJ hK => ?_)
          go_simp
          have HJ2 : Hid ((fun W' : World => W'.cell? ⟨gx, 0, none⟩ = some (.bool s) ∧ W'.cell? ⟨gx, 1, none⟩ = some (.slice p m c) ∧ W'.cell? ⟨gy, 0, none⟩ = some (.bool t) ∧ W'.cell? ⟨gy, 1, none⟩ = some (.slice q n d)) ((Ws.setCell ⟨gb, 0, none⟩ (.bool s5)).setCell ⟨gb, 1, none⟩ (.slice (some ⟨g5, 0, none⟩) m5 m5))) := ⟨by go_simp, by go_simp, by go_simp, by go_simp⟩
          have Xb2 : Hid (Box ((Ws.setCell ⟨gb, 0, none⟩ (.bool s5)).setCell ⟨gb, 1, none⟩ (.slice (some ⟨g5, 0, none⟩) m5 m5)) gb (.bool s5) (.slice (some ⟨g5, 0, none⟩) m5 m5)) := ⟨by go_simp, by go_simp, by go_simp, by go_simp⟩
          have Xx2 : Hid (Box ((Ws.setCell ⟨gb, 0, none⟩ (.bool s5)).setCell ⟨gb, 1, none⟩ (.slice (some ⟨g5, 0, none⟩) m5 m5)) gx (.bool s) (.slice p m c)) := ⟨by go_simp, by go_simp, by go_simp, by go_simp⟩
          have Xy2 : Hid (Box ((Ws.setCell ⟨gb, 0, none⟩ (.bool s5)).setCell ⟨gb, 1, none⟩ (.slice (some ⟨g5, 0, none⟩) m5 m5)) gy (.bool t) (.slice q n d)) := ⟨by go_simp, by go_simp, by go_simp, by go_simp⟩
          have Xr2 : Hid (Box ((Ws.setCell ⟨gb, 0, none⟩ (.bool s5)).setCell ⟨gb, 1, none⟩ (.slice (some ⟨g5, 0, none⟩) m5 m5)) gr (.bool false) (.slice none 0 0)) := ⟨by go_simp, by go_simp, by go_simp, by go_simp⟩
          have Xa2 : Hid (Box ((Ws.setCell ⟨gb, 0, none⟩ (.bool s5)).setCell ⟨gb, 1, none⟩ (.slice (some ⟨g5, 0, none⟩) m5 m5)) ga (.bool s4) (.slice (some ⟨g4, 0, none⟩) m4 m4)) := ⟨by go_simp, by go_simp, by go_simp, by go_simp⟩
          have Z42 : Hid (ZR ((Ws.setCell ⟨gb, 0, none⟩ (.bool s5)).setCell ⟨gb, 1, none⟩ (.slice (some ⟨g5, 0, none⟩) m5 m5)) s4 (some ⟨g4, 0, none⟩) m4 (iv s (valB B64 xs))) := (Z4.out.setOff HO4b.out _ _).setOff HO4b.out _ _
          have Z52 : Hid (ZR ((Ws.setCell ⟨gb, 0, none⟩ (.bool s5)).setCell ⟨gb, 1, none⟩ (.slice (some ⟨g5, 0, none⟩) m5 m5)) s5 (some ⟨g5, 0, none⟩) m5 (iv t (valB B64 ys))) := (Z5.out.setOff HO5b.out _ _).setOff HO5b.out _ _
          have hbw2 : Below w.heap.size w ((Ws.setCell ⟨gb, 0, none⟩ (.bool s5)).setCell ⟨gb, 1, none⟩ (.slice (some ⟨g5, 0, none⟩) m5 m5)) := bSet (bSet hbw _ _ _ HGb.out) _ _ _ HGb.out
          refine hK _ _ HJ2.out ?_
          clear hK HJ
          have HJ := HJ2
          clear HJ2 hbw Z4 Z5 
          clear cb0 cb1 fb0 fb1 hneb
          clear cx0 cx1 fx0 fx1 hnex
          clear cy0 cy1 fy0 fy1 hney
          clear cr0 cr1 fr0 fr1 hner
          clear ca0 ca1 fa0 fa1 hnea
          clear qbx qxb qby qyb qbr qrb qba qab Xb Xx Xy Xr Xa
          generalize ((Ws.setCell ⟨gb, 0, none⟩ (.bool s5)).setCell ⟨gb, 1, none⟩ (.slice (some ⟨g5, 0, none⟩) m5 m5)) = Wt at *
          have hbw := hbw2
          have Z4 := Z42
          have Z5 := Z52
          have Xb := Xb2
          have Xx := Xx2
          have Xy := Xy2
          have Xr := Xr2
          have Xa := Xa2
          clear hbw2 Z42 Z52 Xb2 Xx2 Xy2 Xr2 Xa2
          refine wpJ_done (by kernel_rfl) ?_ _
          exact ⟨rfl, ga, gb, s4, g4, m4, s5, g5, m5, by kernel_rfl, Xa.out, Xb.out, Z4.out, Z5.out, HL4.out, HL5.out, Xr.out, hbw⟩
      · go_simp
        have HDb : Hid (gx ≠ v4.heap.size ∧ gy ≠ v4.heap.size ∧ gr ≠ v4.heap.size) := ⟨Nat.ne_of_lt Xx.out.lt, Nat.ne_of_lt Xy.out.lt, Nat.ne_of_lt Xr.out.lt⟩
        have HO4b : Hid (OffR g4 m4 v4.heap.size) := Z4.out.off_new
        have Xb0 : Hid (Box (v4.alloc (.cells #[.bool false, .slice none 0 0] 70)) v4.heap.size (.bool false) (.slice none 0 0)) := Box.new v4 _ _ _
        have hbn : Below v4.heap.size v4 (v4.alloc (.cells #[.bool false, .slice none 0 0] 70)) := below1 v4 _
        generalize v4.alloc (.cells #[.bool false, .slice none 0 0] 70) = Wb at *
        have HGb : Hid (w.heap.size ≤ v4.heap.size) := hbw.size
        replace Xx : Hid _ := Xx.out.below hbn
        replace Xy : Hid _ := Xy.out.below hbn
        replace Xr : Hid _ := Xr.out.below hbn
        replace H : Hid _ := H.out.below hbn
        replace K : Hid _ := K.out.below hbn
        replace Z4 : Hid _ := Z4.out.below hbn
        replace hbw := Below.on hbw hbn
        clear hbn
        generalize v4.heap.size = gb at *
        have Xb := Xb0
        clear Xb0
        clear HJ
        have HJ : Hid ((fun W' : World => W'.cell? ⟨gx, 0, none⟩ = some (.bool s) ∧ W'.cell? ⟨gx, 1, none⟩ = some (.slice p m c) ∧ W'.cell? ⟨gy, 0, none⟩ = some (.bool t) ∧ W'.cell? ⟨gy, 1, none⟩ = some (.slice q n d)) Wb) := ⟨Xx.out.c0, Xx.out.c1, Xy.out.c0, Xy.out.c1⟩
        refine hK _ _ HJ.out ?_
        clear hK
        refine wpJ_two (i := 3) (k := 4) (by kernel_rfl) rfl rfl (by kernel_rfl) (by kernel_rfl) (fun KJ hK => ?_) (fun KJ hK => ?_)
        · go_simp
          refine (rfrom04g t K.out (by have := HM.out; omega)).mono ?_
          rintro e v5 ⟨v, rfl, hv, hb5⟩
          obtain ⟨s5, g5, m5, rfl, hg5, hz5, hl5⟩ := hv
          have HO5b : Hid (OffR g5 m5 gb) := .inr (Nat.ne_of_gt (Nat.lt_of_lt_of_le Xb.out.lt hg5))
          replace Xx : Hid _ := Xx.out.below hb5
          replace Xy : Hid _ := Xy.out.below hb5
          replace Xr : Hid _ := Xr.out.below hb5
          replace Xb : Hid _ := Xb.out.below hb5
          replace H : Hid _ := H.out.below hb5
          replace K : Hid _ := K.out.below hb5
          replace Z4 : Hid _ := Z4.out.below hb5
          replace hbw := Below.on hbw hb5
          clear hb5
          have Z5 : Hid (ZR v5 s5 (some ⟨g5, 0, none⟩) m5 (iv t (valB B64 ys))) := hz5
          have HL5 : Hid (m5 ≤ 16384) := by have := HM.out; show m5 ≤ _; omega
          clear hz5 hl5 hg5
          refine hK _ _ ⟨Xx.out.c0, Xx.out.c1, Xy.out.c0, Xy.out.c1⟩ ?_
          clear hK
          refine wpJ_one (i := 4) (by kernel_rfl) rfl (by kernel_rfl) (fun KJ hK => ?_)
          go_simp
          have HDa : Hid (gx ≠ v5.heap.size ∧ gy ≠ v5.heap.size ∧ gr ≠ v5.heap.size ∧ gb ≠ v5.heap.size) := ⟨Nat.ne_of_lt Xx.out.lt, Nat.ne_of_lt Xy.out.lt, Nat.ne_of_lt Xr.out.lt, Nat.ne_of_lt Xb.out.lt⟩
          have HO4a : Hid (OffR g4 m4 v5.heap.size) := Z4.out.off_new
          have HO5a : Hid (OffR g5 m5 v5.heap.size) := Z5.out.off_new
          have Xa0 : Hid (Box (v5.alloc (.cells #[.bool false, .slice none 0 0] 70)) v5.heap.size (.bool false) (.slice none 0 0)) := Box.new v5 _ _ _
          have hbn : Below v5.heap.size v5 (v5.alloc (.cells #[.bool false, .slice none 0 0] 70)) := below1 v5 _
          generalize v5.alloc (.cells #[.bool false, .slice none 0 0] 70) = Wa at *
          have HGa : Hid (w.heap.size ≤ v5.heap.size) := hbw.size
          replace Xx : Hid _ := Xx.out.below hbn
          replace Xy : Hid _ := Xy.out.below hbn
          replace Xr : Hid _ := Xr.out.below hbn
          replace Xb : Hid _ := Xb.out.below hbn
          replace H : Hid _ := H.out.below hbn
          replace K : Hid _ := K.out.below hbn
          replace Z4 : Hid _ := Z4.out.below hbn
          replace Z5 : Hid _ := Z5.out.below hbn
          replace hbw := Below.on hbw hbn
          clear hbn
          generalize v5.heap.size = ga at *
          have Xa := Xa0
          clear Xa0
          refine hK _ _ ⟨Xx.out.c0, Xx.out.c1, Xy.out.c0, Xy.out.c1⟩ ?_
          clear hK
          obtain ⟨ca0, ca1, fa0, fa1⟩ := Xa.out
          have hnea := Xa.out.lt
          obtain ⟨cx0, cx1, fx0, fx1⟩ := Xx.out
          have hnex := Xx.out.lt
          obtain ⟨cy0, cy1, fy0, fy1⟩ := Xy.out
          have hney := Xy.out.lt
          obtain ⟨cr0, cr1, fr0, fr1⟩ := Xr.out
          have hner := Xr.out.lt
          obtain ⟨cb0, cb1, fb0, fb1⟩ := Xb.out
          have hneb := Xb.out.lt
          have qax : gx ≠ ga := HDa.out.1
          have qxa : ga ≠ gx := fun h => qax h.symm
          have qay : gy ≠ ga := HDa.out.2.1
          have qya : ga ≠ gy := fun h => qay h.symm
          have qar : gr ≠ ga := HDa.out.2.2.1
          have qra : ga ≠ gr := fun h => qar h.symm
          have qab : gb ≠ ga := HDa.out.2.2.2
          have qba : ga ≠ gb := fun h => qab h.symm
          refine wpJ_one (i := 6) (by kernel_rfl) rfl (by kernel_rfl) (fun KJ hK => ?_)
          go_simp
          have HJ2 : Hid ((fun W' : World => W'.cell? ⟨gx, 0, none⟩ = some (.bool s) ∧ W'.cell? ⟨gx, 1, none⟩ = some (.slice p m c) ∧ W'.cell? ⟨gy, 0, none⟩ = some (.bool t) ∧ W'.cell? ⟨gy, 1, none⟩ = some (.slice q n d)) ((Wa.setCell ⟨ga, 0, none⟩ (.bool s4)).setCell ⟨ga, 1, none⟩ (.slice (some ⟨g4, 0, none⟩) m4 m4))) := ⟨by go_simp, by go_simp, by go_simp, by go_simp⟩
          have Xa2 : Hid (Box ((Wa.setCell ⟨ga, 0, none⟩ (.bool s4)).setCell ⟨ga, 1, none⟩ (.slice (some ⟨g4, 0, none⟩) m4 m4)) ga (.bool s4) (.slice (some ⟨g4, 0, none⟩) m4 m4)) := ⟨by go_simp, by go_simp, by go_simp, by go_simp⟩
          have Xx2 : Hid (Box ((Wa.setCell ⟨ga, 0, none⟩ (.bool s4)).setCell ⟨ga, 1, none⟩ (.slice (some ⟨g4, 0, none⟩) m4 m4)) gx (.bool s) (.slice p m c)) := ⟨by go_simp, by go_simp, by go_simp, by go_simp⟩
          have Xy2 : Hid (Box ((Wa.setCell ⟨ga, 0, none⟩ (.bool s4)).setCell ⟨ga, 1, none⟩ (.slice (some ⟨g4, 0, none⟩) m4 m4)) gy (.bool t) (.slice q n d)) := ⟨by go_simp, by go_simp, by go_simp, by go_simp⟩
          have Xr2 : Hid (Box ((Wa.setCell ⟨ga, 0, none⟩ (.bool s4)).setCell ⟨ga, 1, none⟩ (.slice (some ⟨g4, 0, none⟩) m4 m4)) gr (.bool false) (.slice none 0 0)) := ⟨by go_simp, by go_simp, by go_simp, by go_simp⟩
          have Xb2 : Hid (Box ((Wa.setCell ⟨ga, 0, none⟩ (.bool s4)).setCell ⟨ga, 1, none⟩ (.slice (some ⟨g4, 0, none⟩) m4 m4)) gb (.bool false) (.slice none 0 0)) := ⟨by go_simp, by go_simp, by go_simp, by go_simp⟩
          have Z42 : Hid (ZR ((Wa.setCell ⟨ga, 0, none⟩ (.bool s4)).setCell ⟨ga, 1, none⟩ (.slice (some ⟨g4, 0, none⟩) m4 m4)) s4 (some ⟨g4, 0, none⟩) m4 (iv s (valB B64 xs))) := (Z4.out.setOff HO4a.out _ _).setOff HO4a.out _ _
          have Z52 : Hid (ZR ((Wa.setCell ⟨ga, 0, none⟩ (.bool s4)).setCell ⟨ga, 1, none⟩ (.slice (some ⟨g4, 0, none⟩) m4 m4)) s5 (some ⟨g5, 0, none⟩) m5 (iv t (valB B64 ys))) := (Z5.out.setOff HO5a.out _ _).setOff HO5a.out _ _
          have hbw2 : Below w.heap.size w ((Wa.setCell ⟨ga, 0, none⟩ (.bool s4)).setCell ⟨ga, 1, none⟩ (.slice (some ⟨g4, 0, none⟩) m4 m4)) := bSet (bSet hbw _ _ _ HGa.out) _ _ _ HGa.out
          refine hK _ _ HJ2.out ?_
          clear hK HJ
          have HJ := HJ2
          clear HJ2 hbw Z4 Z5 H K
          clear ca0 ca1 fa0 fa1 hnea
          clear cx0 cx1 fx0 fx1 hnex
          clear cy0 cy1 fy0 fy1 hney
          clear cr0 cr1 fr0 fr1 hner
          clear cb0 cb1 fb0 fb1 hneb
          clear qax qxa qay qya qar qra qab qba Xa Xx Xy Xr Xb
          generalize ((Wa.setCell ⟨ga, 0, none⟩ (.bool s4)).setCell ⟨ga, 1, none⟩ (.slice (some ⟨g4, 0, none⟩) m4 m4)) = Ws at *
          have hbw := hbw2
          have Z4 := Z42
          have Z5 := Z52
          have Xa := Xa2
          have Xx := Xx2
          have Xy := Xy2
          have Xr := Xr2
          have Xb := Xb2
          clear hbw2 Z42 Z52 Xa2 Xx2 Xy2 Xr2 Xb2
          obtain ⟨cb0, cb1, fb0, fb1⟩ := Xb.out
          have hneb := Xb.out.lt
          obtain ⟨cx0, cx1, fx0, fx1⟩ := Xx.out
          have hnex := Xx.out.lt
          obtain ⟨cy0, cy1, fy0, fy1⟩ := Xy.out
          have hney := Xy.out.lt
          obtain ⟨cr0, cr1, fr0, fr1⟩ := Xr.out
          have hner := Xr.out.lt
          obtain ⟨ca0, ca1, fa0, fa1⟩ := Xa.out
          have hnea := Xa.out.lt
          have qbx : gx ≠ gb := HDb.out.1
          have qxb : gb ≠ gx := fun h => qbx h.symm
          have qby : gy ≠ gb := HDb.out.2.1
          have qyb : gb ≠ gy := fun h => qby h.symm
          have qbr : gr ≠ gb := HDb.out.2.2
          have qrb : gb ≠ gr := fun h => qbr h.symm
          have qab : gb ≠ ga := HDa.out.2.2.2
          have qba : ga ≠ gb := fun h => qab h.symm
          refine wpJ_one (i := 7) (by kernel_rfl) rfl (by kernel_rfl) (fun KJ hK => ?_)
          go_simp
          have HJ2 : Hid ((fun W' : World => W'.cell? ⟨gx, 0, none⟩ = some (.bool s) ∧ W'.cell? ⟨gx, 1, none⟩ = some (.slice p m c) ∧ W'.cell? ⟨gy, 0, none⟩ = some (.bool t) ∧ W'.cell? ⟨gy, 1, none⟩ = some (.slice q n d)) ((Ws.setCell ⟨gb, 0, none⟩ (.bool s5)).setCell ⟨gb, 1, none⟩ (.slice (some ⟨g5, 0, none⟩) m5 m5))) := ⟨by go_simp, by go_simp, by go_simp, by go_simp⟩
          have Xb2 : Hid (Box ((Ws.setCell ⟨gb, 0, none⟩ (.bool s5)).setCell ⟨gb, 1, none⟩ (.slice (some ⟨g5, 0, none⟩) m5 m5)) gb (.bool s5) (.slice (some ⟨g5, 0, none⟩) m5 m5)) := ⟨by go_simp, by go_simp, by go_simp, by go_simp⟩
          have Xx2 : Hid (Box ((Ws.setCell ⟨gb, 0, none⟩ (.bool s5)).setCell ⟨gb, 1, none⟩ (.slice (some ⟨g5, 0, none⟩) m5 m5)) gx (.bool s) (.slice p m c)) := ⟨by go_simp, by go_simp, by go_simp, by go_simp⟩
          have Xy2 : Hid (Box ((Ws.setCell ⟨gb, 0, none⟩ (.bool s5)).setCell ⟨gb, 1, none⟩ (.slice (some ⟨g5, 0, none⟩) m5 m5)) gy (.bool t) (.slice q n d)) := ⟨by go_simp, by go_simp, by go_simp, by go_simp⟩
          have Xr2 : Hid (Box ((Ws.setCell ⟨gb, 0, none⟩ (.bool s5)).setCell ⟨gb, 1, none⟩ (.slice (some ⟨g5, 0, none⟩) m5 m5)) gr (.bool false) (.slice none 0 0)) := ⟨by go_simp, by go_simp, by go_simp, by go_simp⟩
          have Xa2 : Hid (Box ((Ws.setCell ⟨gb, 0, none⟩ (.bool s5)).setCell ⟨gb, 1, none⟩ (.slice (some ⟨g5, 0, none⟩) m5 m5)) ga (.bool s4) (.slice (some ⟨g4, 0, none⟩) m4 m4)) := ⟨by go_simp, by go_simp, by go_simp, by go_simp⟩
          have Z42 : Hid (ZR ((Ws.setCell ⟨gb, 0, none⟩ (.bool s5)).setCell ⟨gb, 1, none⟩ (.slice (some ⟨g5, 0, none⟩) m5 m5)) s4 (some ⟨g4, 0, none⟩) m4 (iv s (valB B64 xs))) := (Z4.out.setOff HO4b.out _ _).setOff HO4b.out _ _
          have Z52 : Hid (ZR ((Ws.setCell ⟨gb, 0, none⟩ (.bool s5)).setCell ⟨gb, 1, none⟩ (.slice (some ⟨g5, 0, none⟩) m5 m5)) s5 (some ⟨g5, 0, none⟩) m5 (iv t (valB B64 ys))) := (Z5.out.setOff HO5b.out _ _).setOff HO5b.out _ _
          have hbw2 : Below w.heap.size w ((Ws.setCell ⟨gb, 0, none⟩ (.bool s5)).setCell ⟨gb, 1, none⟩ (.slice (some ⟨g5, 0, none⟩) m5 m5)) := bSet (bSet hbw _ _ _ HGb.out) _ _ _ HGb.out
          refine hK _ _ HJ2.out ?_
          clear hK HJ
          have HJ := HJ2
          clear HJ2 hbw Z4 Z5 
          clear cb0 cb1 fb0 fb1 hneb
          clear cx0 cx1 fx0 fx1 hnex
          clear cy0 cy1 fy0 fy1 hney
          clear cr0 cr1 fr0 fr1 hner
          clear ca0 ca1 fa0 fa1 hnea
          clear qbx qxb qby qyb qbr qrb qba qab Xb Xx Xy Xr Xa
          generalize ((Ws.setCell ⟨gb, 0, none⟩ (.bool s5)).setCell ⟨gb, 1, none⟩ (.slice (some ⟨g5, 0, none⟩) m5 m5)) = Wt at *
          have hbw := hbw2
          have Z4 := Z42
          have Z5 := Z52
          have Xb := Xb2
          have Xx := Xx2
          have Xy := Xy2
          have Xr := Xr2
          have Xa := Xa2
          clear hbw2 Z42 Z52 Xb2 Xx2 Xy2 Xr2 Xa2
          refine wpJ_done (by kernel_rfl) ?_ _
          exact ⟨rfl, ga, gb, s4, g4, m4, s5, g5, m5, by kernel_rfl, Xa.out, Xb.out, Z4.out, Z5.out, HL4.out, HL5.out, Xr.out, hbw⟩
        · go_simp
          have HDa : Hid (gx ≠ Wb.heap.size ∧ gy ≠ Wb.heap.size ∧ gr ≠ Wb.heap.size ∧ gb ≠ Wb.heap.size) := ⟨Nat.ne_of_lt Xx.out.lt, Nat.ne_of_lt Xy.out.lt, Nat.ne_of_lt Xr.out.lt, Nat.ne_of_lt Xb.out.lt⟩
          have HO4a : Hid (OffR g4 m4 Wb.heap.size) := Z4.out.off_new
          have Xa0 : Hid (Box (Wb.alloc (.cells #[.bool false, .slice none 0 0] 70)) Wb.heap.size (.bool false) (.slice none 0 0)) := Box.new Wb _ _ _
          have hbn : Below Wb.heap.size Wb (Wb.alloc (.cells #[.bool false, .slice none 0 0] 70)) := below1 Wb _
          generalize Wb.alloc (.cells #[.bool false, .slice none 0 0] 70) = Wa at *
          have HGa : Hid (w.heap.size ≤ Wb.heap.size) := hbw.size
          replace Xx : Hid _ := Xx.out.below hbn
          replace Xy : Hid _ := Xy.out.below hbn
          replace Xr : Hid _ := Xr.out.below hbn
          replace Xb : Hid _ := Xb.out.below hbn
          replace H : Hid _ := H.out.below hbn
          replace K : Hid _ := K.out.below hbn
          replace Z4 : Hid _ := Z4.out.below hbn
          replace hbw := Below.on hbw hbn
          clear hbn
          generalize Wb.heap.size = ga at *
          have Xa := Xa0
          clear Xa0
          refine hK _ _ ⟨Xx.out.c0, Xx.out.c1, Xy.out.c0, Xy.out.c1⟩ ?_
          clear hK
          refine wpJ_one (i := 3) (by kernel_rfl) rfl (by kernel_rfl) (fun KJ hK => ?_)
          go_simp
          refine (rfrom04g t K.out (by have := HM.out; omega)).mono ?_
          rintro e v5 ⟨v, rfl, hv, hb5⟩
          obtain ⟨s5, g5, m5, rfl, hg5, hz5, hl5⟩ := hv
          have HO5a : Hid (OffR g5 m5 ga) := .inr (Nat.ne_of_gt (Nat.lt_of_lt_of_le Xa.out.lt hg5))
          have HO5b : Hid (OffR g5 m5 gb) := .inr (Nat.ne_of_gt (Nat.lt_of_lt_of_le Xb.out.lt hg5))
          replace Xx : Hid _ := Xx.out.below hb5
          replace Xy : Hid _ := Xy.out.below hb5
          replace Xr : Hid _ := Xr.out.below hb5
          replace Xb : Hid _ := Xb.out.below hb5
          replace Xa : Hid _ := Xa.out.below hb5
          replace H : Hid _ := H.out.below hb5
          replace K : Hid _ := K.out.below hb5
          replace Z4 : Hid _ := Z4.out.below hb5
          replace hbw := Below.on hbw hb5
          clear hb5
          have Z5 : Hid (ZR v5 s5 (some ⟨g5, 0, none⟩) m5 (iv t (valB B64 ys))) := hz5
          have HL5 : Hid (m5 ≤ 16384) := by have := HM.out; show m5 ≤ _; omega
          clear hz5 hl5 hg5
          refine hK _ _ ⟨Xx.out.c0, Xx.out.c1, Xy.out.c0, Xy.out.c1⟩ ?_
          clear hK
          obtain ⟨ca0, ca1, fa0, fa1⟩ := Xa.out
          have hnea := Xa.out.lt
          obtain ⟨cx0, cx1, fx0, fx1⟩ := Xx.out
          have hnex := Xx.out.lt
          obtain ⟨cy0, cy1, fy0, fy1⟩ := Xy.out
          have hney := Xy.out.lt
          obtain ⟨cr0, cr1, fr0, fr1⟩ := Xr.out
          have hner := Xr.out.lt
          obtain ⟨cb0, cb1, fb0, fb1⟩ := Xb.out
          have hneb := Xb.out.lt
          have qax : gx ≠ ga := HDa.out.1
          have qxa : ga ≠ gx := fun h => qax h.symm
          have qay : gy ≠ ga := HDa.out.2.1
          have qya : ga ≠ gy := fun h => qay h.symm
          have qar : gr ≠ ga := HDa.out.2.2.1
          have qra : ga ≠ gr := fun h => qar h.symm
          have qab : gb ≠ ga := HDa.out.2.2.2
          have qba : ga ≠ gb := fun h => qab h.symm
          refine wpJ_one (i := 6) (by kernel_rfl) rfl (by kernel_rfl) (fun KJ hK => ?_)
          go_simp
          have HJ2 : Hid ((fun W' : World => W'.cell? ⟨gx, 0, none⟩ = some (.bool s) ∧ W'.cell? ⟨gx, 1, none⟩ = some (.slice p m c) ∧ W'.cell? ⟨gy, 0, none⟩ = some (.bool t) ∧ W'.cell? ⟨gy, 1, none⟩ = some (.slice q n d)) ((v5.setCell ⟨ga, 0, none⟩ (.bool s4)).setCell ⟨ga, 1, none⟩ (.slice (some ⟨g4, 0, none⟩) m4 m4))) := ⟨by go_simp, by go_simp, by go_simp, by go_simp⟩
          have Xa2 : Hid (Box ((v5.setCell ⟨ga, 0, none⟩ (.bool s4)).setCell ⟨ga, 1, none⟩ (.slice (some ⟨g4, 0, none⟩) m4 m4)) ga (.bool s4) (.slice (some ⟨g4, 0, none⟩) m4 m4)) := ⟨by go_simp, by go_simp, by go_simp, by go_simp⟩
          have Xx2 : Hid (Box ((v5.setCell ⟨ga, 0, none⟩ (.bool s4)).setCell ⟨ga, 1, none⟩ (.slice (some ⟨g4, 0, none⟩) m4 m4)) gx (.bool s) (.slice p m c)) := ⟨by go_simp, by go_simp, by go_simp, by go_simp⟩
          have Xy2 : Hid (Box ((v5.setCell ⟨ga, 0, none⟩ (.bool s4)).setCell ⟨ga, 1, none⟩ (.slice (some ⟨g4, 0, none⟩) m4 m4)) gy (.bool t) (.slice q n d)) := ⟨by go_simp, by go_simp, by go_simp, by go_simp⟩
          have Xr2 : Hid (Box ((v5.setCell ⟨ga, 0, none⟩ (.bool s4)).setCell ⟨ga, 1, none⟩ (.slice (some ⟨g4, 0, none⟩) m4 m4)) gr (.bool false) (.slice none 0 0)) := ⟨by go_simp, by go_simp, by go_simp, by go_simp⟩
          have Xb2 : Hid (Box ((v5.setCell ⟨ga, 0, none⟩ (.bool s4)).setCell ⟨ga, 1, none⟩ (.slice (some ⟨g4, 0, none⟩) m4 m4)) gb (.bool false) (.slice none 0 0)) := ⟨by go_simp, by go_simp, by go_simp, by go_simp⟩
          have Z42 : Hid (ZR ((v5.setCell ⟨ga, 0, none⟩ (.bool s4)).setCell ⟨ga, 1, none⟩ (.slice (some ⟨g4, 0, none⟩) m4 m4)) s4 (some ⟨g4, 0, none⟩) m4 (iv s (valB B64 xs))) := (Z4.out.setOff HO4a.out _ _).setOff HO4a.out _ _
          have Z52 : Hid (ZR ((v5.setCell ⟨ga, 0, none⟩ (.bool s4)).setCell ⟨ga, 1, none⟩ (.slice (some ⟨g4, 0, none⟩) m4 m4)) s5 (some ⟨g5, 0, none⟩) m5 (iv t (valB B64 ys))) := (Z5.out.setOff HO5a.out _ _).setOff HO5a.out _ _
          have hbw2 : Below w.heap.size w ((v5.setCell ⟨ga, 0, none⟩ (.bool s4)).setCell ⟨ga, 1, none⟩ (.slice (some ⟨g4, 0, none⟩) m4 m4)) := bSet (bSet hbw _ _ _ HGa.out) _ _ _ HGa.out
          refine hK _ _ HJ2.out ?_
          clear hK HJ
          have HJ := HJ2
          clear HJ2 hbw Z4 Z5 H K
          clear ca0 ca1 fa0 fa1 hnea
          clear cx0 cx1 fx0 fx1 hnex
          clear cy0 cy1 fy0 fy1 hney
          clear cr0 cr1 fr0 fr1 hner
          clear cb0 cb1 fb0 fb1 hneb
          clear qax qxa qay qya qar qra qab qba Xa Xx Xy Xr Xb
          generalize ((v5.setCell ⟨ga, 0, none⟩ (.bool s4)).setCell ⟨ga, 1, none⟩ (.slice (some ⟨g4, 0, none⟩) m4 m4)) = Ws at *
          have hbw := hbw2
          have Z4 := Z42
          have Z5 := Z52
          have Xa := Xa2
          have Xx := Xx2
          have Xy := Xy2
          have Xr := Xr2
          have Xb := Xb2
          clear hbw2 Z42 Z52 Xa2 Xx2 Xy2 Xr2 Xb2
          obtain ⟨cb0, cb1, fb0, fb1⟩ := Xb.out
          have hneb := Xb.out.lt
          obtain ⟨cx0, cx1, fx0, fx1⟩ := Xx.out
          have hnex := Xx.out.lt
          obtain ⟨cy0, cy1, fy0, fy1⟩ := Xy.out
          have hney := Xy.out.lt
          obtain ⟨cr0, cr1, fr0, fr1⟩ := Xr.out
          have hner := Xr.out.lt
          obtain ⟨ca0, ca1, fa0, fa1⟩ := Xa.out
          have hnea := Xa.out.lt
          have qbx : gx ≠ gb := HDb.out.1
          have qxb : gb ≠ gx := fun h => qbx h.symm
          have qby : gy ≠ gb := HDb.out.2.1
          have qyb : gb ≠ gy := fun h => qby h.symm
          have qbr : gr ≠ gb := HDb.out.2.2
          have qrb : gb ≠ gr := fun h => qbr h.symm
          have qab : gb ≠ ga := HDa.out.2.2.2
          have qba : ga ≠ gb := fun h => qab h.symm
          refine wpJ_one (i := 7) (by kernel_rfl) rfl (by kernel_rfl) (fun KJ hK => ?_)
          go_simp
          have HJ2 : Hid ((fun W' : World => W'.cell? ⟨gx, 0, none⟩ = some (.bool s) ∧ W'.cell? ⟨gx, 1, none⟩ = some (.slice p m c) ∧ W'.cell? ⟨gy, 0, none⟩ = some (.bool t) ∧ W'.cell? ⟨gy, 1, none⟩ = some (.slice q n d)) ((Ws.setCell ⟨gb, 0, none⟩ (.bool s5)).setCell ⟨gb, 1, none⟩ (.slice (some ⟨g5, 0, none⟩) m5 m5))) := ⟨by go_simp, by go_simp, by go_simp, by go_simp⟩
          have Xb2 : Hid (Box ((Ws.setCell ⟨gb, 0, none⟩ (.bool s5)).setCell ⟨gb, 1, none⟩ (.slice (some ⟨g5, 0, none⟩) m5 m5)) gb (.bool s5) (.slice (some ⟨g5, 0, none⟩) m5 m5)) := ⟨by go_simp, by go_simp, by go_simp, by go_simp⟩
          have Xx2 : Hid (Box ((Ws.setCell ⟨gb, 0, none⟩ (.bool s5)).setCell ⟨gb, 1, none⟩ (.slice (some ⟨g5, 0, none⟩) m5 m5)) gx (.bool s) (.slice p m c)) := ⟨by go_simp, by go_simp, by go_simp, by go_simp⟩
          have Xy2 : Hid (Box ((Ws.setCell ⟨gb, 0, none⟩ (.bool s5)).setCell ⟨gb, 1, none⟩ (.slice (some ⟨g5, 0, none⟩) m5 m5)) gy (.bool t) (.slice q n d)) := ⟨by go_simp, by go_simp, by go_simp, by go_simp⟩
          have Xr2 : Hid (Box ((Ws.setCell ⟨gb, 0, none⟩ (.bool s5)).setCell ⟨gb, 1, none⟩ (.slice (some ⟨g5, 0, none⟩) m5 m5)) gr (.bool false) (.slice none 0 0)) := ⟨by go_simp, by go_simp, by go_simp, by go_simp⟩
          have Xa2 : Hid (Box ((Ws.setCell ⟨gb, 0, none⟩ (.bool s5)).setCell ⟨gb, 1, none⟩ (.slice (some ⟨g5, 0, none⟩) m5 m5)) ga (.bool s4) (.slice (some ⟨g4, 0, none⟩) m4 m4)) := ⟨by go_simp, by go_simp, by go_simp, by go_simp⟩
          have Z42 : Hid (ZR ((Ws.setCell ⟨gb, 0, none⟩ (.bool s5)).setCell ⟨gb, 1, none⟩ (.slice (some ⟨g5, 0, none⟩) m5 m5)) s4 (some ⟨g4, 0, none⟩) m4 (iv s (valB B64 xs))) := (Z4.out.setOff HO4b.out _ _).setOff HO4b.out _ _
          have Z52 : Hid (ZR ((Ws.setCell ⟨gb, 0, none⟩ (.bool s5)).setCell ⟨gb, 1, none⟩ (.slice (some ⟨g5, 0, none⟩) m5 m5)) s5 (some ⟨g5, 0, none⟩) m5 (iv t (valB B64 ys))) := (Z5.out.setOff HO5b.out _ _).setOff HO5b.out _ _
          have hbw2 : Below w.heap.size w ((Ws.setCell ⟨gb, 0, none⟩ (.bool s5)).setCell ⟨gb, 1, none⟩ (.slice (some ⟨g5, 0, none⟩) m5 m5)) := bSet (bSet hbw _ _ _ HGb.out) _ _ _ HGb.out
          refine hK _ _ HJ2.out ?_
          clear hK HJ
          have HJ := HJ2
          clear HJ2 hbw Z4 Z5 
          clear cb0 cb1 fb0 fb1 hneb
          clear cx0 cx1 fx0 fx1 hnex
          clear cy0 cy1 fy0 fy1 hney
          clear cr0 cr1 fr0 fr1 hner
          clear ca0 ca1 fa0 fa1 hnea
          clear qbx qxb qby qyb qbr qrb qba qab Xb Xx Xy Xr Xa
          generalize ((Ws.setCell ⟨gb, 0, none⟩ (.bool s5)).setCell ⟨gb, 1, none⟩ (.slice (some ⟨g5, 0, none⟩) m5 m5)) = Wt at *
          have hbw := hbw2
          have Z4 := Z42
          have Z5 := Z52
          have Xb := Xb2
          have Xx := Xx2
          have Xy := Xy2
          have Xr := Xr2
          have Xa := Xa2
          clear hbw2 Z42 Z52 Xb2 Xx2 Xy2 Xr2 Xa2
          refine wpJ_done (by kernel_rfl) ?_ _
          exact ⟨rfl, ga, gb, s4, g4, m4, s5, g5, m5, by kernel_rfl, Xa.out, Xb.out, Z4.out, Z5.out, HL4.out, HL5.out, Xr.out, hbw⟩
    · go_simp
      have HDa : Hid (gx ≠ W3.heap.size ∧ gy ≠ W3.heap.size ∧ gr ≠ W3.heap.size) := ⟨Nat.ne_of_lt Xx.out.lt, Nat.ne_of_lt Xy.out.lt, Nat.ne_of_lt Xr.out.lt⟩
      have Xa0 : Hid (Box (W3.alloc (.cells #[.bool false, .slice none 0 0] 70)) W3.heap.size (.bool false) (.slice none 0 0)) := Box.new W3 _ _ _
      have hbn : Below W3.heap.size W3 (W3.alloc (.cells #[.bool false, .slice none 0 0] 70)) := below1 W3 _
      generalize W3.alloc (.cells #[.bool false, .slice none 0 0] 70) = Wa at *
      have HGa : Hid (w.heap.size ≤ W3.heap.size) := hbw.size
      replace Xx : Hid _ := Xx.out.below hbn
      replace Xy : Hid _ := Xy.out.below hbn
      replace Xr : Hid _ := Xr.out.below hbn
      replace H : Hid _ := H.out.below hbn
      replace K : Hid _ := K.out.below hbn
      replace hbw := Below.on hbw hbn
      clear hbn
      generalize W3.heap.size = ga at *
      have Xa := Xa0
      clear Xa0
      clear HJ
      have HJ : Hid ((fun W' : World => W'.cell? ⟨gx, 0, none⟩ = some (.bool s) ∧ W'.cell? ⟨gx, 1, none⟩ = some (.slice p m c) ∧ W'.cell? ⟨gy, 0, none⟩ = some (.bool t) ∧ W'.cell? ⟨gy, 1, none⟩ = some (.slice q n d)) Wa) := ⟨Xx.out.c0, Xx.out.c1, Xy.out.c0, Xy.out.c1⟩
      refine hK _ _ HJ.out ?_
      clear hK
      refine wpJ_two (i := 1) (k := 5) (by kernel_rfl) rfl rfl (by kernel_rfl) (by kernel_rfl) (fun KJ hK => ?_) (fun KJ hK => ?_)
      · go_simp
        refine (rfrom04g s H.out (by have := HM.out; omega)).mono ?_
        rintro e v4 ⟨v, rfl, hv, hb4⟩
        obtain ⟨s4, g4, m4, rfl, hg4, hz4, hl4⟩ := hv
        have HO4a : Hid (OffR g4 m4 ga) := .inr (Nat.ne_of_gt (Nat.lt_of_lt_of_le Xa.out.lt hg4))
        replace Xx : Hid _ := Xx.out.below hb4
        replace Xy : Hid _ := Xy.out.below hb4
        replace Xr : Hid _ := Xr.out.below hb4
        replace Xa : Hid _ := Xa.out.below hb4
        replace H : Hid _ := H.out.below hb4
        replace K : Hid _ := K.out.below hb4
        replace hbw := Below.on hbw hb4
        clear hb4
        have Z4 : Hid (ZR v4 s4 (some ⟨g4, 0, none⟩) m4 (iv s (valB B64 xs))) := hz4
        have HL4 : Hid (m4 ≤ 16384) := by have := HM.out; show m4 ≤ _; omega
        clear hz4 hl4 hg4
        clear HJ
        have HJ : Hid ((fun W' : World => W'.cell? ⟨gx, 0, none⟩ = some (.bool s) ∧ W'.cell? ⟨gx, 1, none⟩ = some (.slice p m c) ∧ W'.cell? ⟨gy, 0, none⟩ = some (.bool t) ∧ W'.cell? ⟨gy, 1, none⟩ = some (.slice q n d)) v4) := ⟨Xx.out.c0, Xx.out.c1, Xy.out.c0, Xy.out.c1⟩
        refine hK _ _ HJ.out ?_
        clear hK
        refine wpJ_two (i := 3) (k := 5) (by kernel_rfl) rfl rfl (by kernel_rfl) (by kernel_rfl) (fun KJ hK => ?_) (fun KJ hK => ?_)
        · go_simp
          refine (rfrom04g t K.out (by have := HM.out; omega)).mono ?_
          rintro e v5 ⟨v, rfl, hv, hb5⟩
          obtain ⟨s5, g5, m5, rfl, hg5, hz5, hl5⟩ := hv
          have HO5a : Hid (OffR g5 m5 ga) := .inr (Nat.ne_of_gt (Nat.lt_of_lt_of_le Xa.out.lt hg5))
          replace Xx : Hid _ := Xx.out.below hb5
          replace Xy : Hid _ := Xy.out.below hb5
          replace Xr : Hid _ := Xr.out.below hb5
          replace Xa : Hid _ := Xa.out.below hb5
          replace H : Hid _ := H.out.below hb5
          replace K : Hid _ := K.out.below hb5
          replace Z4 : Hid _ := Z4.out.below hb5
          replace hbw := Below.on hbw hb5
          clear hb5
          have Z5 : Hid (ZR v5 s5 (some ⟨g5, 0, none⟩) m5 (iv t (valB B64 ys))) := hz5
          have HL5 : Hid (m5 ≤ 16384) := by have := HM.out; show m5 ≤ _; omega
          clear hz5 hl5 hg5
          refine hK _ _ ⟨Xx.out.c0, Xx.out.c1, Xy.out.c0, Xy.out.c1⟩ ?_
          clear hK
          refine wpJ_one (i := 5) (by kernel_rfl) rfl (by kernel_rfl) (fun KJ hK => ?_)
          go_simp
          have HDb : Hid (gx ≠ v5.heap.size ∧ gy ≠ v5.heap.size ∧ gr ≠ v5.heap.size ∧ ga ≠ v5.heap.size) := ⟨Nat.ne_of_lt Xx.out.lt, Nat.ne_of_lt Xy.out.lt, Nat.ne_of_lt Xr.out.lt, Nat.ne_of_lt Xa.out.lt⟩
          have HO4b : Hid (OffR g4 m4 v5.heap.size) := Z4.out.off_new
          have HO5b : Hid (OffR g5 m5 v5.heap.size) := Z5.out.off_new
          have Xb0 : Hid (Box (v5.alloc (.cells #[.bool false, .slice none 0 0] 70)) v5.heap.size (.bool false) (.slice none 0 0)) := Box.new v5 _ _ _
          have hbn : Below v5.heap.size v5 (v5.alloc (.cells #[.bool false, .slice none 0 0] 70)) := below1 v5 _
          generalize v5.alloc (.cells #[.bool false, .slice none 0 0] 70) = Wb at *
          have HGb : Hid (w.heap.size ≤ v5.heap.size) := hbw.size
          replace Xx : Hid _ := Xx.out.below hbn
          replace Xy : Hid _ := Xy.out.below hbn
          replace Xr : Hid _ := Xr.out.below hbn
          replace Xa : Hid _ := Xa.out.below hbn
          replace H : Hid _ := H.out.below hbn
          replace K : Hid _ := K.out.below hbn
          replace Z4 : Hid _ := Z4.out.below hbn
          replace Z5 : Hid _ := Z5.out.below hbn
          replace hbw := Below.on hbw hbn
          clear hbn
          generalize v5.heap.size = gb at *
          have Xb := Xb0
          clear Xb0
          refine hK _ _ ⟨Xx.out.c0, Xx.out.c1, Xy.out.c0, Xy.out.c1⟩ ?_
          clear hK
          obtain ⟨ca0, ca1, fa0, fa1⟩ := Xa.out
          have hnea := Xa.out.lt
          obtain ⟨cx0, cx1, fx0, fx1⟩ := Xx.out
          have hnex := Xx.out.lt
          obtain ⟨cy0, cy1, fy0, fy1⟩ := Xy.out
          have hney := Xy.out.lt
          obtain ⟨cr0, cr1, fr0, fr1⟩ := Xr.out
          have hner := Xr.out.lt
          obtain ⟨cb0, cb1, fb0, fb1⟩ := Xb.out
          have hneb := Xb.out.lt
          have qax : gx ≠ ga := HDa.out.1
          have qxa : ga ≠ gx := fun h => qax h.symm
          have qay : gy ≠ ga := HDa.out.2.1
          have qya : ga ≠ gy := fun h => qay h.symm
          have qar : gr ≠ ga := HDa.out.2.2
          have qra : ga ≠ gr := fun h => qar h.symm
          have qba : ga ≠ gb := HDb.out.2.2.2
          have qab : gb ≠ ga := fun h => qba h.symm
          refine wpJ_one (i := 6) (by kernel_rfl) rfl (by kernel_rfl) (fun KJ hK => ?_)
          go_simp
          have HJ2 : Hid ((fun W' : World => W'.cell? ⟨gx, 0, none⟩ = some (.bool s) ∧ W'.cell? ⟨gx, 1, none⟩ = some (.slice p m c) ∧ W'.cell? ⟨gy, 0, none⟩ = some (.bool t) ∧ W'.cell? ⟨gy, 1, none⟩ = some (.slice q n d)) ((Wb.setCell ⟨ga, 0, none⟩ (.bool s4)).setCell ⟨ga, 1, none⟩ (.slice (some ⟨g4, 0, none⟩) m4 m4))) := ⟨by go_simp, by go_simp, by go_simp, by go_simp⟩
          have Xa2 : Hid (Box ((Wb.setCell ⟨ga, 0, none⟩ (.bool s4)).setCell ⟨ga, 1, none⟩ (.slice (some ⟨g4, 0, none⟩) m4 m4)) ga (.bool s4) (.slice (some ⟨g4, 0, none⟩) m4 m4)) := ⟨by go_simp, by go_simp, by go_simp, by go_simp⟩
          have Xx2 : Hid (Box ((Wb.setCell ⟨ga, 0, none⟩ (.bool s4)).setCell ⟨ga, 1, none⟩ (.slice (some ⟨g4, 0, none⟩) m4 m4)) gx (.bool s) (.slice p m c)) := ⟨by go_simp, by go_simp, by go_simp, by go_simp⟩
          have Xy2 : Hid (Box ((Wb.setCell ⟨ga, 0, none⟩ (.bool s4)).setCell ⟨ga, 1, none⟩ (.slice (some ⟨g4, 0, none⟩) m4 m4)) gy (.bool t) (.slice q n d)) := ⟨by go_simp, by go_simp, by go_simp, by go_simp⟩
          have Xr2 : Hid (Box ((Wb.setCell ⟨ga, 0, none⟩ (.bool s4)).setCell ⟨ga, 1, none⟩ (.slice (some ⟨g4, 0, none⟩) m4 m4)) gr (.bool false) (.slice none 0 0)) := ⟨by go_simp, by go_simp, by go_simp, by go_simp⟩
          have Xb2 : Hid (Box ((Wb.setCell ⟨ga, 0, none⟩ (.bool s4)).setCell ⟨ga, 1, none⟩ (.slice (some ⟨g4, 0, none⟩) m4 m4)) gb (.bool false) (.slice none 0 0)) := ⟨by go_simp, by go_simp, by go_simp, by go_simp⟩
          have Z42 : Hid (ZR ((Wb.setCell ⟨ga, 0, none⟩ (.bool s4)).setCell ⟨ga, 1, none⟩ (.slice (some ⟨g4, 0, none⟩) m4 m4)) s4 (some ⟨g4, 0, none⟩) m4 (iv s (valB B64 xs))) := (Z4.out.setOff HO4a.out _ _).setOff HO4a.out _ _
          have Z52 : Hid (ZR ((Wb.setCell ⟨ga, 0, none⟩ (.bool s4)).setCell ⟨ga, 1, none⟩ (.slice (some ⟨g4, 0, none⟩) m4 m4)) s5 (some ⟨g5, 0, none⟩) m5 (iv t (valB B64 ys))) := (Z5.out.setOff HO5a.out _ _).setOff HO5a.out _ _
          have hbw2 : Below w.heap.size w ((Wb.setCell ⟨ga, 0, none⟩ (.bool s4)).setCell ⟨ga, 1, none⟩ (.slice (some ⟨g4, 0, none⟩) m4 m4)) := bSet (bSet hbw _ _ _ HGa.out) _ _ _ HGa.out
          refine hK _ _ HJ2.out ?_
          clear hK HJ
          have HJ := HJ2
          clear HJ2 hbw Z4 Z5 H K
          clear ca0 ca1 fa0 fa1 hnea
          clear cx0 cx1 fx0 fx1 hnex
          clear cy0 cy1 fy0 fy1 hney
          clear cr0 cr1 fr0 fr1 hner
          clear cb0 cb1 fb0 fb1 hneb
          clear qax qxa qay qya qar qra qab qba Xa Xx Xy Xr Xb
          generalize ((Wb.setCell ⟨ga, 0, none⟩ (.bool s4)).setCell ⟨ga, 1, none⟩ (.slice (some ⟨g4, 0, none⟩) m4 m4)) = Ws at *
          have hbw := hbw2
          have Z4 := Z42
          have Z5 := Z52
          have Xa := Xa2
          have Xx := Xx2
          have Xy := Xy2
          have Xr := Xr2
          have Xb := Xb2
          clear hbw2 Z42 Z52 Xa2 Xx2 Xy2 Xr2 Xb2
          obtain ⟨cb0, cb1, fb0, fb1⟩ := Xb.out
          have hneb := Xb.out.lt
          obtain ⟨cx0, cx1, fx0, fx1⟩ := Xx.out
          have hnex := Xx.out.lt
          obtain ⟨cy0, cy1, fy0, fy1⟩ := Xy.out
          have hney := Xy.out.lt
          obtain ⟨cr0, cr1, fr0, fr1⟩ := Xr.out
          have hner := Xr.out.lt
          obtain ⟨ca0, ca1, fa0, fa1⟩ := Xa.out
          have hnea := Xa.out.lt
          have qbx : gx ≠ gb := HDb.out.1
          have qxb : gb ≠ gx := fun h => qbx h.symm
          have qby : gy ≠ gb := HDb.out.2.1
          have qyb : gb ≠ gy := fun h => qby h.symm
          have qbr : gr ≠ gb := HDb.out.2.2.1
          have qrb : gb ≠ gr := fun h => qbr h.symm
          have qba : ga ≠ gb := HDb.out.2.2.2
          have qab : gb ≠ ga := fun h => qba h.symm
          refine wpJ_one (i := 7) (by kernel_rfl) rfl (by kernel_rfl) (fun KJ hK => ?_)
          go_simp
          have HJ2 : Hid ((fun W' : World => W'.cell? ⟨gx, 0, none⟩ = some (.bool s) ∧ W'.cell? ⟨gx, 1, none⟩ = some (.slice p m c) ∧ W'.cell? ⟨gy, 0, none⟩ = some (.bool t) ∧ W'.cell? ⟨gy, 1, none⟩ = some (.slice q n d)) ((Ws.setCell ⟨gb, 0, none⟩ (.bool s5)).setCell ⟨gb, 1, none⟩ (.slice (some ⟨g5, 0, none⟩) m5 m5))) := ⟨by go_simp, by go_simp, by go_simp, by go_simp⟩
          have Xb2 : Hid (Box ((Ws.setCell ⟨gb, 0, none⟩ (.bool s5)).setCell ⟨gb, 1, none⟩ (.slice (some ⟨g5, 0, none⟩) m5 m5)) gb (.bool s5) (.slice (some ⟨g5, 0, none⟩) m5 m5)) := ⟨by go_simp, by go_simp, by go_simp, by go_simp⟩
          have Xx2 : Hid (Box ((Ws.setCell ⟨gb, 0, none⟩ (.bool s5)).setCell ⟨gb, 1, none⟩ (.slice (some ⟨g5, 0, none⟩) m5 m5)) gx (.bool s) (.slice p m c)) := ⟨by go_simp, by go_simp, by go_simp, by go_simp⟩
          have Xy2 : Hid (Box ((Ws.setCell ⟨gb, 0, none⟩ (.bool s5)).setCell ⟨gb, 1, none⟩ (.slice (some ⟨g5, 0, none⟩) m5 m5)) gy (.bool t) (.slice q n d)) := ⟨by go_simp, by go_simp, by go_simp, by go_simp⟩
          have Xr2 : Hid (Box ((Ws.setCell ⟨gb, 0, none⟩ (.bool s5)).setCell ⟨gb, 1, none⟩ (.slice (some ⟨g5, 0, none⟩) m5 m5)) gr (.bool false) (.slice none 0 0)) := ⟨by go_simp, by go_simp, by go_simp, by go_simp⟩
          have Xa2 : Hid (Box ((Ws.setCell ⟨gb, 0, none⟩ (.bool s5)).setCell ⟨gb, 1, none⟩ (.slice (some ⟨g5, 0, none⟩) m5 m5)) ga (.bool s4) (.slice (some ⟨g4, 0, none⟩) m4 m4)) := ⟨by go_simp, by go_simp, by go_simp, by go_simp⟩
          have Z42 : Hid (ZR ((Ws.setCell ⟨gb, 0, none⟩ (.bool s5)).setCell ⟨gb, 1, none⟩ (.slice (some ⟨g5, 0, none⟩) m5 m5)) s4 (some ⟨g4, 0, none⟩) m4 (iv s (valB B64 xs))) := (Z4.out.setOff HO4b.out _ _).setOff HO4b.out _ _
          have Z52 : Hid (ZR ((Ws.setCell ⟨gb, 0, none⟩ (.bool s5)).setCell ⟨gb, 1, none⟩ (.slice (some ⟨g5, 0, none⟩) m5 m5)) s5 (some ⟨g5, 0, none⟩) m5 (iv t (valB B64 ys))) := (Z5.out.setOff HO5b.out _ _).setOff HO5b.out _ _
          have hbw2 : Below w.heap.size w ((Ws.setCell ⟨gb, 0, none⟩ (.bool s5)).setCell ⟨gb, 1, none⟩ (.slice (some ⟨g5, 0, none⟩) m5 m5)) := bSet (bSet hbw _ _ _ HGb.out) _ _ _ HGb.out
          refine hK _ _ HJ2.out ?_
          clear hK HJ
          have HJ := HJ2
          clear HJ2 hbw Z4 Z5 
          clear cb0 cb1 fb0 fb1 hneb
          clear cx0 cx1 fx0 fx1 hnex
          clear cy0 cy1 fy0 fy1 hney
          clear cr0 cr1 fr0 fr1 hner
          clear ca0 ca1 fa0 fa1 hnea
          clear qbx qxb qby qyb qbr qrb qba qab Xb Xx Xy Xr Xa
          generalize ((Ws.setCell ⟨gb, 0, none⟩ (.bool s5)).setCell ⟨gb, 1, none⟩ (.slice (some ⟨g5, 0, none⟩) m5 m5)) = Wt at *
          have hbw := hbw2
          have Z4 := Z42
          have Z5 := Z52
          have Xb := Xb2
          have Xx := Xx2
          have Xy := Xy2
          have Xr := Xr2
          have Xa := Xa2
          clear hbw2 Z42 Z52 Xb2 Xx2 Xy2 Xr2 Xa2
          refine wpJ_done (by kernel_rfl) ?_ _
          exact ⟨rfl, ga, gb, s4, g4, m4, s5, g5, m5, by kernel_rfl, Xa.out, Xb.out, Z4.out, Z5.out, HL4.out, HL5.out, Xr.out, hbw⟩
        · go_simp
          have HDb : Hid (gx ≠ v4.heap.size ∧ gy ≠ v4.heap.size ∧ gr ≠ v4.heap.size ∧ ga ≠ v4.heap.size) := ⟨Nat.ne_of_lt Xx.out.lt, Nat.ne_of_lt Xy.out.lt, Nat.ne_of_lt Xr.out.lt, Nat.ne_of_lt Xa.out.lt⟩
          have HO4b : Hid (OffR g4 m4 v4.heap.size) := Z4.out.off_new
          have Xb0 : Hid (Box (v4.alloc (.cells #[.bool false, .slice none 0 0] 70)) v4.heap.size (.bool false) (.slice none 0 0)) := Box.new v4 _ _ _
          have hbn : Below v4.heap.size v4 (v4.alloc (.cells #[.bool false, .slice none 0 0] 70)) := below1 v4 _
          generalize v4.alloc (.cells #[.bool false, .slice none 0 0] 70) = Wb at *
          have HGb : Hid (w.heap.size ≤ v4.heap.size) := hbw.size
          replace Xx : Hid _ := Xx.out.below hbn
          replace Xy : Hid _ := Xy.out.below hbn
          replace Xr : Hid _ := Xr.out.below hbn
          replace Xa : Hid _ := Xa.out.below hbn
          replace H : Hid _ := H.out.below hbn
          replace K : Hid _ := K.out.below hbn
          replace Z4 : Hid _ := Z4.out.below hbn
          replace hbw := Below.on hbw hbn
          clear hbn
          generalize v4.heap.size = gb at *
          have Xb := Xb0
          clear Xb0
          refine hK _ _ ⟨Xx.out.c0, Xx.out.c1, Xy.out.c0, Xy.out.c1⟩ ?_
          clear hK
          refine wpJ_one (i := 3) (by kernel_rfl) rfl (by kernel_rfl) (fun KJ hK => ?_)
          go_simp
          refine (rfrom04g t K.out (by have := HM.out; omega)).mono ?_
          rintro e v5 ⟨v, rfl, hv, hb5⟩
          obtain ⟨s5, g5, m5, rfl, hg5, hz5, hl5⟩ := hv
          have HO5a : Hid (OffR g5 m5 ga) := .inr (Nat.ne_of_gt (Nat.lt_of_lt_of_le Xa.out.lt hg5))
          have HO5b : Hid (OffR g5 m5 gb) := .inr (Nat.ne_of_gt (Nat.lt_of_lt_of_le Xb.out.lt hg5))
          replace Xx : Hid _ := Xx.out.below hb5
          replace Xy : Hid _ := Xy.out.below hb5
          replace Xr : Hid _ := Xr.out.below hb5
          replace Xa : Hid _ := Xa.out.below hb5
          replace Xb : Hid _ := Xb.out.below hb5
          replace H : Hid _ := H.out.below hb5
          replace K : Hid _ := K.out.below hb5
          replace Z4 : Hid _ := Z4.out.below hb5
          replace hbw := Below.on hbw hb5
          clear hb5
          have Z5 : Hid (ZR v5 s5 (some ⟨g5, 0, none⟩) m5 (iv t (valB B64 ys))) := hz5
          have HL5 : Hid (m5 ≤ 16384) := by have := HM.out; show m5 ≤ _; omega
          clear hz5 hl5 hg5
          refine hK _ _ ⟨Xx.out.c0, Xx.out.c1, Xy.out.c0, Xy.out.c1⟩ ?_
          clear hK
          obtain ⟨ca0, ca1, fa0, fa1⟩ := Xa.out
          have hnea := Xa.out.lt
          obtain ⟨cx0, cx1, fx0, fx1⟩ := Xx.out
          have hnex := Xx.out.lt
          obtain ⟨cy0, cy1, fy0, fy1⟩ := Xy.out
          have hney := Xy.out.lt
          obtain ⟨cr0, cr1, fr0, fr1⟩ := Xr.out
          have hner := Xr.out.lt
          obtain ⟨cb0, cb1, fb0, fb1⟩ := Xb.out
          have hneb := Xb.out.lt
          have qax : gx ≠ ga := HDa.out.1
          have qxa : ga ≠ gx := fun h => qax h.symm
          have qay : gy ≠ ga := HDa.out.2.1
          have qya : ga ≠ gy := fun h => qay h.symm
          have qar : gr ≠ ga := HDa.out.2.2
          have qra : ga ≠ gr := fun h => qar h.symm
          have qba : ga ≠ gb := HDb.out.2.2.2
          have qab : gb ≠ ga := fun h => qba h.symm
          refine wpJ_one (i := 6) (by kernel_rfl) rfl (by kernel_rfl) (fun KJ hK => ?_)
          go_simp
          have HJ2 : Hid ((fun W' : World => W'.cell? ⟨gx, 0, none⟩ = some (.bool s) ∧ W'.cell? ⟨gx, 1, none⟩ = some (.slice p m c) ∧ W'.cell? ⟨gy, 0, none⟩ = some (.bool t) ∧ W'.cell? ⟨gy, 1, none⟩ = some (.slice q n d)) ((v5.setCell ⟨ga, 0, none⟩ (.bool s4)).setCell ⟨ga, 1, none⟩ (.slice (some ⟨g4, 0, none⟩) m4 m4))) := ⟨by go_simp, by go_simp, by go_simp, by go_simp⟩
          have Xa2 : Hid (Box ((v5.setCell ⟨ga, 0, none⟩ (.bool s4)).setCell ⟨ga, 1, none⟩ (.slice (some ⟨g4, 0, none⟩) m4 m4)) ga (.bool s4) (.slice (some ⟨g4, 0, none⟩) m4 m4)) := ⟨by go_simp, by go_simp, by go_simp, by go_simp⟩
          have Xx2 : Hid (Box ((v5.setCell ⟨ga, 0, none⟩ (.bool s4)).setCell ⟨ga, 1, none⟩ (.slice (some ⟨g4, 0, none⟩) m4 m4)) gx (.bool s) (.slice p m c)) := ⟨by go_simp, by go_simp, by go_simp, by go_simp⟩
          have Xy2 : Hid (Box ((v5.setCell ⟨ga, 0, none⟩ (.bool s4)).setCell ⟨ga, 1, none⟩ (.slice (some ⟨g4, 0, none⟩) m4 m4)) gy (.bool t) (.slice q n d)) := ⟨by go_simp, by go_simp, by go_simp, by go_simp⟩
          have Xr2 : Hid (Box ((v5.setCell ⟨ga, 0, none⟩ (.bool s4)).setCell ⟨ga, 1, none⟩ (.slice (some ⟨g4, 0, none⟩) m4 m4)) gr (.bool false) (.slice none 0 0)) := ⟨by go_simp, by go_simp, by go_simp, by go_simp⟩
          have Xb2 : Hid (Box ((v5.setCell ⟨ga, 0, none⟩ (.bool s4)).setCell ⟨ga, 1, none⟩ (.slice (some ⟨g4, 0, none⟩) m4 m4)) gb (.bool false) (.slice none 0 0)) := ⟨by go_simp, by go_simp, by go_simp, by go_simp⟩
          have Z42 : Hid (ZR ((v5.setCell ⟨ga, 0, none⟩ (.bool s4)).setCell ⟨ga, 1, none⟩ (.slice (some ⟨g4, 0, none⟩) m4 m4)) s4 (some ⟨g4, 0, none⟩) m4 (iv s (valB B64 xs))) := (Z4.out.setOff HO4a.out _ _).setOff HO4a.out _ _
          have Z52 : Hid (ZR ((v5.setCell ⟨ga, 0, none⟩ (.bool s4)).setCell ⟨ga, 1, none⟩ (.slice (some ⟨g4, 0, none⟩) m4 m4)) s5 (some ⟨g5, 0, none⟩) m5 (iv t (valB B64 ys))) := (Z5.out.setOff HO5a.out _ _).setOff HO5a.out _ _
          have hbw2 : Below w.heap.size w ((v5.setCell ⟨ga, 0, none⟩ (.bool s4)).setCell ⟨ga, 1, none⟩ (.slice (some ⟨g4, 0, none⟩) m4 m4)) := bSet (bSet hbw _ _ _ HGa.out) _ _ _ HGa.out
          refine hK _ _ HJ2.out ?_
          clear hK HJ
          have HJ := HJ2
          clear HJ2 hbw Z4 Z5 H K
          clear ca0 ca1 fa0 fa1 hnea
          clear cx0 cx1 fx0 fx1 hnex
          clear cy0 cy1 fy0 fy1 hney
          clear cr0 cr1 fr0 fr1 hner
          clear cb0 cb1 fb0 fb1 hneb
          clear qax qxa qay qya qar qra qab qba Xa Xx Xy Xr Xb
          generalize ((v5.setCell ⟨ga, 0, none⟩ (.bool s4)).setCell ⟨ga, 1, none⟩ (.slice (some ⟨g4, 0, none⟩) m4 m4)) = Ws at *
          have hbw := hbw2
          have Z4 := Z42
          have Z5 := Z52
          have Xa := Xa2
          have Xx := Xx2
          have Xy := Xy2
          have Xr := Xr2
          have Xb := Xb2
          clear hbw2 Z42 Z52 Xa2 Xx2 Xy2 Xr2 Xb2
          obtain ⟨cb0, cb1, fb0, fb1⟩ := Xb.out
          have hneb := Xb.out.lt
          obtain ⟨cx0, cx1, fx0, fx1⟩ := Xx.out
          have hnex := Xx.out.lt
          obtain ⟨cy0, cy1, fy0, fy1⟩ := Xy.out
          have hney := Xy.out.lt
          obtain ⟨cr0, cr1, fr0, fr1⟩ := Xr.out
          have hner := Xr.out.lt
          obtain ⟨ca0, ca1, fa0, fa1⟩ := Xa.out
          have hnea := Xa.out.lt
          have qbx : gx ≠ gb := HDb.out.1
          have qxb : gb ≠ gx := fun h => qbx h.symm
          have qby : gy ≠ gb := HDb.out.2.1
          have qyb : gb ≠ gy := fun h => qby h.symm
          have qbr : gr ≠ gb := HDb.out.2.2.1
          have qrb : gb ≠ gr := fun h => qbr h.symm
          have qba : ga ≠ gb := HDb.out.2.2.2
          have qab : gb ≠ ga := fun h => qba h.symm
          refine wpJ_one (i := 7) (by kernel_rfl) rfl (by kernel_rfl) (fun KJ hK => ?_)
          go_simp
          have HJ2 : Hid ((fun W' : World => W'.cell? ⟨gx, 0, none⟩ = some (.bool s) ∧ W'.cell? ⟨gx, 1, none⟩ = some (.slice p m c) ∧ W'.cell? ⟨gy, 0, none⟩ = some (.bool t) ∧ W'.cell? ⟨gy, 1, none⟩ = some (.slice q n d)) ((Ws.setCell ⟨gb, 0, none⟩ (.bool s5)).setCell ⟨gb, 1, none⟩ (.slice (some ⟨g5, 0, none⟩) m5 m5))) := ⟨by go_simp, by go_simp, by go_simp, by go_simp⟩
          have Xb2 : Hid (Box ((Ws.setCell ⟨gb, 0, none⟩ (.bool s5)).setCell ⟨gb, 1, none⟩ (.slice (some ⟨g5, 0, none⟩) m5 m5)) gb (.bool s5) (.slice (some ⟨g5, 0, none⟩) m5 m5)) := ⟨by go_simp, by go_simp, by go_simp, by go_simp⟩
          have Xx2 : Hid (Box ((Ws.setCell ⟨gb, 0, none⟩ (.bool s5)).setCell ⟨gb, 1, none⟩ (.slice (some ⟨g5, 0, none⟩) m5 m5)) gx (.bool s) (.slice p m c)) := ⟨by go_simp, by go_simp, by go_simp, by go_simp⟩
          have Xy2 : Hid (Box ((Ws.setCell ⟨gb, 0, none⟩ (.bool s5)).setCell ⟨gb, 1, none⟩ (.slice (some ⟨g5, 0, none⟩) m5 m5)) gy (.bool t) (.slice q n d)) := ⟨by go_simp, by go_simp, by go_simp, by go_simp⟩
          have Xr2 : Hid (Box ((Ws.setCell ⟨gb, 0, none⟩ (.bool s5)).setCell ⟨gb, 1, none⟩ (.slice (some ⟨g5, 0, none⟩) m5 m5)) gr (.bool false) (.slice none 0 0)) := ⟨by go_simp, by go_simp, by go_simp, by go_simp⟩
          have Xa2 : Hid (Box ((Ws.setCell ⟨gb, 0, none⟩ (.bool s5)).setCell ⟨gb, 1, none⟩ (.slice (some ⟨g5, 0, none⟩) m5 m5)) ga (.bool s4) (.slice (some ⟨g4, 0, none⟩) m4 m4)) := ⟨by go_simp, by go_simp, by go_simp, by go_simp⟩
          have Z42 : Hid (ZR ((Ws.setCell ⟨gb, 0, none⟩ (.bool s5)).setCell ⟨gb, 1, none⟩ (.slice (some ⟨g5, 0, none⟩) m5 m5)) s4 (some ⟨g4, 0, none⟩) m4 (iv s (valB B64 xs))) := (Z4.out.setOff HO4b.out _ _).setOff HO4b.out _ _
          have Z52 : Hid (ZR ((Ws.setCell ⟨gb, 0, none⟩ (.bool s5)).setCell ⟨gb, 1, none⟩ (.slice (some ⟨g5, 0, none⟩) m5 m5)) s5 (some ⟨g5, 0, none⟩) m5 (iv t (valB B64 ys))) := (Z5.out.setOff HO5b.out _ _).setOff HO5b.out _ _
          have hbw2 : Below w.heap.size w ((Ws.setCell ⟨gb, 0, none⟩ (.bool s5)).setCell ⟨gb, 1, none⟩ (.slice (some ⟨g5, 0, none⟩) m5 m5)) := bSet (bSet hbw _ _ _ HGb.out) _ _ _ HGb.out
          refine hK _ _ HJ2.out ?_
          clear hK HJ
          have HJ := HJ2
          clear HJ2 hbw Z4 Z5 
          clear cb0 cb1 fb0 fb1 hneb
          clear cx0 cx1 fx0 fx1 hnex
          clear cy0 cy1 fy0 fy1 hney
          clear cr0 cr1 fr0 fr1 hner
          clear ca0 ca1 fa0 fa1 hnea
          clear qbx qxb qby qyb qbr qrb qba qab Xb Xx Xy Xr Xa
          generalize ((Ws.setCell ⟨gb, 0, none⟩ (.bool s5)).setCell ⟨gb, 1, none⟩ (.slice (some ⟨g5, 0, none⟩) m5 m5)) = Wt at *
          have hbw := hbw2
          have Z4 := Z42
          have Z5 := Z52
          have Xb := Xb2
          have Xx := Xx2
          have Xy := Xy2
          have Xr := Xr2
          have Xa := Xa2
          clear hbw2 Z42 Z52 Xb2 Xx2 Xy2 Xr2 Xa2
          refine wpJ_done (by kernel_rfl) ?_ _
          exact ⟨rfl, ga, gb, s4, g4, m4, s5, g5, m5, by kernel_rfl, Xa.out, Xb.out, Z4.out, Z5.out, HL4.out, HL5.out, Xr.out, hbw⟩
      · go_simp
        have HDb : Hid (gx ≠ Wa.heap.size ∧ gy ≠ Wa.heap.size ∧ gr ≠ Wa.heap.size ∧ ga ≠ Wa.heap.size) := ⟨Nat.ne_of_lt Xx.out.lt, Nat.ne_of_lt Xy.out.lt, Nat.ne_of_lt Xr.out.lt, Nat.ne_of_lt Xa.out.lt⟩
        have Xb0 : Hid (Box (Wa.alloc (.cells #[.bool false, .slice none 0 0] 70)) Wa.heap.size (.bool false) (.slice none 0 0)) := Box.new Wa _ _ _
        have hbn : Below Wa.heap.size Wa (Wa.alloc (.cells #[.bool false, .slice none 0 0] 70)) := below1 Wa _
        generalize Wa.alloc (.cells #[.bool false, .slice none 0 0] 70) = Wb at *
        have HGb : Hid (w.heap.size ≤ Wa.heap.size) := hbw.size
        replace Xx : Hid _ := Xx.out.below hbn
        replace Xy : Hid _ := Xy.out.below hbn
        replace Xr : Hid _ := Xr.out.below hbn
        replace Xa : Hid _ := Xa.out.below hbn
        replace H : Hid _ := H.out.below hbn
        replace K : Hid _ := K.out.below hbn
        replace hbw := Below.on hbw hbn
        clear hbn
        generalize Wa.heap.size = gb at *
        have Xb := Xb0
        clear Xb0
        refine hK _ _ ⟨Xx.out.c0, Xx.out.c1, Xy.out.c0, Xy.out.c1⟩ ?_
        clear hK
        refine wpJ_one (i := 1) (by kernel_rfl) rfl (by kernel_rfl) (fun KJ hK => ?_)
        go_simp
        refine (rfrom04g s H.out (by have := HM.out; omega)).mono ?_
        rintro e v4 ⟨v, rfl, hv, hb4⟩
        obtain ⟨s4, g4, m4, rfl, hg4, hz4, hl4⟩ := hv
        have HO4a : Hid (OffR g4 m4 ga) := .inr (Nat.ne_of_gt (Nat.lt_of_lt_of_le Xa.out.lt hg4))
        have HO4b : Hid (OffR g4 m4 gb) := .inr (Nat.ne_of_gt (Nat.lt_of_lt_of_le Xb.out.lt hg4))
        replace Xx : Hid _ := Xx.out.below hb4
        replace Xy : Hid _ := Xy.out.below hb4
        replace Xr : Hid _ := Xr.out.below hb4
        replace Xa : Hid _ := Xa.out.below hb4
        replace Xb : Hid _ := Xb.out.below hb4
        replace H : Hid _ := H.out.below hb4
        replace K : Hid _ := K.out.below hb4
        replace hbw := Below.on hbw hb4
        clear hb4
        have Z4 : Hid (ZR v4 s4 (some ⟨g4, 0, none⟩) m4 (iv s (valB B64 xs))) := hz4
        have HL4 : Hid (m4 ≤ 16384) := by have := HM.out; show m4 ≤ _; omega
        clear hz4 hl4 hg4
        refine hK _ _ ⟨Xx.out.c0, Xx.out.c1, Xy.out.c0, Xy.out.c1⟩ ?_
        clear hK
        refine wpJ_one (i := 3) (by kernel_rfl) rfl (by kernel_rfl) (fun KJ hK => ?_)
        go_simp
        refine (rfrom04g t K.out (by have := HM.out; omega)).mono ?_
        rintro e v5 ⟨v, rfl, hv, hb5⟩
        obtain ⟨s5, g5, m5, rfl, hg5, hz5, hl5⟩ := hv
        have HO5a : Hid (OffR g5 m5 ga) := .inr (Nat.ne_of_gt (Nat.lt_of_lt_of_le Xa.out.lt hg5))
        have HO5b : Hid (OffR g5 m5 gb) := .inr (Nat.ne_of_gt (Nat.lt_of_lt_of_le Xb.out.lt hg5))
        replace Xx : Hid _ := Xx.out.below hb5
        replace Xy : Hid _ := Xy.out.below hb5
        replace Xr : Hid _ := Xr.out.below hb5
        replace Xa : Hid _ := Xa.out.below hb5
        replace Xb : Hid _ := Xb.out.below hb5
        replace H : Hid _ := H.out.below hb5
        replace K : Hid _ := K.out.below hb5
        replace Z4 : Hid _ := Z4.out.below hb5
        replace hbw := Below.on hbw hb5
        clear hb5
        have Z5 : Hid (ZR v5 s5 (some ⟨g5, 0, none⟩) m5 (iv t (valB B64 ys))) := hz5
        have HL5 : Hid (m5 ≤ 16384) := by have := HM.out; show m5 ≤ _; omega
        clear hz5 hl5 hg5
        refine hK _ _ ⟨Xx.out.c0, Xx.out.c1, Xy.out.c0, Xy.out.c1⟩ ?_
        clear hK
        obtain ⟨ca0, ca1, fa0, fa1⟩ := Xa.out
        have hnea := Xa.out.lt
        obtain ⟨cx0, cx1, fx0, fx1⟩ := Xx.out
        have hnex := Xx.out.lt
        obtain ⟨cy0, cy1, fy0, fy1⟩ := Xy.out
        have hney := Xy.out.lt
        obtain ⟨cr0, cr1, fr0, fr1⟩ := Xr.out
        have hner := Xr.out.lt
        obtain ⟨cb0, cb1, fb0, fb1⟩ := Xb.out
        have hneb := Xb.out.lt
        have qax : gx ≠ ga := HDa.out.1
        have qxa : ga ≠ gx := fun h => qax h.symm
        have qay : gy ≠ ga := HDa.out.2.1
        have qya : ga ≠ gy := fun h => qay h.symm
        have qar : gr ≠ ga := HDa.out.2.2
        have qra : ga ≠ gr := fun h => qar h.symm
        have qba : ga ≠ gb := HDb.out.2.2.2
        have qab : gb ≠ ga := fun h => qba h.symm
        refine wpJ_one (i := 6) (by kernel_rfl) rfl (by kernel_rfl) (fun KJ hK => ?_)
        go_simp
        have HJ2 : Hid ((fun W' : World => W'.cell? ⟨gx, 0, none⟩ = some (.bool s) ∧ W'.cell? ⟨gx, 1, none⟩ = some (.slice p m c) ∧ W'.cell? ⟨gy, 0, none⟩ = some (.bool t) ∧ W'.cell? ⟨gy, 1, none⟩ = some (.slice q n d)) ((v5.setCell ⟨ga, 0, none⟩ (.bool s4)).setCell ⟨ga, 1, none⟩ (.slice (some ⟨g4, 0, none⟩) m4 m4))) := ⟨by go_simp, by go_simp, by go_simp, by go_simp⟩
        have Xa2 : Hid (Box ((v5.setCell ⟨ga, 0, none⟩ (.bool s4)).setCell ⟨ga, 1, none⟩ (.slice (some ⟨g4, 0, none⟩) m4 m4)) ga (.bool s4) (.slice (some ⟨g4, 0, none⟩) m4 m4)) := ⟨by go_simp, by go_simp, by go_simp, by go_simp⟩
        have Xx2 : Hid (Box ((v5.setCell ⟨ga, 0, none⟩ (.bool s4)).setCell ⟨ga, 1, none⟩ (.slice (some ⟨g4, 0, none⟩) m4 m4)) gx (.bool s) (.slice p m c)) := ⟨by go_simp, by go_simp, by go_simp, by go_simp⟩
        have Xy2 : Hid (Box ((v5.setCell ⟨ga, 0, none⟩ (.bool s4)).setCell ⟨ga, 1, none⟩ (.slice (some ⟨g4, 0, none⟩) m4 m4)) gy (.bool t) (.slice q n d)) := ⟨by go_simp, by go_simp, by go_simp, by go_simp⟩
        have Xr2 : Hid (Box ((v5.setCell ⟨ga, 0, none⟩ (.bool s4)).setCell ⟨ga, 1, none⟩ (.slice (some ⟨g4, 0, none⟩) m4 m4)) gr (.bool false) (.slice none 0 0)) := ⟨by go_simp, by go_simp, by go_simp, by go_simp⟩
        have Xb2 : Hid (Box ((v5.setCell ⟨ga, 0, none⟩ (.bool s4)).setCell ⟨ga, 1, none⟩ (.slice (some ⟨g4, 0, none⟩) m4 m4)) gb (.bool false) (.slice none 0 0)) := ⟨by go_simp, by go_simp, by go_simp, by go_simp⟩
        have Z42 : Hid (ZR ((v5.setCell ⟨ga, 0, none⟩ (.bool s4)).setCell ⟨ga, 1, none⟩ (.slice (some ⟨g4, 0, none⟩) m4 m4)) s4 (some ⟨g4, 0, none⟩) m4 (iv s (valB B64 xs))) := (Z4.out.setOff HO4a.out _ _).setOff HO4a.out _ _
        have Z52 : Hid (ZR ((v5.setCell ⟨ga, 0, none⟩ (.bool s4)).setCell ⟨ga, 1, none⟩ (.slice (some ⟨g4, 0, none⟩) m4 m4)) s5 (some ⟨g5, 0, none⟩) m5 (iv t (valB B64 ys))) := (Z5.out.setOff HO5a.out _ _).setOff HO5a.out _ _
        have hbw2 : Below w.heap.size w ((v5.setCell ⟨ga, 0, none⟩ (.bool s4)).setCell ⟨ga, 1, none⟩ (.slice (some ⟨g4, 0, none⟩) m4 m4)) := bSet (bSet hbw _ _ _ HGa.out) _ _ _ HGa.out
        refine hK _ _ HJ2.out ?_
        clear hK HJ
        have HJ := HJ2
        clear HJ2 hbw Z4 Z5 H K
        clear ca0 ca1 fa0 fa1 hnea
        clear cx0 cx1 fx0 fx1 hnex
        clear cy0 cy1 fy0 fy1 hney
        clear cr0 cr1 fr0 fr1 hner
        clear cb0 cb1 fb0 fb1 hneb
        clear qax qxa qay qya qar qra qab qba Xa Xx Xy Xr Xb
        generalize ((v5.setCell ⟨ga, 0, none⟩ (.bool s4)).setCell ⟨ga, 1, none⟩ (.slice (some ⟨g4, 0, none⟩) m4 m4)) = Ws at *
        have hbw := hbw2
        have Z4 := Z42
        have Z5 := Z52
        have Xa := Xa2
        have Xx := Xx2
        have Xy := Xy2
        have Xr := Xr2
        have Xb := Xb2
        clear hbw2 Z42 Z52 Xa2 Xx2 Xy2 Xr2 Xb2
        obtain ⟨cb0, cb1, fb0, fb1⟩ := Xb.out
        have hneb := Xb.out.lt
        obtain ⟨cx0, cx1, fx0, fx1⟩ := Xx.out
        have hnex := Xx.out.lt
        obtain ⟨cy0, cy1, fy0, fy1⟩ := Xy.out
        have hney := Xy.out.lt
        obtain ⟨cr0, cr1, fr0, fr1⟩ := Xr.out
        have hner := Xr.out.lt
        obtain ⟨ca0, ca1, fa0, fa1⟩ := Xa.out
        have hnea := Xa.out.lt
        have qbx : gx ≠ gb := HDb.out.1
        have qxb : gb ≠ gx := fun h => qbx h.symm
        have qby : gy ≠ gb := HDb.out.2.1
        have qyb : gb ≠ gy := fun h => qby h.symm
        have qbr : gr ≠ gb := HDb.out.2.2.1
        have qrb : gb ≠ gr := fun h => qbr h.symm
        have qba : ga ≠ gb := HDb.out.2.2.2
        have qab : gb ≠ ga := fun h => qba h.symm
        refine wpJ_one (i := 7) (by kernel_rfl) rfl (by kernel_rfl) (fun KJ hK => ?_)
        go_simp
        have HJ2 : Hid ((fun W' : World => W'.cell? ⟨gx, 0, none⟩ = some (.bool s) ∧ W'.cell? ⟨gx, 1, none⟩ = some (.slice p m c) ∧ W'.cell? ⟨gy, 0, none⟩ = some (.bool t) ∧ W'.cell? ⟨gy, 1, none⟩ = some (.slice q n d)) ((Ws.setCell ⟨gb, 0, none⟩ (.bool s5)).setCell ⟨gb, 1, none⟩ (.slice (some ⟨g5, 0, none⟩) m5 m5))) := ⟨by go_simp, by go_simp, by go_simp, by go_simp⟩
        have Xb2 : Hid (Box ((Ws.setCell ⟨gb, 0, none⟩ (.bool s5)).setCell ⟨gb, 1, none⟩ (.slice (some ⟨g5, 0, none⟩) m5 m5)) gb (.bool s5) (.slice (some ⟨g5, 0, none⟩) m5 m5)) := ⟨by go_simp, by go_simp, by go_simp, by go_simp⟩
        have Xx2 : Hid (Box ((Ws.setCell ⟨gb, 0, none⟩ (.bool s5)).setCell ⟨gb, 1, none⟩ (.slice (some ⟨g5, 0, none⟩) m5 m5)) gx (.bool s) (.slice p m c)) := ⟨by go_simp, by go_simp, by go_simp, by go_simp⟩
        have Xy2 : Hid (Box ((Ws.setCell ⟨gb, 0, none⟩ (.bool s5)).setCell ⟨gb, 1, none⟩ (.slice (some ⟨g5, 0, none⟩) m5 m5)) gy (.bool t) (.slice q n d)) := ⟨by go_simp, by go_simp, by go_simp, by go_simp⟩
        have Xr2 : Hid (Box ((Ws.setCell ⟨gb, 0, none⟩ (.bool s5)).setCell ⟨gb, 1, none⟩ (.slice (some ⟨g5, 0, none⟩) m5 m5)) gr (.bool false) (.slice none 0 0)) := ⟨by go_simp, by go_simp, by go_simp, by go_simp⟩
        have Xa2 : Hid (Box ((Ws.setCell ⟨gb, 0, none⟩ (.bool s5)).setCell ⟨gb, 1, none⟩ (.slice (some ⟨g5, 0, none⟩) m5 m5)) ga (.bool s4) (.slice (some ⟨g4, 0, none⟩) m4 m4)) := ⟨by go_simp, by go_simp, by go_simp, by go_simp⟩
        have Z42 : Hid (ZR ((Ws.setCell ⟨gb, 0, none⟩ (.bool s5)).setCell ⟨gb, 1, none⟩ (.slice (some ⟨g5, 0, none⟩) m5 m5)) s4 (some ⟨g4, 0, none⟩) m4 (iv s (valB B64 xs))) := (Z4.out.setOff HO4b.out _ _).setOff HO4b.out _ _
        have Z52 : Hid (ZR ((Ws.setCell ⟨gb, 0, none⟩ (.bool s5)).setCell ⟨gb, 1, none⟩ (.slice (some ⟨g5, 0, none⟩) m5 m5)) s5 (some ⟨g5, 0, none⟩) m5 (iv t (valB B64 ys))) := (Z5.out.setOff HO5b.out _ _).setOff HO5b.out _ _
        have hbw2 : Below w.heap.size w ((Ws.setCell ⟨gb, 0, none⟩ (.bool s5)).setCell ⟨gb, 1, none⟩ (.slice (some ⟨g5, 0, none⟩) m5 m5)) := bSet (bSet hbw _ _ _ HGb.out) _ _ _ HGb.out
        refine hK _ _ HJ2.out ?_
        clear hK HJ
        have HJ := HJ2
        clear HJ2 hbw Z4 Z5 
        clear cb0 cb1 fb0 fb1 hneb
        clear cx0 cx1 fx0 fx1 hnex
        clear cy0 cy1 fy0 fy1 hney
        clear cr0 cr1 fr0 fr1 hner
        clear ca0 ca1 fa0 fa1 hnea
        clear qbx qxb qby qyb qbr qrb qba qab Xb Xx Xy Xr Xa
        generalize ((Ws.setCell ⟨gb, 0, none⟩ (.bool s5)).setCell ⟨gb, 1, none⟩ (.slice (some ⟨g5, 0, none⟩) m5 m5)) = Wt at *
        have hbw := hbw2
        have Z4 := Z42
        have Z5 := Z52
        have Xb := Xb2
        have Xx := Xx2
        have Xy := Xy2
        have Xr := Xr2
        have Xa := Xa2
        clear hbw2 Z42 Z52 Xb2 Xx2 Xy2 Xr2 Xa2
        refine wpJ_done (by kernel_rfl) ?_ _
        exact ⟨rfl, ga, gb, s4, g4, m4, s5, g5, m5, by kernel_rfl, Xa.out, Xb.out, Z4.out, Z5.out, HL4.out, HL5.out, Xr.out, hbw⟩
    · go_simp
      have HDb : Hid (gx ≠ W3.heap.size ∧ gy ≠ W3.heap.size ∧ gr ≠ W3.heap.size) := ⟨Nat.ne_of_lt Xx.out.lt, Nat.ne_of_lt Xy.out.lt, Nat.ne_of_lt Xr.out.lt⟩
      have Xb0 : Hid (Box (W3.alloc (.cells #[.bool false, .slice none 0 0] 70)) W3.heap.size (.bool false) (.slice none 0 0)) := Box.new W3 _ _ _
      have hbn : Below W3.heap.size W3 (W3.alloc (.cells #[.bool false, .slice none 0 0] 70)) := below1 W3 _
      generalize W3.alloc (.cells #[.bool false, .slice none 0 0] 70) = Wb at *
      have HGb : Hid (w.heap.size ≤ W3.heap.size) := hbw.size
      replace Xx : Hid _ := Xx.out.below hbn
      replace Xy : Hid _ := Xy.out.below hbn
      replace Xr : Hid _ := Xr.out.below hbn
      replace H : Hid _ := H.out.below hbn
      replace K : Hid _ := K.out.below hbn
      replace hbw := Below.on hbw hbn
      clear hbn
      generalize W3.heap.size = gb at *
      have Xb := Xb0
      clear Xb0
      clear HJ
      have HJ : Hid ((fun W' : World => W'.cell? ⟨gx, 0, none⟩ = some (.bool s) ∧ W'.cell? ⟨gx, 1, none⟩ = some (.slice p m c) ∧ W'.cell? ⟨gy, 0, none⟩ = some (.bool t) ∧ W'.cell? ⟨gy, 1, none⟩ = some (.slice q n d)) Wb) := ⟨Xx.out.c0, Xx.out.c1, Xy.out.c0, Xy.out.c1⟩
      refine hK _ _ HJ.out ?_
      clear hK
      refine wpJ_two (i := 1) (k := 4) (by kernel_rfl) rfl rfl (by kernel_rfl) (by kernel_rfl) (fun KJ hK => ?_) (fun KJ hK => ?_)
      · go_simp
        refine (rfrom04g s H.out (by have := HM.out; omega)).mono ?_
        rintro e v4 ⟨v, rfl, hv, hb4⟩
        obtain ⟨s4, g4, m4, rfl, hg4, hz4, hl4⟩ := hv
        have HO4b : Hid (OffR g4 m4 gb) := .inr (Nat.ne_of_gt (Nat.lt_of_lt_of_le Xb.out.lt hg4))
        replace Xx : Hid _ := Xx.out.below hb4
        replace Xy : Hid _ := Xy.out.below hb4
        replace Xr : Hid _ := Xr.out.below hb4
        replace Xb : Hid _ := Xb.out.below hb4
        replace H : Hid _ := H.out.below hb4
        replace K : Hid _ := K.out.below hb4
        replace hbw := Below.on hbw hb4
        clear hb4
        have Z4 : Hid (ZR v4 s4 (some ⟨g4, 0, none⟩) m4 (iv s (valB B64 xs))) := hz4
        have HL4 : Hid (m4 ≤ 16384) := by have := HM.out; show m4 ≤ _; omega
        clear hz4 hl4 hg4
        clear HJ
        have HJ : Hid ((fun W' : World => W'.cell? ⟨gx, 0, none⟩ = some (.bool s) ∧ W'.cell? ⟨gx, 1, none⟩ = some (.slice p m c) ∧ W'.cell? ⟨gy, 0, none⟩ = some (.bool t) ∧ W'.cell? ⟨gy, 1, none⟩ = some (.slice q n d)) v4) := ⟨Xx.out.c0, Xx.out.c1, Xy.out.c0, Xy.out.c1⟩
        refine hK _ _ HJ.out ?_
        clear hK
        refine wpJ_two (i := 3) (k := 4) (by kernel_rfl) rfl rfl (by kernel_rfl) (by kernel_rfl) (fun KJ hK => ?_) (fun KJ hK => ?_)
        · go_simp
          refine (rfrom04g t K.out (by have := HM.out; omega)).mono ?_
          rintro e v5 ⟨v, rfl, hv, hb5⟩
          obtain ⟨s5, g5, m5, rfl, hg5, hz5, hl5⟩ := hv
          have HO5b : Hid (OffR g5 m5 gb) := .inr (Nat.ne_of_gt (Nat.lt_of_lt_of_le Xb.out.lt hg5))
          replace Xx : Hid _ := Xx.out.below hb5
          replace Xy : Hid _ := Xy.out.below hb5
          replace Xr : Hid _ := Xr.out.below hb5
          replace Xb : Hid _ := Xb.out.below hb5
          replace H : Hid _ := H.out.below hb5
          replace K : Hid _ := K.out.below hb5
          replace Z4 : Hid _ := Z4.out.below hb5
          replace hbw := Below.on hbw hb5
          clear hb5
          have Z5 : Hid (ZR v5 s5 (some ⟨g5, 0, none⟩) m5 (iv t (valB B64 ys))) := hz5
          have HL5 : Hid (m5 ≤ 16384) := by have := HM.out; show m5 ≤ _; omega
          clear hz5 hl5 hg5
          refine hK _ _ ⟨Xx.out.c0, Xx.out.c1, Xy.out.c0, Xy.out.c1⟩ ?_
          clear hK
          refine wpJ_one (i := 4) (by kernel_rfl) rfl (by kernel_rfl) (fun KJ hK => ?_)
          go_simp
          have HDa : Hid (gx ≠ v5.heap.size ∧ gy ≠ v5.heap.size ∧ gr ≠ v5.heap.size ∧ gb ≠ v5.heap.size) := ⟨Nat.ne_of_lt Xx.out.lt, Nat.ne_of_lt Xy.out.lt, Nat.ne_of_lt Xr.out.lt, Nat.ne_of_lt Xb.out.lt⟩
          have HO4a : Hid (OffR g4 m4 v5.heap.size) := Z4.out.off_new
          have HO5a : Hid (OffR g5 m5 v5.heap.size) := Z5.out.off_new
          have Xa0 : Hid (Box (v5.alloc (.cells #[.bool false, .slice none 0 0] 70)) v5.heap.size (.bool false) (.slice none 0 0)) := Box.new v5 _ _ _
          have hbn : Below v5.heap.size v5 (v5.alloc (.cells #[.bool false, .slice none 0 0] 70)) := below1 v5 _
          generalize v5.alloc (.cells #[.bool false, .slice none 0 0] 70) = Wa at *
          have HGa : Hid (w.heap.size ≤ v5.heap.size) := hbw.size
          replace Xx : Hid _ := Xx.out.below hbn
          replace Xy : Hid _ := Xy.out.below hbn
          replace Xr : Hid _ := Xr.out.below hbn
          replace Xb : Hid _ := Xb.out.below hbn
          replace H : Hid _ := H.out.below hbn
          replace K : Hid _ := K.out.below hbn
          replace Z4 : Hid _ := Z4.out.below hbn
          replace Z5 : Hid _ := Z5.out.below hbn
          replace hbw := Below.on hbw hbn
          clear hbn
          generalize v5.heap.size = ga at *
          have Xa := Xa0
          clear Xa0
          refine hK _ _ ⟨Xx.out.c0, Xx.out.c1, Xy.out.c0, Xy.out.c1⟩ ?_
          clear hK
          obtain ⟨ca0, ca1, fa0, fa1⟩ := Xa.out
          have hnea := Xa.out.lt
          obtain ⟨cx0, cx1, fx0, fx1⟩ := Xx.out
          have hnex := Xx.out.lt
          obtain ⟨cy0, cy1, fy0, fy1⟩ := Xy.out
          have hney := Xy.out.lt
          obtain ⟨cr0, cr1, fr0, fr1⟩ := Xr.out
          have hner := Xr.out.lt
          obtain ⟨cb0, cb1, fb0, fb1⟩ := Xb.out
          have hneb := Xb.out.lt
          have qax : gx ≠ ga := HDa.out.1
          have qxa : ga ≠ gx := fun h => qax h.symm
          have qay : gy ≠ ga := HDa.out.2.1
          have qya : ga ≠ gy := fun h => qay h.symm
          have qar : gr ≠ ga := HDa.out.2.2.1
          have qra : ga ≠ gr := fun h => qar h.symm
          have qab : gb ≠ ga := HDa.out.2.2.2
          have qba : ga ≠ gb := fun h => qab h.symm
          refine wpJ_one (i := 6) (by kernel_rfl) rfl (by kernel_rfl) (fun KJ hK => ?_)
          go_simp
          have HJ2 : Hid ((fun W' : World => W'.cell? ⟨gx, 0, none⟩ = some (.bool s) ∧ W'.cell? ⟨gx, 1, none⟩ = some (.slice p m c) ∧ W'.cell? ⟨gy, 0, none⟩ = some (.bool t) ∧ W'.cell? ⟨gy, 1, none⟩ = some (.slice q n d)) ((Wa.setCell ⟨ga, 0, none⟩ (.bool s4)).setCell ⟨ga, 1, none⟩ (.slice (some ⟨g4, 0, none⟩) m4 m4))) := ⟨by go_simp, by go_simp, by go_simp, by go_simp⟩
          have Xa2 : Hid (Box ((Wa.setCell ⟨ga, 0, none⟩ (.bool s4)).setCell ⟨ga, 1, none⟩ (.slice (some ⟨g4, 0, none⟩) m4 m4)) ga (.bool s4) (.slice (some ⟨g4, 0, none⟩) m4 m4)) := ⟨by go_simp, by go_simp, by go_simp, by go_simp⟩
          have Xx2 : Hid (Box ((Wa.setCell ⟨ga, 0, none⟩ (.bool s4)).setCell ⟨ga, 1, none⟩ (.slice (some ⟨g4, 0, none⟩) m4 m4)) gx (.bool s) (.slice p m c)) := ⟨by go_simp, by go_simp, by go_simp, by go_simp⟩
          have Xy2 : Hid (Box ((Wa.setCell ⟨ga, 0, none⟩ (.bool s4)).setCell ⟨ga, 1, none⟩ (.slice (some ⟨g4, 0, none⟩) m4 m4)) gy (.bool t) (.slice q n d)) := ⟨by go_simp, by go_simp, by go_simp, by go_simp⟩
          have Xr2 : Hid (Box ((Wa.setCell ⟨ga, 0, none⟩ (.bool s4)).setCell ⟨ga, 1, none⟩ (.slice (some ⟨g4, 0, none⟩) m4 m4)) gr (.bool false) (.slice none 0 0)) := ⟨by go_simp, by go_simp, by go_simp, by go_simp⟩
          have Xb2 : Hid (Box ((Wa.setCell ⟨ga, 0, none⟩ (.bool s4)).setCell ⟨ga, 1, none⟩ (.slice (some ⟨g4, 0, none⟩) m4 m4)) gb (.bool false) (.slice none 0 0)) := ⟨by go_simp, by go_simp, by go_simp, by go_simp⟩
          have Z42 : Hid (ZR ((Wa.setCell ⟨ga, 0, none⟩ (.bool s4)).setCell ⟨ga, 1, none⟩ (.slice (some ⟨g4, 0, none⟩) m4 m4)) s4 (some ⟨g4, 0, none⟩) m4 (iv s (valB B64 xs))) := (Z4.out.setOff HO4a.out _ _).setOff HO4a.out _ _
          have Z52 : Hid (ZR ((Wa.setCell ⟨ga, 0, none⟩ (.bool s4)).setCell ⟨ga, 1, none⟩ (.slice (some ⟨g4, 0, none⟩) m4 m4)) s5 (some ⟨g5, 0, none⟩) m5 (iv t (valB B64 ys))) := (Z5.out.setOff HO5a.out _ _).setOff HO5a.out _ _
          have hbw2 : Below w.heap.size w ((Wa.setCell ⟨ga, 0, none⟩ (.bool s4)).setCell ⟨ga, 1, none⟩ (.slice (some ⟨g4, 0, none⟩) m4 m4)) := bSet (bSet hbw _ _ _ HGa.out) _ _ _ HGa.out
          refine hK _ _ HJ2.out ?_
          clear hK HJ
          have HJ := HJ2
          clear HJ2 hbw Z4 Z5 H K
          clear ca0 ca1 fa0 fa1 hnea
          clear cx0 cx1 fx0 fx1 hnex
          clear cy0 cy1 fy0 fy1 hney
          clear cr0 cr1 fr0 fr1 hner
          clear cb0 cb1 fb0 fb1 hneb
          clear qax qxa qay qya qar qra qab qba Xa Xx Xy Xr Xb
          generalize ((Wa.setCell ⟨ga, 0, none⟩ (.bool s4)).setCell ⟨ga, 1, none⟩ (.slice (some ⟨g4, 0, none⟩) m4 m4)) = Ws at *
          have hbw := hbw2
          have Z4 := Z42
          have Z5 := Z52
          have Xa := Xa2
          have Xx := Xx2
          have Xy := Xy2
          have Xr := Xr2
          have Xb := Xb2
          clear hbw2 Z42 Z52 Xa2 Xx2 Xy2 Xr2 Xb2
          obtain ⟨cb0, cb1, fb0, fb1⟩ := Xb.out
          have hneb := Xb.out.lt
          obtain ⟨cx0, cx1, fx0, fx1⟩ := Xx.out
          have hnex := Xx.out.lt
          obtain ⟨cy0, cy1, fy0, fy1⟩ := Xy.out
          have hney := Xy.out.lt
          obtain ⟨cr0, cr1, fr0, fr1⟩ := Xr.out
          have hner := Xr.out.lt
          obtain ⟨ca0, ca1, fa0, fa1⟩ := Xa.out
          have hnea := Xa.out.lt
          have qbx : gx ≠ gb := HDb.out.1
          have qxb : gb ≠ gx := fun h => qbx h.symm
          have qby : gy ≠ gb := HDb.out.2.1
          have qyb : gb ≠ gy := fun h => qby h.symm
          have qbr : gr ≠ gb := HDb.out.2.2
          have qrb : gb ≠ gr := fun h => qbr h.symm
          have qab : gb ≠ ga := HDa.out.2.2.2
          have qba : ga ≠ gb := fun h => qab h.symm
          refine wpJ_one (i := 7) (by kernel_rfl) rfl (by kernel_rfl) (fun KJ hK => ?_)
          go_simp
          have HJ2 : Hid ((fun W' : World => W'.cell? ⟨gx, 0, none⟩ = some (.bool s) ∧ W'.cell? ⟨gx, 1, none⟩ = some (.slice p m c) ∧ W'.cell? ⟨gy, 0, none⟩ = some (.bool t) ∧ W'.cell? ⟨gy, 1, none⟩ = some (.slice q n d)) ((Ws.setCell ⟨gb, 0, none⟩ (.bool s5)).setCell ⟨gb, 1, none⟩ (.slice (some ⟨g5, 0, none⟩) m5 m5))) := ⟨by go_simp, by go_simp, by go_simp, by go_simp⟩
          have Xb2 : Hid (Box ((Ws.setCell ⟨gb, 0, none⟩ (.bool s5)).setCell ⟨gb, 1, none⟩ (.slice (some ⟨g5, 0, none⟩) m5 m5)) gb (.bool s5) (.slice (some ⟨g5, 0, none⟩) m5 m5)) := ⟨by go_simp, by go_simp, by go_simp, by go_simp⟩
          have Xx2 : Hid (Box ((Ws.setCell ⟨gb, 0, none⟩ (.bool s5)).setCell ⟨gb, 1, none⟩ (.slice (some ⟨g5, 0, none⟩) m5 m5)) gx (.bool s) (.slice p m c)) := ⟨by go_simp, by go_simp, by go_simp, by go_simp⟩
          have Xy2 : Hid (Box ((Ws.setCell ⟨gb, 0, none⟩ (.bool s5)).setCell ⟨gb, 1, none⟩ (.slice (some ⟨g5, 0, none⟩) m5 m5)) gy (.bool t) (.slice q n d)) := ⟨by go_simp, by go_simp, by go_simp, by go_simp⟩
          have Xr2 : Hid (Box ((Ws.setCell ⟨gb, 0, none⟩ (.bool s5)).setCell ⟨gb, 1, none⟩ (.slice (some ⟨g5, 0, none⟩) m5 m5)) gr (.bool false) (.slice none 0 0)) := ⟨by go_simp, by go_simp, by go_simp, by go_simp⟩
          have Xa2 : Hid (Box ((Ws.setCell ⟨gb, 0, none⟩ (.bool s5)).setCell ⟨gb, 1, none⟩ (.slice (some ⟨g5, 0, none⟩) m5 m5)) ga (.bool s4) (.slice (some ⟨g4, 0, none⟩) m4 m4)) := ⟨by go_simp, by go_simp, by go_simp, by go_simp⟩
          have Z42 : Hid (ZR ((Ws.setCell ⟨gb, 0, none⟩ (.bool s5)).setCell ⟨gb, 1, none⟩ (.slice (some ⟨g5, 0, none⟩) m5 m5)) s4 (some ⟨g4, 0, none⟩) m4 (iv s (valB B64 xs))) := (Z4.out.setOff HO4b.out _ _).setOff HO4b.out _ _
          have Z52 : Hid (ZR ((Ws.setCell ⟨gb, 0, none⟩ (.bool s5)).setCell ⟨gb, 1, none⟩ (.slice (some ⟨g5, 0, none⟩) m5 m5)) s5 (some ⟨g5, 0, none⟩) m5 (iv t (valB B64 ys))) := (Z5.out.setOff HO5b.out _ _).setOff HO5b.out _ _
          have hbw2 : Below w.heap.size w ((Ws.setCell ⟨gb, 0, none⟩ (.bool s5)).setCell ⟨gb, 1, none⟩ (.slice (some ⟨g5, 0, none⟩) m5 m5)) := bSet (bSet hbw _ _ _ HGb.out) _ _ _ HGb.out
          refine hK _ _ HJ2.out ?_
          clear hK HJ
          have HJ := HJ2
          clear HJ2 hbw Z4 Z5 
          clear cb0 cb1 fb0 fb1 hneb
          clear cx0 cx1 fx0 fx1 hnex
          clear cy0 cy1 fy0 fy1 hney
          clear cr0 cr1 fr0 fr1 hner
          clear ca0 ca1 fa0 fa1 hnea
          clear qbx qxb qby qyb qbr qrb qba qab Xb Xx Xy Xr Xa
          generalize ((Ws.setCell ⟨gb, 0, none⟩ (.bool s5)).setCell ⟨gb, 1, none⟩ (.slice (some ⟨g5, 0, none⟩) m5 m5)) = Wt at *
          have hbw := hbw2
          have Z4 := Z42
          have Z5 := Z52
          have Xb := Xb2
          have Xx := Xx2
          have Xy := Xy2
          have Xr := Xr2
          have Xa := Xa2
          clear hbw2 Z42 Z52 Xb2 Xx2 Xy2 Xr2 Xa2
          refine wpJ_done (by kernel_rfl) ?_ _
          exact ⟨rfl, ga, gb, s4, g4, m4, s5, g5, m5, by kernel_rfl, Xa.out, Xb.out, Z4.out, Z5.out, HL4.out, HL5.out, Xr.out, hbw⟩
        · go_simp
          have HDa : Hid (gx ≠ v4.heap.size ∧ gy ≠ v4.heap.size ∧ gr ≠ v4.heap.size ∧ gb ≠ v4.heap.size) := ⟨Nat.ne_of_lt Xx.out.lt, Nat.ne_of_lt Xy.out.lt, Nat.ne_of_lt Xr.out.lt, Nat.ne_of_lt Xb.out.lt⟩
          have HO4a : Hid (OffR g4 m4 v4.heap.size) := Z4.out.off_new
          have Xa0 : Hid (Box (v4.alloc (.cells #[.bool false, .slice none 0 0] 70)) v4.heap.size (.bool false) (.slice none 0 0)) := Box.new v4 _ _ _
          have hbn : Below v4.heap.size v4 (v4.alloc (.cells #[.bool false, .slice none 0 0] 70)) := below1 v4 _
          generalize v4.alloc (.cells #[.bool false, .slice none 0 0] 70) = Wa at *
          have HGa : Hid (w.heap.size ≤ v4.heap.size) := hbw.size
          replace Xx : Hid _ := Xx.out.below hbn
          replace Xy : Hid _ := Xy.out.below hbn
          replace Xr : Hid _ := Xr.out.below hbn
          replace Xb : Hid _ := Xb.out.below hbn
          replace H : Hid _ := H.out.below hbn
          replace K : Hid _ := K.out.below hbn
          replace Z4 : Hid _ := Z4.out.below hbn
          replace hbw := Below.on hbw hbn
          clear hbn
          generalize v4.heap.size = ga at *
          have Xa := Xa0
          clear Xa0
          refine hK _ _ ⟨Xx.out.c0, Xx.out.c1, Xy.out.c0, Xy.out.c1⟩ ?_
          clear hK
          refine wpJ_one (i := 3) (by kernel_rfl) rfl (by kernel_rfl) (fun KJ hK => ?_)
          go_simp
          refine (rfrom04g t K.out (by have := HM.out; omega)).mono ?_
          rintro e v5 ⟨v, rfl, hv, hb5⟩
          obtain ⟨s5, g5, m5, rfl, hg5, hz5, hl5⟩ := hv
          have HO5a : Hid (OffR g5 m5 ga) := .inr (Nat.ne_of_gt (Nat.lt_of_lt_of_le Xa.out.lt hg5))
          have HO5b : Hid (OffR g5 m5 gb) := .inr (Nat.ne_of_gt (Nat.lt_of_lt_of_le Xb.out.lt hg5))
          replace Xx : Hid _ := Xx.out.below hb5
          replace Xy : Hid _ := Xy.out.below hb5
          replace Xr : Hid _ := Xr.out.below hb5
          replace Xb : Hid _ := Xb.out.below hb5
          replace Xa : Hid _ := Xa.out.below hb5
          replace H : Hid _ := H.out.below hb5
          replace K : Hid _ := K.out.below hb5
          replace Z4 : Hid _ := Z4.out.below hb5
          replace hbw := Below.on hbw hb5
          clear hb5
          have Z5 : Hid (ZR v5 s5 (some ⟨g5, 0, none⟩) m5 (iv t (valB B64 ys))) := hz5
          have HL5 : Hid (m5 ≤ 16384) := by have := HM.out; show m5 ≤ _; omega
          clear hz5 hl5 hg5
          refine hK _ _ ⟨Xx.out.c0, Xx.out.c1, Xy.out.c0, Xy.out.c1⟩ ?_
          clear hK
          obtain ⟨ca0, ca1, fa0, fa1⟩ := Xa.out
          have hnea := Xa.out.lt
          obtain ⟨cx0, cx1, fx0, fx1⟩ := Xx.out
          have hnex := Xx.out.lt
          obtain ⟨cy0, cy1, fy0, fy1⟩ := Xy.out
          have hney := Xy.out.lt
          obtain ⟨cr0, cr1, fr0, fr1⟩ := Xr.out
          have hner := Xr.out.lt
          obtain ⟨cb0, cb1, fb0, fb1⟩ := Xb.out
          have hneb := Xb.out.lt
          have qax : gx ≠ ga := HDa.out.1
          have qxa : ga ≠ gx := fun h => qax h.symm
          have qay : gy ≠ ga := HDa.out.2.1
          have qya : ga ≠ gy := fun h => qay h.symm
          have qar : gr ≠ ga := HDa.out.2.2.1
          have qra : ga ≠ gr := fun h => qar h.symm
          have qab : gb ≠ ga := HDa.out.2.2.2
          have qba : ga ≠ gb := fun h => qab h.symm
          refine wpJ_one (i := 6) (by kernel_rfl) rfl (by kernel_rfl) (fun KJ hK => ?_)
          go_simp
          have HJ2 : Hid ((fun W' : World => W'.cell? ⟨gx, 0, none⟩ = some (.bool s) ∧ W'.cell? ⟨gx, 1, none⟩ = some (.slice p m c) ∧ W'.cell? ⟨gy, 0, none⟩ = some (.bool t) ∧ W'.cell? ⟨gy, 1, none⟩ = some (.slice q n d)) ((v5.setCell ⟨ga, 0, none⟩ (.bool s4)).setCell ⟨ga, 1, none⟩ (.slice (some ⟨g4, 0, none⟩) m4 m4))) := ⟨by go_simp, by go_simp, by go_simp, by go_simp⟩
          have Xa2 : Hid (Box ((v5.setCell ⟨ga, 0, none⟩ (.bool s4)).setCell ⟨ga, 1, none⟩ (.slice (some ⟨g4, 0, none⟩) m4 m4)) ga (.bool s4) (.slice (some ⟨g4, 0, none⟩) m4 m4)) := ⟨by go_simp, by go_simp, by go_simp, by go_simp⟩
          have Xx2 : Hid (Box ((v5.setCell ⟨ga, 0, none⟩ (.bool s4)).setCell ⟨ga, 1, none⟩ (.slice (some ⟨g4, 0, none⟩) m4 m4)) gx (.bool s) (.slice p m c)) := ⟨by go_simp, by go_simp, by go_simp, by go_simp⟩
          have Xy2 : Hid (Box ((v5.setCell ⟨ga, 0, none⟩ (.bool s4)).setCell ⟨ga, 1, none⟩ (.slice (some ⟨g4, 0, none⟩) m4 m4)) gy (.bool t) (.slice q n d)) := ⟨by go_simp, by go_simp, by go_simp, by go_simp⟩
          have Xr2 : Hid (Box ((v5.setCell ⟨ga, 0, none⟩ (.bool s4)).setCell ⟨ga, 1, none⟩ (.slice (some ⟨g4, 0, none⟩) m4 m4)) gr (.bool false) (.slice none 0 0)) := ⟨by go_simp, by go_simp, by go_simp, by go_simp⟩
          have Xb2 : Hid (Box ((v5.setCell ⟨ga, 0, none⟩ (.bool s4)).setCell ⟨ga, 1, none⟩ (.slice (some ⟨g4, 0, none⟩) m4 m4)) gb (.bool false) (.slice none 0 0)) := ⟨by go_simp, by go_simp, by go_simp, by go_simp⟩
          have Z42 : Hid (ZR ((v5.setCell ⟨ga, 0, none⟩ (.bool s4)).setCell ⟨ga, 1, none⟩ (.slice (some ⟨g4, 0, none⟩) m4 m4)) s4 (some ⟨g4, 0, none⟩) m4 (iv s (valB B64 xs))) := (Z4.out.setOff HO4a.out _ _).setOff HO4a.out _ _
          have Z52 : Hid (ZR ((v5.setCell ⟨ga, 0, none⟩ (.bool s4)).setCell ⟨ga, 1, none⟩ (.slice (some ⟨g4, 0, none⟩) m4 m4)) s5 (some ⟨g5, 0, none⟩) m5 (iv t (valB B64 ys))) := (Z5.out.setOff HO5a.out _ _).setOff HO5a.out _ _
          have hbw2 : Below w.heap.size w ((v5.setCell ⟨ga, 0, none⟩ (.bool s4)).setCell ⟨ga, 1, none⟩ (.slice (some ⟨g4, 0, none⟩) m4 m4)) := bSet (bSet hbw _ _ _ HGa.out) _ _ _ HGa.out
          refine hK _ _ HJ2.out ?_
          clear hK HJ
          have HJ := HJ2
          clear HJ2 hbw Z4 Z5 H K
          clear ca0 ca1 fa0 fa1 hnea
          clear cx0 cx1 fx0 fx1 hnex
          clear cy0 cy1 fy0 fy1 hney
          clear cr0 cr1 fr0 fr1 hner
          clear cb0 cb1 fb0 fb1 hneb
          clear qax qxa qay qya qar qra qab qba Xa Xx Xy Xr Xb
          generalize ((v5.setCell ⟨ga, 0, none⟩ (.bool s4)).setCell ⟨ga, 1, none⟩ (.slice (some ⟨g4, 0, none⟩) m4 m4)) = Ws at *
          have hbw := hbw2
          have Z4 := Z42
          have Z5 := Z52
          have Xa := Xa2
          have Xx := Xx2
          have Xy := Xy2
          have Xr := Xr2
          have Xb := Xb2
          clear hbw2 Z42 Z52 Xa2 Xx2 Xy2 Xr2 Xb2
          obtain ⟨cb0, cb1, fb0, fb1⟩ := Xb.out
          have hneb := Xb.out.lt
          obtain ⟨cx0, cx1, fx0, fx1⟩ := Xx.out
          have hnex := Xx.out.lt
          obtain ⟨cy0, cy1, fy0, fy1⟩ := Xy.out
          have hney := Xy.out.lt
          obtain ⟨cr0, cr1, fr0, fr1⟩ := Xr.out
          have hner := Xr.out.lt
          obtain ⟨ca0, ca1, fa0, fa1⟩ := Xa.out
          have hnea := Xa.out.lt
          have qbx : gx ≠ gb := HDb.out.1
          have qxb : gb ≠ gx := fun h => qbx h.symm
          have qby : gy ≠ gb := HDb.out.2.1
          have qyb : gb ≠ gy := fun h => qby h.symm
          have qbr : gr ≠ gb := HDb.out.2.2
          have qrb : gb ≠ gr := fun h => qbr h.symm
          have qab : gb ≠ ga := HDa.out.2.2.2
          have qba : ga ≠ gb := fun h => qab h.symm
          refine wpJ_one (i := 7) (by kernel_rfl) rfl (by kernel_rfl) (fun KJ hK => ?_)
          go_simp
          have HJ2 : Hid ((fun W' : World => W'.cell? ⟨gx, 0, none⟩ = some (.bool s) ∧ W'.cell? ⟨gx, 1, none⟩ = some (.slice p m c) ∧ W'.cell? ⟨gy, 0, none⟩ = some (.bool t) ∧ W'.cell? ⟨gy, 1, none⟩ = some (.slice q n d)) ((Ws.setCell ⟨gb, 0, none⟩ (.bool s5)).setCell ⟨gb, 1, none⟩ (.slice (some ⟨g5, 0, none⟩) m5 m5))) := ⟨by go_simp, by go_simp, by go_simp, by go_simp⟩
          have Xb2 : Hid (Box ((Ws.setCell ⟨gb, 0, none⟩ (.bool s5)).setCell ⟨gb, 1, none⟩ (.slice (some ⟨g5, 0, none⟩) m5 m5)) gb (.bool s5) (.slice (some ⟨g5, 0, none⟩) m5 m5)) := ⟨by go_simp, by go_simp, by go_simp, by go_simp⟩
          have Xx2 : Hid (Box ((Ws.setCell ⟨gb, 0, none⟩ (.bool s5)).setCell ⟨gb, 1, none⟩ (.slice (some ⟨g5, 0, none⟩) m5 m5)) gx (.bool s) (.slice p m c)) := ⟨by go_simp, by go_simp, by go_simp, by go_simp⟩
          have Xy2 : Hid (Box ((Ws.setCell ⟨gb, 0, none⟩ (.bool s5)).setCell ⟨gb, 1, none⟩ (.slice (some ⟨g5, 0, none⟩) m5 m5)) gy (.bool t) (.slice q n d)) := ⟨by go_simp, by go_simp, by go_simp, by go_simp⟩
          have Xr2 : Hid (Box ((Ws.setCell ⟨gb, 0, none⟩ (.bool s5)).setCell ⟨gb, 1, none⟩ (.slice (some ⟨g5, 0, none⟩) m5 m5)) gr (.bool false) (.slice none 0 0)) := ⟨by go_simp, by go_simp, by go_simp, by go_simp⟩
          have Xa2 : Hid (Box ((Ws.setCell ⟨gb, 0, none⟩ (.bool s5)).setCell ⟨gb, 1, none⟩ (.slice (some ⟨g5, 0, none⟩) m5 m5)) ga (.bool s4) (.slice (some ⟨g4, 0, none⟩) m4 m4)) := ⟨by go_simp, by go_simp, by go_simp, by go_simp⟩
          have Z42 : Hid (ZR ((Ws.setCell ⟨gb, 0, none⟩ (.bool s5)).setCell ⟨gb, 1, none⟩ (.slice (some ⟨g5, 0, none⟩) m5 m5)) s4 (some ⟨g4, 0, none⟩) m4 (iv s (valB B64 xs))) := (Z4.out.setOff HO4b.out _ _).setOff HO4b.out _ _
          have Z52 : Hid (ZR ((Ws.setCell ⟨gb, 0, none⟩ (.bool s5)).setCell ⟨gb, 1, none⟩ (.slice (some ⟨g5, 0, none⟩) m5 m5)) s5 (some ⟨g5, 0, none⟩) m5 (iv t (valB B64 ys))) := (Z5.out.setOff HO5b.out _ _).setOff HO5b.out _ _
          have hbw2 : Below w.heap.size w ((Ws.setCell ⟨gb, 0, none⟩ (.bool s5)).setCell ⟨gb, 1, none⟩ (.slice (some ⟨g5, 0, none⟩) m5 m5)) := bSet (bSet hbw _ _ _ HGb.out) _ _ _ HGb.out
          refine hK _ _ HJ2.out ?_
          clear hK HJ
          have HJ := HJ2
          clear HJ2 hbw Z4 Z5 
          clear cb0 cb1 fb0 fb1 hneb
          clear cx0 cx1 fx0 fx1 hnex
          clear cy0 cy1 fy0 fy1 hney
          clear cr0 cr1 fr0 fr1 hner
          clear ca0 ca1 fa0 fa1 hnea
          clear qbx qxb qby qyb qbr qrb qba qab Xb Xx Xy Xr Xa
          generalize ((Ws.setCell ⟨gb, 0, none⟩ (.bool s5)).setCell ⟨gb, 1, none⟩ (.slice (some ⟨g5, 0, none⟩) m5 m5)) = Wt at *
          have hbw := hbw2
          have Z4 := Z42
          have Z5 := Z52
          have Xb := Xb2
          have Xx := Xx2
          have Xy := Xy2
          have Xr := Xr2
          have Xa := Xa2
          clear hbw2 Z42 Z52 Xb2 Xx2 Xy2 Xr2 Xa2
          refine wpJ_done (by kernel_rfl) ?_ _
          exact ⟨rfl, ga, gb, s4, g4, m4, s5, g5, m5, by kernel_rfl, Xa.out, Xb.out, Z4.out, Z5.out, HL4.out, HL5.out, Xr.out, hbw⟩
      · go_simp
        have HDa : Hid (gx ≠ Wb.heap.size ∧ gy ≠ Wb.heap.size ∧ gr ≠ Wb.heap.size ∧ gb ≠ Wb.heap.size) := ⟨Nat.ne_of_lt Xx.out.lt, Nat.ne_of_lt Xy.out.lt, Nat.ne_of_lt Xr.out.lt, Nat.ne_of_lt Xb.out.lt⟩
        have Xa0 : Hid (Box (Wb.alloc (.cells #[.bool false, .slice none 0 0] 70)) Wb.heap.size (.bool false) (.slice none 0 0)) := Box.new Wb _ _ _
        have hbn : Below Wb.heap.size Wb (Wb.alloc (.cells #[.bool false, .slice none 0 0] 70)) := below1 Wb _
        generalize Wb.alloc (.cells #[.bool false, .slice none 0 0] 70) = Wa at *
        have HGa : Hid (w.heap.size ≤ Wb.heap.size) := hbw.size
        replace Xx : Hid _ := Xx.out.below hbn
        replace Xy : Hid _ := Xy.out.below hbn
        replace Xr : Hid _ := Xr.out.below hbn
        replace Xb : Hid _ := Xb.out.below hbn
        replace H : Hid _ := H.out.below hbn
        replace K : Hid _ := K.out.below hbn
        replace hbw := Below.on hbw hbn
        clear hbn
        generalize Wb.heap.size = ga at *
        have Xa := Xa0
        clear Xa0
        refine hK _ _ ⟨Xx.out.c0, Xx.out.c1, Xy.out.c0, Xy.out.c1⟩ ?_
        clear hK
        refine wpJ_one (i := 1) (by kernel_rfl) rfl (by kernel_rfl) (fun KJ hK => ?_)
        go_simp
        refine (rfrom04g s H.out (by have := HM.out; omega)).mono ?_
        rintro e v4 ⟨v, rfl, hv, hb4⟩
        obtain ⟨s4, g4, m4, rfl, hg4, hz4, hl4⟩ := hv
        have HO4a : Hid (OffR g4 m4 ga) := .inr (Nat.ne_of_gt (Nat.lt_of_lt_of_le Xa.out.lt hg4))
        have HO4b : Hid (OffR g4 m4 gb) := .inr (Nat.ne_of_gt (Nat.lt_of_lt_of_le Xb.out.lt hg4))
        replace Xx : Hid _ := Xx.out.below hb4
        replace Xy : Hid _ := Xy.out.below hb4
        replace Xr : Hid _ := Xr.out.below hb4
        replace Xb : Hid _ := Xb.out.below hb4
        replace Xa : Hid _ := Xa.out.below hb4
        replace H : Hid _ := H.out.below hb4
        replace K : Hid _ := K.out.below hb4
        replace hbw := Below.on hbw hb4
        clear hb4
        have Z4 : Hid (ZR v4 s4 (some ⟨g4, 0, none⟩) m4 (iv s (valB B64 xs))) := hz4
        have HL4 : Hid (m4 ≤ 16384) := by have := HM.out; show m4 ≤ _; omega
        clear hz4 hl4 hg4
        refine hK _ _ ⟨Xx.out.c0, Xx.out.c1, Xy.out.c0, Xy.out.c1⟩ ?_
        clear hK
        refine wpJ_one (i := 3) (by kernel_rfl) rfl (by kernel_rfl) (fun KJ hK => ?_)
        go_simp
        refine (rfrom04g t K.out (by have := HM.out; omega)).mono ?_
        rintro e v5 ⟨v, rfl, hv, hb5⟩
        obtain ⟨s5, g5, m5, rfl, hg5, hz5, hl5⟩ := hv
        have HO5a : Hid (OffR g5 m5 ga) := .inr (Nat.ne_of_gt (Nat.lt_of_lt_of_le Xa.out.lt hg5))
        have HO5b : Hid (OffR g5 m5 gb) := .inr (Nat.ne_of_gt (Nat.lt_of_lt_of_le Xb.out.lt hg5))
        replace Xx : Hid _ := Xx.out.below hb5
        replace Xy : Hid _ := Xy.out.below hb5
        replace Xr : Hid _ := Xr.out.below hb5
        replace Xb : Hid _ := Xb.out.below hb5
        replace Xa : Hid _ := Xa.out.below hb5
        replace H : Hid _ := H.out.below hb5
        replace K : Hid _ := K.out.below hb5
        replace Z4 : Hid _ := Z4.out.below hb5
        replace hbw := Below.on hbw hb5
        clear hb5
        have Z5 : Hid (ZR v5 s5 (some ⟨g5, 0, none⟩) m5 (iv t (valB B64 ys))) := hz5
        have HL5 : Hid (m5 ≤ 16384) := by have := HM.out; show m5 ≤ _; omega
        clear hz5 hl5 hg5
        refine hK _ _ ⟨Xx.out.c0, Xx.out.c1, Xy.out.c0, Xy.out.c1⟩ ?_
        clear hK
        obtain ⟨ca0, ca1, fa0, fa1⟩ := Xa.out
        have hnea := Xa.out.lt
        obtain ⟨cx0, cx1, fx0, fx1⟩ := Xx.out
        have hnex := Xx.out.lt
        obtain ⟨cy0, cy1, fy0, fy1⟩ := Xy.out
        have hney := Xy.out.lt
        obtain ⟨cr0, cr1, fr0, fr1⟩ := Xr.out
        have hner := Xr.out.lt
        obtain ⟨cb0, cb1, fb0, fb1⟩ := Xb.out
        have hneb := Xb.out.lt
        have qax : gx ≠ ga := HDa.out.1
        have qxa : ga ≠ gx := fun h => qax h.symm
        have qay : gy ≠ ga := HDa.out.2.1
        have qya : ga ≠ gy := fun h => qay h.symm
        have qar : gr ≠ ga := HDa.out.2.2.1
        have qra : ga ≠ gr := fun h => qar h.symm
        have qab : gb ≠ ga := HDa.out.2.2.2
        have qba : ga ≠ gb := fun h => qab h.symm
        refine wpJ_one (i := 6) (by kernel_rfl) rfl (by kernel_rfl) (fun KJ hK => ?_)
        go_simp
        have HJ2 : Hid ((fun W' : World => W'.cell? ⟨gx, 0, none⟩ = some (.bool s) ∧ W'.cell? ⟨gx, 1, none⟩ = some (.slice p m c) ∧ W'.cell? ⟨gy, 0, none⟩ = some (.bool t) ∧ W'.cell? ⟨gy, 1, none⟩ = some (.slice q n d)) ((v5.setCell ⟨ga, 0, none⟩ (.bool s4)).setCell ⟨ga, 1, none⟩ (.slice (some ⟨g4, 0, none⟩) m4 m4))) := ⟨by go_simp, by go_simp, by go_simp, by go_simp⟩
        have Xa2 : Hid (Box ((v5.setCell ⟨ga, 0, none⟩ (.bool s4)).setCell ⟨ga, 1, none⟩ (.slice (some ⟨g4, 0, none⟩) m4 m4)) ga (.bool s4) (.slice (some ⟨g4, 0, none⟩) m4 m4)) := ⟨by go_simp, by go_simp, by go_simp, by go_simp⟩
        have Xx2 : Hid (Box ((v5.setCell ⟨ga, 0, none⟩ (.bool s4)).setCell ⟨ga, 1, none⟩ (.slice (some ⟨g4, 0, none⟩) m4 m4)) gx (.bool s) (.slice p m c)) := ⟨by go_simp, by go_simp, by go_simp, by go_simp⟩
        have Xy2 : Hid (Box ((v5.setCell ⟨ga, 0, none⟩ (.bool s4)).setCell ⟨ga, 1, none⟩ (.slice (some ⟨g4, 0, none⟩) m4 m4)) gy (.bool t) (.slice q n d)) := ⟨by go_simp, by go_simp, by go_simp, by go_simp⟩
        have Xr2 : Hid (Box ((v5.setCell ⟨ga, 0, none⟩ (.bool s4)).setCell ⟨ga, 1, none⟩ (.slice (some ⟨g4, 0, none⟩) m4 m4)) gr (.bool false) (.slice none 0 0)) := ⟨by go_simp, by go_simp, by go_simp, by go_simp⟩
        have Xb2 : Hid (Box ((v5.setCell ⟨ga, 0, none⟩ (.bool s4)).setCell ⟨ga, 1, none⟩ (.slice (some ⟨g4, 0, none⟩) m4 m4)) gb (.bool false) (.slice none 0 0)) := ⟨by go_simp, by go_simp, by go_simp, by go_simp⟩
        have Z42 : Hid (ZR ((v5.setCell ⟨ga, 0, none⟩ (.bool s4)).setCell ⟨ga, 1, none⟩ (.slice (some ⟨g4, 0, none⟩) m4 m4)) s4 (some ⟨g4, 0, none⟩) m4 (iv s (valB B64 xs))) := (Z4.out.setOff HO4a.out _ _).setOff HO4a.out _ _
        have Z52 : Hid (ZR ((v5.setCell ⟨ga, 0, none⟩ (.bool s4)).setCell ⟨ga, 1, none⟩ (.slice (some ⟨g4, 0, none⟩) m4 m4)) s5 (some ⟨g5, 0, none⟩) m5 (iv t (valB B64 ys))) := (Z5.out.setOff HO5a.out _ _).setOff HO5a.out _ _
        have hbw2 : Below w.heap.size w ((v5.setCell ⟨ga, 0, none⟩ (.bool s4)).setCell ⟨ga, 1, none⟩ (.slice (some ⟨g4, 0, none⟩) m4 m4)) := bSet (bSet hbw _ _ _ HGa.out) _ _ _ HGa.out
        refine hK _ _ HJ2.out ?_
        clear hK HJ
        have HJ := HJ2
        clear HJ2 hbw Z4 Z5 H K
        clear ca0 ca1 fa0 fa1 hnea
        clear cx0 cx1 fx0 fx1 hnex
        clear cy0 cy1 fy0 fy1 hney
        clear cr0 cr1 fr0 fr1 hner
        clear cb0 cb1 fb0 fb1 hneb
        clear qax qxa qay qya qar qra qab qba Xa Xx Xy Xr Xb
        generalize ((v5.setCell ⟨ga, 0, none⟩ (.bool s4)).setCell ⟨ga, 1, none⟩ (.slice (some ⟨g4, 0, none⟩) m4 m4)) = Ws at *
        have hbw := hbw2
        have Z4 := Z42
        have Z5 := Z52
        have Xa := Xa2
        have Xx := Xx2
        have Xy := Xy2
        have Xr := Xr2
        have Xb := Xb2
        clear hbw2 Z42 Z52 Xa2 Xx2 Xy2 Xr2 Xb2
        obtain ⟨cb0, cb1, fb0, fb1⟩ := Xb.out
        have hneb := Xb.out.lt
        obtain ⟨cx0, cx1, fx0, fx1⟩ := Xx.out
        have hnex := Xx.out.lt
        obtain ⟨cy0, cy1, fy0, fy1⟩ := Xy.out
        have hney := Xy.out.lt
        obtain ⟨cr0, cr1, fr0, fr1⟩ := Xr.out
        have hner := Xr.out.lt
        obtain ⟨ca0, ca1, fa0, fa1⟩ := Xa.out
        have hnea := Xa.out.lt
        have qbx : gx ≠ gb := HDb.out.1
        have qxb : gb ≠ gx := fun h => qbx h.symm
        have qby : gy ≠ gb := HDb.out.2.1
        have qyb : gb ≠ gy := fun h => qby h.symm
        have qbr : gr ≠ gb := HDb.out.2.2
        have qrb : gb ≠ gr := fun h => qbr h.symm
        have qab : gb ≠ ga := HDa.out.2.2.2
        have qba : ga ≠ gb := fun h => qab h.symm
        refine wpJ_one (i := 7) (by kernel_rfl) rfl (by kernel_rfl) (fun KJ hK => ?_)
        go_simp
        have HJ2 : Hid ((fun W' : World => W'.cell? ⟨gx, 0, none⟩ = some (.bool s) ∧ W'.cell? ⟨gx, 1, none⟩ = some (.slice p m c) ∧ W'.cell? ⟨gy, 0, none⟩ = some (.bool t) ∧ W'.cell? ⟨gy, 1, none⟩ = some (.slice q n d)) ((Ws.setCell ⟨gb, 0, none⟩ (.bool s5)).setCell ⟨gb, 1, none⟩ (.slice (some ⟨g5, 0, none⟩) m5 m5))) := ⟨by go_simp, by go_simp, by go_simp, by go_simp⟩
        have Xb2 : Hid (Box ((Ws.setCell ⟨gb, 0, none⟩ (.bool s5)).setCell ⟨gb, 1, none⟩ (.slice (some ⟨g5, 0, none⟩) m5 m5)) gb (.bool s5) (.slice (some ⟨g5, 0, none⟩) m5 m5)) := ⟨by go_simp, by go_simp, by go_simp, by go_simp⟩
        have Xx2 : Hid (Box ((Ws.setCell ⟨gb, 0, none⟩ (.bool s5)).setCell ⟨gb, 1, none⟩ (.slice (some ⟨g5, 0, none⟩) m5 m5)) gx (.bool s) (.slice p m c)) := ⟨by go_simp, by go_simp, by go_simp, by go_simp⟩
        have Xy2 : Hid (Box ((Ws.setCell ⟨gb, 0, none⟩ (.bool s5)).setCell ⟨gb, 1, none⟩ (.slice (some ⟨g5, 0, none⟩) m5 m5)) gy (.bool t) (.slice q n d)) := ⟨by go_simp, by go_simp, by go_simp, by go_simp⟩
        have Xr2 : Hid (Box ((Ws.setCell ⟨gb, 0, none⟩ (.bool s5)).setCell ⟨gb, 1, none⟩ (.slice (some ⟨g5, 0, none⟩) m5 m5)) gr (.bool false) (.slice none 0 0)) := ⟨by go_simp, by go_simp, by go_simp, by go_simp⟩
        have Xa2 : Hid (Box ((Ws.setCell ⟨gb, 0, none⟩ (.bool s5)).setCell ⟨gb, 1, none⟩ (.slice (some ⟨g5, 0, none⟩) m5 m5)) ga (.bool s4) (.slice (some ⟨g4, 0, none⟩) m4 m4)) := ⟨by go_simp, by go_simp, by go_simp, by go_simp⟩
        have Z42 : Hid (ZR ((Ws.setCell ⟨gb, 0, none⟩ (.bool s5)).setCell ⟨gb, 1, none⟩ (.slice (some ⟨g5, 0, none⟩) m5 m5)) s4 (some ⟨g4, 0, none⟩) m4 (iv s (valB B64 xs))) := (Z4.out.setOff HO4b.out _ _).setOff HO4b.out _ _
        have Z52 : Hid (ZR ((Ws.setCell ⟨gb, 0, none⟩ (.bool s5)).setCell ⟨gb, 1, none⟩ (.slice (some ⟨g5, 0, none⟩) m5 m5)) s5 (some ⟨g5, 0, none⟩) m5 (iv t (valB B64 ys))) := (Z5.out.setOff HO5b.out _ _).setOff HO5b.out _ _
        have hbw2 : Below w.heap.size w ((Ws.setCell ⟨gb, 0, none⟩ (.bool s5)).setCell ⟨gb, 1, none⟩ (.slice (some ⟨g5, 0, none⟩) m5 m5)) := bSet (bSet hbw _ _ _ HGb.out) _ _ _ HGb.out
        refine hK _ _ HJ2.out ?_
        clear hK HJ
        have HJ := HJ2
        clear HJ2 hbw Z4 Z5 
        clear cb0 cb1 fb0 fb1 hneb
        clear cx0 cx1 fx0 fx1 hnex
        clear cy0 cy1 fy0 fy1 hney
        clear cr0 cr1 fr0 fr1 hner
        clear ca0 ca1 fa0 fa1 hnea
        clear qbx qxb qby qyb qbr qrb qba qab Xb Xx Xy Xr Xa
        generalize ((Ws.setCell ⟨gb, 0, none⟩ (.bool s5)).setCell ⟨gb, 1, none⟩ (.slice (some ⟨g5, 0, none⟩) m5 m5)) = Wt at *
        have hbw := hbw2
        have Z4 := Z42
        have Z5 := Z52
        have Xb := Xb2
        have Xx := Xx2
        have Xy := Xy2
        have Xr := Xr2
        have Xa := Xa2
        clear hbw2 Z42 Z52 Xb2 Xx2 Xy2 Xr2 Xa2
        refine wpJ_done (by kernel_rfl) ?_ _
        exact ⟨rfl, ga, gb, s4, g4, m4, s5, g5, m5, by kernel_rfl, Xa.out, Xb.out, Z4.out, Z5.out, HL4.out, HL5.out, Xr.out, hbw⟩
theorem docdiv4_0 {p q : Option Addr} {m c n d : Nat} {xs ys : List Nat} {w : World} (s t : Bool) (h : At w p m c xs) (k : At w q n d ys) :
    Calls Tryz.prog 58 #[.int .i64 3, ZV s p m c, ZV t q n d] w fun e w' => ∃ s' p' m' c' us er, e = .returned (.tuple #[ZV s' p' m' c', .int .i64 er]) ∧ NewAt w.heap.size w' p' m' c' us ∧ DivZ rFd s xs t ys s' us er ∧ Below w.heap.size w w' := by
  cases hf : formZ s xs
  · refine (doctwo4_1 3 rFd s t h k hf).mono fun e w' ⟨s', p', m', c', us, er, he, hA, hD, hb⟩ => ⟨s', p', m', c', us, er, he, hA, ?_, hb⟩
    rcases hD with h1 | h1
    · exact .inl h1
    · have := h1.1; rw [hf] at this; cases this
  · cases kf : formZ t ys
    · refine (doctwo4_2 3 rFd s t h k hf kf).mono fun e w' ⟨s', p', m', c', us, er, he, hA, hD, hb⟩ => ⟨s', p', m', c', us, er, he, hA, ?_, hb⟩
      rcases hD with h1 | h1
      · exact .inl h1
      · have := h1.1; rw [hf, kf] at this; cases this
    · exact docdiv_a 3 rFd s t h k hf kf (by simp)
theorem docdiv4_1 {p q : Option Addr} {m c n d : Nat} {xs ys : List Nat} {w : World} (s t : Bool) (h : At w p m c xs) (k : At w q n d ys) :
    Calls Tryz.prog 58 #[.int .i64 4, ZV s p m c, ZV t q n d] w fun e w' => ∃ s' p' m' c' us er, e = .returned (.tuple #[ZV s' p' m' c', .int .i64 er]) ∧ NewAt w.heap.size w' p' m' c' us ∧ DivZ rCd s xs t ys s' us er ∧ Below w.heap.size w w' := by
  cases hf : formZ s xs
  · refine (doctwo4_1 4 rCd s t h k hf).mono fun e w' ⟨s', p', m', c', us, er, he, hA, hD, hb⟩ => ⟨s', p', m', c', us, er, he, hA, ?_, hb⟩
    rcases hD with h1 | h1
    · exact .inl h1
    · have := h1.1; rw [hf] at this; cases this
  · cases kf : formZ t ys
    · refine (doctwo4_2 4 rCd s t h k hf kf).mono fun e w' ⟨s', p', m', c', us, er, he, hA, hD, hb⟩ => ⟨s', p', m', c', us, er, he, hA, ?_, hb⟩
      rcases hD with h1 | h1
      · exact .inl h1
      · have := h1.1; rw [hf, kf] at this; cases this
    · exact docdiv_a 4 rCd s t h k hf kf (by simp)
theorem docdiv4_2 {p q : Option Addr} {m c n d : Nat} {xs ys : List Nat} {w : World} (s t : Bool) (h : At w p m c xs) (k : At w q n d ys) :
    Calls Tryz.prog 58 #[.int .i64 5, ZV s p m c, ZV t q n d] w fun e w' => ∃ s' p' m' c' us er, e = .returned (.tuple #[ZV s' p' m' c', .int .i64 er]) ∧ NewAt w.heap.size w' p' m' c' us ∧ DivZ rNd s xs t ys s' us er ∧ Below w.heap.size w w' := by
  cases hf : formZ s xs
  · refine (doctwo4_1 5 rNd s t h k hf).mono fun e w' ⟨s', p', m', c', us, er, he, hA, hD, hb⟩ => ⟨s', p', m', c', us, er, he, hA, ?_, hb⟩
    rcases hD with h1 | h1
    · exact .inl h1
    · have := h1.1; rw [hf] at this; cases this
  · cases kf : formZ t ys
    · refine (doctwo4_2 5 rNd s t h k hf kf).mono fun e w' ⟨s', p', m', c', us, er, he, hA, hD, hb⟩ => ⟨s', p', m', c', us, er, he, hA, ?_, hb⟩
      rcases hD with h1 | h1
      · exact .inl h1
      · have := h1.1; rw [hf, kf] at this; cases this
    · exact docdiv_a 5 rNd s t h k hf kf (by simp)
theorem docdiv4_3 {p q : Option Addr} {m c n d : Nat} {xs ys : List Nat} {w : World} (s t : Bool) (h : At w p m c xs) (k : At w q n d ys) :
    Calls Tryz.prog 58 #[.int .i64 6, ZV s p m c, ZV t q n d] w fun e w' => ∃ s' p' m' c' us er, e = .returned (.tuple #[ZV s' p' m' c', .int .i64 er]) ∧ NewAt w.heap.size w' p' m' c' us ∧ DivZ rMo s xs t ys s' us er ∧ Below w.heap.size w w' := by
  cases hf : formZ s xs
  · refine (doctwo4_1 6 rMo s t h k hf).mono fun e w' ⟨s', p', m', c', us, er, he, hA, hD, hb⟩ => ⟨s', p', m', c', us, er, he, hA, ?_, hb⟩
    rcases hD with h1 | h1
    · exact .inl h1
    · have := h1.1; rw [hf] at this; cases this
  · cases kf : formZ t ys
    · refine (doctwo4_2 6 rMo s t h k hf kf).mono fun e w' ⟨s', p', m', c', us, er, he, hA, hD, hb⟩ => ⟨s', p', m', c', us, er, he, hA, ?_, hb⟩
      rcases hD with h1 | h1
      · exact .inl h1
      · have := h1.1; rw [hf, kf] at this; cases this
    · exact docdiv_a 6 rMo s t h k hf kf (by simp)
end Go.Proofs.YtgodajcnhipleaaGreatDoor

