import Derived.Test.YtoajipejnmjdoaaGreatDoorJ15
import Derived.Test.YtoajipejnmjdoaaGreatDoorJ13
import Derived.Test.YtoajipejnmjdoaaGreatDoorJ9
import Derived.Test.YtoajipejnmjdoaaGreatDoorJ11
namespace Go.Proofs.YtoajipejnmjdoaaGreatDoor
open Go.RowKit Go.Shelf
set_option maxRecDepth 20000
set_option maxHeartbeats 0
theorem zr_len_lim {w : World} {s : Bool} {p : Option Addr} {m : Nat} {z : Int} (h : ZR w s p m z) (hL : z.natAbs < LIM) : m ≤ 16384 := by
  obtain ⟨zs, hA, hN⟩ := h.ex
  have := (lim32 hN).2 hL
  rw [hA.len] at this
  exact this
theorem lim_bits1 {z : Int} (h : z.natAbs < LIM) : bitsN z.natAbs ≤ 524288 := by
  obtain ⟨E, hE⟩ : ∃ E, E = 524288 := ⟨_, rfl⟩
  rw [LIM_twoq hE] at h
  rw [← hE]
  by_cases h0 : z.natAbs = 0
  · rw [h0]; exact Nat.zero_le _
  · have h1 := bitsN_le z.natAbs h0
    have h2 := bitsN_pos h0
    have h3 : bitsN z.natAbs - 1 < E := (Nat.pow_lt_pow_iff_right (by decide : 1 < 2)).1 (Nat.lt_of_le_of_lt h1 h)
    omega
theorem lim_bits2 {z : Int} (h : LIM ≤ z.natAbs) : 524288 < bitsN z.natAbs := by
  obtain ⟨E, hE⟩ : ∃ E, E = 524288 := ⟨_, rfl⟩
  rw [LIM_twoq hE] at h
  rw [← hE]
  exact (Nat.pow_lt_pow_iff_right (by decide : 1 < 2)).1 (Nat.lt_of_le_of_lt h (bitsN_lt _))
theorem top_ge {w : World} {s : Bool} {p : Option Addr} {m c : Nat} {e z : Int} (h : DN w s p m c e z) (hm : 0 < m) : e ≤ topI z e := by
  have h1 := odd_of h hm
  have h2 := bitsN_pos (a := z.natAbs) (by omega)
  unfold topI
  omega
theorem docadd_n {p q : Option Addr} {m c n d : Nat} {xs ys : List Nat} {w : World} {e f : Int} {s t : Bool} (h : At w p m c xs) (k : At w q n d ys) (h1 : formD s xs e = true) (h2 : formD t ys f = true) (h3 : 0 < m) (h4 : 0 < n) (h5 : m ≤ 8192) (h6 : n ≤ 8192) (h7 : (¬ 524288 ≤ topI (iv s (valB B64 xs)) e - min e f)) (h8 : (¬ 524288 ≤ topI (iv t (valB B64 ys)) f - min e f)) (h9 : ((shX (iv s (valB B64 xs)) e f + shX (iv t (valB B64 ys)) f e).natAbs < LIM)) :
    Calls Tryz.prog 80 #[DV s p m c e, DV t q n d f] w fun en w' => ∃ zo eo er, SaidD w.heap.size w' en zo eo er ∧ MkR (shX (iv s (valB B64 xs)) e f + shX (iv t (valB B64 ys)) f e) (min e f) zo eo er ∧ Below w.heap.size w w' := by
  have H : Hid (At w p m c xs) := h
  have K : Hid (At w q n d ys) := k
  have HC : Hid (formD s xs e = true ∧ formD t ys f = true ∧ 0 < m ∧ 0 < n ∧ m ≤ 8192 ∧ n ≤ 8192 ∧ (¬ 524288 ≤ topI (iv s (valB B64 xs)) e - min e f) ∧ (¬ 524288 ≤ topI (iv t (valB B64 ys)) f - min e f) ∧ ((shX (iv s (valB B64 xs)) e f + shX (iv t (valB B64 ys)) f e).natAbs < LIM)) := ⟨h1, h2, h3, h4, h5, h6, h7, h8, h9⟩
  clear h k h1 h2 h3 h4 h5 h6 h7 h8 h9
  obtain ⟨ta, hta⟩ : ∃ k, k = topI (iv s (valB B64 xs)) e := ⟨_, rfl⟩
  obtain ⟨tb, htb⟩ : ∃ k, k = topI (iv t (valB B64 ys)) f := ⟨_, rfl⟩
  obtain ⟨g, hg⟩ : ∃ k, k = min e f := ⟨_, rfl⟩
  have hgm : min e f = g := hg.symm
  have hee := top_bounds (formD_dn H.out HC.out.1)
  have hff := top_bounds (formD_dn K.out HC.out.2.1)
  rw [← hta] at hee
  rw [← htb] at hff
  have c1 : ¬ 524288 ≤ ta - g := by rw [hta, hg]; exact HC.out.2.2.2.2.2.2.1
  have c2 : ¬ 524288 ≤ tb - g := by rw [htb, hg]; exact HC.out.2.2.2.2.2.2.2.1
  have w1 : wrap64 (ta - g) = ta - g := by simp only [wrap64]; omega
  have w2 : wrap64 (tb - g) = tb - g := by simp only [wrap64]; omega
  obtain ⟨ka, hka⟩ : ∃ k : Nat, k = (e - min e f).toNat := ⟨_, rfl⟩
  obtain ⟨kb, hkb⟩ : ∃ k : Nat, k = (f - min f e).toNat := ⟨_, rfl⟩
  have w3 : wrap64 (e - g) = (ka : Int) := by simp only [wrap64]; omega
  have w4 : wrap64 (f - g) = (kb : Int) := by simp only [wrap64]; omega
  have w5 : IntKind.i64.wrap (e - g) = (ka : Int) := by simp [IntKind.wrap, IntKind.signed, IntKind.bits]; omega
  have w6 : IntKind.i64.wrap (f - g) = (kb : Int) := by simp [IntKind.wrap, IntKind.signed, IntKind.bits]; omega
  have HTA : Hid (ta = topI (iv s (valB B64 xs)) e) := hta
  have HTB : Hid (tb = topI (iv t (valB B64 ys)) f) := htb
  have HKA : Hid (ka = (e - min e f).toNat ∧ kb = (f - min f e).toNat ∧ ka ≤ 524288 ∧ kb ≤ 524288) := ⟨hka, hkb, by have := top_ge (formD_dn H.out HC.out.1) HC.out.2.2.1; rw [← hta] at this; omega, by have := top_ge (formD_dn K.out HC.out.2.1) HC.out.2.2.2.1; rw [← htb] at this; omega⟩
  have HG : Hid (g = min e f) := hg
  clear hta htb hg hee hff hka hkb
  have hsh : iv s (valB B64 xs) * 2 ^ ka + iv t (valB B64 ys) * 2 ^ kb = shX (iv s (valB B64 xs)) e f + shX (iv t (valB B64 ys)) f e := by unfold shX; rw [← HKA.out.1, ← HKA.out.2.1]
  obtain ⟨bz, hbz⟩ : ∃ b, b = bitsN (iv s (valB B64 xs) * 2 ^ ka + iv t (valB B64 ys) * 2 ^ kb).natAbs := ⟨_, rfl⟩
  have hb9 : bz ≤ 524288 := by rw [hbz, hsh]; exact lim_bits1 HC.out.2.2.2.2.2.2.2.2
  have d9 : decide (524288 < (bz : Int)) = false := decide_eq_false (by omega)
  have HBZ : Hid (bz = bitsN (iv s (valB B64 xs) * 2 ^ ka + iv t (valB B64 ys) * 2 ^ kb).natAbs ∧ iv s (valB B64 xs) * 2 ^ ka + iv t (valB B64 ys) * 2 ^ kb = shX (iv s (valB B64 xs)) e f + shX (iv t (valB B64 ys)) f e) := ⟨hbz, hsh⟩
  clear hbz hsh hb9
  go_enter Tryz.func80, Tryz.ntmps80
  go_wp2_with fail
  obtain ⟨W0, hW0⟩ : ∃ W0, W0 = (((w.alloc (.cells #[.bool s, .slice p m c, .int .i64 e] 30)).alloc (.cells #[.bool t, .slice q n d, .int .i64 f] 30)).alloc (.cells #[.bool false, .slice none 0 0, .int .i64 0] 30)) := ⟨_, rfl⟩
  have Xa : Hid (B3q W0 (w.heap.size) (.bool s) (.slice p m c) (.int .i64 e)) := by rw [hW0]; exact ⟨by go_simp, by go_simp, by go_simp, by go_simp, by go_simp, by go_simp⟩
  have Xb : Hid (B3q W0 (w.heap.size + 1) (.bool t) (.slice q n d) (.int .i64 f)) := by rw [hW0]; exact ⟨by go_simp, by go_simp, by go_simp, by go_simp, by go_simp, by go_simp⟩
  have Xr : Hid (B3q W0 (w.heap.size + 1 + 1) (.bool false) (.slice none 0 0) (.int .i64 0)) := by rw [hW0]; exact ⟨by go_simp, by go_simp, by go_simp, by go_simp, by go_simp, by go_simp⟩
  have hb0 : Below w.heap.size w W0 := by rw [hW0]; exact below3 w _ _ _
  rw [← hW0]
  clear hW0
  have hbw : Below w.heap.size w w := Below.refl _ _
  obtain ⟨gr, hgr⟩ : ∃ g, g = w.heap.size + 1 + 1 := ⟨_, rfl⟩
  have HGr : Hid (w.heap.size ≤ gr) := by rw [hgr]; show _ ≤ _; omega
  rw [← hgr] at Xr
  try rw [← hgr]
  obtain ⟨gb, hgb⟩ : ∃ g, g = w.heap.size + 1 := ⟨_, rfl⟩
  have HGb : Hid (w.heap.size ≤ gb) := by rw [hgb]; show _ ≤ _; omega
  rw [← hgb] at Xb
  try rw [← hgb]
  obtain ⟨ga, hga⟩ : ∃ g, g = w.heap.size := ⟨_, rfl⟩
  have HGa : Hid (w.heap.size ≤ ga) := by rw [hga]; show _ ≤ _; omega
  rw [← hga] at Xa
  try rw [← hga]
  have HGD : Hid (ga ≠ gb ∧ ga ≠ gr ∧ gb ≠ ga ∧ gb ≠ gr ∧ gr ≠ ga ∧ gr ≠ gb) := by rw [hga, hgb, hgr]; exact ⟨by omega, by omega, by omega, by omega, by omega, by omega⟩
  clear hga hgb hgr
  replace H : Hid _ := H.out.below hb0
  replace K : Hid _ := K.out.below hb0
  replace hbw := Below.on hbw hb0
  clear hb0
  refine (docformd s H.out).mono ?_
  rintro e v1 ⟨rfl, hb1⟩
  rw [HC.out.1]
  replace Xa : Hid _ := Xa.out.below hb1
  replace Xb : Hid _ := Xb.out.below hb1
  replace Xr : Hid _ := Xr.out.below hb1
  replace H : Hid _ := H.out.below hb1
  replace K : Hid _ := K.out.below hb1
  replace hbw := Below.on hbw hb1
  clear hb1
  obtain ⟨cb0, cb1, cb2, fb0, fb1, fb2⟩ := Xb.out
  have hneb : gb < v1.heap.size := World.block_lt_of_cell? v1 _ cb0
  go_wp2_with fail
  clear cb0 cb1 cb2 fb0 fb1 fb2 hneb
  refine (docformd t K.out).mono ?_
  rintro e v2 ⟨rfl, hb2⟩
  rw [HC.out.2.1]
  replace Xa : Hid _ := Xa.out.below hb2
  replace Xb : Hid _ := Xb.out.below hb2
  replace Xr : Hid _ := Xr.out.below hb2
  replace H : Hid _ := H.out.below hb2
  replace K : Hid _ := K.out.below hb2
  replace hbw := Below.on hbw hb2
  clear hb2
  obtain ⟨ca0, ca1, ca2, fa0, fa1, fa2⟩ := Xa.out
  have hnea : ga < v2.heap.size := World.block_lt_of_cell? v2 _ ca0
  go_wp2_with fail
  clear ca0 ca1 ca2 fa0 fa1 fa2 hnea
  refine (nought5 HC.out.2.2.1).mono ?_
  rintro e v3 ⟨rfl, hb3⟩
  replace Xa : Hid _ := Xa.out.below hb3
  replace Xb : Hid _ := Xb.out.below hb3
  replace Xr : Hid _ := Xr.out.below hb3
  replace H : Hid _ := H.out.below hb3
  replace K : Hid _ := K.out.below hb3
  replace hbw := Below.on hbw hb3
  clear hb3
  obtain ⟨cb0, cb1, cb2, fb0, fb1, fb2⟩ := Xb.out
  have hneb : gb < v3.heap.size := World.block_lt_of_cell? v3 _ cb0
  go_wp2_with fail
  clear cb0 cb1 cb2 fb0 fb1 fb2 hneb
  refine (nought5 HC.out.2.2.2.1).mono ?_
  rintro e v4 ⟨rfl, hb4⟩
  replace Xa : Hid _ := Xa.out.below hb4
  replace Xb : Hid _ := Xb.out.below hb4
  replace Xr : Hid _ := Xr.out.below hb4
  replace H : Hid _ := H.out.below hb4
  replace K : Hid _ := K.out.below hb4
  replace hbw := Below.on hbw hb4
  clear hb4
  obtain ⟨ca0, ca1, ca2, fa0, fa1, fa2⟩ := Xa.out
  have hnea : ga < v4.heap.size := World.block_lt_of_cell? v4 _ ca0
  obtain ⟨cb0, cb1, cb2, fb0, fb1, fb2⟩ := Xb.out
  have hneb : gb < v4.heap.size := World.block_lt_of_cell? v4 _ cb0
  go_wp2_with fail
  clear ca0 ca1 ca2 fa0 fa1 fa2 hnea
  clear cb0 cb1 cb2 fb0 fb1 fb2 hneb
  refine (topR (formD_dn H.out HC.out.1)).mono ?_
  rintro e v5 ⟨rfl, hb5⟩
  rw [← HTA.out]
  replace Xa : Hid _ := Xa.out.below hb5
  replace Xb : Hid _ := Xb.out.below hb5
  replace Xr : Hid _ := Xr.out.below hb5
  replace H : Hid _ := H.out.below hb5
  replace K : Hid _ := K.out.below hb5
  replace hbw := Below.on hbw hb5
  clear hb5
  obtain ⟨cb0, cb1, cb2, fb0, fb1, fb2⟩ := Xb.out
  have hneb : gb < v5.heap.size := World.block_lt_of_cell? v5 _ cb0
  go_wp2_with fail
  clear cb0 cb1 cb2 fb0 fb1 fb2 hneb
  refine (topR (formD_dn K.out HC.out.2.1)).mono ?_
  rintro e v6 ⟨rfl, hb6⟩
  rw [← HTB.out]
  replace Xa : Hid _ := Xa.out.below hb6
  replace Xb : Hid _ := Xb.out.below hb6
  replace Xr : Hid _ := Xr.out.below hb6
  replace H : Hid _ := H.out.below hb6
  replace K : Hid _ := K.out.below hb6
  replace hbw := Below.on hbw hb6
  clear hb6
  obtain ⟨ca0, ca1, ca2, fa0, fa1, fa2⟩ := Xa.out
  have hnea : ga < v6.heap.size := World.block_lt_of_cell? v6 _ ca0
  obtain ⟨cb0, cb1, cb2, fb0, fb1, fb2⟩ := Xb.out
  have hneb : gb < v6.heap.size := World.block_lt_of_cell? v6 _ cb0
  go_wp2_with fail
  clear ca0 ca1 ca2 fa0 fa1 fa2 hnea
  clear cb0 cb1 cb2 fb0 fb1 fb2 hneb
  have HU : Hid (At v6 p m c xs) := H.out
  have KU : Hid (At v6 q n d ys) := K.out
  have hbu : Below v6.heap.size v6 v6 := Below.refl _ _
  clear H
  clear K
  obtain ⟨Wr, hWr⟩ : ∃ W1, W1 = v6.drew := ⟨_, rfl⟩
  have hbd : Below v6.heap.size v6 Wr := by rw [hWr]; exact bDrew1 (Below.refl _ _)
  have hbu' := Below.on hbu hbd
  clear hbu
  have hbu := hbu'
  clear hbu'
  replace Xa : Hid _ := Xa.out.below hbd
  replace Xb : Hid _ := Xb.out.below hbd
  replace Xr : Hid _ := Xr.out.below hbd
  replace hbw := Below.on hbw hbd
  clear hbd
  have HJ : Hid ((fun W' : World => W'.cell? ⟨ga, 0, none⟩ = some (.bool s) ∧ W'.cell? ⟨ga, 1, none⟩ = some (.slice p m c) ∧ W'.cell? ⟨ga, 2, none⟩ = some (.int .i64 e) ∧ W'.cell? ⟨gb, 0, none⟩ = some (.bool t) ∧ W'.cell? ⟨gb, 1, none⟩ = some (.slice q n d) ∧ W'.cell? ⟨gb, 2, none⟩ = some (.int .i64 f)) Wr) := ⟨Xa.out.c0, Xa.out.c1, Xa.out.c2, Xb.out.c0, Xb.out.c1, Xb.out.c2⟩
  refine wp_region_J (fun W' => W'.cell? ⟨ga, 0, none⟩ = some (.bool s) ∧ W'.cell? ⟨ga, 1, none⟩ = some (.slice p m c) ∧ W'.cell? ⟨ga, 2, none⟩ = some (.int .i64 e) ∧ W'.cell? ⟨gb, 0, none⟩ = some (.bool t) ∧ W'.cell? ⟨gb, 1, none⟩ = some (.slice q n d) ∧ W'.cell? ⟨gb, 2, none⟩ = some (.int .i64 f)) (by kernel_rfl) ?_
  rw [← hWr]
  clear hWr
  refine wpJ_tq 0 rfl HJ.out ?_
  refine wpJ_tq 1 rfl HJ.out ?_
  refine wpJ_tq 3 rfl HJ.out ?_
  refine wpJ_tq 4 rfl HJ.out ?_
  refine wpJ_tq 5 rfl HJ.out ?_
  go_simp
  refine wpJ_tq 6 rfl HJ.out ?_
  refine wpJ_tq 8 rfl HJ.out ?_
  refine wpJ_tq 9 rfl HJ.out ?_
  refine wpJ_tq 11 rfl HJ.out ?_
  go_simp
  refine wpJ_tq 12 rfl HJ.out ?_
  refine wpJ_tq 13 rfl HJ.out ?_
  refine wpJ_tq 14 rfl HJ.out ?_
  obtain ⟨RQ, HRQ, HRP⟩ : ∃ RQ : Act → Act → World → Prop, Hid (∀ a1 a2 a3, (fun a0 a' W' => ∃ gsm tA pA nA tB kB nB tC pC nC tD kD nD tF kF nF, a' = ((((((a0.put (some 45) (.agg #[.bool tA, .slice pA nA nA])).put (some 50) (.agg #[.bool tB, .slice (some ⟨kB, 0, none⟩) nB nB])).put (some 53) (.agg #[.bool tC, .slice pC nC nC])).put (some 58) (.agg #[.bool tD, .slice (some ⟨kD, 0, none⟩) nD nD])).put (some 59) (.agg #[.bool tF, .slice (some ⟨kF, 0, none⟩) nF nF])).put (some 7) (.pointer (some ⟨gsm, 0, none⟩))) ∧ Box W' gsm (.bool tF) (.slice (some ⟨kF, 0, none⟩) nF nF) ∧ B3q W' ga (.bool s) (.slice p m c) (.int .i64 e) ∧ B3q W' gb (.bool t) (.slice q n d) (.int .i64 f) ∧ B3q W' gr (.bool false) (.slice none 0 0) (.int .i64 0) ∧ ZR W' tF (some ⟨kF, 0, none⟩) nF (iv s (valB B64 xs) * 2 ^ ka + iv t (valB B64 ys) * 2 ^ kb) ∧ w.heap.size ≤ gsm ∧ ga ≠ gsm ∧ gb ≠ gsm ∧ gr ≠ gsm ∧ (nF ≤ 40001) ∧ Below v6.heap.size v6 W' ∧ Below w.heap.size w W') a1 a2 a3 → RQ a1 a2 a3) ∧ Hid (∀ a1 a2 a3, RQ a1 a2 a3 → (fun a0 a' W' => ∃ gsm tA pA nA tB kB nB tC pC nC tD kD nD tF kF nF, a' = ((((((a0.put (some 45) (.agg #[.bool tA, .slice pA nA nA])).put (some 50) (.agg #[.bool tB, .slice (some ⟨kB, 0, none⟩) nB nB])).put (some 53) (.agg #[.bool tC, .slice pC nC nC])).put (some 58) (.agg #[.bool tD, .slice (some ⟨kD, 0, none⟩) nD nD])).put (some 59) (.agg #[.bool tF, .slice (some ⟨kF, 0, none⟩) nF nF])).put (some 7) (.pointer (some ⟨gsm, 0, none⟩))) ∧ Box W' gsm (.bool tF) (.slice (some ⟨kF, 0, none⟩) nF nF) ∧ B3q W' ga (.bool s) (.slice p m c) (.int .i64 e) ∧ B3q W' gb (.bool t) (.slice q n d) (.int .i64 f) ∧ B3q W' gr (.bool false) (.slice none 0 0) (.int .i64 0) ∧ ZR W' tF (some ⟨kF, 0, none⟩) nF (iv s (valB B64 xs) * 2 ^ ka + iv t (valB B64 ys) * 2 ^ kb) ∧ w.heap.size ≤ gsm ∧ ga ≠ gsm ∧ gb ≠ gsm ∧ gr ≠ gsm ∧ (nF ≤ 40001) ∧ Below v6.heap.size v6 W' ∧ Below w.heap.size w W') a1 a2 a3) := ⟨_, fun _ _ _ h => h, fun _ _ _ h => h⟩
  refine wpJ_cutA RQ ?_ ?_
  · intro a' Wc hrq
    obtain ⟨gsm, tA, pA, nA, tB, kB, nB, tC, pC, nC, tD, kD, nD, tF, kF, nF, rfl, xbQ, xa, xb, xr, rr, hg, hda, hdb, hdr, hHNF, hbuc, hbc⟩ := HRP.out _ _ _ hrq
    clear hrq HRP HRQ
    clear hbw hbu HJ Xa Xb Xr
    have hbw := hbc
    have hbu := hbuc
    have Xsm : Hid (Box Wc gsm (.bool tF) (.slice (some ⟨kF, 0, none⟩) nF nF)) := xbQ
    have Xa : Hid (B3q Wc ga (.bool s) (.slice p m c) (.int .i64 e)) := xa
    have Xb : Hid (B3q Wc gb (.bool t) (.slice q n d) (.int .i64 f)) := xb
    have Xr : Hid (B3q Wc gr (.bool false) (.slice none 0 0) (.int .i64 0)) := xr
    have RR : Hid (ZR Wc tF (some ⟨kF, 0, none⟩) nF (iv s (valB B64 xs) * 2 ^ ka + iv t (valB B64 ys) * 2 ^ kb)) := rr
    have HGsm : Hid (w.heap.size ≤ gsm) := hg
    have HDasm : Hid (ga ≠ gsm) := hda
    have HDbsm : Hid (gb ≠ gsm) := hdb
    have HDrsm : Hid (gr ≠ gsm) := hdr
    have HNF : Hid (nF ≤ 40001) := hHNF
    clear xbQ xa xb xr rr hg hda hdb hdr hHNF hbuc hbc
    clear hbu HU KU
    obtain ⟨csm0, csm1, fsm0, fsm1⟩ := Xsm.out
    have hnesm := Xsm.out.lt
    go_wp2_with fail
    clear csm0 csm1 fsm0 fsm1 hnesm
    obtain ⟨zsF, hAF, hNF⟩ := RR.out.ex
    refine (rbits_any hAF hNF (by have := HNF.out; omega)).mono ?_
    rintro e9 w9 ⟨rfl, hw⟩
    obtain rfl := hw.symm
    clear hw hAF hNF
    rw [← HBZ.out.1]
    obtain ⟨csm0, csm1, fsm0, fsm1⟩ := Xsm.out
    have hnesm := Xsm.out.lt
    go_wp2_with fail
    clear csm0 csm1 fsm0 fsm1 hnesm
    have HRL : Hid (gr < Wc.heap.size ∧ w.heap.size ≤ Wc.heap.size) := ⟨Xr.out.lt, hbw.size⟩
    refine (told_a (e := g) tF RR.out (zr_len_lim RR.out (by rw [HBZ.out.2]; exact HC.out.2.2.2.2.2.2.2.2))).mono ?_
    rintro e2 v9 ⟨zo, eo, er, ⟨s9, p9, m9, c9, rfl, hq9⟩, hr9, hb9⟩
    rw [HBZ.out.2, HG.out] at hr9
    replace Xsm : Hid _ := Xsm.out.below hb9
    replace Xa : Hid _ := Xa.out.below hb9
    replace Xb : Hid _ := Xb.out.below hb9
    replace Xr : Hid _ := Xr.out.below hb9
    replace RR : Hid _ := RR.out.below hb9
    replace hbw := Below.on hbw hb9
    clear hb9
    have Q9 : Hid (DQ Wc.heap.size v9 s9 p9 m9 c9 eo zo) := hq9
    have R9 : Hid (MkR (shX (iv s (valB B64 xs)) e f + shX (iv t (valB B64 ys)) f e) (min e f) zo eo er) := hr9
    clear hq9 hr9
    obtain ⟨cr0, cr1, cr2, fr0, fr1, fr2⟩ := Xr.out
    have hner : gr < v9.heap.size := World.block_lt_of_cell? v9 _ cr0
    go_wp2_with fail
    refine bodyPost_ret (v := .tuple #[DV s9 p9 m9 c9 eo, .int .i64 er]) (by rw [results_cell_tmp rfl]; go_simp) rfl ⟨zo, eo, er, ⟨s9, p9, m9, c9, rfl, Q9.out.set3 HRL.out.1 HRL.out.2 _ _ _⟩, R9.out, ?_⟩
    exact bSet (bSet (bSet hbw _ _ _ HGr.out) _ _ _ HGr.out) _ _ _ HGr.out
  · skip
    refine wpJ_two (i := 2) (k := 17) (by kernel_rfl) rfl rfl (by kernel_rfl) (by kernel_rfl) (fun KJ hK => ?_) (fun KJ hK => ?_)
    · go_simp
      refine (rfrom5 s (HU.out.below hbu) (by have := HC.out; omega)).mono ?_
      rintro e9 uA ⟨tA, pA, nA, rfl, hzA, hlA, hbA⟩
      have hbu' := Below.on hbu hbA
      clear hbu
      have hbu := hbu'
      clear hbu'
      replace Xa : Hid _ := Xa.out.below hbA
      replace Xb : Hid _ := Xb.out.below hbA
      replace Xr : Hid _ := Xr.out.below hbA
      replace hbw := Below.on hbw hbA
      clear hbA
      have YA : Hid (ZR uA tA pA nA (iv s (valB B64 xs))) := hzA
      have HLA : Hid (nA ≤ 2 * m) := hlA
      clear hzA hlA
      clear HJ
      have HJ : Hid ((fun W' : World => W'.cell? ⟨ga, 0, none⟩ = some (.bool s) ∧ W'.cell? ⟨ga, 1, none⟩ = some (.slice p m c) ∧ W'.cell? ⟨ga, 2, none⟩ = some (.int .i64 e) ∧ W'.cell? ⟨gb, 0, none⟩ = some (.bool t) ∧ W'.cell? ⟨gb, 1, none⟩ = some (.slice q n d) ∧ W'.cell? ⟨gb, 2, none⟩ = some (.int .i64 f)) uA) := ⟨Xa.out.c0, Xa.out.c1, Xa.out.c2, Xb.out.c0, Xb.out.c1, Xb.out.c2⟩
      refine hK _ _ HJ.out ?_
      clear hK
      refine wpJ_two (i := 7) (k := 17) (by kernel_rfl) rfl rfl (by kernel_rfl) (by kernel_rfl) (fun KJ hK => ?_) (fun KJ hK => ?_)
      · go_simp
        refine (rshl04 tA YA.out (by have h1 := HLA.out; have h2 := HC.out; omega) ka (.inl HKA.out.2.2.1)).mono ?_
        rintro e9 uB ⟨v, rfl, hv, hbB⟩
        obtain ⟨tB, kB, nB, rfl, hgB, hzB, hlB⟩ := hv
        skip
        have hbu' := Below.on hbu hbB
        clear hbu
        have hbu := hbu'
        clear hbu'
        replace Xa : Hid _ := Xa.out.below hbB
        replace Xb : Hid _ := Xb.out.below hbB
        replace Xr : Hid _ := Xr.out.below hbB
        replace YA : Hid _ := YA.out.below hbB
        replace hbw := Below.on hbw hbB
        clear hbB
        have YB : Hid (ZR uB tB (some ⟨kB, 0, none⟩) nB (iv s (valB B64 xs) * 2 ^ ka)) := hzB
        have HLB : Hid (nB ≤ 40000) := hlB
        clear hzB hlB hgB
        clear YA
        clear HJ
        have HJ : Hid ((fun W' : World => W'.cell? ⟨ga, 0, none⟩ = some (.bool s) ∧ W'.cell? ⟨ga, 1, none⟩ = some (.slice p m c) ∧ W'.cell? ⟨ga, 2, none⟩ = some (.int .i64 e) ∧ W'.cell? ⟨gb, 0, none⟩ = some (.bool t) ∧ W'.cell? ⟨gb, 1, none⟩ = some (.slice q n d) ∧ W'.cell? ⟨gb, 2, none⟩ = some (.int .i64 f)) uB) := ⟨Xa.out.c0, Xa.out.c1, Xa.out.c2, Xb.out.c0, Xb.out.c1, Xb.out.c2⟩
        refine hK _ _ HJ.out ?_
        clear hK
        refine wpJ_two (i := 10) (k := 17) (by kernel_rfl) rfl rfl (by kernel_rfl) (by kernel_rfl) (fun KJ hK => ?_) (fun KJ hK => ?_)
        · go_simp
          refine (rfrom5 t (KU.out.below hbu) (by have := HC.out; omega)).mono ?_
          rintro e9 uC ⟨tC, pC, nC, rfl, hzC, hlC, hbC⟩
          have hbu' := Below.on hbu hbC
          clear hbu
          have hbu := hbu'
          clear hbu'
          replace Xa : Hid _ := Xa.out.below hbC
          replace Xb : Hid _ := Xb.out.below hbC
          replace Xr : Hid _ := Xr.out.below hbC
          replace YB : Hid _ := YB.out.below hbC
          replace hbw := Below.on hbw hbC
          clear hbC
          have YC : Hid (ZR uC tC pC nC (iv t (valB B64 ys))) := hzC
          have HLC : Hid (nC ≤ 2 * n) := hlC
          clear hzC hlC
          clear HJ
          have HJ : Hid ((fun W' : World => W'.cell? ⟨ga, 0, none⟩ = some (.bool s) ∧ W'.cell? ⟨ga, 1, none⟩ = some (.slice p m c) ∧ W'.cell? ⟨ga, 2, none⟩ = some (.int .i64 e) ∧ W'.cell? ⟨gb, 0, none⟩ = some (.bool t) ∧ W'.cell? ⟨gb, 1, none⟩ = some (.slice q n d) ∧ W'.cell? ⟨gb, 2, none⟩ = some (.int .i64 f)) uC) := ⟨Xa.out.c0, Xa.out.c1, Xa.out.c2, Xb.out.c0, Xb.out.c1, Xb.out.c2⟩
          refine hK _ _ HJ.out ?_
          clear hK
          refine wpJ_two (i := 15) (k := 17) (by kernel_rfl) rfl rfl (by kernel_rfl) (by kernel_rfl) (fun KJ hK => ?_) (fun KJ hK => ?_)
          · go_simp
            refine (rshl04 tC YC.out (by have h1 := HLC.out; have h2 := HC.out; omega) kb (.inl HKA.out.2.2.2)).mono ?_
            rintro e9 uD ⟨v, rfl, hv, hbD⟩
            obtain ⟨tD, kD, nD, rfl, hgD, hzD, hlD⟩ := hv
            skip
            have hbu' := Below.on hbu hbD
            clear hbu
            have hbu := hbu'
            clear hbu'
            replace Xa : Hid _ := Xa.out.below hbD
            replace Xb : Hid _ := Xb.out.below hbD
            replace Xr : Hid _ := Xr.out.below hbD
            replace YB : Hid _ := YB.out.below hbD
            replace YC : Hid _ := YC.out.below hbD
            replace hbw := Below.on hbw hbD
            clear hbD
            have YD : Hid (ZR uD tD (some ⟨kD, 0, none⟩) nD (iv t (valB B64 ys) * 2 ^ kb)) := hzD
            have HLD : Hid (nD ≤ 40000) := hlD
            clear hzD hlD hgD
            clear YC
            clear HJ
            have HJ : Hid ((fun W' : World => W'.cell? ⟨ga, 0, none⟩ = some (.bool s) ∧ W'.cell? ⟨ga, 1, none⟩ = some (.slice p m c) ∧ W'.cell? ⟨ga, 2, none⟩ = some (.int .i64 e) ∧ W'.cell? ⟨gb, 0, none⟩ = some (.bool t) ∧ W'.cell? ⟨gb, 1, none⟩ = some (.slice q n d) ∧ W'.cell? ⟨gb, 2, none⟩ = some (.int .i64 f)) uD) := ⟨Xa.out.c0, Xa.out.c1, Xa.out.c2, Xb.out.c0, Xb.out.c1, Xb.out.c2⟩
            refine hK _ _ HJ.out ?_
            clear hK
            refine wpJ_two (i := 16) (k := 17) (by kernel_rfl) rfl rfl (by kernel_rfl) (by kernel_rfl) (fun KJ hK => ?_) (fun KJ hK => ?_)
            · go_simp
              refine (radd04 tB tD YB.out YD.out (by have := HLB.out; omega) (by have := HLD.out; omega)).mono ?_
              rintro e9 uF ⟨v, rfl, hv, hbF⟩
              obtain ⟨tF, kF, nF, rfl, hgF, hzF, hlF⟩ := hv
              have HGB : Hid (uD.heap.size ≤ kF) := hgF
              have hbu' := Below.on hbu hbF
              clear hbu
              have hbu := hbu'
              clear hbu'
              replace Xa : Hid _ := Xa.out.below hbF
              replace Xb : Hid _ := Xb.out.below hbF
              replace Xr : Hid _ := Xr.out.below hbF
              replace YB : Hid _ := YB.out.below hbF
              replace YD : Hid _ := YD.out.below hbF
              replace hbw := Below.on hbw hbF
              clear hbF
              have RR : Hid (ZR uF tF (some ⟨kF, 0, none⟩) nF (iv s (valB B64 xs) * 2 ^ ka + iv t (valB B64 ys) * 2 ^ kb)) := hzF
              have HLF : Hid (nF ≤ max nB nD + 1) := hlF
              clear hzF hlF hgF
              clear YB
              clear YD
              have HNF : Hid (nF ≤ 40001) := by have h1 := HLB.out; have h2 := HLD.out; have h3 := HLF.out; show _ ≤ _; omega
              refine hK _ _ ⟨Xa.out.c0, Xa.out.c1, Xa.out.c2, Xb.out.c0, Xb.out.c1, Xb.out.c2⟩ ?_
              clear hK
              refine wpJ_on 17 rfl fun KJ hK => ?_
              go_simp
              have HDasm : Hid (ga ≠ uF.heap.size) := Nat.ne_of_lt Xa.out.lt
              have HDbsm : Hid (gb ≠ uF.heap.size) := Nat.ne_of_lt Xb.out.lt
              have HDrsm : Hid (gr ≠ uF.heap.size) := Nat.ne_of_lt Xr.out.lt
              have HLS : Hid (∀ v0 v1, ZR (((uF.alloc (.cells #[.bool false, .slice none 0 0] 79)).setCell ⟨uF.heap.size, 0, none⟩ v0).setCell ⟨uF.heap.size, 1, none⟩ v1) tF (some ⟨kF, 0, none⟩) nF (iv s (valB B64 xs) * 2 ^ ka + iv t (valB B64 ys) * 2 ^ kb)) := fun v0 v1 => RR.out.below (bSet (bSet (below1 _ _) _ _ _ (Nat.le_refl _)) _ _ _ (Nat.le_refl _))
              have HGU : Hid (v6.heap.size ≤ uF.heap.size) := hbu.size
              have Xsm0 : Hid (Box (uF.alloc (.cells #[.bool false, .slice none 0 0] 79)) uF.heap.size (.bool false) (.slice none 0 0)) := Box.new uF _ _ _
              have hbn : Below uF.heap.size uF (uF.alloc (.cells #[.bool false, .slice none 0 0] 79)) := below1 uF _
              generalize uF.alloc (.cells #[.bool false, .slice none 0 0] 79) = Wn at *
              have HGsm : Hid (w.heap.size ≤ uF.heap.size) := hbw.size
              have hbu' := Below.on hbu hbn
              clear hbu
              have hbu := hbu'
              clear hbu'
              replace Xa : Hid _ := Xa.out.below hbn
              replace Xb : Hid _ := Xb.out.below hbn
              replace Xr : Hid _ := Xr.out.below hbn
              replace RR : Hid _ := RR.out.below hbn
              replace hbw := Below.on hbw hbn
              clear hbn
              generalize uF.heap.size = gsm at *
              have Xsm := Xsm0
              clear Xsm0
              refine hK _ _ ⟨Xa.out.c0, Xa.out.c1, Xa.out.c2, Xb.out.c0, Xb.out.c1, Xb.out.c2⟩ ?_
              clear hK
              obtain ⟨csm0, csm1, fsm0, fsm1⟩ := Xsm.out
              have hnesm := Xsm.out.lt
              obtain ⟨ca0, ca1, ca2, fa0, fa1, fa2⟩ := Xa.out
              have hnea : ga < Wn.heap.size := World.block_lt_of_cell? Wn _ ca0
              obtain ⟨cb0, cb1, cb2, fb0, fb1, fb2⟩ := Xb.out
              have hneb : gb < Wn.heap.size := World.block_lt_of_cell? Wn _ cb0
              obtain ⟨cr0, cr1, cr2, fr0, fr1, fr2⟩ := Xr.out
              have hner : gr < Wn.heap.size := World.block_lt_of_cell? Wn _ cr0
              have qaa : ga ≠ gsm := HDasm.out
              have qba : gsm ≠ ga := fun h => qaa h.symm
              have qab : gb ≠ gsm := HDbsm.out
              have qbb : gsm ≠ gb := fun h => qab h.symm
              have qar : gr ≠ gsm := HDrsm.out
              have qbr : gsm ≠ gr := fun h => qar h.symm
              refine wpJ_on 18 rfl fun KJ hK => ?_
              go_simp
              have HJ2 : Hid ((fun W' : World => W'.cell? ⟨ga, 0, none⟩ = some (.bool s) ∧ W'.cell? ⟨ga, 1, none⟩ = some (.slice p m c) ∧ W'.cell? ⟨ga, 2, none⟩ = some (.int .i64 e) ∧ W'.cell? ⟨gb, 0, none⟩ = some (.bool t) ∧ W'.cell? ⟨gb, 1, none⟩ = some (.slice q n d) ∧ W'.cell? ⟨gb, 2, none⟩ = some (.int .i64 f)) ((Wn.setCell ⟨gsm, 0, none⟩ (.bool tF)).setCell ⟨gsm, 1, none⟩ (.slice (some ⟨kF, 0, none⟩) nF nF))) := ⟨by go_simp, by go_simp, by go_simp, by go_simp, by go_simp, by go_simp⟩
              have Xsm2 : Hid (Box ((Wn.setCell ⟨gsm, 0, none⟩ (.bool tF)).setCell ⟨gsm, 1, none⟩ (.slice (some ⟨kF, 0, none⟩) nF nF)) gsm (.bool tF) (.slice (some ⟨kF, 0, none⟩) nF nF)) := ⟨by go_simp, by go_simp, by go_simp, by go_simp⟩
              have Xa2 : Hid (B3q ((Wn.setCell ⟨gsm, 0, none⟩ (.bool tF)).setCell ⟨gsm, 1, none⟩ (.slice (some ⟨kF, 0, none⟩) nF nF)) ga (.bool s) (.slice p m c) (.int .i64 e)) := ⟨by go_simp, by go_simp, by go_simp, by go_simp, by go_simp, by go_simp⟩
              have Xb2 : Hid (B3q ((Wn.setCell ⟨gsm, 0, none⟩ (.bool tF)).setCell ⟨gsm, 1, none⟩ (.slice (some ⟨kF, 0, none⟩) nF nF)) gb (.bool t) (.slice q n d) (.int .i64 f)) := ⟨by go_simp, by go_simp, by go_simp, by go_simp, by go_simp, by go_simp⟩
              have Xr2 : Hid (B3q ((Wn.setCell ⟨gsm, 0, none⟩ (.bool tF)).setCell ⟨gsm, 1, none⟩ (.slice (some ⟨kF, 0, none⟩) nF nF)) gr (.bool false) (.slice none 0 0) (.int .i64 0)) := ⟨by go_simp, by go_simp, by go_simp, by go_simp, by go_simp, by go_simp⟩
              have RR2 : Hid (ZR ((Wn.setCell ⟨gsm, 0, none⟩ (.bool tF)).setCell ⟨gsm, 1, none⟩ (.slice (some ⟨kF, 0, none⟩) nF nF)) tF (some ⟨kF, 0, none⟩) nF (iv s (valB B64 xs) * 2 ^ ka + iv t (valB B64 ys) * 2 ^ kb)) := HLS.out _ _
              have hbu2 : Below v6.heap.size v6 ((Wn.setCell ⟨gsm, 0, none⟩ (.bool tF)).setCell ⟨gsm, 1, none⟩ (.slice (some ⟨kF, 0, none⟩) nF nF)) := bSet (bSet hbu _ _ _ HGU.out) _ _ _ HGU.out
              have hbw2 : Below w.heap.size w ((Wn.setCell ⟨gsm, 0, none⟩ (.bool tF)).setCell ⟨gsm, 1, none⟩ (.slice (some ⟨kF, 0, none⟩) nF nF)) := bSet (bSet hbw _ _ _ HGsm.out) _ _ _ HGsm.out
              refine hK _ _ HJ2.out ?_
              clear hK HJ
              have HJ := HJ2
              clear HJ2
              refine wpJ_done (by kernel_rfl) ?_ _
              exact ⟨rfl, HRQ.out _ _ _ ⟨gsm, tA, pA, nA, tB, kB, nB, tC, pC, nC, tD, kD, nD, tF, kF, nF, by kernel_rfl, Xsm2.out, Xa2.out, Xb2.out, Xr2.out, RR2.out, HGsm.out, HDasm.out, HDbsm.out, HDrsm.out, HNF.out, hbu2, hbw2⟩⟩
            · go_simp
              have HDasm : Hid (ga ≠ uD.heap.size) := Nat.ne_of_lt Xa.out.lt
              have HDbsm : Hid (gb ≠ uD.heap.size) := Nat.ne_of_lt Xb.out.lt
              have HDrsm : Hid (gr ≠ uD.heap.size) := Nat.ne_of_lt Xr.out.lt
              have HGU : Hid (v6.heap.size ≤ uD.heap.size) := hbu.size
              have Xsm0 : Hid (Box (uD.alloc (.cells #[.bool false, .slice none 0 0] 79)) uD.heap.size (.bool false) (.slice none 0 0)) := Box.new uD _ _ _
              have hbn : Below uD.heap.size uD (uD.alloc (.cells #[.bool false, .slice none 0 0] 79)) := below1 uD _
              generalize uD.alloc (.cells #[.bool false, .slice none 0 0] 79) = Wn at *
              have HGsm : Hid (w.heap.size ≤ uD.heap.size) := hbw.size
              have hbu' := Below.on hbu hbn
              clear hbu
              have hbu := hbu'
              clear hbu'
              replace Xa : Hid _ := Xa.out.below hbn
              replace Xb : Hid _ := Xb.out.below hbn
              replace Xr : Hid _ := Xr.out.below hbn
              replace YB : Hid _ := YB.out.below hbn
              replace YD : Hid _ := YD.out.below hbn
              replace hbw := Below.on hbw hbn
              clear hbn
              generalize uD.heap.size = gsm at *
              have Xsm := Xsm0
              clear Xsm0
              refine hK _ _ ⟨Xa.out.c0, Xa.out.c1, Xa.out.c2, Xb.out.c0, Xb.out.c1, Xb.out.c2⟩ ?_
              clear hK
              refine wpJ_on 16 rfl fun KJ hK => ?_
              go_simp
              have HLT : Hid (gsm < Wn.heap.size) := Xsm.out.lt
              refine (radd04 tB tD YB.out YD.out (by have := HLB.out; omega) (by have := HLD.out; omega)).mono ?_
              rintro e9 uF ⟨v, rfl, hv, hbF⟩
              obtain ⟨tF, kF, nF, rfl, hgF, hzF, hlF⟩ := hv
              have HGB : Hid (Wn.heap.size ≤ kF) := hgF
              have hbu' := Below.on hbu hbF
              clear hbu
              have hbu := hbu'
              clear hbu'
              replace Xa : Hid _ := Xa.out.below hbF
              replace Xb : Hid _ := Xb.out.below hbF
              replace Xr : Hid _ := Xr.out.below hbF
              replace Xsm : Hid _ := Xsm.out.below hbF
              replace YB : Hid _ := YB.out.below hbF
              replace YD : Hid _ := YD.out.below hbF
              replace hbw := Below.on hbw hbF
              clear hbF
              have RR : Hid (ZR uF tF (some ⟨kF, 0, none⟩) nF (iv s (valB B64 xs) * 2 ^ ka + iv t (valB B64 ys) * 2 ^ kb)) := hzF
              have HLF : Hid (nF ≤ max nB nD + 1) := hlF
              clear hzF hlF hgF
              clear YB
              clear YD
              have HNF : Hid (nF ≤ 40001) := by have h1 := HLB.out; have h2 := HLD.out; have h3 := HLF.out; show _ ≤ _; omega
              have HNE : Hid (kF ≠ gsm) := by have h1 := HLT.out; have h2 := HGB.out; show _ ≠ _; omega
              refine hK _ _ ⟨Xa.out.c0, Xa.out.c1, Xa.out.c2, Xb.out.c0, Xb.out.c1, Xb.out.c2⟩ ?_
              clear hK
              obtain ⟨csm0, csm1, fsm0, fsm1⟩ := Xsm.out
              have hnesm := Xsm.out.lt
              obtain ⟨ca0, ca1, ca2, fa0, fa1, fa2⟩ := Xa.out
              have hnea : ga < uF.heap.size := World.block_lt_of_cell? uF _ ca0
              obtain ⟨cb0, cb1, cb2, fb0, fb1, fb2⟩ := Xb.out
              have hneb : gb < uF.heap.size := World.block_lt_of_cell? uF _ cb0
              obtain ⟨cr0, cr1, cr2, fr0, fr1, fr2⟩ := Xr.out
              have hner : gr < uF.heap.size := World.block_lt_of_cell? uF _ cr0
              have qaa : ga ≠ gsm := HDasm.out
              have qba : gsm ≠ ga := fun h => qaa h.symm
              have qab : gb ≠ gsm := HDbsm.out
              have qbb : gsm ≠ gb := fun h => qab h.symm
              have qar : gr ≠ gsm := HDrsm.out
              have qbr : gsm ≠ gr := fun h => qar h.symm
              refine wpJ_on 18 rfl fun KJ hK => ?_
              go_simp
              have HJ2 : Hid ((fun W' : World => W'.cell? ⟨ga, 0, none⟩ = some (.bool s) ∧ W'.cell? ⟨ga, 1, none⟩ = some (.slice p m c) ∧ W'.cell? ⟨ga, 2, none⟩ = some (.int .i64 e) ∧ W'.cell? ⟨gb, 0, none⟩ = some (.bool t) ∧ W'.cell? ⟨gb, 1, none⟩ = some (.slice q n d) ∧ W'.cell? ⟨gb, 2, none⟩ = some (.int .i64 f)) ((uF.setCell ⟨gsm, 0, none⟩ (.bool tF)).setCell ⟨gsm, 1, none⟩ (.slice (some ⟨kF, 0, none⟩) nF nF))) := ⟨by go_simp, by go_simp, by go_simp, by go_simp, by go_simp, by go_simp⟩
              have Xsm2 : Hid (Box ((uF.setCell ⟨gsm, 0, none⟩ (.bool tF)).setCell ⟨gsm, 1, none⟩ (.slice (some ⟨kF, 0, none⟩) nF nF)) gsm (.bool tF) (.slice (some ⟨kF, 0, none⟩) nF nF)) := ⟨by go_simp, by go_simp, by go_simp, by go_simp⟩
              have Xa2 : Hid (B3q ((uF.setCell ⟨gsm, 0, none⟩ (.bool tF)).setCell ⟨gsm, 1, none⟩ (.slice (some ⟨kF, 0, none⟩) nF nF)) ga (.bool s) (.slice p m c) (.int .i64 e)) := ⟨by go_simp, by go_simp, by go_simp, by go_simp, by go_simp, by go_simp⟩
              have Xb2 : Hid (B3q ((uF.setCell ⟨gsm, 0, none⟩ (.bool tF)).setCell ⟨gsm, 1, none⟩ (.slice (some ⟨kF, 0, none⟩) nF nF)) gb (.bool t) (.slice q n d) (.int .i64 f)) := ⟨by go_simp, by go_simp, by go_simp, by go_simp, by go_simp, by go_simp⟩
              have Xr2 : Hid (B3q ((uF.setCell ⟨gsm, 0, none⟩ (.bool tF)).setCell ⟨gsm, 1, none⟩ (.slice (some ⟨kF, 0, none⟩) nF nF)) gr (.bool false) (.slice none 0 0) (.int .i64 0)) := ⟨by go_simp, by go_simp, by go_simp, by go_simp, by go_simp, by go_simp⟩
              have RR2 : Hid (ZR ((uF.setCell ⟨gsm, 0, none⟩ (.bool tF)).setCell ⟨gsm, 1, none⟩ (.slice (some ⟨kF, 0, none⟩) nF nF)) tF (some ⟨kF, 0, none⟩) nF (iv s (valB B64 xs) * 2 ^ ka + iv t (valB B64 ys) * 2 ^ kb)) := (RR.out.set _ _ _ HNE.out).set _ _ _ HNE.out
              have hbu2 : Below v6.heap.size v6 ((uF.setCell ⟨gsm, 0, none⟩ (.bool tF)).setCell ⟨gsm, 1, none⟩ (.slice (some ⟨kF, 0, none⟩) nF nF)) := bSet (bSet hbu _ _ _ HGU.out) _ _ _ HGU.out
              have hbw2 : Below w.heap.size w ((uF.setCell ⟨gsm, 0, none⟩ (.bool tF)).setCell ⟨gsm, 1, none⟩ (.slice (some ⟨kF, 0, none⟩) nF nF)) := bSet (bSet hbw _ _ _ HGsm.out) _ _ _ HGsm.out
              refine hK _ _ HJ2.out ?_
              clear hK HJ
              have HJ := HJ2
              clear HJ2
              refine wpJ_done (by kernel_rfl) ?_ _
              exact ⟨rfl, HRQ.out _ _ _ ⟨gsm, tA, pA, nA, tB, kB, nB, tC, pC, nC, tD, kD, nD, tF, kF, nF, by kernel_rfl, Xsm2.out, Xa2.out, Xb2.out, Xr2.out, RR2.out, HGsm.out, HDasm.out, HDbsm.out, HDrsm.out, HNF.out, hbu2, hbw2⟩⟩
          · go_simp
            have HDasm : Hid (ga ≠ uC.heap.size) := Nat.ne_of_lt Xa.out.lt
            have HDbsm : Hid (gb ≠ uC.heap.size) := Nat.ne_of_lt Xb.out.lt
            have HDrsm : Hid (gr ≠ uC.heap.size) := Nat.ne_of_lt Xr.out.lt
            have HGU : Hid (v6.heap.size ≤ uC.heap.size) := hbu.size
            have Xsm0 : Hid (Box (uC.alloc (.cells #[.bool false, .slice none 0 0] 79)) uC.heap.size (.bool false) (.slice none 0 0)) := Box.new uC _ _ _
            have hbn : Below uC.heap.size uC (uC.alloc (.cells #[.bool false, .slice none 0 0] 79)) := below1 uC _
            generalize uC.alloc (.cells #[.bool false, .slice none 0 0] 79) = Wn at *
            have HGsm : Hid (w.heap.size ≤ uC.heap.size) := hbw.size
            have hbu' := Below.on hbu hbn
            clear hbu
            have hbu := hbu'
            clear hbu'
            replace Xa : Hid _ := Xa.out.below hbn
            replace Xb : Hid _ := Xb.out.below hbn
            replace Xr : Hid _ := Xr.out.below hbn
            replace YB : Hid _ := YB.out.below hbn
            replace YC : Hid _ := YC.out.below hbn
            replace hbw := Below.on hbw hbn
            clear hbn
            generalize uC.heap.size = gsm at *
            have Xsm := Xsm0
            clear Xsm0
            refine hK _ _ ⟨Xa.out.c0, Xa.out.c1, Xa.out.c2, Xb.out.c0, Xb.out.c1, Xb.out.c2⟩ ?_
            clear hK
            refine wpJ_on 15 rfl fun KJ hK => ?_
            go_simp
            refine (rshl04 tC YC.out (by have h1 := HLC.out; have h2 := HC.out; omega) kb (.inl HKA.out.2.2.2)).mono ?_
            rintro e9 uD ⟨v, rfl, hv, hbD⟩
            obtain ⟨tD, kD, nD, rfl, hgD, hzD, hlD⟩ := hv
            skip
            have hbu' := Below.on hbu hbD
            clear hbu
            have hbu := hbu'
            clear hbu'
            replace Xa : Hid _ := Xa.out.below hbD
            replace Xb : Hid _ := Xb.out.below hbD
            replace Xr : Hid _ := Xr.out.below hbD
            replace Xsm : Hid _ := Xsm.out.below hbD
            replace YB : Hid _ := YB.out.below hbD
            replace YC : Hid _ := YC.out.below hbD
            replace hbw := Below.on hbw hbD
            clear hbD
            have YD : Hid (ZR uD tD (some ⟨kD, 0, none⟩) nD (iv t (valB B64 ys) * 2 ^ kb)) := hzD
            have HLD : Hid (nD ≤ 40000) := hlD
            clear hzD hlD hgD
            clear YC
            refine hK _ _ ⟨Xa.out.c0, Xa.out.c1, Xa.out.c2, Xb.out.c0, Xb.out.c1, Xb.out.c2⟩ ?_
            clear hK
            refine wpJ_on 16 rfl fun KJ hK => ?_
            go_simp
            have HLT : Hid (gsm < uD.heap.size) := Xsm.out.lt
            refine (radd04 tB tD YB.out YD.out (by have := HLB.out; omega) (by have := HLD.out; omega)).mono ?_
            rintro e9 uF ⟨v, rfl, hv, hbF⟩
            obtain ⟨tF, kF, nF, rfl, hgF, hzF, hlF⟩ := hv
            have HGB : Hid (uD.heap.size ≤ kF) := hgF
            have hbu' := Below.on hbu hbF
            clear hbu
            have hbu := hbu'
            clear hbu'
            replace Xa : Hid _ := Xa.out.below hbF
            replace Xb : Hid _ := Xb.out.below hbF
            replace Xr : Hid _ := Xr.out.below hbF
            replace Xsm : Hid _ := Xsm.out.below hbF
            replace YB : Hid _ := YB.out.below hbF
            replace YD : Hid _ := YD.out.below hbF
            replace hbw := Below.on hbw hbF
            clear hbF
            have RR : Hid (ZR uF tF (some ⟨kF, 0, none⟩) nF (iv s (valB B64 xs) * 2 ^ ka + iv t (valB B64 ys) * 2 ^ kb)) := hzF
            have HLF : Hid (nF ≤ max nB nD + 1) := hlF
            clear hzF hlF hgF
            clear YB
            clear YD
            have HNF : Hid (nF ≤ 40001) := by have h1 := HLB.out; have h2 := HLD.out; have h3 := HLF.out; show _ ≤ _; omega
            have HNE : Hid (kF ≠ gsm) := by have h1 := HLT.out; have h2 := HGB.out; show _ ≠ _; omega
            refine hK _ _ ⟨Xa.out.c0, Xa.out.c1, Xa.out.c2, Xb.out.c0, Xb.out.c1, Xb.out.c2⟩ ?_
            clear hK
            obtain ⟨csm0, csm1, fsm0, fsm1⟩ := Xsm.out
            have hnesm := Xsm.out.lt
            obtain ⟨ca0, ca1, ca2, fa0, fa1, fa2⟩ := Xa.out
            have hnea : ga < uF.heap.size := World.block_lt_of_cell? uF _ ca0
            obtain ⟨cb0, cb1, cb2, fb0, fb1, fb2⟩ := Xb.out
            have hneb : gb < uF.heap.size := World.block_lt_of_cell? uF _ cb0
            obtain ⟨cr0, cr1, cr2, fr0, fr1, fr2⟩ := Xr.out
            have hner : gr < uF.heap.size := World.block_lt_of_cell? uF _ cr0
            have qaa : ga ≠ gsm := HDasm.out
            have qba : gsm ≠ ga := fun h => qaa h.symm
            have qab : gb ≠ gsm := HDbsm.out
            have qbb : gsm ≠ gb := fun h => qab h.symm
            have qar : gr ≠ gsm := HDrsm.out
            have qbr : gsm ≠ gr := fun h => qar h.symm
            refine wpJ_on 18 rfl fun KJ hK => ?_
            go_simp
            have HJ2 : Hid ((fun W' : World => W'.cell? ⟨ga, 0, none⟩ = some (.bool s) ∧ W'.cell? ⟨ga, 1, none⟩ = some (.slice p m c) ∧ W'.cell? ⟨ga, 2, none⟩ = some (.int .i64 e) ∧ W'.cell? ⟨gb, 0, none⟩ = some (.bool t) ∧ W'.cell? ⟨gb, 1, none⟩ = some (.slice q n d) ∧ W'.cell? ⟨gb, 2, none⟩ = some (.int .i64 f)) ((uF.setCell ⟨gsm, 0, none⟩ (.bool tF)).setCell ⟨gsm, 1, none⟩ (.slice (some ⟨kF, 0, none⟩) nF nF))) := ⟨by go_simp, by go_simp, by go_simp, by go_simp, by go_simp, by go_simp⟩
            have Xsm2 : Hid (Box ((uF.setCell ⟨gsm, 0, none⟩ (.bool tF)).setCell ⟨gsm, 1, none⟩ (.slice (some ⟨kF, 0, none⟩) nF nF)) gsm (.bool tF) (.slice (some ⟨kF, 0, none⟩) nF nF)) := ⟨by go_simp, by go_simp, by go_simp, by go_simp⟩
            have Xa2 : Hid (B3q ((uF.setCell ⟨gsm, 0, none⟩ (.bool tF)).setCell ⟨gsm, 1, none⟩ (.slice (some ⟨kF, 0, none⟩) nF nF)) ga (.bool s) (.slice p m c) (.int .i64 e)) := ⟨by go_simp, by go_simp, by go_simp, by go_simp, by go_simp, by go_simp⟩
            have Xb2 : Hid (B3q ((uF.setCell ⟨gsm, 0, none⟩ (.bool tF)).setCell ⟨gsm, 1, none⟩ (.slice (some ⟨kF, 0, none⟩) nF nF)) gb (.bool t) (.slice q n d) (.int .i64 f)) := ⟨by go_simp, by go_simp, by go_simp, by go_simp, by go_simp, by go_simp⟩
            have Xr2 : Hid (B3q ((uF.setCell ⟨gsm, 0, none⟩ (.bool tF)).setCell ⟨gsm, 1, none⟩ (.slice (some ⟨kF, 0, none⟩) nF nF)) gr (.bool false) (.slice none 0 0) (.int .i64 0)) := ⟨by go_simp, by go_simp, by go_simp, by go_simp, by go_simp, by go_simp⟩
            have RR2 : Hid (ZR ((uF.setCell ⟨gsm, 0, none⟩ (.bool tF)).setCell ⟨gsm, 1, none⟩ (.slice (some ⟨kF, 0, none⟩) nF nF)) tF (some ⟨kF, 0, none⟩) nF (iv s (valB B64 xs) * 2 ^ ka + iv t (valB B64 ys) * 2 ^ kb)) := (RR.out.set _ _ _ HNE.out).set _ _ _ HNE.out
            have hbu2 : Below v6.heap.size v6 ((uF.setCell ⟨gsm, 0, none⟩ (.bool tF)).setCell ⟨gsm, 1, none⟩ (.slice (some ⟨kF, 0, none⟩) nF nF)) := bSet (bSet hbu _ _ _ HGU.out) _ _ _ HGU.out
            have hbw2 : Below w.heap.size w ((uF.setCell ⟨gsm, 0, none⟩ (.bool tF)).setCell ⟨gsm, 1, none⟩ (.slice (some ⟨kF, 0, none⟩) nF nF)) := bSet (bSet hbw _ _ _ HGsm.out) _ _ _ HGsm.out
            refine hK _ _ HJ2.out ?_
            clear hK HJ
            have HJ := HJ2
            clear HJ2
            refine wpJ_done (by kernel_rfl) ?_ _
            exact ⟨rfl, HRQ.out _ _ _ ⟨gsm, tA, pA, nA, tB, kB, nB, tC, pC, nC, tD, kD, nD, tF, kF, nF, by kernel_rfl, Xsm2.out, Xa2.out, Xb2.out, Xr2.out, RR2.out, HGsm.out, HDasm.out, HDbsm.out, HDrsm.out, HNF.out, hbu2, hbw2⟩⟩
        · go_simp
          have HDasm : Hid (ga ≠ uB.heap.size) := Nat.ne_of_lt Xa.out.lt
          have HDbsm : Hid (gb ≠ uB.heap.size) := Nat.ne_of_lt Xb.out.lt
          have HDrsm : Hid (gr ≠ uB.heap.size) := Nat.ne_of_lt Xr.out.lt
          have HGU : Hid (v6.heap.size ≤ uB.heap.size) := hbu.size
          have Xsm0 : Hid (Box (uB.alloc (.cells #[.bool false, .slice none 0 0] 79)) uB.heap.size (.bool false) (.slice none 0 0)) := Box.new uB _ _ _
          have hbn : Below uB.heap.size uB (uB.alloc (.cells #[.bool false, .slice none 0 0] 79)) := below1 uB _
          generalize uB.alloc (.cells #[.bool false, .slice none 0 0] 79) = Wn at *
          have HGsm : Hid (w.heap.size ≤ uB.heap.size) := hbw.size
          have hbu' := Below.on hbu hbn
          clear hbu
          have hbu := hbu'
          clear hbu'
          replace Xa : Hid _ := Xa.out.below hbn
          replace Xb : Hid _ := Xb.out.below hbn
          replace Xr : Hid _ := Xr.out.below hbn
          replace YB : Hid _ := YB.out.below hbn
          replace hbw := Below.on hbw hbn
          clear hbn
          generalize uB.heap.size = gsm at *
          have Xsm := Xsm0
          clear Xsm0
          refine hK _ _ ⟨Xa.out.c0, Xa.out.c1, Xa.out.c2, Xb.out.c0, Xb.out.c1, Xb.out.c2⟩ ?_
          clear hK
          refine wpJ_on 10 rfl fun KJ hK => ?_
          go_simp
          refine (rfrom5 t (KU.out.below hbu) (by have := HC.out; omega)).mono ?_
          rintro e9 uC ⟨tC, pC, nC, rfl, hzC, hlC, hbC⟩
          have hbu' := Below.on hbu hbC
          clear hbu
          have hbu := hbu'
          clear hbu'
          replace Xa : Hid _ := Xa.out.below hbC
          replace Xb : Hid _ := Xb.out.below hbC
          replace Xr : Hid _ := Xr.out.below hbC
          replace Xsm : Hid _ := Xsm.out.below hbC
          replace YB : Hid _ := YB.out.below hbC
          replace hbw := Below.on hbw hbC
          clear hbC
          have YC : Hid (ZR uC tC pC nC (iv t (valB B64 ys))) := hzC
          have HLC : Hid (nC ≤ 2 * n) := hlC
          clear hzC hlC
          refine hK _ _ ⟨Xa.out.c0, Xa.out.c1, Xa.out.c2, Xb.out.c0, Xb.out.c1, Xb.out.c2⟩ ?_
          clear hK
          refine wpJ_on 15 rfl fun KJ hK => ?_
          go_simp
          refine (rshl04 tC YC.out (by have h1 := HLC.out; have h2 := HC.out; omega) kb (.inl HKA.out.2.2.2)).mono ?_
          rintro e9 uD ⟨v, rfl, hv, hbD⟩
          obtain ⟨tD, kD, nD, rfl, hgD, hzD, hlD⟩ := hv
          skip
          have hbu' := Below.on hbu hbD
          clear hbu
          have hbu := hbu'
          clear hbu'
          replace Xa : Hid _ := Xa.out.below hbD
          replace Xb : Hid _ := Xb.out.below hbD
          replace Xr : Hid _ := Xr.out.below hbD
          replace Xsm : Hid _ := Xsm.out.below hbD
          replace YB : Hid _ := YB.out.below hbD
          replace YC : Hid _ := YC.out.below hbD
          replace hbw := Below.on hbw hbD
          clear hbD
          have YD : Hid (ZR uD tD (some ⟨kD, 0, none⟩) nD (iv t (valB B64 ys) * 2 ^ kb)) := hzD
          have HLD : Hid (nD ≤ 40000) := hlD
          clear hzD hlD hgD
          clear YC
          refine hK _ _ ⟨Xa.out.c0, Xa.out.c1, Xa.out.c2, Xb.out.c0, Xb.out.c1, Xb.out.c2⟩ ?_
          clear hK
          refine wpJ_on 16 rfl fun KJ hK => ?_
          go_simp
          have HLT : Hid (gsm < uD.heap.size) := Xsm.out.lt
          refine (radd04 tB tD YB.out YD.out (by have := HLB.out; omega) (by have := HLD.out; omega)).mono ?_
          rintro e9 uF ⟨v, rfl, hv, hbF⟩
          obtain ⟨tF, kF, nF, rfl, hgF, hzF, hlF⟩ := hv
          have HGB : Hid (uD.heap.size ≤ kF) := hgF
          have hbu' := Below.on hbu hbF
          clear hbu
          have hbu := hbu'
          clear hbu'
          replace Xa : Hid _ := Xa.out.below hbF
          replace Xb : Hid _ := Xb.out.below hbF
          replace Xr : Hid _ := Xr.out.below hbF
          replace Xsm : Hid _ := Xsm.out.below hbF
          replace YB : Hid _ := YB.out.below hbF
          replace YD : Hid _ := YD.out.below hbF
          replace hbw := Below.on hbw hbF
          clear hbF
          have RR : Hid (ZR uF tF (some ⟨kF, 0, none⟩) nF (iv s (valB B64 xs) * 2 ^ ka + iv t (valB B64 ys) * 2 ^ kb)) := hzF
          have HLF : Hid (nF ≤ max nB nD + 1) := hlF
          clear hzF hlF hgF
          clear YB
          clear YD
          have HNF : Hid (nF ≤ 40001) := by have h1 := HLB.out; have h2 := HLD.out; have h3 := HLF.out; show _ ≤ _; omega
          have HNE : Hid (kF ≠ gsm) := by have h1 := HLT.out; have h2 := HGB.out; show _ ≠ _; omega
          refine hK _ _ ⟨Xa.out.c0, Xa.out.c1, Xa.out.c2, Xb.out.c0, Xb.out.c1, Xb.out.c2⟩ ?_
          clear hK
          obtain ⟨csm0, csm1, fsm0, fsm1⟩ := Xsm.out
          have hnesm := Xsm.out.lt
          obtain ⟨ca0, ca1, ca2, fa0, fa1, fa2⟩ := Xa.out
          have hnea : ga < uF.heap.size := World.block_lt_of_cell? uF _ ca0
          obtain ⟨cb0, cb1, cb2, fb0, fb1, fb2⟩ := Xb.out
          have hneb : gb < uF.heap.size := World.block_lt_of_cell? uF _ cb0
          obtain ⟨cr0, cr1, cr2, fr0, fr1, fr2⟩ := Xr.out
          have hner : gr < uF.heap.size := World.block_lt_of_cell? uF _ cr0
          have qaa : ga ≠ gsm := HDasm.out
          have qba : gsm ≠ ga := fun h => qaa h.symm
          have qab : gb ≠ gsm := HDbsm.out
          have qbb : gsm ≠ gb := fun h => qab h.symm
          have qar : gr ≠ gsm := HDrsm.out
          have qbr : gsm ≠ gr := fun h => qar h.symm
          refine wpJ_on 18 rfl fun KJ hK => ?_
          go_simp
          have HJ2 : Hid ((fun W' : World => W'.cell? ⟨ga, 0, none⟩ = some (.bool s) ∧ W'.cell? ⟨ga, 1, none⟩ = some (.slice p m c) ∧ W'.cell? ⟨ga, 2, none⟩ = some (.int .i64 e) ∧ W'.cell? ⟨gb, 0, none⟩ = some (.bool t) ∧ W'.cell? ⟨gb, 1, none⟩ = some (.slice q n d) ∧ W'.cell? ⟨gb, 2, none⟩ = some (.int .i64 f)) ((uF.setCell ⟨gsm, 0, none⟩ (.bool tF)).setCell ⟨gsm, 1, none⟩ (.slice (some ⟨kF, 0, none⟩) nF nF))) := ⟨by go_simp, by go_simp, by go_simp, by go_simp, by go_simp, by go_simp⟩
          have Xsm2 : Hid (Box ((uF.setCell ⟨gsm, 0, none⟩ (.bool tF)).setCell ⟨gsm, 1, none⟩ (.slice (some ⟨kF, 0, none⟩) nF nF)) gsm (.bool tF) (.slice (some ⟨kF, 0, none⟩) nF nF)) := ⟨by go_simp, by go_simp, by go_simp, by go_simp⟩
          have Xa2 : Hid (B3q ((uF.setCell ⟨gsm, 0, none⟩ (.bool tF)).setCell ⟨gsm, 1, none⟩ (.slice (some ⟨kF, 0, none⟩) nF nF)) ga (.bool s) (.slice p m c) (.int .i64 e)) := ⟨by go_simp, by go_simp, by go_simp, by go_simp, by go_simp, by go_simp⟩
          have Xb2 : Hid (B3q ((uF.setCell ⟨gsm, 0, none⟩ (.bool tF)).setCell ⟨gsm, 1, none⟩ (.slice (some ⟨kF, 0, none⟩) nF nF)) gb (.bool t) (.slice q n d) (.int .i64 f)) := ⟨by go_simp, by go_simp, by go_simp, by go_simp, by go_simp, by go_simp⟩
          have Xr2 : Hid (B3q ((uF.setCell ⟨gsm, 0, none⟩ (.bool tF)).setCell ⟨gsm, 1, none⟩ (.slice (some ⟨kF, 0, none⟩) nF nF)) gr (.bool false) (.slice none 0 0) (.int .i64 0)) := ⟨by go_simp, by go_simp, by go_simp, by go_simp, by go_simp, by go_simp⟩
          have RR2 : Hid (ZR ((uF.setCell ⟨gsm, 0, none⟩ (.bool tF)).setCell ⟨gsm, 1, none⟩ (.slice (some ⟨kF, 0, none⟩) nF nF)) tF (some ⟨kF, 0, none⟩) nF (iv s (valB B64 xs) * 2 ^ ka + iv t (valB B64 ys) * 2 ^ kb)) := (RR.out.set _ _ _ HNE.out).set _ _ _ HNE.out
          have hbu2 : Below v6.heap.size v6 ((uF.setCell ⟨gsm, 0, none⟩ (.bool tF)).setCell ⟨gsm, 1, none⟩ (.slice (some ⟨kF, 0, none⟩) nF nF)) := bSet (bSet hbu _ _ _ HGU.out) _ _ _ HGU.out
          have hbw2 : Below w.heap.size w ((uF.setCell ⟨gsm, 0, none⟩ (.bool tF)).setCell ⟨gsm, 1, none⟩ (.slice (some ⟨kF, 0, none⟩) nF nF)) := bSet (bSet hbw _ _ _ HGsm.out) _ _ _ HGsm.out
          refine hK _ _ HJ2.out ?_
          clear hK HJ
          have HJ := HJ2
          clear HJ2
          refine wpJ_done (by kernel_rfl) ?_ _
          exact ⟨rfl, HRQ.out _ _ _ ⟨gsm, tA, pA, nA, tB, kB, nB, tC, pC, nC, tD, kD, nD, tF, kF, nF, by kernel_rfl, Xsm2.out, Xa2.out, Xb2.out, Xr2.out, RR2.out, HGsm.out, HDasm.out, HDbsm.out, HDrsm.out, HNF.out, hbu2, hbw2⟩⟩
      · go_simp
        have HDasm : Hid (ga ≠ uA.heap.size) := Nat.ne_of_lt Xa.out.lt
        have HDbsm : Hid (gb ≠ uA.heap.size) := Nat.ne_of_lt Xb.out.lt
        have HDrsm : Hid (gr ≠ uA.heap.size) := Nat.ne_of_lt Xr.out.lt
        have HGU : Hid (v6.heap.size ≤ uA.heap.size) := hbu.size
        have Xsm0 : Hid (Box (uA.alloc (.cells #[.bool false, .slice none 0 0] 79)) uA.heap.size (.bool false) (.slice none 0 0)) := Box.new uA _ _ _
        have hbn : Below uA.heap.size uA (uA.alloc (.cells #[.bool false, .slice none 0 0] 79)) := below1 uA _
        generalize uA.alloc (.cells #[.bool false, .slice none 0 0] 79) = Wn at *
        have HGsm : Hid (w.heap.size ≤ uA.heap.size) := hbw.size
        have hbu' := Below.on hbu hbn
        clear hbu
        have hbu := hbu'
        clear hbu'
        replace Xa : Hid _ := Xa.out.below hbn
        replace Xb : Hid _ := Xb.out.below hbn
        replace Xr : Hid _ := Xr.out.below hbn
        replace YA : Hid _ := YA.out.below hbn
        replace hbw := Below.on hbw hbn
        clear hbn
        generalize uA.heap.size = gsm at *
        have Xsm := Xsm0
        clear Xsm0
        refine hK _ _ ⟨Xa.out.c0, Xa.out.c1, Xa.out.c2, Xb.out.c0, Xb.out.c1, Xb.out.c2⟩ ?_
        clear hK
        refine wpJ_on 7 rfl fun KJ hK => ?_
        go_simp
        refine (rshl04 tA YA.out (by have h1 := HLA.out; have h2 := HC.out; omega) ka (.inl HKA.out.2.2.1)).mono ?_
        rintro e9 uB ⟨v, rfl, hv, hbB⟩
        obtain ⟨tB, kB, nB, rfl, hgB, hzB, hlB⟩ := hv
        skip
        have hbu' := Below.on hbu hbB
        clear hbu
        have hbu := hbu'
        clear hbu'
        replace Xa : Hid _ := Xa.out.below hbB
        replace Xb : Hid _ := Xb.out.below hbB
        replace Xr : Hid _ := Xr.out.below hbB
        replace Xsm : Hid _ := Xsm.out.below hbB
        replace YA : Hid _ := YA.out.below hbB
        replace hbw := Below.on hbw hbB
        clear hbB
        have YB : Hid (ZR uB tB (some ⟨kB, 0, none⟩) nB (iv s (valB B64 xs) * 2 ^ ka)) := hzB
        have HLB : Hid (nB ≤ 40000) := hlB
        clear hzB hlB hgB
        clear YA
        refine hK _ _ ⟨Xa.out.c0, Xa.out.c1, Xa.out.c2, Xb.out.c0, Xb.out.c1, Xb.out.c2⟩ ?_
        clear hK
        refine wpJ_on 10 rfl fun KJ hK => ?_
        go_simp
        refine (rfrom5 t (KU.out.below hbu) (by have := HC.out; omega)).mono ?_
        rintro e9 uC ⟨tC, pC, nC, rfl, hzC, hlC, hbC⟩
        have hbu' := Below.on hbu hbC
        clear hbu
        have hbu := hbu'
        clear hbu'
        replace Xa : Hid _ := Xa.out.below hbC
        replace Xb : Hid _ := Xb.out.below hbC
        replace Xr : Hid _ := Xr.out.below hbC
        replace Xsm : Hid _ := Xsm.out.below hbC
        replace YB : Hid _ := YB.out.below hbC
        replace hbw := Below.on hbw hbC
        clear hbC
        have YC : Hid (ZR uC tC pC nC (iv t (valB B64 ys))) := hzC
        have HLC : Hid (nC ≤ 2 * n) := hlC
        clear hzC hlC
        refine hK _ _ ⟨Xa.out.c0, Xa.out.c1, Xa.out.c2, Xb.out.c0, Xb.out.c1, Xb.out.c2⟩ ?_
        clear hK
        refine wpJ_on 15 rfl fun KJ hK => ?_
        go_simp
        refine (rshl04 tC YC.out (by have h1 := HLC.out; have h2 := HC.out; omega) kb (.inl HKA.out.2.2.2)).mono ?_
        rintro e9 uD ⟨v, rfl, hv, hbD⟩
        obtain ⟨tD, kD, nD, rfl, hgD, hzD, hlD⟩ := hv
        skip
        have hbu' := Below.on hbu hbD
        clear hbu
        have hbu := hbu'
        clear hbu'
        replace Xa : Hid _ := Xa.out.below hbD
        replace Xb : Hid _ := Xb.out.below hbD
        replace Xr : Hid _ := Xr.out.below hbD
        replace Xsm : Hid _ := Xsm.out.below hbD
        replace YB : Hid _ := YB.out.below hbD
        replace YC : Hid _ := YC.out.below hbD
        replace hbw := Below.on hbw hbD
        clear hbD
        have YD : Hid (ZR uD tD (some ⟨kD, 0, none⟩) nD (iv t (valB B64 ys) * 2 ^ kb)) := hzD
        have HLD : Hid (nD ≤ 40000) := hlD
        clear hzD hlD hgD
        clear YC
        refine hK _ _ ⟨Xa.out.c0, Xa.out.c1, Xa.out.c2, Xb.out.c0, Xb.out.c1, Xb.out.c2⟩ ?_
        clear hK
        refine wpJ_on 16 rfl fun KJ hK => ?_
        go_simp
        have HLT : Hid (gsm < uD.heap.size) := Xsm.out.lt
        refine (radd04 tB tD YB.out YD.out (by have := HLB.out; omega) (by have := HLD.out; omega)).mono ?_
        rintro e9 uF ⟨v, rfl, hv, hbF⟩
        obtain ⟨tF, kF, nF, rfl, hgF, hzF, hlF⟩ := hv
        have HGB : Hid (uD.heap.size ≤ kF) := hgF
        have hbu' := Below.on hbu hbF
        clear hbu
        have hbu := hbu'
        clear hbu'
        replace Xa : Hid _ := Xa.out.below hbF
        replace Xb : Hid _ := Xb.out.below hbF
        replace Xr : Hid _ := Xr.out.below hbF
        replace Xsm : Hid _ := Xsm.out.below hbF
        replace YB : Hid _ := YB.out.below hbF
        replace YD : Hid _ := YD.out.below hbF
        replace hbw := Below.on hbw hbF
        clear hbF
        have RR : Hid (ZR uF tF (some ⟨kF, 0, none⟩) nF (iv s (valB B64 xs) * 2 ^ ka + iv t (valB B64 ys) * 2 ^ kb)) := hzF
        have HLF : Hid (nF ≤ max nB nD + 1) := hlF
        clear hzF hlF hgF
        clear YB
        clear YD
        have HNF : Hid (nF ≤ 40001) := by have h1 := HLB.out; have h2 := HLD.out; have h3 := HLF.out; show _ ≤ _; omega
        have HNE : Hid (kF ≠ gsm) := by have h1 := HLT.out; have h2 := HGB.out; show _ ≠ _; omega
        refine hK _ _ ⟨Xa.out.c0, Xa.out.c1, Xa.out.c2, Xb.out.c0, Xb.out.c1, Xb.out.c2⟩ ?_
        clear hK
        obtain ⟨csm0, csm1, fsm0, fsm1⟩ := Xsm.out
        have hnesm := Xsm.out.lt
        obtain ⟨ca0, ca1, ca2, fa0, fa1, fa2⟩ := Xa.out
        have hnea : ga < uF.heap.size := World.block_lt_of_cell? uF _ ca0
        obtain ⟨cb0, cb1, cb2, fb0, fb1, fb2⟩ := Xb.out
        have hneb : gb < uF.heap.size := World.block_lt_of_cell? uF _ cb0
        obtain ⟨cr0, cr1, cr2, fr0, fr1, fr2⟩ := Xr.out
        have hner : gr < uF.heap.size := World.block_lt_of_cell? uF _ cr0
        have qaa : ga ≠ gsm := HDasm.out
        have qba : gsm ≠ ga := fun h => qaa h.symm
        have qab : gb ≠ gsm := HDbsm.out
        have qbb : gsm ≠ gb := fun h => qab h.symm
        have qar : gr ≠ gsm := HDrsm.out
        have qbr : gsm ≠ gr := fun h => qar h.symm
        refine wpJ_on 18 rfl fun KJ hK => ?_
        go_simp
        have HJ2 : Hid ((fun W' : World => W'.cell? ⟨ga, 0, none⟩ = some (.bool s) ∧ W'.cell? ⟨ga, 1, none⟩ = some (.slice p m c) ∧ W'.cell? ⟨ga, 2, none⟩ = some (.int .i64 e) ∧ W'.cell? ⟨gb, 0, none⟩ = some (.bool t) ∧ W'.cell? ⟨gb, 1, none⟩ = some (.slice q n d) ∧ W'.cell? ⟨gb, 2, none⟩ = some (.int .i64 f)) ((uF.setCell ⟨gsm, 0, none⟩ (.bool tF)).setCell ⟨gsm, 1, none⟩ (.slice (some ⟨kF, 0, none⟩) nF nF))) := ⟨by go_simp, by go_simp, by go_simp, by go_simp, by go_simp, by go_simp⟩
        have Xsm2 : Hid (Box ((uF.setCell ⟨gsm, 0, none⟩ (.bool tF)).setCell ⟨gsm, 1, none⟩ (.slice (some ⟨kF, 0, none⟩) nF nF)) gsm (.bool tF) (.slice (some ⟨kF, 0, none⟩) nF nF)) := ⟨by go_simp, by go_simp, by go_simp, by go_simp⟩
        have Xa2 : Hid (B3q ((uF.setCell ⟨gsm, 0, none⟩ (.bool tF)).setCell ⟨gsm, 1, none⟩ (.slice (some ⟨kF, 0, none⟩) nF nF)) ga (.bool s) (.slice p m c) (.int .i64 e)) := ⟨by go_simp, by go_simp, by go_simp, by go_simp, by go_simp, by go_simp⟩
        have Xb2 : Hid (B3q ((uF.setCell ⟨gsm, 0, none⟩ (.bool tF)).setCell ⟨gsm, 1, none⟩ (.slice (some ⟨kF, 0, none⟩) nF nF)) gb (.bool t) (.slice q n d) (.int .i64 f)) := ⟨by go_simp, by go_simp, by go_simp, by go_simp, by go_simp, by go_simp⟩
        have Xr2 : Hid (B3q ((uF.setCell ⟨gsm, 0, none⟩ (.bool tF)).setCell ⟨gsm, 1, none⟩ (.slice (some ⟨kF, 0, none⟩) nF nF)) gr (.bool false) (.slice none 0 0) (.int .i64 0)) := ⟨by go_simp, by go_simp, by go_simp, by go_simp, by go_simp, by go_simp⟩
        have RR2 : Hid (ZR ((uF.setCell ⟨gsm, 0, none⟩ (.bool tF)).setCell ⟨gsm, 1, none⟩ (.slice (some ⟨kF, 0, none⟩) nF nF)) tF (some ⟨kF, 0, none⟩) nF (iv s (valB B64 xs) * 2 ^ ka + iv t (valB B64 ys) * 2 ^ kb)) := (RR.out.set _ _ _ HNE.out).set _ _ _ HNE.out
        have hbu2 : Below v6.heap.size v6 ((uF.setCell ⟨gsm, 0, none⟩ (.bool tF)).setCell ⟨gsm, 1, none⟩ (.slice (some ⟨kF, 0, none⟩) nF nF)) := bSet (bSet hbu _ _ _ HGU.out) _ _ _ HGU.out
        have hbw2 : Below w.heap.size w ((uF.setCell ⟨gsm, 0, none⟩ (.bool tF)).setCell ⟨gsm, 1, none⟩ (.slice (some ⟨kF, 0, none⟩) nF nF)) := bSet (bSet hbw _ _ _ HGsm.out) _ _ _ HGsm.out
        refine hK _ _ HJ2.out ?_
        clear hK HJ
        have HJ := HJ2
        clear HJ2
        refine wpJ_done (by kernel_rfl) ?_ _
        exact ⟨rfl, HRQ.out _ _ _ ⟨gsm, tA, pA, nA, tB, kB, nB, tC, pC, nC, tD, kD, nD, tF, kF, nF, by kernel_rfl, Xsm2.out, Xa2.out, Xb2.out, Xr2.out, RR2.out, HGsm.out, HDasm.out, HDbsm.out, HDrsm.out, HNF.out, hbu2, hbw2⟩⟩
    · go_simp
      have HDasm : Hid (ga ≠ Wr.heap.size) := Nat.ne_of_lt Xa.out.lt
      have HDbsm : Hid (gb ≠ Wr.heap.size) := Nat.ne_of_lt Xb.out.lt
      have HDrsm : Hid (gr ≠ Wr.heap.size) := Nat.ne_of_lt Xr.out.lt
      have HGU : Hid (v6.heap.size ≤ Wr.heap.size) := hbu.size
      have Xsm0 : Hid (Box (Wr.alloc (.cells #[.bool false, .slice none 0 0] 79)) Wr.heap.size (.bool false) (.slice none 0 0)) := Box.new Wr _ _ _
      have hbn : Below Wr.heap.size Wr (Wr.alloc (.cells #[.bool false, .slice none 0 0] 79)) := below1 Wr _
      generalize Wr.alloc (.cells #[.bool false, .slice none 0 0] 79) = Wn at *
      have HGsm : Hid (w.heap.size ≤ Wr.heap.size) := hbw.size
      have hbu' := Below.on hbu hbn
      clear hbu
      have hbu := hbu'
      clear hbu'
      replace Xa : Hid _ := Xa.out.below hbn
      replace Xb : Hid _ := Xb.out.below hbn
      replace Xr : Hid _ := Xr.out.below hbn
      replace hbw := Below.on hbw hbn
      clear hbn
      generalize Wr.heap.size = gsm at *
      have Xsm := Xsm0
      clear Xsm0
      refine hK _ _ ⟨Xa.out.c0, Xa.out.c1, Xa.out.c2, Xb.out.c0, Xb.out.c1, Xb.out.c2⟩ ?_
      clear hK
      refine wpJ_on 2 rfl fun KJ hK => ?_
      go_simp
      refine (rfrom5 s (HU.out.below hbu) (by have := HC.out; omega)).mono ?_
      rintro e9 uA ⟨tA, pA, nA, rfl, hzA, hlA, hbA⟩
      have hbu' := Below.on hbu hbA
      clear hbu
      have hbu := hbu'
      clear hbu'
      replace Xa : Hid _ := Xa.out.below hbA
      replace Xb : Hid _ := Xb.out.below hbA
      replace Xr : Hid _ := Xr.out.below hbA
      replace Xsm : Hid _ := Xsm.out.below hbA
      replace hbw := Below.on hbw hbA
      clear hbA
      have YA : Hid (ZR uA tA pA nA (iv s (valB B64 xs))) := hzA
      have HLA : Hid (nA ≤ 2 * m) := hlA
      clear hzA hlA
      refine hK _ _ ⟨Xa.out.c0, Xa.out.c1, Xa.out.c2, Xb.out.c0, Xb.out.c1, Xb.out.c2⟩ ?_
      clear hK
      refine wpJ_on 7 rfl fun KJ hK => ?_
      go_simp
      refine (rshl04 tA YA.out (by have h1 := HLA.out; have h2 := HC.out; omega) ka (.inl HKA.out.2.2.1)).mono ?_
      rintro e9 uB ⟨v, rfl, hv, hbB⟩
      obtain ⟨tB, kB, nB, rfl, hgB, hzB, hlB⟩ := hv
      skip
      have hbu' := Below.on hbu hbB
      clear hbu
      have hbu := hbu'
      clear hbu'
      replace Xa : Hid _ := Xa.out.below hbB
      replace Xb : Hid _ := Xb.out.below hbB
      replace Xr : Hid _ := Xr.out.below hbB
      replace Xsm : Hid _ := Xsm.out.below hbB
      replace YA : Hid _ := YA.out.below hbB
      replace hbw := Below.on hbw hbB
      clear hbB
      have YB : Hid (ZR uB tB (some ⟨kB, 0, none⟩) nB (iv s (valB B64 xs) * 2 ^ ka)) := hzB
      have HLB : Hid (nB ≤ 40000) := hlB
      clear hzB hlB hgB
      clear YA
      refine hK _ _ ⟨Xa.out.c0, Xa.out.c1, Xa.out.c2, Xb.out.c0, Xb.out.c1, Xb.out.c2⟩ ?_
      clear hK
      refine wpJ_on 10 rfl fun KJ hK => ?_
      go_simp
      refine (rfrom5 t (KU.out.below hbu) (by have := HC.out; omega)).mono ?_
      rintro e9 uC ⟨tC, pC, nC, rfl, hzC, hlC, hbC⟩
      have hbu' := Below.on hbu hbC
      clear hbu
      have hbu := hbu'
      clear hbu'
      replace Xa : Hid _ := Xa.out.below hbC
      replace Xb : Hid _ := Xb.out.below hbC
      replace Xr : Hid _ := Xr.out.below hbC
      replace Xsm : Hid _ := Xsm.out.below hbC
      replace YB : Hid _ := YB.out.below hbC
      replace hbw := Below.on hbw hbC
      clear hbC
      have YC : Hid (ZR uC tC pC nC (iv t (valB B64 ys))) := hzC
      have HLC : Hid (nC ≤ 2 * n) := hlC
      clear hzC hlC
      refine hK _ _ ⟨Xa.out.c0, Xa.out.c1, Xa.out.c2, Xb.out.c0, Xb.out.c1, Xb.out.c2⟩ ?_
      clear hK
      refine wpJ_on 15 rfl fun KJ hK => ?_
      go_simp
      refine (rshl04 tC YC.out (by have h1 := HLC.out; have h2 := HC.out; omega) kb (.inl HKA.out.2.2.2)).mono ?_
      rintro e9 uD ⟨v, rfl, hv, hbD⟩
      obtain ⟨tD, kD, nD, rfl, hgD, hzD, hlD⟩ := hv
      skip
      have hbu' := Below.on hbu hbD
      clear hbu
      have hbu := hbu'
      clear hbu'
      replace Xa : Hid _ := Xa.out.below hbD
      replace Xb : Hid _ := Xb.out.below hbD
      replace Xr : Hid _ := Xr.out.below hbD
      replace Xsm : Hid _ := Xsm.out.below hbD
      replace YB : Hid _ := YB.out.below hbD
      replace YC : Hid _ := YC.out.below hbD
      replace hbw := Below.on hbw hbD
      clear hbD
      have YD : Hid (ZR uD tD (some ⟨kD, 0, none⟩) nD (iv t (valB B64 ys) * 2 ^ kb)) := hzD
      have HLD : Hid (nD ≤ 40000) := hlD
      clear hzD hlD hgD
      clear YC
      refine hK _ _ ⟨Xa.out.c0, Xa.out.c1, Xa.out.c2, Xb.out.c0, Xb.out.c1, Xb.out.c2⟩ ?_
      clear hK
      refine wpJ_on 16 rfl fun KJ hK => ?_
      go_simp
      have HLT : Hid (gsm < uD.heap.size) := Xsm.out.lt
      refine (radd04 tB tD YB.out YD.out (by have := HLB.out; omega) (by have := HLD.out; omega)).mono ?_
      rintro e9 uF ⟨v, rfl, hv, hbF⟩
      obtain ⟨tF, kF, nF, rfl, hgF, hzF, hlF⟩ := hv
      have HGB : Hid (uD.heap.size ≤ kF) := hgF
      have hbu' := Below.on hbu hbF
      clear hbu
      have hbu := hbu'
      clear hbu'
      replace Xa : Hid _ := Xa.out.below hbF
      replace Xb : Hid _ := Xb.out.below hbF
      replace Xr : Hid _ := Xr.out.below hbF
      replace Xsm : Hid _ := Xsm.out.below hbF
      replace YB : Hid _ := YB.out.below hbF
      replace YD : Hid _ := YD.out.below hbF
      replace hbw := Below.on hbw hbF
      clear hbF
      have RR : Hid (ZR uF tF (some ⟨kF, 0, none⟩) nF (iv s (valB B64 xs) * 2 ^ ka + iv t (valB B64 ys) * 2 ^ kb)) := hzF
      have HLF : Hid (nF ≤ max nB nD + 1) := hlF
      clear hzF hlF hgF
      clear YB
      clear YD
      have HNF : Hid (nF ≤ 40001) := by have h1 := HLB.out; have h2 := HLD.out; have h3 := HLF.out; show _ ≤ _; omega
      have HNE : Hid (kF ≠ gsm) := by have h1 := HLT.out; have h2 := HGB.out; show _ ≠ _; omega
      refine hK _ _ ⟨Xa.out.c0, Xa.out.c1, Xa.out.c2, Xb.out.c0, Xb.out.c1, Xb.out.c2⟩ ?_
      clear hK
      obtain ⟨csm0, csm1, fsm0, fsm1⟩ := Xsm.out
      have hnesm := Xsm.out.lt
      obtain ⟨ca0, ca1, ca2, fa0, fa1, fa2⟩ := Xa.out
      have hnea : ga < uF.heap.size := World.block_lt_of_cell? uF _ ca0
      obtain ⟨cb0, cb1, cb2, fb0, fb1, fb2⟩ := Xb.out
      have hneb : gb < uF.heap.size := World.block_lt_of_cell? uF _ cb0
      obtain ⟨cr0, cr1, cr2, fr0, fr1, fr2⟩ := Xr.out
      have hner : gr < uF.heap.size := World.block_lt_of_cell? uF _ cr0
      have qaa : ga ≠ gsm := HDasm.out
      have qba : gsm ≠ ga := fun h => qaa h.symm
      have qab : gb ≠ gsm := HDbsm.out
      have qbb : gsm ≠ gb := fun h => qab h.symm
      have qar : gr ≠ gsm := HDrsm.out
      have qbr : gsm ≠ gr := fun h => qar h.symm
      refine wpJ_on 18 rfl fun KJ hK => ?_
      go_simp
      have HJ2 : Hid ((fun W' : World => W'.cell? ⟨ga, 0, none⟩ = some (.bool s) ∧ W'.cell? ⟨ga, 1, none⟩ = some (.slice p m c) ∧ W'.cell? ⟨ga, 2, none⟩ = some (.int .i64 e) ∧ W'.cell? ⟨gb, 0, none⟩ = some (.bool t) ∧ W'.cell? ⟨gb, 1, none⟩ = some (.slice q n d) ∧ W'.cell? ⟨gb, 2, none⟩ = some (.int .i64 f)) ((uF.setCell ⟨gsm, 0, none⟩ (.bool tF)).setCell ⟨gsm, 1, none⟩ (.slice (some ⟨kF, 0, none⟩) nF nF))) := ⟨by go_simp, by go_simp, by go_simp, by go_simp, by go_simp, by go_simp⟩
      have Xsm2 : Hid (Box ((uF.setCell ⟨gsm, 0, none⟩ (.bool tF)).setCell ⟨gsm, 1, none⟩ (.slice (some ⟨kF, 0, none⟩) nF nF)) gsm (.bool tF) (.slice (some ⟨kF, 0, none⟩) nF nF)) := ⟨by go_simp, by go_simp, by go_simp, by go_simp⟩
      have Xa2 : Hid (B3q ((uF.setCell ⟨gsm, 0, none⟩ (.bool tF)).setCell ⟨gsm, 1, none⟩ (.slice (some ⟨kF, 0, none⟩) nF nF)) ga (.bool s) (.slice p m c) (.int .i64 e)) := ⟨by go_simp, by go_simp, by go_simp, by go_simp, by go_simp, by go_simp⟩
      have Xb2 : Hid (B3q ((uF.setCell ⟨gsm, 0, none⟩ (.bool tF)).setCell ⟨gsm, 1, none⟩ (.slice (some ⟨kF, 0, none⟩) nF nF)) gb (.bool t) (.slice q n d) (.int .i64 f)) := ⟨by go_simp, by go_simp, by go_simp, by go_simp, by go_simp, by go_simp⟩
      have Xr2 : Hid (B3q ((uF.setCell ⟨gsm, 0, none⟩ (.bool tF)).setCell ⟨gsm, 1, none⟩ (.slice (some ⟨kF, 0, none⟩) nF nF)) gr (.bool false) (.slice none 0 0) (.int .i64 0)) := ⟨by go_simp, by go_simp, by go_simp, by go_simp, by go_simp, by go_simp⟩
      have RR2 : Hid (ZR ((uF.setCell ⟨gsm, 0, none⟩ (.bool tF)).setCell ⟨gsm, 1, none⟩ (.slice (some ⟨kF, 0, none⟩) nF nF)) tF (some ⟨kF, 0, none⟩) nF (iv s (valB B64 xs) * 2 ^ ka + iv t (valB B64 ys) * 2 ^ kb)) := (RR.out.set _ _ _ HNE.out).set _ _ _ HNE.out
      have hbu2 : Below v6.heap.size v6 ((uF.setCell ⟨gsm, 0, none⟩ (.bool tF)).setCell ⟨gsm, 1, none⟩ (.slice (some ⟨kF, 0, none⟩) nF nF)) := bSet (bSet hbu _ _ _ HGU.out) _ _ _ HGU.out
      have hbw2 : Below w.heap.size w ((uF.setCell ⟨gsm, 0, none⟩ (.bool tF)).setCell ⟨gsm, 1, none⟩ (.slice (some ⟨kF, 0, none⟩) nF nF)) := bSet (bSet hbw _ _ _ HGsm.out) _ _ _ HGsm.out
      refine hK _ _ HJ2.out ?_
      clear hK HJ
      have HJ := HJ2
      clear HJ2
      refine wpJ_done (by kernel_rfl) ?_ _
      exact ⟨rfl, HRQ.out _ _ _ ⟨gsm, tA, pA, nA, tB, kB, nB, tC, pC, nC, tD, kD, nD, tF, kF, nF, by kernel_rfl, Xsm2.out, Xa2.out, Xb2.out, Xr2.out, RR2.out, HGsm.out, HDasm.out, HDbsm.out, HDrsm.out, HNF.out, hbu2, hbw2⟩⟩
theorem docadd_s {p q : Option Addr} {m c n d : Nat} {xs ys : List Nat} {w : World} {e f : Int} {s t : Bool} (h : At w p m c xs) (k : At w q n d ys) (h1 : formD s xs e = true) (h2 : formD t ys f = true) (h3 : 0 < m) (h4 : 0 < n) (h5 : m ≤ 8192) (h6 : n ≤ 8192) (h7 : (¬ 524288 ≤ topI (iv s (valB B64 xs)) e - min e f)) (h8 : (¬ 524288 ≤ topI (iv t (valB B64 ys)) f - min e f)) (h9 : (LIM ≤ (shX (iv s (valB B64 xs)) e f + shX (iv t (valB B64 ys)) f e).natAbs)) :
    Calls Tryz.prog 80 #[DV s p m c e, DV t q n d f] w fun en w' => en = .returned (.tuple #[DV false none 0 0 0, .int .i64 5]) ∧ Below w.heap.size w w' := by
  have H : Hid (At w p m c xs) := h
  have K : Hid (At w q n d ys) := k
  have HC : Hid (formD s xs e = true ∧ formD t ys f = true ∧ 0 < m ∧ 0 < n ∧ m ≤ 8192 ∧ n ≤ 8192 ∧ (¬ 524288 ≤ topI (iv s (valB B64 xs)) e - min e f) ∧ (¬ 524288 ≤ topI (iv t (valB B64 ys)) f - min e f) ∧ (LIM ≤ (shX (iv s (valB B64 xs)) e f + shX (iv t (valB B64 ys)) f e).natAbs)) := ⟨h1, h2, h3, h4, h5, h6, h7, h8, h9⟩
  clear h k h1 h2 h3 h4 h5 h6 h7 h8 h9
  obtain ⟨ta, hta⟩ : ∃ k, k = topI (iv s (valB B64 xs)) e := ⟨_, rfl⟩
  obtain ⟨tb, htb⟩ : ∃ k, k = topI (iv t (valB B64 ys)) f := ⟨_, rfl⟩
  obtain ⟨g, hg⟩ : ∃ k, k = min e f := ⟨_, rfl⟩
  have hgm : min e f = g := hg.symm
  have hee := top_bounds (formD_dn H.out HC.out.1)
  have hff := top_bounds (formD_dn K.out HC.out.2.1)
  rw [← hta] at hee
  rw [← htb] at hff
  have c1 : ¬ 524288 ≤ ta - g := by rw [hta, hg]; exact HC.out.2.2.2.2.2.2.1
  have c2 : ¬ 524288 ≤ tb - g := by rw [htb, hg]; exact HC.out.2.2.2.2.2.2.2.1
  have w1 : wrap64 (ta - g) = ta - g := by simp only [wrap64]; omega
  have w2 : wrap64 (tb - g) = tb - g := by simp only [wrap64]; omega
  obtain ⟨ka, hka⟩ : ∃ k : Nat, k = (e - min e f).toNat := ⟨_, rfl⟩
  obtain ⟨kb, hkb⟩ : ∃ k : Nat, k = (f - min f e).toNat := ⟨_, rfl⟩
  have w3 : wrap64 (e - g) = (ka : Int) := by simp only [wrap64]; omega
  have w4 : wrap64 (f - g) = (kb : Int) := by simp only [wrap64]; omega
  have w5 : IntKind.i64.wrap (e - g) = (ka : Int) := by simp [IntKind.wrap, IntKind.signed, IntKind.bits]; omega
  have w6 : IntKind.i64.wrap (f - g) = (kb : Int) := by simp [IntKind.wrap, IntKind.signed, IntKind.bits]; omega
  have HTA : Hid (ta = topI (iv s (valB B64 xs)) e) := hta
  have HTB : Hid (tb = topI (iv t (valB B64 ys)) f) := htb
  have HKA : Hid (ka = (e - min e f).toNat ∧ kb = (f - min f e).toNat ∧ ka ≤ 524288 ∧ kb ≤ 524288) := ⟨hka, hkb, by have := top_ge (formD_dn H.out HC.out.1) HC.out.2.2.1; rw [← hta] at this; omega, by have := top_ge (formD_dn K.out HC.out.2.1) HC.out.2.2.2.1; rw [← htb] at this; omega⟩
  have HG : Hid (g = min e f) := hg
  clear hta htb hg hee hff hka hkb
  have hsh : iv s (valB B64 xs) * 2 ^ ka + iv t (valB B64 ys) * 2 ^ kb = shX (iv s (valB B64 xs)) e f + shX (iv t (valB B64 ys)) f e := by unfold shX; rw [← HKA.out.1, ← HKA.out.2.1]
  obtain ⟨bz, hbz⟩ : ∃ b, b = bitsN (iv s (valB B64 xs) * 2 ^ ka + iv t (valB B64 ys) * 2 ^ kb).natAbs := ⟨_, rfl⟩
  have hb9 : 524288 < bz := by rw [hbz, hsh]; exact lim_bits2 HC.out.2.2.2.2.2.2.2.2
  have d9 : decide (524288 < (bz : Int)) = true := decide_eq_true (by omega)
  have HBZ : Hid (bz = bitsN (iv s (valB B64 xs) * 2 ^ ka + iv t (valB B64 ys) * 2 ^ kb).natAbs ∧ iv s (valB B64 xs) * 2 ^ ka + iv t (valB B64 ys) * 2 ^ kb = shX (iv s (valB B64 xs)) e f + shX (iv t (valB B64 ys)) f e) := ⟨hbz, hsh⟩
  clear hbz hsh hb9
  go_enter Tryz.func80, Tryz.ntmps80
  go_wp2_with fail
  obtain ⟨W0, hW0⟩ : ∃ W0, W0 = (((w.alloc (.cells #[.bool s, .slice p m c, .int .i64 e] 30)).alloc (.cells #[.bool t, .slice q n d, .int .i64 f] 30)).alloc (.cells #[.bool false, .slice none 0 0, .int .i64 0] 30)) := ⟨_, rfl⟩
  have Xa : Hid (B3q W0 (w.heap.size) (.bool s) (.slice p m c) (.int .i64 e)) := by rw [hW0]; exact ⟨by go_simp, by go_simp, by go_simp, by go_simp, by go_simp, by go_simp⟩
  have Xb : Hid (B3q W0 (w.heap.size + 1) (.bool t) (.slice q n d) (.int .i64 f)) := by rw [hW0]; exact ⟨by go_simp, by go_simp, by go_simp, by go_simp, by go_simp, by go_simp⟩
  have Xr : Hid (B3q W0 (w.heap.size + 1 + 1) (.bool false) (.slice none 0 0) (.int .i64 0)) := by rw [hW0]; exact ⟨by go_simp, by go_simp, by go_simp, by go_simp, by go_simp, by go_simp⟩
  have hb0 : Below w.heap.size w W0 := by rw [hW0]; exact below3 w _ _ _
  rw [← hW0]
  clear hW0
  have hbw : Below w.heap.size w w := Below.refl _ _
  obtain ⟨gr, hgr⟩ : ∃ g, g = w.heap.size + 1 + 1 := ⟨_, rfl⟩
  have HGr : Hid (w.heap.size ≤ gr) := by rw [hgr]; show _ ≤ _; omega
  rw [← hgr] at Xr
  try rw [← hgr]
  obtain ⟨gb, hgb⟩ : ∃ g, g = w.heap.size + 1 := ⟨_, rfl⟩
  have HGb : Hid (w.heap.size ≤ gb) := by rw [hgb]; show _ ≤ _; omega
  rw [← hgb] at Xb
  try rw [← hgb]
  obtain ⟨ga, hga⟩ : ∃ g, g = w.heap.size := ⟨_, rfl⟩
  have HGa : Hid (w.heap.size ≤ ga) := by rw [hga]; show _ ≤ _; omega
  rw [← hga] at Xa
  try rw [← hga]
  have HGD : Hid (ga ≠ gb ∧ ga ≠ gr ∧ gb ≠ ga ∧ gb ≠ gr ∧ gr ≠ ga ∧ gr ≠ gb) := by rw [hga, hgb, hgr]; exact ⟨by omega, by omega, by omega, by omega, by omega, by omega⟩
  clear hga hgb hgr
  replace H : Hid _ := H.out.below hb0
  replace K : Hid _ := K.out.below hb0
  replace hbw := Below.on hbw hb0
  clear hb0
  refine (docformd s H.out).mono ?_
  rintro e v1 ⟨rfl, hb1⟩
  rw [HC.out.1]
  replace Xa : Hid _ := Xa.out.below hb1
  replace Xb : Hid _ := Xb.out.below hb1
  replace Xr : Hid _ := Xr.out.below hb1
  replace H : Hid _ := H.out.below hb1
  replace K : Hid _ := K.out.below hb1
  replace hbw := Below.on hbw hb1
  clear hb1
  obtain ⟨cb0, cb1, cb2, fb0, fb1, fb2⟩ := Xb.out
  have hneb : gb < v1.heap.size := World.block_lt_of_cell? v1 _ cb0
  go_wp2_with fail
  clear cb0 cb1 cb2 fb0 fb1 fb2 hneb
  refine (docformd t K.out).mono ?_
  rintro e v2 ⟨rfl, hb2⟩
  rw [HC.out.2.1]
  replace Xa : Hid _ := Xa.out.below hb2
  replace Xb : Hid _ := Xb.out.below hb2
  replace Xr : Hid _ := Xr.out.below hb2
  replace H : Hid _ := H.out.below hb2
  replace K : Hid _ := K.out.below hb2
  replace hbw := Below.on hbw hb2
  clear hb2
  obtain ⟨ca0, ca1, ca2, fa0, fa1, fa2⟩ := Xa.out
  have hnea : ga < v2.heap.size := World.block_lt_of_cell? v2 _ ca0
  go_wp2_with fail
  clear ca0 ca1 ca2 fa0 fa1 fa2 hnea
  refine (nought5 HC.out.2.2.1).mono ?_
  rintro e v3 ⟨rfl, hb3⟩
  replace Xa : Hid _ := Xa.out.below hb3
  replace Xb : Hid _ := Xb.out.below hb3
  replace Xr : Hid _ := Xr.out.below hb3
  replace H : Hid _ := H.out.below hb3
  replace K : Hid _ := K.out.below hb3
  replace hbw := Below.on hbw hb3
  clear hb3
  obtain ⟨cb0, cb1, cb2, fb0, fb1, fb2⟩ := Xb.out
  have hneb : gb < v3.heap.size := World.block_lt_of_cell? v3 _ cb0
  go_wp2_with fail
  clear cb0 cb1 cb2 fb0 fb1 fb2 hneb
  refine (nought5 HC.out.2.2.2.1).mono ?_
  rintro e v4 ⟨rfl, hb4⟩
  replace Xa : Hid _ := Xa.out.below hb4
  replace Xb : Hid _ := Xb.out.below hb4
  replace Xr : Hid _ := Xr.out.below hb4
  replace H : Hid _ := H.out.below hb4
  replace K : Hid _ := K.out.below hb4
  replace hbw := Below.on hbw hb4
  clear hb4
  obtain ⟨ca0, ca1, ca2, fa0, fa1, fa2⟩ := Xa.out
  have hnea : ga < v4.heap.size := World.block_lt_of_cell? v4 _ ca0
  obtain ⟨cb0, cb1, cb2, fb0, fb1, fb2⟩ := Xb.out
  have hneb : gb < v4.heap.size := World.block_lt_of_cell? v4 _ cb0
  go_wp2_with fail
  clear ca0 ca1 ca2 fa0 fa1 fa2 hnea
  clear cb0 cb1 cb2 fb0 fb1 fb2 hneb
  refine (topR (formD_dn H.out HC.out.1)).mono ?_
  rintro e v5 ⟨rfl, hb5⟩
  rw [← HTA.out]
  replace Xa : Hid _ := Xa.out.below hb5
  replace Xb : Hid _ := Xb.out.below hb5
  replace Xr : Hid _ := Xr.out.below hb5
  replace H : Hid _ := H.out.below hb5
  replace K : Hid _ := K.out.below hb5
  replace hbw := Below.on hbw hb5
  clear hb5
  obtain ⟨cb0, cb1, cb2, fb0, fb1, fb2⟩ := Xb.out
  have hneb : gb < v5.heap.size := World.block_lt_of_cell? v5 _ cb0
  go_wp2_with fail
  clear cb0 cb1 cb2 fb0 fb1 fb2 hneb
  refine (topR (formD_dn K.out HC.out.2.1)).mono ?_
  rintro e v6 ⟨rfl, hb6⟩
  rw [← HTB.out]
  replace Xa : Hid _ := Xa.out.below hb6
  replace Xb : Hid _ := Xb.out.below hb6
  replace Xr : Hid _ := Xr.out.below hb6
  replace H : Hid _ := H.out.below hb6
  replace K : Hid _ := K.out.below hb6
  replace hbw := Below.on hbw hb6
  clear hb6
  obtain ⟨ca0, ca1, ca2, fa0, fa1, fa2⟩ := Xa.out
  have hnea : ga < v6.heap.size := World.block_lt_of_cell? v6 _ ca0
  obtain ⟨cb0, cb1, cb2, fb0, fb1, fb2⟩ := Xb.out
  have hneb : gb < v6.heap.size := World.block_lt_of_cell? v6 _ cb0
  go_wp2_with fail
  clear ca0 ca1 ca2 fa0 fa1 fa2 hnea
  clear cb0 cb1 cb2 fb0 fb1 fb2 hneb
  have HU : Hid (At v6 p m c xs) := H.out
  have KU : Hid (At v6 q n d ys) := K.out
  have hbu : Below v6.heap.size v6 v6 := Below.refl _ _
  clear H
  clear K
  obtain ⟨Wr, hWr⟩ : ∃ W1, W1 = v6.drew := ⟨_, rfl⟩
  have hbd : Below v6.heap.size v6 Wr := by rw [hWr]; exact bDrew1 (Below.refl _ _)
  have hbu' := Below.on hbu hbd
  clear hbu
  have hbu := hbu'
  clear hbu'
  replace Xa : Hid _ := Xa.out.below hbd
  replace Xb : Hid _ := Xb.out.below hbd
  replace Xr : Hid _ := Xr.out.below hbd
  replace hbw := Below.on hbw hbd
  clear hbd
  have HJ : Hid ((fun W' : World => W'.cell? ⟨ga, 0, none⟩ = some (.bool s) ∧ W'.cell? ⟨ga, 1, none⟩ = some (.slice p m c) ∧ W'.cell? ⟨ga, 2, none⟩ = some (.int .i64 e) ∧ W'.cell? ⟨gb, 0, none⟩ = some (.bool t) ∧ W'.cell? ⟨gb, 1, none⟩ = some (.slice q n d) ∧ W'.cell? ⟨gb, 2, none⟩ = some (.int .i64 f)) Wr) := ⟨Xa.out.c0, Xa.out.c1, Xa.out.c2, Xb.out.c0, Xb.out.c1, Xb.out.c2⟩
  refine wp_region_J (fun W' => W'.cell? ⟨ga, 0, none⟩ = some (.bool s) ∧ W'.cell? ⟨ga, 1, none⟩ = some (.slice p m c) ∧ W'.cell? ⟨ga, 2, none⟩ = some (.int .i64 e) ∧ W'.cell? ⟨gb, 0, none⟩ = some (.bool t) ∧ W'.cell? ⟨gb, 1, none⟩ = some (.slice q n d) ∧ W'.cell? ⟨gb, 2, none⟩ = some (.int .i64 f)) (by kernel_rfl) ?_
  rw [← hWr]
  clear hWr
  refine wpJ_tq 0 rfl HJ.out ?_
  refine wpJ_tq 1 rfl HJ.out ?_
  refine wpJ_tq 3 rfl HJ.out ?_
  refine wpJ_tq 4 rfl HJ.out ?_
  refine wpJ_tq 5 rfl HJ.out ?_
  go_simp
  refine wpJ_tq 6 rfl HJ.out ?_
  refine wpJ_tq 8 rfl HJ.out ?_
  refine wpJ_tq 9 rfl HJ.out ?_
  refine wpJ_tq 11 rfl HJ.out ?_
  go_simp
  refine wpJ_tq 12 rfl HJ.out ?_
  refine wpJ_tq 13 rfl HJ.out ?_
  refine wpJ_tq 14 rfl HJ.out ?_
  obtain ⟨RQ, HRQ, HRP⟩ : ∃ RQ : Act → Act → World → Prop, Hid (∀ a1 a2 a3, (fun a0 a' W' => ∃ gsm tA pA nA tB kB nB tC pC nC tD kD nD tF kF nF, a' = ((((((a0.put (some 45) (.agg #[.bool tA, .slice pA nA nA])).put (some 50) (.agg #[.bool tB, .slice (some ⟨kB, 0, none⟩) nB nB])).put (some 53) (.agg #[.bool tC, .slice pC nC nC])).put (some 58) (.agg #[.bool tD, .slice (some ⟨kD, 0, none⟩) nD nD])).put (some 59) (.agg #[.bool tF, .slice (some ⟨kF, 0, none⟩) nF nF])).put (some 7) (.pointer (some ⟨gsm, 0, none⟩))) ∧ Box W' gsm (.bool tF) (.slice (some ⟨kF, 0, none⟩) nF nF) ∧ B3q W' ga (.bool s) (.slice p m c) (.int .i64 e) ∧ B3q W' gb (.bool t) (.slice q n d) (.int .i64 f) ∧ B3q W' gr (.bool false) (.slice none 0 0) (.int .i64 0) ∧ ZR W' tF (some ⟨kF, 0, none⟩) nF (iv s (valB B64 xs) * 2 ^ ka + iv t (valB B64 ys) * 2 ^ kb) ∧ w.heap.size ≤ gsm ∧ ga ≠ gsm ∧ gb ≠ gsm ∧ gr ≠ gsm ∧ (nF ≤ 40001) ∧ Below v6.heap.size v6 W' ∧ Below w.heap.size w W') a1 a2 a3 → RQ a1 a2 a3) ∧ Hid (∀ a1 a2 a3, RQ a1 a2 a3 → (fun a0 a' W' => ∃ gsm tA pA nA tB kB nB tC pC nC tD kD nD tF kF nF, a' = ((((((a0.put (some 45) (.agg #[.bool tA, .slice pA nA nA])).put (some 50) (.agg #[.bool tB, .slice (some ⟨kB, 0, none⟩) nB nB])).put (some 53) (.agg #[.bool tC, .slice pC nC nC])).put (some 58) (.agg #[.bool tD, .slice (some ⟨kD, 0, none⟩) nD nD])).put (some 59) (.agg #[.bool tF, .slice (some ⟨kF, 0, none⟩) nF nF])).put (some 7) (.pointer (some ⟨gsm, 0, none⟩))) ∧ Box W' gsm (.bool tF) (.slice (some ⟨kF, 0, none⟩) nF nF) ∧ B3q W' ga (.bool s) (.slice p m c) (.int .i64 e) ∧ B3q W' gb (.bool t) (.slice q n d) (.int .i64 f) ∧ B3q W' gr (.bool false) (.slice none 0 0) (.int .i64 0) ∧ ZR W' tF (some ⟨kF, 0, none⟩) nF (iv s (valB B64 xs) * 2 ^ ka + iv t (valB B64 ys) * 2 ^ kb) ∧ w.heap.size ≤ gsm ∧ ga ≠ gsm ∧ gb ≠ gsm ∧ gr ≠ gsm ∧ (nF ≤ 40001) ∧ Below v6.heap.size v6 W' ∧ Below w.heap.size w W') a1 a2 a3) := ⟨_, fun _ _ _ h => h, fun _ _ _ h => h⟩
  refine wpJ_cutA RQ ?_ ?_
  · intro a' Wc hrq
    obtain ⟨gsm, tA, pA, nA, tB, kB, nB, tC, pC, nC, tD, kD, nD, tF, kF, nF, rfl, xbQ, xa, xb, xr, rr, hg, hda, hdb, hdr, hHNF, hbuc, hbc⟩ := HRP.out _ _ _ hrq
    clear hrq HRP HRQ
    clear hbw hbu HJ Xa Xb Xr
    have hbw := hbc
    have hbu := hbuc
    have Xsm : Hid (Box Wc gsm (.bool tF) (.slice (some ⟨kF, 0, none⟩) nF nF)) := xbQ
    have Xa : Hid (B3q Wc ga (.bool s) (.slice p m c) (.int .i64 e)) := xa
    have Xb : Hid (B3q Wc gb (.bool t) (.slice q n d) (.int .i64 f)) := xb
    have Xr : Hid (B3q Wc gr (.bool false) (.slice none 0 0) (.int .i64 0)) := xr
    have RR : Hid (ZR Wc tF (some ⟨kF, 0, none⟩) nF (iv s (valB B64 xs) * 2 ^ ka + iv t (valB B64 ys) * 2 ^ kb)) := rr
    have HGsm : Hid (w.heap.size ≤ gsm) := hg
    have HDasm : Hid (ga ≠ gsm) := hda
    have HDbsm : Hid (gb ≠ gsm) := hdb
    have HDrsm : Hid (gr ≠ gsm) := hdr
    have HNF : Hid (nF ≤ 40001) := hHNF
    clear xbQ xa xb xr rr hg hda hdb hdr hHNF hbuc hbc
    clear hbu HU KU
    obtain ⟨csm0, csm1, fsm0, fsm1⟩ := Xsm.out
    have hnesm := Xsm.out.lt
    go_wp2_with fail
    clear csm0 csm1 fsm0 fsm1 hnesm
    obtain ⟨zsF, hAF, hNF⟩ := RR.out.ex
    refine (rbits_any hAF hNF (by have := HNF.out; omega)).mono ?_
    rintro e9 w9 ⟨rfl, hw⟩
    obtain rfl := hw.symm
    clear hw hAF hNF
    rw [← HBZ.out.1]
    obtain ⟨cr0, cr1, cr2, fr0, fr1, fr2⟩ := Xr.out
    have hner : gr < Wc.heap.size := World.block_lt_of_cell? Wc _ cr0
    go_wp2_with fail
    refine bodyPost_ret (v := .tuple #[DV false none 0 0 0, .int .i64 5]) (by rw [results_cell_tmp rfl]; go_simp) rfl ⟨rfl, ?_⟩
    first | exact hbw | exact bSet (bSet (bSet hbw _ _ _ HGr.out) _ _ _ HGr.out) _ _ _ HGr.out | exact Below.on (bSet (bSet (bSet hbw _ _ _ HGr.out) _ _ _ HGr.out) _ _ _ HGr.out) (below1 _ _) | exact Below.on (Below.on (bSet (bSet (bSet hbw _ _ _ HGr.out) _ _ _ HGr.out) _ _ _ HGr.out) (below1 _ _)) (below1 _ _)
  · skip
    refine wpJ_two (i := 2) (k := 17) (by kernel_rfl) rfl rfl (by kernel_rfl) (by kernel_rfl) (fun KJ hK => ?_) (fun KJ hK => ?_)
    · go_simp
      refine (rfrom5 s (HU.out.below hbu) (by have := HC.out; omega)).mono ?_
      rintro e9 uA ⟨tA, pA, nA, rfl, hzA, hlA, hbA⟩
      have hbu' := Below.on hbu hbA
      clear hbu
      have hbu := hbu'
      clear hbu'
      replace Xa : Hid _ := Xa.out.below hbA
      replace Xb : Hid _ := Xb.out.below hbA
      replace Xr : Hid _ := Xr.out.below hbA
      replace hbw := Below.on hbw hbA
      clear hbA
      have YA : Hid (ZR uA tA pA nA (iv s (valB B64 xs))) := hzA
      have HLA : Hid (nA ≤ 2 * m) := hlA
      clear hzA hlA
      clear HJ
      have HJ : Hid ((fun W' : World => W'.cell? ⟨ga, 0, none⟩ = some (.bool s) ∧ W'.cell? ⟨ga, 1, none⟩ = some (.slice p m c) ∧ W'.cell? ⟨ga, 2, none⟩ = some (.int .i64 e) ∧ W'.cell? ⟨gb, 0, none⟩ = some (.bool t) ∧ W'.cell? ⟨gb, 1, none⟩ = some (.slice q n d) ∧ W'.cell? ⟨gb, 2, none⟩ = some (.int .i64 f)) uA) := ⟨Xa.out.c0, Xa.out.c1, Xa.out.c2, Xb.out.c0, Xb.out.c1, Xb.out.c2⟩
      refine hK _ _ HJ.out ?_
      clear hK
      refine wpJ_two (i := 7) (k := 17) (by kernel_rfl) rfl rfl (by kernel_rfl) (by kernel_rfl) (fun KJ hK => ?_) (fun KJ hK => ?_)
      · go_simp
        refine (rshl04 tA YA.out (by have h1 := HLA.out; have h2 := HC.out; omega) ka (.inl HKA.out.2.2.1)).mono ?_
        rintro e9 uB ⟨v, rfl, hv, hbB⟩
        obtain ⟨tB, kB, nB, rfl, hgB, hzB, hlB⟩ := hv
        skip
        have hbu' := Below.on hbu hbB
        clear hbu
        have hbu := hbu'
        clear hbu'
        replace Xa : Hid _ := Xa.out.below hbB
        replace Xb : Hid _ := Xb.out.below hbB
        replace Xr : Hid _ := Xr.out.below hbB
        replace YA : Hid _ := YA.out.below hbB
        replace hbw := Below.on hbw hbB
        clear hbB
        have YB : Hid (ZR uB tB (some ⟨kB, 0, none⟩) nB (iv s (valB B64 xs) * 2 ^ ka)) := hzB
        have HLB : Hid (nB ≤ 40000) := hlB
        clear hzB hlB hgB
        clear YA
        clear HJ
        have HJ : Hid ((fun W' : World => W'.cell? ⟨ga, 0, none⟩ = some (.bool s) ∧ W'.cell? ⟨ga, 1, none⟩ = some (.slice p m c) ∧ W'.cell? ⟨ga, 2, none⟩ = some (.int .i64 e) ∧ W'.cell? ⟨gb, 0, none⟩ = some (.bool t) ∧ W'.cell? ⟨gb, 1, none⟩ = some (.slice q n d) ∧ W'.cell? ⟨gb, 2, none⟩ = some (.int .i64 f)) uB) := ⟨Xa.out.c0, Xa.out.c1, Xa.out.c2, Xb.out.c0, Xb.out.c1, Xb.out.c2⟩
        refine hK _ _ HJ.out ?_
        clear hK
        refine wpJ_two (i := 10) (k := 17) (by kernel_rfl) rfl rfl (by kernel_rfl) (by kernel_rfl) (fun KJ hK => ?_) (fun KJ hK => ?_)
        · go_simp
          refine (rfrom5 t (KU.out.below hbu) (by have := HC.out; omega)).mono ?_
          rintro e9 uC ⟨tC, pC, nC, rfl, hzC, hlC, hbC⟩
          have hbu' := Below.on hbu hbC
          clear hbu
          have hbu := hbu'
          clear hbu'
          replace Xa : Hid _ := Xa.out.below hbC
          replace Xb : Hid _ := Xb.out.below hbC
          replace Xr : Hid _ := Xr.out.below hbC
          replace YB : Hid _ := YB.out.below hbC
          replace hbw := Below.on hbw hbC
          clear hbC
          have YC : Hid (ZR uC tC pC nC (iv t (valB B64 ys))) := hzC
          have HLC : Hid (nC ≤ 2 * n) := hlC
          clear hzC hlC
          clear HJ
          have HJ : Hid ((fun W' : World => W'.cell? ⟨ga, 0, none⟩ = some (.bool s) ∧ W'.cell? ⟨ga, 1, none⟩ = some (.slice p m c) ∧ W'.cell? ⟨ga, 2, none⟩ = some (.int .i64 e) ∧ W'.cell? ⟨gb, 0, none⟩ = some (.bool t) ∧ W'.cell? ⟨gb, 1, none⟩ = some (.slice q n d) ∧ W'.cell? ⟨gb, 2, none⟩ = some (.int .i64 f)) uC) := ⟨Xa.out.c0, Xa.out.c1, Xa.out.c2, Xb.out.c0, Xb.out.c1, Xb.out.c2⟩
          refine hK _ _ HJ.out ?_
          clear hK
          refine wpJ_two (i := 15) (k := 17) (by kernel_rfl) rfl rfl (by kernel_rfl) (by kernel_rfl) (fun KJ hK => ?_) (fun KJ hK => ?_)
          · go_simp
            refine (rshl04 tC YC.out (by have h1 := HLC.out; have h2 := HC.out; omega) kb (.inl HKA.out.2.2.2)).mono ?_
            rintro e9 uD ⟨v, rfl, hv, hbD⟩
            obtain ⟨tD, kD, nD, rfl, hgD, hzD, hlD⟩ := hv
            skip
            have hbu' := Below.on hbu hbD
            clear hbu
            have hbu := hbu'
            clear hbu'
            replace Xa : Hid _ := Xa.out.below hbD
            replace Xb : Hid _ := Xb.out.below hbD
            replace Xr : Hid _ := Xr.out.below hbD
            replace YB : Hid _ := YB.out.below hbD
            replace YC : Hid _ := YC.out.below hbD
            replace hbw := Below.on hbw hbD
            clear hbD
            have YD : Hid (ZR uD tD (some ⟨kD, 0, none⟩) nD (iv t (valB B64 ys) * 2 ^ kb)) := hzD
            have HLD : Hid (nD ≤ 40000) := hlD
            clear hzD hlD hgD
            clear YC
            clear HJ
            have HJ : Hid ((fun W' : World => W'.cell? ⟨ga, 0, none⟩ = some (.bool s) ∧ W'.cell? ⟨ga, 1, none⟩ = some (.slice p m c) ∧ W'.cell? ⟨ga, 2, none⟩ = some (.int .i64 e) ∧ W'.cell? ⟨gb, 0, none⟩ = some (.bool t) ∧ W'.cell? ⟨gb, 1, none⟩ = some (.slice q n d) ∧ W'.cell? ⟨gb, 2, none⟩ = some (.int .i64 f)) uD) := ⟨Xa.out.c0, Xa.out.c1, Xa.out.c2, Xb.out.c0, Xb.out.c1, Xb.out.c2⟩
            refine hK _ _ HJ.out ?_
            clear hK
            refine wpJ_two (i := 16) (k := 17) (by kernel_rfl) rfl rfl (by kernel_rfl) (by kernel_rfl) (fun KJ hK => ?_) (fun KJ hK => ?_)
            · go_simp
              refine (radd04 tB tD YB.out YD.out (by have := HLB.out; omega) (by have := HLD.out; omega)).mono ?_
              rintro e9 uF ⟨v, rfl, hv, hbF⟩
              obtain ⟨tF, kF, nF, rfl, hgF, hzF, hlF⟩ := hv
              have HGB : Hid (uD.heap.size ≤ kF) := hgF
              have hbu' := Below.on hbu hbF
              clear hbu
              have hbu := hbu'
              clear hbu'
              replace Xa : Hid _ := Xa.out.below hbF
              replace Xb : Hid _ := Xb.out.below hbF
              replace Xr : Hid _ := Xr.out.below hbF
              replace YB : Hid _ := YB.out.below hbF
              replace YD : Hid _ := YD.out.below hbF
              replace hbw := Below.on hbw hbF
              clear hbF
              have RR : Hid (ZR uF tF (some ⟨kF, 0, none⟩) nF (iv s (valB B64 xs) * 2 ^ ka + iv t (valB B64 ys) * 2 ^ kb)) := hzF
              have HLF : Hid (nF ≤ max nB nD + 1) := hlF
              clear hzF hlF hgF
              clear YB
              clear YD
              have HNF : Hid (nF ≤ 40001) := by have h1 := HLB.out; have h2 := HLD.out; have h3 := HLF.out; show _ ≤ _; omega
              refine hK _ _ ⟨Xa.out.c0, Xa.out.c1, Xa.out.c2, Xb.out.c0, Xb.out.c1, Xb.out.c2⟩ ?_
              clear hK
              refine wpJ_on 17 rfl fun KJ hK => ?_
              go_simp
              have HDasm : Hid (ga ≠ uF.heap.size) := Nat.ne_of_lt Xa.out.lt
              have HDbsm : Hid (gb ≠ uF.heap.size) := Nat.ne_of_lt Xb.out.lt
              have HDrsm : Hid (gr ≠ uF.heap.size) := Nat.ne_of_lt Xr.out.lt
              have HLS : Hid (∀ v0 v1, ZR (((uF.alloc (.cells #[.bool false, .slice none 0 0] 79)).setCell ⟨uF.heap.size, 0, none⟩ v0).setCell ⟨uF.heap.size, 1, none⟩ v1) tF (some ⟨kF, 0, none⟩) nF (iv s (valB B64 xs) * 2 ^ ka + iv t (valB B64 ys) * 2 ^ kb)) := fun v0 v1 => RR.out.below (bSet (bSet (below1 _ _) _ _ _ (Nat.le_refl _)) _ _ _ (Nat.le_refl _))
              have HGU : Hid (v6.heap.size ≤ uF.heap.size) := hbu.size
              have Xsm0 : Hid (Box (uF.alloc (.cells #[.bool false, .slice none 0 0] 79)) uF.heap.size (.bool false) (.slice none 0 0)) := Box.new uF _ _ _
              have hbn : Below uF.heap.size uF (uF.alloc (.cells #[.bool false, .slice none 0 0] 79)) := below1 uF _
              generalize uF.alloc (.cells #[.bool false, .slice none 0 0] 79) = Wn at *
              have HGsm : Hid (w.heap.size ≤ uF.heap.size) := hbw.size
              have hbu' := Below.on hbu hbn
              clear hbu
              have hbu := hbu'
              clear hbu'
              replace Xa : Hid _ := Xa.out.below hbn
              replace Xb : Hid _ := Xb.out.below hbn
              replace Xr : Hid _ := Xr.out.below hbn
              replace RR : Hid _ := RR.out.below hbn
              replace hbw := Below.on hbw hbn
              clear hbn
              generalize uF.heap.size = gsm at *
              have Xsm := Xsm0
              clear Xsm0
              refine hK _ _ ⟨Xa.out.c0, Xa.out.c1, Xa.out.c2, Xb.out.c0, Xb.out.c1, Xb.out.c2⟩ ?_
              clear hK
              obtain ⟨csm0, csm1, fsm0, fsm1⟩ := Xsm.out
              have hnesm := Xsm.out.lt
              obtain ⟨ca0, ca1, ca2, fa0, fa1, fa2⟩ := Xa.out
              have hnea : ga < Wn.heap.size := World.block_lt_of_cell? Wn _ ca0
              obtain ⟨cb0, cb1, cb2, fb0, fb1, fb2⟩ := Xb.out
              have hneb : gb < Wn.heap.size := World.block_lt_of_cell? Wn _ cb0
              obtain ⟨cr0, cr1, cr2, fr0, fr1, fr2⟩ := Xr.out
              have hner : gr < Wn.heap.size := World.block_lt_of_cell? Wn _ cr0
              have qaa : ga ≠ gsm := HDasm.out
              have qba : gsm ≠ ga := fun h => qaa h.symm
              have qab : gb ≠ gsm := HDbsm.out
              have qbb : gsm ≠ gb := fun h => qab h.symm
              have qar : gr ≠ gsm := HDrsm.out
              have qbr : gsm ≠ gr := fun h => qar h.symm
              refine wpJ_on 18 rfl fun KJ hK => ?_
              go_simp
              have HJ2 : Hid ((fun W' : World => W'.cell? ⟨ga, 0, none⟩ = some (.bool s) ∧ W'.cell? ⟨ga, 1, none⟩ = some (.slice p m c) ∧ W'.cell? ⟨ga, 2, none⟩ = some (.int .i64 e) ∧ W'.cell? ⟨gb, 0, none⟩ = some (.bool t) ∧ W'.cell? ⟨gb, 1, none⟩ = some (.slice q n d) ∧ W'.cell? ⟨gb, 2, none⟩ = some (.int .i64 f)) ((Wn.setCell ⟨gsm, 0, none⟩ (.bool tF)).setCell ⟨gsm, 1, none⟩ (.slice (some ⟨kF, 0, none⟩) nF nF))) := ⟨by go_simp, by go_simp, by go_simp, by go_simp, by go_simp, by go_simp⟩
              have Xsm2 : Hid (Box ((Wn.setCell ⟨gsm, 0, none⟩ (.bool tF)).setCell ⟨gsm, 1, none⟩ (.slice (some ⟨kF, 0, none⟩) nF nF)) gsm (.bool tF) (.slice (some ⟨kF, 0, none⟩) nF nF)) := ⟨by go_simp, by go_simp, by go_simp, by go_simp⟩
              have Xa2 : Hid (B3q ((Wn.setCell ⟨gsm, 0, none⟩ (.bool tF)).setCell ⟨gsm, 1, none⟩ (.slice (some ⟨kF, 0, none⟩) nF nF)) ga (.bool s) (.slice p m c) (.int .i64 e)) := ⟨by go_simp, by go_simp, by go_simp, by go_simp, by go_simp, by go_simp⟩
              have Xb2 : Hid (B3q ((Wn.setCell ⟨gsm, 0, none⟩ (.bool tF)).setCell ⟨gsm, 1, none⟩ (.slice (some ⟨kF, 0, none⟩) nF nF)) gb (.bool t) (.slice q n d) (.int .i64 f)) := ⟨by go_simp, by go_simp, by go_simp, by go_simp, by go_simp, by go_simp⟩
              have Xr2 : Hid (B3q ((Wn.setCell ⟨gsm, 0, none⟩ (.bool tF)).setCell ⟨gsm, 1, none⟩ (.slice (some ⟨kF, 0, none⟩) nF nF)) gr (.bool false) (.slice none 0 0) (.int .i64 0)) := ⟨by go_simp, by go_simp, by go_simp, by go_simp, by go_simp, by go_simp⟩
              have RR2 : Hid (ZR ((Wn.setCell ⟨gsm, 0, none⟩ (.bool tF)).setCell ⟨gsm, 1, none⟩ (.slice (some ⟨kF, 0, none⟩) nF nF)) tF (some ⟨kF, 0, none⟩) nF (iv s (valB B64 xs) * 2 ^ ka + iv t (valB B64 ys) * 2 ^ kb)) := HLS.out _ _
              have hbu2 : Below v6.heap.size v6 ((Wn.setCell ⟨gsm, 0, none⟩ (.bool tF)).setCell ⟨gsm, 1, none⟩ (.slice (some ⟨kF, 0, none⟩) nF nF)) := bSet (bSet hbu _ _ _ HGU.out) _ _ _ HGU.out
              have hbw2 : Below w.heap.size w ((Wn.setCell ⟨gsm, 0, none⟩ (.bool tF)).setCell ⟨gsm, 1, none⟩ (.slice (some ⟨kF, 0, none⟩) nF nF)) := bSet (bSet hbw _ _ _ HGsm.out) _ _ _ HGsm.out
              refine hK _ _ HJ2.out ?_
              clear hK HJ
              have HJ := HJ2
              clear HJ2
              refine wpJ_done (by kernel_rfl) ?_ _
              exact ⟨rfl, HRQ.out _ _ _ ⟨gsm, tA, pA, nA, tB, kB, nB, tC, pC, nC, tD, kD, nD, tF, kF, nF, by kernel_rfl, Xsm2.out, Xa2.out, Xb2.out, Xr2.out, RR2.out, HGsm.out, HDasm.out, HDbsm.out, HDrsm.out, HNF.out, hbu2, hbw2⟩⟩
            · go_simp
              have HDasm : Hid (ga ≠ uD.heap.size) := Nat.ne_of_lt Xa.out.lt
              have HDbsm : Hid (gb ≠ uD.heap.size) := Nat.ne_of_lt Xb.out.lt
              have HDrsm : Hid (gr ≠ uD.heap.size) := Nat.ne_of_lt Xr.out.lt
              have HGU : Hid (v6.heap.size ≤ uD.heap.size) := hbu.size
              have Xsm0 : Hid (Box (uD.alloc (.cells #[.bool false, .slice none 0 0] 79)) uD.heap.size (.bool false) (.slice none 0 0)) := Box.new uD _ _ _
              have hbn : Below uD.heap.size uD (uD.alloc (.cells #[.bool false, .slice none 0 0] 79)) := below1 uD _
              generalize uD.alloc (.cells #[.bool false, .slice none 0 0] 79) = Wn at *
              have HGsm : Hid (w.heap.size ≤ uD.heap.size) := hbw.size
              have hbu' := Below.on hbu hbn
              clear hbu
              have hbu := hbu'
              clear hbu'
              replace Xa : Hid _ := Xa.out.below hbn
              replace Xb : Hid _ := Xb.out.below hbn
              replace Xr : Hid _ := Xr.out.below hbn
              replace YB : Hid _ := YB.out.below hbn
              replace YD : Hid _ := YD.out.below hbn
              replace hbw := Below.on hbw hbn
              clear hbn
              generalize uD.heap.size = gsm at *
              have Xsm := Xsm0
              clear Xsm0
              refine hK _ _ ⟨Xa.out.c0, Xa.out.c1, Xa.out.c2, Xb.out.c0, Xb.out.c1, Xb.out.c2⟩ ?_
              clear hK
              refine wpJ_on 16 rfl fun KJ hK => ?_
              go_simp
              have HLT : Hid (gsm < Wn.heap.size) := Xsm.out.lt
              refine (radd04 tB tD YB.out YD.out (by have := HLB.out; omega) (by have := HLD.out; omega)).mono ?_
              rintro e9 uF ⟨v, rfl, hv, hbF⟩
              obtain ⟨tF, kF, nF, rfl, hgF, hzF, hlF⟩ := hv
              have HGB : Hid (Wn.heap.size ≤ kF) := hgF
              have hbu' := Below.on hbu hbF
              clear hbu
              have hbu := hbu'
              clear hbu'
              replace Xa : Hid _ := Xa.out.below hbF
              replace Xb : Hid _ := Xb.out.below hbF
              replace Xr : Hid _ := Xr.out.below hbF
              replace Xsm : Hid _ := Xsm.out.below hbF
              replace YB : Hid _ := YB.out.below hbF
              replace YD : Hid _ := YD.out.below hbF
              replace hbw := Below.on hbw hbF
              clear hbF
              have RR : Hid (ZR uF tF (some ⟨kF, 0, none⟩) nF (iv s (valB B64 xs) * 2 ^ ka + iv t (valB B64 ys) * 2 ^ kb)) := hzF
              have HLF : Hid (nF ≤ max nB nD + 1) := hlF
              clear hzF hlF hgF
              clear YB
              clear YD
              have HNF : Hid (nF ≤ 40001) := by have h1 := HLB.out; have h2 := HLD.out; have h3 := HLF.out; show _ ≤ _; omega
              have HNE : Hid (kF ≠ gsm) := by have h1 := HLT.out; have h2 := HGB.out; show _ ≠ _; omega
              refine hK _ _ ⟨Xa.out.c0, Xa.out.c1, Xa.out.c2, Xb.out.c0, Xb.out.c1, Xb.out.c2⟩ ?_
              clear hK
              obtain ⟨csm0, csm1, fsm0, fsm1⟩ := Xsm.out
              have hnesm := Xsm.out.lt
              obtain ⟨ca0, ca1, ca2, fa0, fa1, fa2⟩ := Xa.out
              have hnea : ga < uF.heap.size := World.block_lt_of_cell? uF _ ca0
              obtain ⟨cb0, cb1, cb2, fb0, fb1, fb2⟩ := Xb.out
              have hneb : gb < uF.heap.size := World.block_lt_of_cell? uF _ cb0
              obtain ⟨cr0, cr1, cr2, fr0, fr1, fr2⟩ := Xr.out
              have hner : gr < uF.heap.size := World.block_lt_of_cell? uF _ cr0
              have qaa : ga ≠ gsm := HDasm.out
              have qba : gsm ≠ ga := fun h => qaa h.symm
              have qab : gb ≠ gsm := HDbsm.out
              have qbb : gsm ≠ gb := fun h => qab h.symm
              have qar : gr ≠ gsm := HDrsm.out
              have qbr : gsm ≠ gr := fun h => qar h.symm
              refine wpJ_on 18 rfl fun KJ hK => ?_
              go_simp
              have HJ2 : Hid ((fun W' : World => W'.cell? ⟨ga, 0, none⟩ = some (.bool s) ∧ W'.cell? ⟨ga, 1, none⟩ = some (.slice p m c) ∧ W'.cell? ⟨ga, 2, none⟩ = some (.int .i64 e) ∧ W'.cell? ⟨gb, 0, none⟩ = some (.bool t) ∧ W'.cell? ⟨gb, 1, none⟩ = some (.slice q n d) ∧ W'.cell? ⟨gb, 2, none⟩ = some (.int .i64 f)) ((uF.setCell ⟨gsm, 0, none⟩ (.bool tF)).setCell ⟨gsm, 1, none⟩ (.slice (some ⟨kF, 0, none⟩) nF nF))) := ⟨by go_simp, by go_simp, by go_simp, by go_simp, by go_simp, by go_simp⟩
              have Xsm2 : Hid (Box ((uF.setCell ⟨gsm, 0, none⟩ (.bool tF)).setCell ⟨gsm, 1, none⟩ (.slice (some ⟨kF, 0, none⟩) nF nF)) gsm (.bool tF) (.slice (some ⟨kF, 0, none⟩) nF nF)) := ⟨by go_simp, by go_simp, by go_simp, by go_simp⟩
              have Xa2 : Hid (B3q ((uF.setCell ⟨gsm, 0, none⟩ (.bool tF)).setCell ⟨gsm, 1, none⟩ (.slice (some ⟨kF, 0, none⟩) nF nF)) ga (.bool s) (.slice p m c) (.int .i64 e)) := ⟨by go_simp, by go_simp, by go_simp, by go_simp, by go_simp, by go_simp⟩
              have Xb2 : Hid (B3q ((uF.setCell ⟨gsm, 0, none⟩ (.bool tF)).setCell ⟨gsm, 1, none⟩ (.slice (some ⟨kF, 0, none⟩) nF nF)) gb (.bool t) (.slice q n d) (.int .i64 f)) := ⟨by go_simp, by go_simp, by go_simp, by go_simp, by go_simp, by go_simp⟩
              have Xr2 : Hid (B3q ((uF.setCell ⟨gsm, 0, none⟩ (.bool tF)).setCell ⟨gsm, 1, none⟩ (.slice (some ⟨kF, 0, none⟩) nF nF)) gr (.bool false) (.slice none 0 0) (.int .i64 0)) := ⟨by go_simp, by go_simp, by go_simp, by go_simp, by go_simp, by go_simp⟩
              have RR2 : Hid (ZR ((uF.setCell ⟨gsm, 0, none⟩ (.bool tF)).setCell ⟨gsm, 1, none⟩ (.slice (some ⟨kF, 0, none⟩) nF nF)) tF (some ⟨kF, 0, none⟩) nF (iv s (valB B64 xs) * 2 ^ ka + iv t (valB B64 ys) * 2 ^ kb)) := (RR.out.set _ _ _ HNE.out).set _ _ _ HNE.out
              have hbu2 : Below v6.heap.size v6 ((uF.setCell ⟨gsm, 0, none⟩ (.bool tF)).setCell ⟨gsm, 1, none⟩ (.slice (some ⟨kF, 0, none⟩) nF nF)) := bSet (bSet hbu _ _ _ HGU.out) _ _ _ HGU.out
              have hbw2 : Below w.heap.size w ((uF.setCell ⟨gsm, 0, none⟩ (.bool tF)).setCell ⟨gsm, 1, none⟩ (.slice (some ⟨kF, 0, none⟩) nF nF)) := bSet (bSet hbw _ _ _ HGsm.out) _ _ _ HGsm.out
              refine hK _ _ HJ2.out ?_
              clear hK HJ
              have HJ := HJ2
              clear HJ2
              refine wpJ_done (by kernel_rfl) ?_ _
              exact ⟨rfl, HRQ.out _ _ _ ⟨gsm, tA, pA, nA, tB, kB, nB, tC, pC, nC, tD, kD, nD, tF, kF, nF, by kernel_rfl, Xsm2.out, Xa2.out, Xb2.out, Xr2.out, RR2.out, HGsm.out, HDasm.out, HDbsm.out, HDrsm.out, HNF.out, hbu2, hbw2⟩⟩
          · go_simp
            have HDasm : Hid (ga ≠ uC.heap.size) := Nat.ne_of_lt Xa.out.lt
            have HDbsm : Hid (gb ≠ uC.heap.size) := Nat.ne_of_lt Xb.out.lt
            have HDrsm : Hid (gr ≠ uC.heap.size) := Nat.ne_of_lt Xr.out.lt
            have HGU : Hid (v6.heap.size ≤ uC.heap.size) := hbu.size
            have Xsm0 : Hid (Box (uC.alloc (.cells #[.bool false, .slice none 0 0] 79)) uC.heap.size (.bool false) (.slice none 0 0)) := Box.new uC _ _ _
            have hbn : Below uC.heap.size uC (uC.alloc (.cells #[.bool false, .slice none 0 0] 79)) := below1 uC _
            generalize uC.alloc (.cells #[.bool false, .slice none 0 0] 79) = Wn at *
            have HGsm : Hid (w.heap.size ≤ uC.heap.size) := hbw.size
            have hbu' := Below.on hbu hbn
            clear hbu
            have hbu := hbu'
            clear hbu'
            replace Xa : Hid _ := Xa.out.below hbn
            replace Xb : Hid _ := Xb.out.below hbn
            replace Xr : Hid _ := Xr.out.below hbn
            replace YB : Hid _ := YB.out.below hbn
            replace YC : Hid _ := YC.out.below hbn
            replace hbw := Below.on hbw hbn
            clear hbn
            generalize uC.heap.size = gsm at *
            have Xsm := Xsm0
            clear Xsm0
            refine hK _ _ ⟨Xa.out.c0, Xa.out.c1, Xa.out.c2, Xb.out.c0, Xb.out.c1, Xb.out.c2⟩ ?_
            clear hK
            refine wpJ_on 15 rfl fun KJ hK => ?_
            go_simp
            refine (rshl04 tC YC.out (by have h1 := HLC.out; have h2 := HC.out; omega) kb (.inl HKA.out.2.2.2)).mono ?_
            rintro e9 uD ⟨v, rfl, hv, hbD⟩
            obtain ⟨tD, kD, nD, rfl, hgD, hzD, hlD⟩ := hv
            skip
            have hbu' := Below.on hbu hbD
            clear hbu
            have hbu := hbu'
            clear hbu'
            replace Xa : Hid _ := Xa.out.below hbD
            replace Xb : Hid _ := Xb.out.below hbD
            replace Xr : Hid _ := Xr.out.below hbD
            replace Xsm : Hid _ := Xsm.out.below hbD
            replace YB : Hid _ := YB.out.below hbD
            replace YC : Hid _ := YC.out.below hbD
            replace hbw := Below.on hbw hbD
            clear hbD
            have YD : Hid (ZR uD tD (some ⟨kD, 0, none⟩) nD (iv t (valB B64 ys) * 2 ^ kb)) := hzD
            have HLD : Hid (nD ≤ 40000) := hlD
            clear hzD hlD hgD
            clear YC
            refine hK _ _ ⟨Xa.out.c0, Xa.out.c1, Xa.out.c2, Xb.out.c0, Xb.out.c1, Xb.out.c2⟩ ?_
            clear hK
            refine wpJ_on 16 rfl fun KJ hK => ?_
            go_simp
            have HLT : Hid (gsm < uD.heap.size) := Xsm.out.lt
            refine (radd04 tB tD YB.out YD.out (by have := HLB.out; omega) (by have := HLD.out; omega)).mono ?_
            rintro e9 uF ⟨v, rfl, hv, hbF⟩
            obtain ⟨tF, kF, nF, rfl, hgF, hzF, hlF⟩ := hv
            have HGB : Hid (uD.heap.size ≤ kF) := hgF
            have hbu' := Below.on hbu hbF
            clear hbu
            have hbu := hbu'
            clear hbu'
            replace Xa : Hid _ := Xa.out.below hbF
            replace Xb : Hid _ := Xb.out.below hbF
            replace Xr : Hid _ := Xr.out.below hbF
            replace Xsm : Hid _ := Xsm.out.below hbF
            replace YB : Hid _ := YB.out.below hbF
            replace YD : Hid _ := YD.out.below hbF
            replace hbw := Below.on hbw hbF
            clear hbF
            have RR : Hid (ZR uF tF (some ⟨kF, 0, none⟩) nF (iv s (valB B64 xs) * 2 ^ ka + iv t (valB B64 ys) * 2 ^ kb)) := hzF
            have HLF : Hid (nF ≤ max nB nD + 1) := hlF
            clear hzF hlF hgF
            clear YB
            clear YD
            have HNF : Hid (nF ≤ 40001) := by have h1 := HLB.out; have h2 := HLD.out; have h3 := HLF.out; show _ ≤ _; omega
            have HNE : Hid (kF ≠ gsm) := by have h1 := HLT.out; have h2 := HGB.out; show _ ≠ _; omega
            refine hK _ _ ⟨Xa.out.c0, Xa.out.c1, Xa.out.c2, Xb.out.c0, Xb.out.c1, Xb.out.c2⟩ ?_
            clear hK
            obtain ⟨csm0, csm1, fsm0, fsm1⟩ := Xsm.out
            have hnesm := Xsm.out.lt
            obtain ⟨ca0, ca1, ca2, fa0, fa1, fa2⟩ := Xa.out
            have hnea : ga < uF.heap.size := World.block_lt_of_cell? uF _ ca0
            obtain ⟨cb0, cb1, cb2, fb0, fb1, fb2⟩ := Xb.out
            have hneb : gb < uF.heap.size := World.block_lt_of_cell? uF _ cb0
            obtain ⟨cr0, cr1, cr2, fr0, fr1, fr2⟩ := Xr.out
            have hner : gr < uF.heap.size := World.block_lt_of_cell? uF _ cr0
            have qaa : ga ≠ gsm := HDasm.out
            have qba : gsm ≠ ga := fun h => qaa h.symm
            have qab : gb ≠ gsm := HDbsm.out
            have qbb : gsm ≠ gb := fun h => qab h.symm
            have qar : gr ≠ gsm := HDrsm.out
            have qbr : gsm ≠ gr := fun h => qar h.symm
            refine wpJ_on 18 rfl fun KJ hK => ?_
            go_simp
            have HJ2 : Hid ((fun W' : World => W'.cell? ⟨ga, 0, none⟩ = some (.bool s) ∧ W'.cell? ⟨ga, 1, none⟩ = some (.slice p m c) ∧ W'.cell? ⟨ga, 2, none⟩ = some (.int .i64 e) ∧ W'.cell? ⟨gb, 0, none⟩ = some (.bool t) ∧ W'.cell? ⟨gb, 1, none⟩ = some (.slice q n d) ∧ W'.cell? ⟨gb, 2, none⟩ = some (.int .i64 f)) ((uF.setCell ⟨gsm, 0, none⟩ (.bool tF)).setCell ⟨gsm, 1, none⟩ (.slice (some ⟨kF, 0, none⟩) nF nF))) := ⟨by go_simp, by go_simp, by go_simp, by go_simp, by go_simp, by go_simp⟩
            have Xsm2 : Hid (Box ((uF.setCell ⟨gsm, 0, none⟩ (.bool tF)).setCell ⟨gsm, 1, none⟩ (.slice (some ⟨kF, 0, none⟩) nF nF)) gsm (.bool tF) (.slice (some ⟨kF, 0, none⟩) nF nF)) := ⟨by go_simp, by go_simp, by go_simp, by go_simp⟩
            have Xa2 : Hid (B3q ((uF.setCell ⟨gsm, 0, none⟩ (.bool tF)).setCell ⟨gsm, 1, none⟩ (.slice (some ⟨kF, 0, none⟩) nF nF)) ga (.bool s) (.slice p m c) (.int .i64 e)) := ⟨by go_simp, by go_simp, by go_simp, by go_simp, by go_simp, by go_simp⟩
            have Xb2 : Hid (B3q ((uF.setCell ⟨gsm, 0, none⟩ (.bool tF)).setCell ⟨gsm, 1, none⟩ (.slice (some ⟨kF, 0, none⟩) nF nF)) gb (.bool t) (.slice q n d) (.int .i64 f)) := ⟨by go_simp, by go_simp, by go_simp, by go_simp, by go_simp, by go_simp⟩
            have Xr2 : Hid (B3q ((uF.setCell ⟨gsm, 0, none⟩ (.bool tF)).setCell ⟨gsm, 1, none⟩ (.slice (some ⟨kF, 0, none⟩) nF nF)) gr (.bool false) (.slice none 0 0) (.int .i64 0)) := ⟨by go_simp, by go_simp, by go_simp, by go_simp, by go_simp, by go_simp⟩
            have RR2 : Hid (ZR ((uF.setCell ⟨gsm, 0, none⟩ (.bool tF)).setCell ⟨gsm, 1, none⟩ (.slice (some ⟨kF, 0, none⟩) nF nF)) tF (some ⟨kF, 0, none⟩) nF (iv s (valB B64 xs) * 2 ^ ka + iv t (valB B64 ys) * 2 ^ kb)) := (RR.out.set _ _ _ HNE.out).set _ _ _ HNE.out
            have hbu2 : Below v6.heap.size v6 ((uF.setCell ⟨gsm, 0, none⟩ (.bool tF)).setCell ⟨gsm, 1, none⟩ (.slice (some ⟨kF, 0, none⟩) nF nF)) := bSet (bSet hbu _ _ _ HGU.out) _ _ _ HGU.out
            have hbw2 : Below w.heap.size w ((uF.setCell ⟨gsm, 0, none⟩ (.bool tF)).setCell ⟨gsm, 1, none⟩ (.slice (some ⟨kF, 0, none⟩) nF nF)) := bSet (bSet hbw _ _ _ HGsm.out) _ _ _ HGsm.out
            refine hK _ _ HJ2.out ?_
            clear hK HJ
            have HJ := HJ2
            clear HJ2
            refine wpJ_done (by kernel_rfl) ?_ _
            exact ⟨rfl, HRQ.out _ _ _ ⟨gsm, tA, pA, nA, tB, kB, nB, tC, pC, nC, tD, kD, nD, tF, kF, nF, by kernel_rfl, Xsm2.out, Xa2.out, Xb2.out, Xr2.out, RR2.out, HGsm.out, HDasm.out, HDbsm.out, HDrsm.out, HNF.out, hbu2, hbw2⟩⟩
        · go_simp
          have HDasm : Hid (ga ≠ uB.heap.size) := Nat.ne_of_lt Xa.out.lt
          have HDbsm : Hid (gb ≠ uB.heap.size) := Nat.ne_of_lt Xb.out.lt
          have HDrsm : Hid (gr ≠ uB.heap.size) := Nat.ne_of_lt Xr.out.lt
          have HGU : Hid (v6.heap.size ≤ uB.heap.size) := hbu.size
          have Xsm0 : Hid (Box (uB.alloc (.cells #[.bool false, .slice none 0 0] 79)) uB.heap.size (.bool false) (.slice none 0 0)) := Box.new uB _ _ _
          have hbn : Below uB.heap.size uB (uB.alloc (.cells #[.bool false, .slice none 0 0] 79)) := below1 uB _
          generalize uB.alloc (.cells #[.bool false, .slice none 0 0] 79) = Wn at *
          have HGsm : Hid (w.heap.size ≤ uB.heap.size) := hbw.size
          have hbu' := Below.on hbu hbn
          clear hbu
          have hbu := hbu'
          clear hbu'
          replace Xa : Hid _ := Xa.out.below hbn
          replace Xb : Hid _ := Xb.out.below hbn
          replace Xr : Hid _ := Xr.out.below hbn
          replace YB : Hid _ := YB.out.below hbn
          replace hbw := Below.on hbw hbn
          clear hbn
          generalize uB.heap.size = gsm at *
          have Xsm := Xsm0
          clear Xsm0
          refine hK _ _ ⟨Xa.out.c0, Xa.out.c1, Xa.out.c2, Xb.out.c0, Xb.out.c1, Xb.out.c2⟩ ?_
          clear hK
          refine wpJ_on 10 rfl fun KJ hK => ?_
          go_simp
          refine (rfrom5 t (KU.out.below hbu) (by have := HC.out; omega)).mono ?_
          rintro e9 uC ⟨tC, pC, nC, rfl, hzC, hlC, hbC⟩
          have hbu' := Below.on hbu hbC
          clear hbu
          have hbu := hbu'
          clear hbu'
          replace Xa : Hid _ := Xa.out.below hbC
          replace Xb : Hid _ := Xb.out.below hbC
          replace Xr : Hid _ := Xr.out.below hbC
          replace Xsm : Hid _ := Xsm.out.below hbC
          replace YB : Hid _ := YB.out.below hbC
          replace hbw := Below.on hbw hbC
          clear hbC
          have YC : Hid (ZR uC tC pC nC (iv t (valB B64 ys))) := hzC
          have HLC : Hid (nC ≤ 2 * n) := hlC
          clear hzC hlC
          refine hK _ _ ⟨Xa.out.c0, Xa.out.c1, Xa.out.c2, Xb.out.c0, Xb.out.c1, Xb.out.c2⟩ ?_
          clear hK
          refine wpJ_on 15 rfl fun KJ hK => ?_
          go_simp
          refine (rshl04 tC YC.out (by have h1 := HLC.out; have h2 := HC.out; omega) kb (.inl HKA.out.2.2.2)).mono ?_
          rintro e9 uD ⟨v, rfl, hv, hbD⟩
          obtain ⟨tD, kD, nD, rfl, hgD, hzD, hlD⟩ := hv
          skip
          have hbu' := Below.on hbu hbD
          clear hbu
          have hbu := hbu'
          clear hbu'
          replace Xa : Hid _ := Xa.out.below hbD
          replace Xb : Hid _ := Xb.out.below hbD
          replace Xr : Hid _ := Xr.out.below hbD
          replace Xsm : Hid _ := Xsm.out.below hbD
          replace YB : Hid _ := YB.out.below hbD
          replace YC : Hid _ := YC.out.below hbD
          replace hbw := Below.on hbw hbD
          clear hbD
          have YD : Hid (ZR uD tD (some ⟨kD, 0, none⟩) nD (iv t (valB B64 ys) * 2 ^ kb)) := hzD
          have HLD : Hid (nD ≤ 40000) := hlD
          clear hzD hlD hgD
          clear YC
          refine hK _ _ ⟨Xa.out.c0, Xa.out.c1, Xa.out.c2, Xb.out.c0, Xb.out.c1, Xb.out.c2⟩ ?_
          clear hK
          refine wpJ_on 16 rfl fun KJ hK => ?_
          go_simp
          have HLT : Hid (gsm < uD.heap.size) := Xsm.out.lt
          refine (radd04 tB tD YB.out YD.out (by have := HLB.out; omega) (by have := HLD.out; omega)).mono ?_
          rintro e9 uF ⟨v, rfl, hv, hbF⟩
          obtain ⟨tF, kF, nF, rfl, hgF, hzF, hlF⟩ := hv
          have HGB : Hid (uD.heap.size ≤ kF) := hgF
          have hbu' := Below.on hbu hbF
          clear hbu
          have hbu := hbu'
          clear hbu'
          replace Xa : Hid _ := Xa.out.below hbF
          replace Xb : Hid _ := Xb.out.below hbF
          replace Xr : Hid _ := Xr.out.below hbF
          replace Xsm : Hid _ := Xsm.out.below hbF
          replace YB : Hid _ := YB.out.below hbF
          replace YD : Hid _ := YD.out.below hbF
          replace hbw := Below.on hbw hbF
          clear hbF
          have RR : Hid (ZR uF tF (some ⟨kF, 0, none⟩) nF (iv s (valB B64 xs) * 2 ^ ka + iv t (valB B64 ys) * 2 ^ kb)) := hzF
          have HLF : Hid (nF ≤ max nB nD + 1) := hlF
          clear hzF hlF hgF
          clear YB
          clear YD
          have HNF : Hid (nF ≤ 40001) := by have h1 := HLB.out; have h2 := HLD.out; have h3 := HLF.out; show _ ≤ _; omega
          have HNE : Hid (kF ≠ gsm) := by have h1 := HLT.out; have h2 := HGB.out; show _ ≠ _; omega
          refine hK _ _ ⟨Xa.out.c0, Xa.out.c1, Xa.out.c2, Xb.out.c0, Xb.out.c1, Xb.out.c2⟩ ?_
          clear hK
          obtain ⟨csm0, csm1, fsm0, fsm1⟩ := Xsm.out
          have hnesm := Xsm.out.lt
          obtain ⟨ca0, ca1, ca2, fa0, fa1, fa2⟩ := Xa.out
          have hnea : ga < uF.heap.size := World.block_lt_of_cell? uF _ ca0
          obtain ⟨cb0, cb1, cb2, fb0, fb1, fb2⟩ := Xb.out
          have hneb : gb < uF.heap.size := World.block_lt_of_cell? uF _ cb0
          obtain ⟨cr0, cr1, cr2, fr0, fr1, fr2⟩ := Xr.out
          have hner : gr < uF.heap.size := World.block_lt_of_cell? uF _ cr0
          have qaa : ga ≠ gsm := HDasm.out
          have qba : gsm ≠ ga := fun h => qaa h.symm
          have qab : gb ≠ gsm := HDbsm.out
          have qbb : gsm ≠ gb := fun h => qab h.symm
          have qar : gr ≠ gsm := HDrsm.out
          have qbr : gsm ≠ gr := fun h => qar h.symm
          refine wpJ_on 18 rfl fun KJ hK => ?_
          go_simp
          have HJ2 : Hid ((fun W' : World => W'.cell? ⟨ga, 0, none⟩ = some (.bool s) ∧ W'.cell? ⟨ga, 1, none⟩ = some (.slice p m c) ∧ W'.cell? ⟨ga, 2, none⟩ = some (.int .i64 e) ∧ W'.cell? ⟨gb, 0, none⟩ = some (.bool t) ∧ W'.cell? ⟨gb, 1, none⟩ = some (.slice q n d) ∧ W'.cell? ⟨gb, 2, none⟩ = some (.int .i64 f)) ((uF.setCell ⟨gsm, 0, none⟩ (.bool tF)).setCell ⟨gsm, 1, none⟩ (.slice (some ⟨kF, 0, none⟩) nF nF))) := ⟨by go_simp, by go_simp, by go_simp, by go_simp, by go_simp, by go_simp⟩
          have Xsm2 : Hid (Box ((uF.setCell ⟨gsm, 0, none⟩ (.bool tF)).setCell ⟨gsm, 1, none⟩ (.slice (some ⟨kF, 0, none⟩) nF nF)) gsm (.bool tF) (.slice (some ⟨kF, 0, none⟩) nF nF)) := ⟨by go_simp, by go_simp, by go_simp, by go_simp⟩
          have Xa2 : Hid (B3q ((uF.setCell ⟨gsm, 0, none⟩ (.bool tF)).setCell ⟨gsm, 1, none⟩ (.slice (some ⟨kF, 0, none⟩) nF nF)) ga (.bool s) (.slice p m c) (.int .i64 e)) := ⟨by go_simp, by go_simp, by go_simp, by go_simp, by go_simp, by go_simp⟩
          have Xb2 : Hid (B3q ((uF.setCell ⟨gsm, 0, none⟩ (.bool tF)).setCell ⟨gsm, 1, none⟩ (.slice (some ⟨kF, 0, none⟩) nF nF)) gb (.bool t) (.slice q n d) (.int .i64 f)) := ⟨by go_simp, by go_simp, by go_simp, by go_simp, by go_simp, by go_simp⟩
          have Xr2 : Hid (B3q ((uF.setCell ⟨gsm, 0, none⟩ (.bool tF)).setCell ⟨gsm, 1, none⟩ (.slice (some ⟨kF, 0, none⟩) nF nF)) gr (.bool false) (.slice none 0 0) (.int .i64 0)) := ⟨by go_simp, by go_simp, by go_simp, by go_simp, by go_simp, by go_simp⟩
          have RR2 : Hid (ZR ((uF.setCell ⟨gsm, 0, none⟩ (.bool tF)).setCell ⟨gsm, 1, none⟩ (.slice (some ⟨kF, 0, none⟩) nF nF)) tF (some ⟨kF, 0, none⟩) nF (iv s (valB B64 xs) * 2 ^ ka + iv t (valB B64 ys) * 2 ^ kb)) := (RR.out.set _ _ _ HNE.out).set _ _ _ HNE.out
          have hbu2 : Below v6.heap.size v6 ((uF.setCell ⟨gsm, 0, none⟩ (.bool tF)).setCell ⟨gsm, 1, none⟩ (.slice (some ⟨kF, 0, none⟩) nF nF)) := bSet (bSet hbu _ _ _ HGU.out) _ _ _ HGU.out
          have hbw2 : Below w.heap.size w ((uF.setCell ⟨gsm, 0, none⟩ (.bool tF)).setCell ⟨gsm, 1, none⟩ (.slice (some ⟨kF, 0, none⟩) nF nF)) := bSet (bSet hbw _ _ _ HGsm.out) _ _ _ HGsm.out
          refine hK _ _ HJ2.out ?_
          clear hK HJ
          have HJ := HJ2
          clear HJ2
          refine wpJ_done (by kernel_rfl) ?_ _
          exact ⟨rfl, HRQ.out _ _ _ ⟨gsm, tA, pA, nA, tB, kB, nB, tC, pC, nC, tD, kD, nD, tF, kF, nF, by kernel_rfl, Xsm2.out, Xa2.out, Xb2.out, Xr2.out, RR2.out, HGsm.out, HDasm.out, HDbsm.out, HDrsm.out, HNF.out, hbu2, hbw2⟩⟩
      · go_simp
        have HDasm : Hid (ga ≠ uA.heap.size) := Nat.ne_of_lt Xa.out.lt
        have HDbsm : Hid (gb ≠ uA.heap.size) := Nat.ne_of_lt Xb.out.lt
        have HDrsm : Hid (gr ≠ uA.heap.size) := Nat.ne_of_lt Xr.out.lt
        have HGU : Hid (v6.heap.size ≤ uA.heap.size) := hbu.size
        have Xsm0 : Hid (Box (uA.alloc (.cells #[.bool false, .slice none 0 0] 79)) uA.heap.size (.bool false) (.slice none 0 0)) := Box.new uA _ _ _
        have hbn : Below uA.heap.size uA (uA.alloc (.cells #[.bool false, .slice none 0 0] 79)) := below1 uA _
        generalize uA.alloc (.cells #[.bool false, .slice none 0 0] 79) = Wn at *
        have HGsm : Hid (w.heap.size ≤ uA.heap.size) := hbw.size
        have hbu' := Below.on hbu hbn
        clear hbu
        have hbu := hbu'
        clear hbu'
        replace Xa : Hid _ := Xa.out.below hbn
        replace Xb : Hid _ := Xb.out.below hbn
        replace Xr : Hid _ := Xr.out.below hbn
        replace YA : Hid _ := YA.out.below hbn
        replace hbw := Below.on hbw hbn
        clear hbn
        generalize uA.heap.size = gsm at *
        have Xsm := Xsm0
        clear Xsm0
        refine hK _ _ ⟨Xa.out.c0, Xa.out.c1, Xa.out.c2, Xb.out.c0, Xb.out.c1, Xb.out.c2⟩ ?_
        clear hK
        refine wpJ_on 7 rfl fun KJ hK => ?_
        go_simp
        refine (rshl04 tA YA.out (by have h1 := HLA.out; have h2 := HC.out; omega) ka (.inl HKA.out.2.2.1)).mono ?_
        rintro e9 uB ⟨v, rfl, hv, hbB⟩
        obtain ⟨tB, kB, nB, rfl, hgB, hzB, hlB⟩ := hv
        skip
        have hbu' := Below.on hbu hbB
        clear hbu
        have hbu := hbu'
        clear hbu'
        replace Xa : Hid _ := Xa.out.below hbB
        replace Xb : Hid _ := Xb.out.below hbB
        replace Xr : Hid _ := Xr.out.below hbB
        replace Xsm : Hid _ := Xsm.out.below hbB
        replace YA : Hid _ := YA.out.below hbB
        replace hbw := Below.on hbw hbB
        clear hbB
        have YB : Hid (ZR uB tB (some ⟨kB, 0, none⟩) nB (iv s (valB B64 xs) * 2 ^ ka)) := hzB
        have HLB : Hid (nB ≤ 40000) := hlB
        clear hzB hlB hgB
        clear YA
        refine hK _ _ ⟨Xa.out.c0, Xa.out.c1, Xa.out.c2, Xb.out.c0, Xb.out.c1, Xb.out.c2⟩ ?_
        clear hK
        refine wpJ_on 10 rfl fun KJ hK => ?_
        go_simp
        refine (rfrom5 t (KU.out.below hbu) (by have := HC.out; omega)).mono ?_
        rintro e9 uC ⟨tC, pC, nC, rfl, hzC, hlC, hbC⟩
        have hbu' := Below.on hbu hbC
        clear hbu
        have hbu := hbu'
        clear hbu'
        replace Xa : Hid _ := Xa.out.below hbC
        replace Xb : Hid _ := Xb.out.below hbC
        replace Xr : Hid _ := Xr.out.below hbC
        replace Xsm : Hid _ := Xsm.out.below hbC
        replace YB : Hid _ := YB.out.below hbC
        replace hbw := Below.on hbw hbC
        clear hbC
        have YC : Hid (ZR uC tC pC nC (iv t (valB B64 ys))) := hzC
        have HLC : Hid (nC ≤ 2 * n) := hlC
        clear hzC hlC
        refine hK _ _ ⟨Xa.out.c0, Xa.out.c1, Xa.out.c2, Xb.out.c0, Xb.out.c1, Xb.out.c2⟩ ?_
        clear hK
        refine wpJ_on 15 rfl fun KJ hK => ?_
        go_simp
        refine (rshl04 tC YC.out (by have h1 := HLC.out; have h2 := HC.out; omega) kb (.inl HKA.out.2.2.2)).mono ?_
        rintro e9 uD ⟨v, rfl, hv, hbD⟩
        obtain ⟨tD, kD, nD, rfl, hgD, hzD, hlD⟩ := hv
        skip
        have hbu' := Below.on hbu hbD
        clear hbu
        have hbu := hbu'
        clear hbu'
        replace Xa : Hid _ := Xa.out.below hbD
        replace Xb : Hid _ := Xb.out.below hbD
        replace Xr : Hid _ := Xr.out.below hbD
        replace Xsm : Hid _ := Xsm.out.below hbD
        replace YB : Hid _ := YB.out.below hbD
        replace YC : Hid _ := YC.out.below hbD
        replace hbw := Below.on hbw hbD
        clear hbD
        have YD : Hid (ZR uD tD (some ⟨kD, 0, none⟩) nD (iv t (valB B64 ys) * 2 ^ kb)) := hzD
        have HLD : Hid (nD ≤ 40000) := hlD
        clear hzD hlD hgD
        clear YC
        refine hK _ _ ⟨Xa.out.c0, Xa.out.c1, Xa.out.c2, Xb.out.c0, Xb.out.c1, Xb.out.c2⟩ ?_
        clear hK
        refine wpJ_on 16 rfl fun KJ hK => ?_
        go_simp
        have HLT : Hid (gsm < uD.heap.size) := Xsm.out.lt
        refine (radd04 tB tD YB.out YD.out (by have := HLB.out; omega) (by have := HLD.out; omega)).mono ?_
        rintro e9 uF ⟨v, rfl, hv, hbF⟩
        obtain ⟨tF, kF, nF, rfl, hgF, hzF, hlF⟩ := hv
        have HGB : Hid (uD.heap.size ≤ kF) := hgF
        have hbu' := Below.on hbu hbF
        clear hbu
        have hbu := hbu'
        clear hbu'
        replace Xa : Hid _ := Xa.out.below hbF
        replace Xb : Hid _ := Xb.out.below hbF
        replace Xr : Hid _ := Xr.out.below hbF
        replace Xsm : Hid _ := Xsm.out.below hbF
        replace YB : Hid _ := YB.out.below hbF
        replace YD : Hid _ := YD.out.below hbF
        replace hbw := Below.on hbw hbF
        clear hbF
        have RR : Hid (ZR uF tF (some ⟨kF, 0, none⟩) nF (iv s (valB B64 xs) * 2 ^ ka + iv t (valB B64 ys) * 2 ^ kb)) := hzF
        have HLF : Hid (nF ≤ max nB nD + 1) := hlF
        clear hzF hlF hgF
        clear YB
        clear YD
        have HNF : Hid (nF ≤ 40001) := by have h1 := HLB.out; have h2 := HLD.out; have h3 := HLF.out; show _ ≤ _; omega
        have HNE : Hid (kF ≠ gsm) := by have h1 := HLT.out; have h2 := HGB.out; show _ ≠ _; omega
        refine hK _ _ ⟨Xa.out.c0, Xa.out.c1, Xa.out.c2, Xb.out.c0, Xb.out.c1, Xb.out.c2⟩ ?_
        clear hK
        obtain ⟨csm0, csm1, fsm0, fsm1⟩ := Xsm.out
        have hnesm := Xsm.out.lt
        obtain ⟨ca0, ca1, ca2, fa0, fa1, fa2⟩ := Xa.out
        have hnea : ga < uF.heap.size := World.block_lt_of_cell? uF _ ca0
        obtain ⟨cb0, cb1, cb2, fb0, fb1, fb2⟩ := Xb.out
        have hneb : gb < uF.heap.size := World.block_lt_of_cell? uF _ cb0
        obtain ⟨cr0, cr1, cr2, fr0, fr1, fr2⟩ := Xr.out
        have hner : gr < uF.heap.size := World.block_lt_of_cell? uF _ cr0
        have qaa : ga ≠ gsm := HDasm.out
        have qba : gsm ≠ ga := fun h => qaa h.symm
        have qab : gb ≠ gsm := HDbsm.out
        have qbb : gsm ≠ gb := fun h => qab h.symm
        have qar : gr ≠ gsm := HDrsm.out
        have qbr : gsm ≠ gr := fun h => qar h.symm
        refine wpJ_on 18 rfl fun KJ hK => ?_
        go_simp
        have HJ2 : Hid ((fun W' : World => W'.cell? ⟨ga, 0, none⟩ = some (.bool s) ∧ W'.cell? ⟨ga, 1, none⟩ = some (.slice p m c) ∧ W'.cell? ⟨ga, 2, none⟩ = some (.int .i64 e) ∧ W'.cell? ⟨gb, 0, none⟩ = some (.bool t) ∧ W'.cell? ⟨gb, 1, none⟩ = some (.slice q n d) ∧ W'.cell? ⟨gb, 2, none⟩ = some (.int .i64 f)) ((uF.setCell ⟨gsm, 0, none⟩ (.bool tF)).setCell ⟨gsm, 1, none⟩ (.slice (some ⟨kF, 0, none⟩) nF nF))) := ⟨by go_simp, by go_simp, by go_simp, by go_simp, by go_simp, by go_simp⟩
        have Xsm2 : Hid (Box ((uF.setCell ⟨gsm, 0, none⟩ (.bool tF)).setCell ⟨gsm, 1, none⟩ (.slice (some ⟨kF, 0, none⟩) nF nF)) gsm (.bool tF) (.slice (some ⟨kF, 0, none⟩) nF nF)) := ⟨by go_simp, by go_simp, by go_simp, by go_simp⟩
        have Xa2 : Hid (B3q ((uF.setCell ⟨gsm, 0, none⟩ (.bool tF)).setCell ⟨gsm, 1, none⟩ (.slice (some ⟨kF, 0, none⟩) nF nF)) ga (.bool s) (.slice p m c) (.int .i64 e)) := ⟨by go_simp, by go_simp, by go_simp, by go_simp, by go_simp, by go_simp⟩
        have Xb2 : Hid (B3q ((uF.setCell ⟨gsm, 0, none⟩ (.bool tF)).setCell ⟨gsm, 1, none⟩ (.slice (some ⟨kF, 0, none⟩) nF nF)) gb (.bool t) (.slice q n d) (.int .i64 f)) := ⟨by go_simp, by go_simp, by go_simp, by go_simp, by go_simp, by go_simp⟩
        have Xr2 : Hid (B3q ((uF.setCell ⟨gsm, 0, none⟩ (.bool tF)).setCell ⟨gsm, 1, none⟩ (.slice (some ⟨kF, 0, none⟩) nF nF)) gr (.bool false) (.slice none 0 0) (.int .i64 0)) := ⟨by go_simp, by go_simp, by go_simp, by go_simp, by go_simp, by go_simp⟩
        have RR2 : Hid (ZR ((uF.setCell ⟨gsm, 0, none⟩ (.bool tF)).setCell ⟨gsm, 1, none⟩ (.slice (some ⟨kF, 0, none⟩) nF nF)) tF (some ⟨kF, 0, none⟩) nF (iv s (valB B64 xs) * 2 ^ ka + iv t (valB B64 ys) * 2 ^ kb)) := (RR.out.set _ _ _ HNE.out).set _ _ _ HNE.out
        have hbu2 : Below v6.heap.size v6 ((uF.setCell ⟨gsm, 0, none⟩ (.bool tF)).setCell ⟨gsm, 1, none⟩ (.slice (some ⟨kF, 0, none⟩) nF nF)) := bSet (bSet hbu _ _ _ HGU.out) _ _ _ HGU.out
        have hbw2 : Below w.heap.size w ((uF.setCell ⟨gsm, 0, none⟩ (.bool tF)).setCell ⟨gsm, 1, none⟩ (.slice (some ⟨kF, 0, none⟩) nF nF)) := bSet (bSet hbw _ _ _ HGsm.out) _ _ _ HGsm.out
        refine hK _ _ HJ2.out ?_
        clear hK HJ
        have HJ := HJ2
        clear HJ2
        refine wpJ_done (by kernel_rfl) ?_ _
        exact ⟨rfl, HRQ.out _ _ _ ⟨gsm, tA, pA, nA, tB, kB, nB, tC, pC, nC, tD, kD, nD, tF, kF, nF, by kernel_rfl, Xsm2.out, Xa2.out, Xb2.out, Xr2.out, RR2.out, HGsm.out, HDasm.out, HDbsm.out, HDrsm.out, HNF.out, hbu2, hbw2⟩⟩
    · go_simp
      have HDasm : Hid (ga ≠ Wr.heap.size) := Nat.ne_of_lt Xa.out.lt
      have HDbsm : Hid (gb ≠ Wr.heap.size) := Nat.ne_of_lt Xb.out.lt
      have HDrsm : Hid (gr ≠ Wr.heap.size) := Nat.ne_of_lt Xr.out.lt
      have HGU : Hid (v6.heap.size ≤ Wr.heap.size) := hbu.size
      have Xsm0 : Hid (Box (Wr.alloc (.cells #[.bool false, .slice none 0 0] 79)) Wr.heap.size (.bool false) (.slice none 0 0)) := Box.new Wr _ _ _
      have hbn : Below Wr.heap.size Wr (Wr.alloc (.cells #[.bool false, .slice none 0 0] 79)) := below1 Wr _
      generalize Wr.alloc (.cells #[.bool false, .slice none 0 0] 79) = Wn at *
      have HGsm : Hid (w.heap.size ≤ Wr.heap.size) := hbw.size
      have hbu' := Below.on hbu hbn
      clear hbu
      have hbu := hbu'
      clear hbu'
      replace Xa : Hid _ := Xa.out.below hbn
      replace Xb : Hid _ := Xb.out.below hbn
      replace Xr : Hid _ := Xr.out.below hbn
      replace hbw := Below.on hbw hbn
      clear hbn
      generalize Wr.heap.size = gsm at *
      have Xsm := Xsm0
      clear Xsm0
      refine hK _ _ ⟨Xa.out.c0, Xa.out.c1, Xa.out.c2, Xb.out.c0, Xb.out.c1, Xb.out.c2⟩ ?_
      clear hK
      refine wpJ_on 2 rfl fun KJ hK => ?_
      go_simp
      refine (rfrom5 s (HU.out.below hbu) (by have := HC.out; omega)).mono ?_
      rintro e9 uA ⟨tA, pA, nA, rfl, hzA, hlA, hbA⟩
      have hbu' := Below.on hbu hbA
      clear hbu
      have hbu := hbu'
      clear hbu'
      replace Xa : Hid _ := Xa.out.below hbA
      replace Xb : Hid _ := Xb.out.below hbA
      replace Xr : Hid _ := Xr.out.below hbA
      replace Xsm : Hid _ := Xsm.out.below hbA
      replace hbw := Below.on hbw hbA
      clear hbA
      have YA : Hid (ZR uA tA pA nA (iv s (valB B64 xs))) := hzA
      have HLA : Hid (nA ≤ 2 * m) := hlA
      clear hzA hlA
      refine hK _ _ ⟨Xa.out.c0, Xa.out.c1, Xa.out.c2, Xb.out.c0, Xb.out.c1, Xb.out.c2⟩ ?_
      clear hK
      refine wpJ_on 7 rfl fun KJ hK => ?_
      go_simp
      refine (rshl04 tA YA.out (by have h1 := HLA.out; have h2 := HC.out; omega) ka (.inl HKA.out.2.2.1)).mono ?_
      rintro e9 uB ⟨v, rfl, hv, hbB⟩
      obtain ⟨tB, kB, nB, rfl, hgB, hzB, hlB⟩ := hv
      skip
      have hbu' := Below.on hbu hbB
      clear hbu
      have hbu := hbu'
      clear hbu'
      replace Xa : Hid _ := Xa.out.below hbB
      replace Xb : Hid _ := Xb.out.below hbB
      replace Xr : Hid _ := Xr.out.below hbB
      replace Xsm : Hid _ := Xsm.out.below hbB
      replace YA : Hid _ := YA.out.below hbB
      replace hbw := Below.on hbw hbB
      clear hbB
      have YB : Hid (ZR uB tB (some ⟨kB, 0, none⟩) nB (iv s (valB B64 xs) * 2 ^ ka)) := hzB
      have HLB : Hid (nB ≤ 40000) := hlB
      clear hzB hlB hgB
      clear YA
      refine hK _ _ ⟨Xa.out.c0, Xa.out.c1, Xa.out.c2, Xb.out.c0, Xb.out.c1, Xb.out.c2⟩ ?_
      clear hK
      refine wpJ_on 10 rfl fun KJ hK => ?_
      go_simp
      refine (rfrom5 t (KU.out.below hbu) (by have := HC.out; omega)).mono ?_
      rintro e9 uC ⟨tC, pC, nC, rfl, hzC, hlC, hbC⟩
      have hbu' := Below.on hbu hbC
      clear hbu
      have hbu := hbu'
      clear hbu'
      replace Xa : Hid _ := Xa.out.below hbC
      replace Xb : Hid _ := Xb.out.below hbC
      replace Xr : Hid _ := Xr.out.below hbC
      replace Xsm : Hid _ := Xsm.out.below hbC
      replace YB : Hid _ := YB.out.below hbC
      replace hbw := Below.on hbw hbC
      clear hbC
      have YC : Hid (ZR uC tC pC nC (iv t (valB B64 ys))) := hzC
      have HLC : Hid (nC ≤ 2 * n) := hlC
      clear hzC hlC
      refine hK _ _ ⟨Xa.out.c0, Xa.out.c1, Xa.out.c2, Xb.out.c0, Xb.out.c1, Xb.out.c2⟩ ?_
      clear hK
      refine wpJ_on 15 rfl fun KJ hK => ?_
      go_simp
      refine (rshl04 tC YC.out (by have h1 := HLC.out; have h2 := HC.out; omega) kb (.inl HKA.out.2.2.2)).mono ?_
      rintro e9 uD ⟨v, rfl, hv, hbD⟩
      obtain ⟨tD, kD, nD, rfl, hgD, hzD, hlD⟩ := hv
      skip
      have hbu' := Below.on hbu hbD
      clear hbu
      have hbu := hbu'
      clear hbu'
      replace Xa : Hid _ := Xa.out.below hbD
      replace Xb : Hid _ := Xb.out.below hbD
      replace Xr : Hid _ := Xr.out.below hbD
      replace Xsm : Hid _ := Xsm.out.below hbD
      replace YB : Hid _ := YB.out.below hbD
      replace YC : Hid _ := YC.out.below hbD
      replace hbw := Below.on hbw hbD
      clear hbD
      have YD : Hid (ZR uD tD (some ⟨kD, 0, none⟩) nD (iv t (valB B64 ys) * 2 ^ kb)) := hzD
      have HLD : Hid (nD ≤ 40000) := hlD
      clear hzD hlD hgD
      clear YC
      refine hK _ _ ⟨Xa.out.c0, Xa.out.c1, Xa.out.c2, Xb.out.c0, Xb.out.c1, Xb.out.c2⟩ ?_
      clear hK
      refine wpJ_on 16 rfl fun KJ hK => ?_
      go_simp
      have HLT : Hid (gsm < uD.heap.size) := Xsm.out.lt
      refine (radd04 tB tD YB.out YD.out (by have := HLB.out; omega) (by have := HLD.out; omega)).mono ?_
      rintro e9 uF ⟨v, rfl, hv, hbF⟩
      obtain ⟨tF, kF, nF, rfl, hgF, hzF, hlF⟩ := hv
      have HGB : Hid (uD.heap.size ≤ kF) := hgF
      have hbu' := Below.on hbu hbF
      clear hbu
      have hbu := hbu'
      clear hbu'
      replace Xa : Hid _ := Xa.out.below hbF
      replace Xb : Hid _ := Xb.out.below hbF
      replace Xr : Hid _ := Xr.out.below hbF
      replace Xsm : Hid _ := Xsm.out.below hbF
      replace YB : Hid _ := YB.out.below hbF
      replace YD : Hid _ := YD.out.below hbF
      replace hbw := Below.on hbw hbF
      clear hbF
      have RR : Hid (ZR uF tF (some ⟨kF, 0, none⟩) nF (iv s (valB B64 xs) * 2 ^ ka + iv t (valB B64 ys) * 2 ^ kb)) := hzF
      have HLF : Hid (nF ≤ max nB nD + 1) := hlF
      clear hzF hlF hgF
      clear YB
      clear YD
      have HNF : Hid (nF ≤ 40001) := by have h1 := HLB.out; have h2 := HLD.out; have h3 := HLF.out; show _ ≤ _; omega
      have HNE : Hid (kF ≠ gsm) := by have h1 := HLT.out; have h2 := HGB.out; show _ ≠ _; omega
      refine hK _ _ ⟨Xa.out.c0, Xa.out.c1, Xa.out.c2, Xb.out.c0, Xb.out.c1, Xb.out.c2⟩ ?_
      clear hK
      obtain ⟨csm0, csm1, fsm0, fsm1⟩ := Xsm.out
      have hnesm := Xsm.out.lt
      obtain ⟨ca0, ca1, ca2, fa0, fa1, fa2⟩ := Xa.out
      have hnea : ga < uF.heap.size := World.block_lt_of_cell? uF _ ca0
      obtain ⟨cb0, cb1, cb2, fb0, fb1, fb2⟩ := Xb.out
      have hneb : gb < uF.heap.size := World.block_lt_of_cell? uF _ cb0
      obtain ⟨cr0, cr1, cr2, fr0, fr1, fr2⟩ := Xr.out
      have hner : gr < uF.heap.size := World.block_lt_of_cell? uF _ cr0
      have qaa : ga ≠ gsm := HDasm.out
      have qba : gsm ≠ ga := fun h => qaa h.symm
      have qab : gb ≠ gsm := HDbsm.out
      have qbb : gsm ≠ gb := fun h => qab h.symm
      have qar : gr ≠ gsm := HDrsm.out
      have qbr : gsm ≠ gr := fun h => qar h.symm
      refine wpJ_on 18 rfl fun KJ hK => ?_
      go_simp
      have HJ2 : Hid ((fun W' : World => W'.cell? ⟨ga, 0, none⟩ = some (.bool s) ∧ W'.cell? ⟨ga, 1, none⟩ = some (.slice p m c) ∧ W'.cell? ⟨ga, 2, none⟩ = some (.int .i64 e) ∧ W'.cell? ⟨gb, 0, none⟩ = some (.bool t) ∧ W'.cell? ⟨gb, 1, none⟩ = some (.slice q n d) ∧ W'.cell? ⟨gb, 2, none⟩ = some (.int .i64 f)) ((uF.setCell ⟨gsm, 0, none⟩ (.bool tF)).setCell ⟨gsm, 1, none⟩ (.slice (some ⟨kF, 0, none⟩) nF nF))) := ⟨by go_simp, by go_simp, by go_simp, by go_simp, by go_simp, by go_simp⟩
      have Xsm2 : Hid (Box ((uF.setCell ⟨gsm, 0, none⟩ (.bool tF)).setCell ⟨gsm, 1, none⟩ (.slice (some ⟨kF, 0, none⟩) nF nF)) gsm (.bool tF) (.slice (some ⟨kF, 0, none⟩) nF nF)) := ⟨by go_simp, by go_simp, by go_simp, by go_simp⟩
      have Xa2 : Hid (B3q ((uF.setCell ⟨gsm, 0, none⟩ (.bool tF)).setCell ⟨gsm, 1, none⟩ (.slice (some ⟨kF, 0, none⟩) nF nF)) ga (.bool s) (.slice p m c) (.int .i64 e)) := ⟨by go_simp, by go_simp, by go_simp, by go_simp, by go_simp, by go_simp⟩
      have Xb2 : Hid (B3q ((uF.setCell ⟨gsm, 0, none⟩ (.bool tF)).setCell ⟨gsm, 1, none⟩ (.slice (some ⟨kF, 0, none⟩) nF nF)) gb (.bool t) (.slice q n d) (.int .i64 f)) := ⟨by go_simp, by go_simp, by go_simp, by go_simp, by go_simp, by go_simp⟩
      have Xr2 : Hid (B3q ((uF.setCell ⟨gsm, 0, none⟩ (.bool tF)).setCell ⟨gsm, 1, none⟩ (.slice (some ⟨kF, 0, none⟩) nF nF)) gr (.bool false) (.slice none 0 0) (.int .i64 0)) := ⟨by go_simp, by go_simp, by go_simp, by go_simp, by go_simp, by go_simp⟩
      have RR2 : Hid (ZR ((uF.setCell ⟨gsm, 0, none⟩ (.bool tF)).setCell ⟨gsm, 1, none⟩ (.slice (some ⟨kF, 0, none⟩) nF nF)) tF (some ⟨kF, 0, none⟩) nF (iv s (valB B64 xs) * 2 ^ ka + iv t (valB B64 ys) * 2 ^ kb)) := (RR.out.set _ _ _ HNE.out).set _ _ _ HNE.out
      have hbu2 : Below v6.heap.size v6 ((uF.setCell ⟨gsm, 0, none⟩ (.bool tF)).setCell ⟨gsm, 1, none⟩ (.slice (some ⟨kF, 0, none⟩) nF nF)) := bSet (bSet hbu _ _ _ HGU.out) _ _ _ HGU.out
      have hbw2 : Below w.heap.size w ((uF.setCell ⟨gsm, 0, none⟩ (.bool tF)).setCell ⟨gsm, 1, none⟩ (.slice (some ⟨kF, 0, none⟩) nF nF)) := bSet (bSet hbw _ _ _ HGsm.out) _ _ _ HGsm.out
      refine hK _ _ HJ2.out ?_
      clear hK HJ
      have HJ := HJ2
      clear HJ2
      refine wpJ_done (by kernel_rfl) ?_ _
      exact ⟨rfl, HRQ.out _ _ _ ⟨gsm, tA, pA, nA, tB, kB, nB, tC, pC, nC, tD, kD, nD, tF, kF, nF, by kernel_rfl, Xsm2.out, Xa2.out, Xb2.out, Xr2.out, RR2.out, HGsm.out, HDasm.out, HDbsm.out, HDrsm.out, HNF.out, hbu2, hbw2⟩⟩
end Go.Proofs.YtoajipejnmjdoaaGreatDoor
