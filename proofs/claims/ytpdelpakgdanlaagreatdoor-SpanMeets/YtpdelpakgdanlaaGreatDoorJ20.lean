import Derived.Test.YtpdelpakgdanlaaGreatDoorJ17
import Derived.Test.YtpdelpakgdanlaaGreatDoorJ18
import Derived.Test.YtpdelpakgdanlaaGreatDoorJ19
namespace Go.Proofs.YtpdelpakgdanlaaGreatDoor
open Go.RowKit Go.Shelf
set_option maxRecDepth 20000
set_option maxHeartbeats 0
theorem OutR.known {B : Nat} {w : World} {en : Ending} {z1 e1 z2 e2 zl el zh eh : Int} (h : OutR B w en z1 e1 z2 e2) (fl : DFm zl el) (fh : DFm zh eh) (vl : dv zl el = dv z1 e1) (vh : dv zh eh = dv z2 e2) : SpA B w en zl el zh eh := by
  rcases h with ⟨zl', el', zh', eh', ⟨s1, p1, m1, s2, p2, m2, h1, h2, h3⟩, h4, h5⟩ | ⟨_, h⟩
  · obtain ⟨rfl, rfl⟩ := dv_inj fl h2.fm (vl.trans h4.symm)
    obtain ⟨rfl, rfl⟩ := dv_inj fh h3.fm (vh.trans h5.symm)
    exact ⟨s1, p1, m1, s2, p2, m2, h1, h2, h3⟩
  · rcases h with h | h
    · exact absurd vl (h _ _ fl)
    · exact absurd vh (h _ _ fh)
theorem DN.small {w : World} {s : Bool} {p : Option Addr} {m c : Nat} {e z : Int} (h : DN w s p m c e z) (hz : z.natAbs < B64) : m ≤ 1 := by
  obtain ⟨xs, hX⟩ := h.zn.ex;have h5 := hX.at_.len
  have h6 := (hX.nf.len_le B64_one (k := 1)).2 (by rw [Nat.pow_one]; exact hz)
  omega
theorem lim9 {n : Nat} (h : n < 1000) : n < LIM := (lim_bits n).2 (by
  unfold bitsN
  split
  · omega
  · have := Nat.log2_le_self n
    omega)
theorem fm_odd {z : Int} (h : z % 2 = 1) : DFm z 0 := .inr ⟨h, by omega, by omega⟩
theorem fm_one {z : Int} (h : z % 2 = 1) : DFm z 1 := .inr ⟨h, by omega, by omega⟩
theorem dv_one (z : Int) : dv z 1 = 2 * dv z 0 := by
  rw [dv_shift (z := z) (e := 1) (f := 0) (by omega) (by omega)]
  show dv (z * ((2 ^ 1 : Nat) : Int)) 0 = _
  rw [show z * ((2 ^ 1 : Nat) : Int) = z + z by simp; omega, dv_add]
  omega
theorem dv_z (z : Int) : dv z 0 = z * dv 1 0 := by unfold dv; rw [Int.one_mul]
theorem dv10 : 0 < dv 1 0 := by rcases dv3 1 0 with h | h | h <;> omega
theorem dv_q1 : dv 1 0 = dv (rd false 1024 (2 ^ 1)) (0 - 0 - 10 + ((1 : Nat) : Int)) := by
  rw [show rd false 1024 (2 ^ 1) = 512 by decide, show ((0 : Int) - 0 - 10 + ((1 : Nat) : Int)) = -9 by decide]
  have h := dv_shift (z := 1) (e := 0) (f := -9) (by decide) (by decide)
  rw [show (1 : Int) * ((2 ^ ((0 : Int) - -9).toNat : Nat) : Int) = 512 by decide] at h
  exact h
theorem dv_q3 : dv 3 0 = dv (rd true 1536 (2 ^ 1)) (0 - 0 - 9 + ((1 : Nat) : Int)) := by
  rw [show rd true 1536 (2 ^ 1) = 768 by decide, show ((0 : Int) - 0 - 9 + ((1 : Nat) : Int)) = -8 by decide]
  have h := dv_shift (z := 3) (e := 0) (f := -8) (by decide) (by decide)
  rw [show (3 : Int) * ((2 ^ ((0 : Int) - -8).toNat : Nat) : Int) = 768 by decide] at h
  exact h
def WD (s : Bool) (g m c : Nat) (z : Int) : Dq := ⟨s, some ⟨g, 0, none⟩, m, c, 0, z⟩
theorem wd_v (s : Bool) (g m c : Nat) (z : Int) : (WD s g m c z).v = z * dv 1 0 := dv_z z
theorem mul_known {B : Nat} {w' : World} {en : Ending} {s1 s2 s3 s4 : Bool} {g1 g2 g3 g4 m1 m2 m3 m4 c1 c2 c3 c4 : Nat} (h : MulS B w' en (WD s1 g1 m1 c1 (-3)) (WD s2 g2 m2 c2 5) (WD s3 g3 m3 c3 (-7)) (WD s4 g4 m4 c4 1) 10) : SpA B w' en (-35) 0 21 0 := by
  have hp := dv10
  have e1 : endsL (WD s1 g1 m1 c1 (-3)) (WD s2 g2 m2 c2 5) = [WD s1 g1 m1 c1 (-3), WD s2 g2 m2 c2 5] := if_neg (by rw [wd_v, wd_v]; omega)
  have e2 : endsL (WD s3 g3 m3 c3 (-7)) (WD s4 g4 m4 c4 1) = [WD s3 g3 m3 c3 (-7), WD s4 g4 m4 c4 1] := if_neg (by rw [wd_v, wd_v]; omega)
  have hps : (pairsL (endsL (WD s1 g1 m1 c1 (-3)) (WD s2 g2 m2 c2 5)) (endsL (WD s3 g3 m3 c3 (-7)) (WD s4 g4 m4 c4 1))).map pv = [21 * dv 1 0, -3 * dv 1 0, -35 * dv 1 0, 5 * dv 1 0] := by
    rw [e1, e2]
    show [dv (-3 * -7) (0 + 0), dv (-3 * 1) (0 + 0), dv (5 * -7) (0 + 0), dv (5 * 1) (0 + 0)] = _
    rw [show ((0 : Int) + 0) = 0 by decide, dv_z (-3 * -7), dv_z (-3 * 1), dv_z (5 * -7), dv_z (5 * 1)]
    rfl
  have hmem : ∀ v, (∃ q ∈ pairsL (endsL (WD s1 g1 m1 c1 (-3)) (WD s2 g2 m2 c2 5)) (endsL (WD s3 g3 m3 c3 (-7)) (WD s4 g4 m4 c4 1)), v = pv q) ↔ v ∈ [21 * dv 1 0, -3 * dv 1 0, -35 * dv 1 0, 5 * dv 1 0] := by
    intro v
    rw [← hps, List.mem_map]
    exact ⟨fun ⟨q, h1, h2⟩ => ⟨q, h1, h2.symm⟩, fun ⟨q, h1, h2⟩ => ⟨q, h1, h2.symm⟩⟩
  rcases h with ⟨_, x, hx, y, hy, hb⟩ | ⟨zl, el, zh, eh, fl, fh, hmin, hmax, ho⟩
  · exfalso
    rw [e1] at hx;rw [e2] at hy
    simp only [List.mem_cons, List.not_mem_nil, or_false] at hx hy
    rcases hx with rfl | rfl <;> rcases hy with rfl | rfl <;> rcases hb with hb | hb
    · exact absurd hb (Nat.not_le.2 (lim9 (show ((-3 : Int) * -7).natAbs < 1000 by decide)))
    · exact hb 21 0 (fm_odd (by decide)) (by show dv 21 0 = dv (-3 * -7) (0 + 0); rw [show ((-3 : Int) * -7) = 21 by decide, show ((0 : Int) + 0) = 0 by decide])
    · exact absurd hb (Nat.not_le.2 (lim9 (show ((-3 : Int) * 1).natAbs < 1000 by decide)))
    · exact hb (-3) 0 (fm_odd (by decide)) (by show dv (-3) 0 = dv (-3 * 1) (0 + 0); rw [show ((-3 : Int) * 1) = -3 by decide, show ((0 : Int) + 0) = 0 by decide])
    · exact absurd hb (Nat.not_le.2 (lim9 (show ((5 : Int) * -7).natAbs < 1000 by decide)))
    · exact hb (-35) 0 (fm_odd (by decide)) (by show dv (-35) 0 = dv (5 * -7) (0 + 0); rw [show ((5 : Int) * -7) = -35 by decide, show ((0 : Int) + 0) = 0 by decide])
    · exact absurd hb (Nat.not_le.2 (lim9 (show ((5 : Int) * 1).natAbs < 1000 by decide)))
    · exact hb 5 0 (fm_odd (by decide)) (by show dv 5 0 = dv (5 * 1) (0 + 0); rw [show ((5 : Int) * 1) = 5 by decide, show ((0 : Int) + 0) = 0 by decide])
  · have h1 : dv zl el = dv (-35) 0 := by
      have h2 := (hmem _).1 hmin.1
      obtain ⟨q, hq, h3⟩ := (hmem (-35 * dv 1 0)).2 (by simp)
      have h4 := hmin.2 q hq;rw [← h3] at h4;rw [dv_z (-35)]
      simp only [List.mem_cons, List.not_mem_nil, or_false] at h2
      omega
    have h5 : dv zh eh = dv 21 0 := by
      have h2 := (hmem _).1 hmax.1
      obtain ⟨q, hq, h3⟩ := (hmem (21 * dv 1 0)).2 (by simp)
      have h4 := hmax.2 q hq;rw [← h3] at h4;rw [dv_z 21]
      simp only [List.mem_cons, List.not_mem_nil, or_false] at h2
      omega
    obtain ⟨rfl, rfl⟩ := dv_inj fl (fm_odd (by decide)) h1
    obtain ⟨rfl, rfl⟩ := dv_inj fh (fm_odd (by decide)) h5
    exact ho.known fl fh (by rw [show bitsN (-35 : Int).natAbs - 10 = 0 by decide]; rfl) (by rw [show bitsN (21 : Int).natAbs - 10 = 0 by decide]; rfl)
theorem awake6 {w : World} (hT : Tab w) :
  Calls Tryz.prog 4 #[] w fun en w' => en = .returned (.bool true) ∧ Below w.heap.size w w' := by
 have TB : Hid (Tab w) := hT;clear hT
 go_enter Tryz.func4, Tryz.ntmps4
 go_wp2_with fail
 obtain ⟨W0, hW0⟩ : ∃ W0 : World, W0 = w := ⟨_, rfl⟩
 have hbw : Below w.heap.size w W0 := by rw [hW0]; exact Below.refl _ _
 rw [← hW0];clear hW0
 refine (lfrom6 (i := 1) (j := 3) (whr_p 1 (by decide) (by decide)) (whr_p 3 (by decide) (by decide))).mono ?_
 rintro e9 u1 ⟨s1, g1, m1, c1, s2, g2, m2, c2, rfl, hd1, hd2, hb1⟩;replace hbw := bon hbw hb1;clear hb1;have D1 := hdQ hd1;have D2 := hdQ hd2;clear hd1 hd2;go_wp2_with fail
 refine (lfrom6 (i := 5) (j := 7) (whr_p 5 (by decide) (by decide)) (whr_p 7 (by decide) (by decide))).mono ?_
 rintro e9 u2 ⟨s3, g3, m3, c3, s4, g4, m4, c4, rfl, hd3, hd4, hb2⟩;replace D1 := DN.b D1 hb2;replace D2 := DN.b D2 hb2;replace hbw := bon hbw hb2;clear hb2;have D3 := hdQ hd3;have D4 := hdQ hd4;clear hd3 hd4;go_wp2_with fail
 refine (sadd6 (d1 := WD s1 g1 m1 c1 (1)) (d2 := WD s2 g2 m2 c2 (3)) (d3 := WD s3 g3 m3 c3 (5)) (d4 := WD s4 g4 m4 c4 (7)) (P := 10) (zl := 3) (el := 1) (zh := 5) (eh := 1) (K1 := 0) (K2 := 0) D1.out D2.out D3.out D4.out (by have := dv10; rw [wd_v, wd_v]; omega) (by have := dv10; rw [wd_v, wd_v]; omega) (by decide) (fm_one (by decide)) (fm_one (by decide)) (by rw [wd_v, wd_v, dv_one, dv_z 3]; omega) (by rw [wd_v, wd_v, dv_one, dv_z 5]; omega) (fun _ _ => ⟨lim9 (show ((1 : Int) * 2 ^ ((0 : Int) - min 0 0).toNat).natAbs < 1000 by decide), lim9 (show ((5 : Int) * 2 ^ ((0 : Int) - min 0 0).toNat).natAbs < 1000 by decide), lim9 (show ((1 : Int) * 2 ^ ((0 : Int) - min 0 0).toNat + (5 : Int) * 2 ^ ((0 : Int) - min 0 0).toNat).natAbs < 1000 by decide)⟩) (fun _ _ => ⟨lim9 (show ((3 : Int) * 2 ^ ((0 : Int) - min 0 0).toNat).natAbs < 1000 by decide), lim9 (show ((7 : Int) * 2 ^ ((0 : Int) - min 0 0).toNat).natAbs < 1000 by decide), lim9 (show ((3 : Int) * 2 ^ ((0 : Int) - min 0 0).toNat + (7 : Int) * 2 ^ ((0 : Int) - min 0 0).toNat).natAbs < 1000 by decide)⟩) (by decide) (by decide) (TB.out.below hbw)).mono ?_
 rintro e9 v1 ⟨ho, hb1⟩
 obtain ⟨sa, pa, ma, sb, pb, mb, rfl, hda, hdb⟩ := ho.known (zl := 3) (el := 1) (zh := 5) (eh := 1) (fm_one (by decide)) (fm_one (by decide)) rfl rfl
 clear ho;replace D1 := DN.b D1 hb1;replace D2 := DN.b D2 hb1;replace D3 := DN.b D3 hb1;replace D4 := DN.b D4 hb1;replace hbw := bon hbw hb1;clear hb1;have DA := hdQ hda;have DB1 := hdQ hdb;clear hda hdb;go_wp2_with fail;have Xa0 : Hid (B6q (v1.alloc (.cells #[.bool sa, .slice pa ma ma, .int .i64 1, .bool sb, .slice pb mb mb, .int .i64 1] 28)) v1.heap.size (.bool sa) (.slice pa ma ma) (.int .i64 1) (.bool sb) (.slice pb mb mb) (.int .i64 1)) := B6q.new v1 _ _ _ _ _ _ _;have hbn : Below v1.heap.size v1 (v1.alloc (.cells #[.bool sa, .slice pa ma ma, .int .i64 1, .bool sb, .slice pb mb mb, .int .i64 1] 28)) := below1 v1 _;generalize v1.alloc (.cells #[.bool sa, .slice pa ma ma, .int .i64 1, .bool sb, .slice pb mb mb, .int .i64 1] 28) = Wa at *;have HGa : Hid (w.heap.size ≤ v1.heap.size) := hbw.size;replace D1 := DN.b D1 hbn;replace D2 := DN.b D2 hbn;replace D3 := DN.b D3 hbn;replace D4 := DN.b D4 hbn
 replace DA := DO.b DA hbn;replace DB1 := DO.b DB1 hbn;replace hbw := bon hbw hbn;clear hbn;generalize v1.heap.size = ga at *;have Xa := Xa0;clear Xa0
 refine (lfrom6 (i := -3) (j := 5) (whr_n 3 (by decide) (by decide)) (whr_p 5 (by decide) (by decide))).mono ?_
 rintro e9 u3 ⟨s5, g5, m5, c5, s6, g6, m6, c6, rfl, hd5, hd6, hb3⟩;replace Xa := B6q.b Xa hb3;replace D1 := DN.b D1 hb3;replace D2 := DN.b D2 hb3;replace D3 := DN.b D3 hb3;replace D4 := DN.b D4 hb3;replace DA := DO.b DA hb3;replace DB1 := DO.b DB1 hb3;replace hbw := bon hbw hb3;clear hb3;have D5 := hdQ hd5;have D6 := hdQ hd6;clear hd5 hd6;go_wp2_with fail
 refine (lfrom6 (i := -7) (j := 1) (whr_n 7 (by decide) (by decide)) (whr_p 1 (by decide) (by decide))).mono ?_
 rintro e9 u4 ⟨s7, g7, m7, c7, s8, g8, m8, c8, rfl, hd7, hd8, hb4⟩;replace Xa := B6q.b Xa hb4;replace D1 := DN.b D1 hb4;replace D2 := DN.b D2 hb4;replace D3 := DN.b D3 hb4;replace D4 := DN.b D4 hb4;replace DA := DO.b DA hb4;replace DB1 := DO.b DB1 hb4;replace D5 := DN.b D5 hb4;replace D6 := DN.b D6 hb4;replace hbw := bon hbw hb4;clear hb4;have D7 := hdQ hd7;have D8 := hdQ hd8;clear hd7 hd8;go_wp2_with fail
 refine (smul6 (d1 := WD s5 g5 m5 c5 (-3)) (d2 := WD s6 g6 m6 c6 (5)) (d3 := WD s7 g7 m7 c7 (-7)) (d4 := WD s8 g8 m8 c8 (1)) (P := 10) D5.out D6.out D7.out D8.out (by have := dv10; rw [wd_v, wd_v]; omega) (by have := dv10; rw [wd_v, wd_v]; omega) (by decide) (TB.out.below hbw)).mono ?_
 rintro e9 v2 ⟨ho, hb2⟩;obtain ⟨sc, pc, mc, sd, pd, md, rfl, hdc, hdd⟩ := mul_known ho;clear ho;replace Xa := B6q.b Xa hb2;replace D1 := DN.b D1 hb2;replace D2 := DN.b D2 hb2;replace D3 := DN.b D3 hb2;replace D4 := DN.b D4 hb2;replace DA := DO.b DA hb2;replace DB1 := DO.b DB1 hb2;replace D5 := DN.b D5 hb2;replace D6 := DN.b D6 hb2;replace D7 := DN.b D7 hb2;replace D8 := DN.b D8 hb2;replace hbw := bon hbw hb2;clear hb2;have DC := hdQ hdc;have DD1 := hdQ hdd;clear hdc hdd;go_wp2_with fail;have Xb0 : Hid (B6q (v2.alloc (.cells #[.bool sc, .slice pc mc mc, .int .i64 0, .bool sd, .slice pd md md, .int .i64 0] 28)) v2.heap.size (.bool sc) (.slice pc mc mc) (.int .i64 0) (.bool sd) (.slice pd md md) (.int .i64 0)) := B6q.new v2 _ _ _ _ _ _ _;have hbn : Below v2.heap.size v2 (v2.alloc (.cells #[.bool sc, .slice pc mc mc, .int .i64 0, .bool sd, .slice pd md md, .int .i64 0] 28)) := below1 v2 _;generalize v2.alloc (.cells #[.bool sc, .slice pc mc mc, .int .i64 0, .bool sd, .slice pd md md, .int .i64 0] 28) = Wb at *
 have HGb : Hid (w.heap.size ≤ v2.heap.size) := hbw.size;replace Xa := B6q.b Xa hbn;replace D1 := DN.b D1 hbn;replace D2 := DN.b D2 hbn;replace D3 := DN.b D3 hbn;replace D4 := DN.b D4 hbn;replace DA := DO.b DA hbn;replace DB1 := DO.b DB1 hbn;replace D5 := DN.b D5 hbn;replace D6 := DN.b D6 hbn;replace D7 := DN.b D7 hbn;replace D8 := DN.b D8 hbn;replace DC := DO.b DC hbn;replace DD1 := DO.b DD1 hbn;replace hbw := bon hbw hbn;clear hbn;generalize v2.heap.size = gb at *;have Xb := Xb0;clear Xb0
 refine (lfrom6 (i := 1) (j := 3) (whr_p 1 (by decide) (by decide)) (whr_p 3 (by decide) (by decide))).mono ?_
 rintro e9 u5 ⟨s9, g9, m9, c9, s10, g10, m10, c10, rfl, hd9, hd10, hb5⟩;replace Xa := B6q.b Xa hb5;replace Xb := B6q.b Xb hb5;replace D1 := DN.b D1 hb5;replace D2 := DN.b D2 hb5;replace D3 := DN.b D3 hb5;replace D4 := DN.b D4 hb5;replace DA := DO.b DA hb5;replace DB1 := DO.b DB1 hb5;replace D5 := DN.b D5 hb5;replace D6 := DN.b D6 hb5;replace D7 := DN.b D7 hb5;replace D8 := DN.b D8 hb5;replace DC := DO.b DC hb5;replace DD1 := DO.b DD1 hb5;replace hbw := bon hbw hb5;clear hb5;have D9 := hdQ hd9;have D10 := hdQ hd10;clear hd9 hd10;go_wp2_with fail
 refine (lfrom6 (i := 1) (j := 1) (whr_p 1 (by decide) (by decide)) (whr_p 1 (by decide) (by decide))).mono ?_
 rintro e9 u6 ⟨s11, g11, m11, c11, s12, g12, m12, c12, rfl, hd11, hd12, hb6⟩;replace Xa := B6q.b Xa hb6;replace Xb := B6q.b Xb hb6;replace D1 := DN.b D1 hb6;replace D2 := DN.b D2 hb6;replace D3 := DN.b D3 hb6;replace D4 := DN.b D4 hb6;replace DA := DO.b DA hb6;replace DB1 := DO.b DB1 hb6;replace D5 := DN.b D5 hb6;replace D6 := DN.b D6 hb6;replace D7 := DN.b D7 hb6;replace D8 := DN.b D8 hb6;replace DC := DO.b DC hb6;replace DD1 := DO.b DD1 hb6;replace D9 := DN.b D9 hb6;replace D10 := DN.b D10 hb6;replace hbw := bon hbw hb6;clear hb6;have D11 := hdQ hd11;have D12 := hdQ hd12;clear hd11 hd12;go_wp2_with fail
 have hsf : ∀ {s : Bool} {g m c : Nat} {z : Int}, DN u6 s (some ⟨g, 0, none⟩) m c 0 z → 0 < z → s = false := fun h hz => by rw [h.zn.sg]; exact decide_eq_false (by omega)
 refine (squo_p (d1 := WD s9 g9 m9 c9 (1)) (d2 := WD s10 g10 m10 c10 (3)) (d3 := WD s11 g11 m11 c11 (1)) (d4 := WD s12 g12 m12 c12 (1)) (P := 10) (zl := rd false 1024 (2 ^ 1)) (el := 0 - 0 - 10 + (1 : Nat)) (zh := rd true 1536 (2 ^ 1)) (eh := 0 - 0 - 9 + (1 : Nat)) D9.out D10.out D11.out D12.out (by have := dv10; rw [wd_v, wd_v]; omega) (by have := dv10; rw [wd_v, wd_v]; omega) (by decide) (hsf D9.out (by decide)) (hsf D10.out (by decide)) (hsf D12.out (by decide)) (show (0 : Int) < 1 by decide) (fun W hW => qf_od (x := 1) (y := 1) (X := 1024) (Y := 1) (L := 10) (Z := 1024) (K9 := 1) (D9.out.below hW) (D12.out.below hW) (by decide) (Nat.le_trans (D9.out.small (by unfold B64; decide)) (by decide)) (Nat.le_trans (D12.out.small (by unfold B64; decide)) (by decide)) (by decide) ⟨by decide, by decide, by decide⟩ (by decide) (by decide) ((TB.out.below hbw).below hW)) (fun W hW => qf_ou (x := 3) (y := 1) (X := 1536) (Y := 1) (L := 9) (Z := 1536) (K9 := 1) (D10.out.below hW) (D11.out.below hW) (by decide) (Nat.le_trans (D10.out.small (by unfold B64; decide)) (by decide)) (Nat.le_trans (D11.out.small (by unfold B64; decide)) (by decide)) (by decide) ⟨by decide, by decide, by decide⟩ (by decide) (by decide) ((TB.out.below hbw).below hW)) (TB.out.below hbw)).mono ?_
 rintro e9 v3 ⟨ho, hb3⟩
 obtain ⟨se, pe, me, sf, pf, mf, rfl, hde, hdf⟩ := ho.known (zl := 1) (el := 0) (zh := 3) (eh := 0) (fm_odd (by decide)) (fm_odd (by decide)) dv_q1 dv_q3
 clear ho hsf;replace Xa := B6q.b Xa hb3;replace Xb := B6q.b Xb hb3;replace D1 := DN.b D1 hb3;replace D2 := DN.b D2 hb3;replace D3 := DN.b D3 hb3;replace D4 := DN.b D4 hb3;replace DA := DO.b DA hb3;replace DB1 := DO.b DB1 hb3;replace D5 := DN.b D5 hb3;replace D6 := DN.b D6 hb3;replace D7 := DN.b D7 hb3;replace D8 := DN.b D8 hb3;replace DC := DO.b DC hb3;replace DD1 := DO.b DD1 hb3;replace D9 := DN.b D9 hb3;replace D10 := DN.b D10 hb3;replace D11 := DN.b D11 hb3;replace D12 := DN.b D12 hb3;replace hbw := bon hbw hb3;clear hb3;have DE := hdQ hde;have DF1 := hdQ hdf;clear hde hdf;go_wp2_with fail;have Xc0 : Hid (B6q (v3.alloc (.cells #[.bool se, .slice pe me me, .int .i64 0, .bool sf, .slice pf mf mf, .int .i64 0] 28)) v3.heap.size (.bool se) (.slice pe me me) (.int .i64 0) (.bool sf) (.slice pf mf mf) (.int .i64 0)) := B6q.new v3 _ _ _ _ _ _ _;have hbn : Below v3.heap.size v3 (v3.alloc (.cells #[.bool se, .slice pe me me, .int .i64 0, .bool sf, .slice pf mf mf, .int .i64 0] 28)) := below1 v3 _
 generalize v3.alloc (.cells #[.bool se, .slice pe me me, .int .i64 0, .bool sf, .slice pf mf mf, .int .i64 0] 28) = Wc at *;have HGc : Hid (w.heap.size ≤ v3.heap.size) := hbw.size;replace Xa := B6q.b Xa hbn;replace Xb := B6q.b Xb hbn;replace D1 := DN.b D1 hbn;replace D2 := DN.b D2 hbn;replace D3 := DN.b D3 hbn;replace D4 := DN.b D4 hbn;replace DA := DO.b DA hbn;replace DB1 := DO.b DB1 hbn;replace D5 := DN.b D5 hbn;replace D6 := DN.b D6 hbn;replace D7 := DN.b D7 hbn;replace D8 := DN.b D8 hbn;replace DC := DO.b DC hbn;replace DD1 := DO.b DD1 hbn;replace D9 := DN.b D9 hbn;replace D10 := DN.b D10 hbn;replace D11 := DN.b D11 hbn;replace D12 := DN.b D12 hbn;replace DE := DO.b DE hbn;replace DF1 := DO.b DF1 hbn;replace hbw := bon hbw hbn;clear hbn;generalize v3.heap.size = gc at *;have Xc := Xc0;clear Xc0;obtain ⟨cb0, cb1, cb2, cb3, cb4, cb5, fb0, fb1, fb2, fb3, fb4, fb5⟩ := Xb.out;have hneb : gb < Wc.heap.size := blt cb0
 go_wp2_with fail;clear cb0 cb1 cb2 cb3 cb4 cb5 fb0 fb1 fb2 fb3 fb4 fb5 hneb D1 D2 D3 D4 D5 D6 D7 D8 D9 D10 D11 D12;obtain ⟨Wr, hWr⟩ := exq Wc.drew
 have hbd : Below Wc.heap.size Wc Wr := by rw [hWr]; exact bDrew1 (Below.refl _ _)
 replace Xa := B6q.b Xa hbd;replace Xb := B6q.b Xb hbd;replace Xc := B6q.b Xc hbd;replace DA := DO.b DA hbd;replace DB1 := DO.b DB1 hbd;replace DC := DO.b DC hbd;replace DD1 := DO.b DD1 hbd;replace DE := DO.b DE hbd;replace DF1 := DO.b DF1 hbd;replace hbw := bon hbw hbd;clear hbd
 have HJ : Hid ((fun W' : World => W'.cell? ⟨gb, 0, none⟩ = some (.bool sc) ∧ W'.cell? ⟨gb, 1, none⟩ = some (.slice pc mc mc) ∧ W'.cell? ⟨gb, 2, none⟩ = some (.int .i64 0) ∧ W'.cell? ⟨gb, 3, none⟩ = some (.bool sd) ∧ W'.cell? ⟨gb, 4, none⟩ = some (.slice pd md md) ∧ W'.cell? ⟨gb, 5, none⟩ = some (.int .i64 0) ∧ W'.cell? ⟨gc, 0, none⟩ = some (.bool se) ∧ W'.cell? ⟨gc, 1, none⟩ = some (.slice pe me me) ∧ W'.cell? ⟨gc, 2, none⟩ = some (.int .i64 0) ∧ W'.cell? ⟨gc, 3, none⟩ = some (.bool sf) ∧ W'.cell? ⟨gc, 4, none⟩ = some (.slice pf mf mf) ∧ W'.cell? ⟨gc, 5, none⟩ = some (.int .i64 0)) Wr) := ⟨Xb.out.c0, Xb.out.c1, Xb.out.c2, Xb.out.c3, Xb.out.c4, Xb.out.c5, Xc.out.c0, Xc.out.c1, Xc.out.c2, Xc.out.c3, Xc.out.c4, Xc.out.c5⟩
 refine wp_region_J (fun W' => W'.cell? ⟨gb, 0, none⟩ = some (.bool sc) ∧ W'.cell? ⟨gb, 1, none⟩ = some (.slice pc mc mc) ∧ W'.cell? ⟨gb, 2, none⟩ = some (.int .i64 0) ∧ W'.cell? ⟨gb, 3, none⟩ = some (.bool sd) ∧ W'.cell? ⟨gb, 4, none⟩ = some (.slice pd md md) ∧ W'.cell? ⟨gb, 5, none⟩ = some (.int .i64 0) ∧ W'.cell? ⟨gc, 0, none⟩ = some (.bool se) ∧ W'.cell? ⟨gc, 1, none⟩ = some (.slice pe me me) ∧ W'.cell? ⟨gc, 2, none⟩ = some (.int .i64 0) ∧ W'.cell? ⟨gc, 3, none⟩ = some (.bool sf) ∧ W'.cell? ⟨gc, 4, none⟩ = some (.slice pf mf mf) ∧ W'.cell? ⟨gc, 5, none⟩ = some (.int .i64 0)) (by kernel_rfl) ?_
 rw [← hWr];clear hWr
 refine wpJ_tq 0 rfl HJ.out ?_
 refine wpJ_tq 1 rfl HJ.out ?_
 refine wpJ_tq 2 rfl HJ.out ?_
 refine wpJ_tq 3 rfl HJ.out ?_
 refine wpJ_tq 4 rfl HJ.out ?_
 go_simp
 refine wpJ_tq 5 rfl HJ.out ?_
 refine wpJ_tq 6 rfl HJ.out ?_
 refine wpJ_tq 7 rfl HJ.out ?_
 refine wpJ_tq 8 rfl HJ.out ?_
 refine wpJ_tq 9 rfl HJ.out ?_
 go_simp
 refine wpJ_tq 10 rfl HJ.out ?_
 refine wpJ_tq 11 rfl HJ.out ?_
 refine wpJ_on 12 rfl fun KJ hK => ?_
 go_simp
 refine (lfrom6 (i := -35) (j := 21) (whr_n 35 (by decide) (by decide)) (whr_p 21 (by decide) (by decide))).mono ?_
 rintro e9 u7 ⟨s13, g13, m13, c13, s14, g14, m14, c14, rfl, hd13, hd14, hb7⟩;replace Xa := B6q.b Xa hb7;replace Xb := B6q.b Xb hb7;replace Xc := B6q.b Xc hb7;replace DA := DO.b DA hb7;replace DB1 := DO.b DB1 hb7;replace DC := DO.b DC hb7;replace DD1 := DO.b DD1 hb7;replace DE := DO.b DE hb7;replace DF1 := DO.b DF1 hb7;replace hbw := bon hbw hb7;clear hb7;have D13 := hdQ hd13;have D14 := hdQ hd14;clear hd13 hd14
 refine hK _ _ ⟨Xb.out.c0, Xb.out.c1, Xb.out.c2, Xb.out.c3, Xb.out.c4, Xb.out.c5, Xc.out.c0, Xc.out.c1, Xc.out.c2, Xc.out.c3, Xc.out.c4, Xc.out.c5⟩ ?_
 clear hK
 refine wpJ_on 13 rfl fun KJ hK => ?_
 go_simp
 refine (rs6 (DC.out.dn) (DD1.out.dn) D13.out D14.out).mono ?_
 rintro e v20 ⟨rfl, hb20⟩;replace Xa := B6q.b Xa hb20;replace Xb := B6q.b Xb hb20;replace Xc := B6q.b Xc hb20;replace DA := DO.b DA hb20;replace DB1 := DO.b DB1 hb20;replace DC := DO.b DC hb20;replace DD1 := DO.b DD1 hb20;replace DE := DO.b DE hb20;replace DF1 := DO.b DF1 hb20;replace D13 := DN.b D13 hb20;replace D14 := DN.b D14 hb20;replace hbw := bon hbw hb20;clear hb20 HJ
 have HJ : Hid ((fun W' : World => W'.cell? ⟨gb, 0, none⟩ = some (.bool sc) ∧ W'.cell? ⟨gb, 1, none⟩ = some (.slice pc mc mc) ∧ W'.cell? ⟨gb, 2, none⟩ = some (.int .i64 0) ∧ W'.cell? ⟨gb, 3, none⟩ = some (.bool sd) ∧ W'.cell? ⟨gb, 4, none⟩ = some (.slice pd md md) ∧ W'.cell? ⟨gb, 5, none⟩ = some (.int .i64 0) ∧ W'.cell? ⟨gc, 0, none⟩ = some (.bool se) ∧ W'.cell? ⟨gc, 1, none⟩ = some (.slice pe me me) ∧ W'.cell? ⟨gc, 2, none⟩ = some (.int .i64 0) ∧ W'.cell? ⟨gc, 3, none⟩ = some (.bool sf) ∧ W'.cell? ⟨gc, 4, none⟩ = some (.slice pf mf mf) ∧ W'.cell? ⟨gc, 5, none⟩ = some (.int .i64 0)) v20) := ⟨Xb.out.c0, Xb.out.c1, Xb.out.c2, Xb.out.c3, Xb.out.c4, Xb.out.c5, Xc.out.c0, Xc.out.c1, Xc.out.c2, Xc.out.c3, Xc.out.c4, Xc.out.c5⟩
 refine hK _ _ HJ.out ?_
 clear hK
 refine wpJ_tq 14 rfl HJ.out ?_
 refine wpJ_tq 15 rfl HJ.out ?_
 refine wpJ_tq 16 rfl HJ.out ?_
 refine wpJ_tq 17 rfl HJ.out ?_
 refine wpJ_on 18 rfl fun KJ hK => ?_
 go_simp
 refine (lfrom6 (i := 1) (j := 3) (whr_p 1 (by decide) (by decide)) (whr_p 3 (by decide) (by decide))).mono ?_
 rintro e9 u8 ⟨s15, g15, m15, c15, s16, g16, m16, c16, rfl, hd15, hd16, hb8⟩;replace Xa := B6q.b Xa hb8;replace Xb := B6q.b Xb hb8;replace Xc := B6q.b Xc hb8;replace DA := DO.b DA hb8;replace DB1 := DO.b DB1 hb8;replace DC := DO.b DC hb8;replace DD1 := DO.b DD1 hb8;replace DE := DO.b DE hb8;replace DF1 := DO.b DF1 hb8;replace D13 := DN.b D13 hb8;replace D14 := DN.b D14 hb8;replace hbw := bon hbw hb8;clear hb8;have D15 := hdQ hd15;have D16 := hdQ hd16;clear hd15 hd16
 refine hK _ _ ⟨Xb.out.c0, Xb.out.c1, Xb.out.c2, Xb.out.c3, Xb.out.c4, Xb.out.c5, Xc.out.c0, Xc.out.c1, Xc.out.c2, Xc.out.c3, Xc.out.c4, Xc.out.c5⟩ ?_
 clear hK
 refine wpJ_on 19 rfl fun KJ hK => ?_
 go_simp
 refine (rs6 (DE.out.dn) (DF1.out.dn) D15.out D16.out).mono ?_
 rintro e v21 ⟨rfl, hb21⟩;replace Xa := B6q.b Xa hb21;replace Xb := B6q.b Xb hb21;replace Xc := B6q.b Xc hb21;replace DA := DO.b DA hb21;replace DB1 := DO.b DB1 hb21;replace DC := DO.b DC hb21;replace DD1 := DO.b DD1 hb21;replace DE := DO.b DE hb21;replace DF1 := DO.b DF1 hb21;replace D13 := DN.b D13 hb21;replace D14 := DN.b D14 hb21;replace D15 := DN.b D15 hb21;replace D16 := DN.b D16 hb21;replace hbw := bon hbw hb21;clear hb21 HJ
 have HJ : Hid ((fun W' : World => W'.cell? ⟨gb, 0, none⟩ = some (.bool sc) ∧ W'.cell? ⟨gb, 1, none⟩ = some (.slice pc mc mc) ∧ W'.cell? ⟨gb, 2, none⟩ = some (.int .i64 0) ∧ W'.cell? ⟨gb, 3, none⟩ = some (.bool sd) ∧ W'.cell? ⟨gb, 4, none⟩ = some (.slice pd md md) ∧ W'.cell? ⟨gb, 5, none⟩ = some (.int .i64 0) ∧ W'.cell? ⟨gc, 0, none⟩ = some (.bool se) ∧ W'.cell? ⟨gc, 1, none⟩ = some (.slice pe me me) ∧ W'.cell? ⟨gc, 2, none⟩ = some (.int .i64 0) ∧ W'.cell? ⟨gc, 3, none⟩ = some (.bool sf) ∧ W'.cell? ⟨gc, 4, none⟩ = some (.slice pf mf mf) ∧ W'.cell? ⟨gc, 5, none⟩ = some (.int .i64 0)) v21) := ⟨Xb.out.c0, Xb.out.c1, Xb.out.c2, Xb.out.c3, Xb.out.c4, Xb.out.c5, Xc.out.c0, Xc.out.c1, Xc.out.c2, Xc.out.c3, Xc.out.c4, Xc.out.c5⟩
 refine hK _ _ HJ.out ?_
 clear hK
 refine wpJ_tq 20 rfl HJ.out ?_
 refine wpJ_tq 21 rfl HJ.out ?_
 refine wpJ_done (by kernel_rfl) ?_ _
 clear HJ;go_wp2_with fail;clear D13 D14 D15 D16 DC DD1 DE DF1 Xb Xc
 refine (whr_p (w := v21) 3 (by decide) (by decide) _ (Below.refl _ _)).mono ?_
 rintro e9 v31 ⟨s31, g31, m31, c31, rfl, hg31, hd31, hb31⟩
 have hd31 : DN v31 s31 (some ⟨g31, 0, none⟩) m31 c31 1 3 := ⟨hd31.zn, fm_one (by decide)⟩
 replace Xa := B6q.b Xa hb31;replace DA := DO.b DA hb31;replace DB1 := DO.b DB1 hb31;replace hbw := bon hbw hb31;clear hb31;have D31 := hdQ hd31;clear hd31 hg31;go_wp2_with fail
 refine (whr_p (w := v31) 5 (by decide) (by decide) _ (Below.refl _ _)).mono ?_
 rintro e9 v32 ⟨s32, g32, m32, c32, rfl, hg32, hd32, hb32⟩
 have hd32 : DN v32 s32 (some ⟨g32, 0, none⟩) m32 c32 1 5 := ⟨hd32.zn, fm_one (by decide)⟩
 replace Xa := B6q.b Xa hb32;replace DA := DO.b DA hb32;replace DB1 := DO.b DB1 hb32;replace D31 := DN.b D31 hb32;replace hbw := bon hbw hb32;clear hb32;have D32 := hdQ hd32;clear hd32 hg32;obtain ⟨ca0, ca1, ca2, ca3, ca4, ca5, fa0, fa1, fa2, fa3, fa4, fa5⟩ := Xa.out;have hnea : ga < v32.heap.size := blt ca0;go_wp2_with fail;clear ca0 ca1 ca2 ca3 ca4 ca5 fa0 fa1 fa2 fa3 fa4 fa5 hnea
 refine (rs6 (DA.out.dn.below (below2 v32 _ _)) (DB1.out.dn.below (below2 v32 _ _)) (D31.out.below (below2 v32 _ _)) (D32.out.below (below2 v32 _ _))).mono ?_
 rintro e9 v9 ⟨rfl, hb9⟩;have hbz := Below.on (Below.on hbw (below2 v32 _ _)) hb9;clear hb9;go_wp2_with fail
 go_ret
 exact ⟨rfl, hbz⟩
theorem DN.copy {w : World} {s : Bool} {p : Option Addr} {m c : Nat} {e z : Int} (h : DN w s p m c e z) : ∃ xs, At w p m c xs ∧ m ≤ 8192 ∧ ∀ w' p' c', At w' p' m c' xs → DN w' s p' m c' e z := by
  obtain ⟨xs, hX⟩ := h.zn.ex
  exact ⟨xs, hX.at_, hX.le, fun w' p' c' hA => ⟨⟨⟨xs, ⟨hA, hX.nf, hX.le⟩⟩, h.zn.sg⟩, h.fm⟩⟩
theorem DO.keep6 {B : Nat} {w : World} {s : Bool} {p : Option Addr} {m : Nat} {e z : Int} (h : DO B w s p m e z) {k : Nat} (hk : m = 0 ∨ ∃ g', p = some ⟨g', 0, none⟩ ∧ g' ≠ k) (v0 v1 v2 v3 v4 v5 : Value) : DO B ((((((w.setCell ⟨k, 0, none⟩ v0).setCell ⟨k, 1, none⟩ v1).setCell ⟨k, 2, none⟩ v2).setCell ⟨k, 3, none⟩ v3).setCell ⟨k, 4, none⟩ v4).setCell ⟨k, 5, none⟩ v5) s p m e z := by
  obtain ⟨zs, h1, h2, h3⟩ := h.own
  have hn : ∀ g, p = some ⟨g, 0, none⟩ → 0 < m → g ≠ k := by
    intro g hg hm
    rcases hk with h0 | ⟨g', h4, h5⟩
    · omega
    · rw [hg] at h4
      simp only [Option.some.injEq, Addr.mk.injEq] at h4
      obtain ⟨rfl, _⟩ := h4
      exact h5
  exact ⟨⟨zs, ((((((h1.setNot k 0 v0 hn).setNot k 1 v1 hn).setNot k 2 v2 hn).setNot k 3 v3 hn).setNot k 4 v4 hn).setNot k 5 v5 hn), h2, h3⟩, h.sg, h.fm⟩
def SpG (B : Nat) (w : World) (s1 : Bool) (p1 : Option Addr) (m1 : Nat) (e1 : Int) (s2 : Bool) (p2 : Option Addr) (m2 : Nat) (e2 : Int) (Q : Prop) (lo hi : Int) : Prop :=
 (Q ∧ ∃ z1 z2, DO B w s1 p1 m1 e1 z1 ∧ DO B w s2 p2 m2 e2 z2 ∧ dv z1 e1 = lo ∧ dv z2 e2 = hi) ∨ (¬ Q ∧ s1 = false ∧ p1 = none ∧ m1 = 0 ∧ e1 = 0 ∧ s2 = false ∧ p2 = none ∧ m2 = 0 ∧ e2 = 0)
theorem SpG.below {B : Nat} {w w' : World} {s1 : Bool} {p1 : Option Addr} {m1 : Nat} {e1 : Int} {s2 : Bool} {p2 : Option Addr} {m2 : Nat} {e2 : Int} {Q : Prop} {lo hi : Int} (h : SpG B w s1 p1 m1 e1 s2 p2 m2 e2 Q lo hi) (hb : Below w.heap.size w w') : SpG B w' s1 p1 m1 e1 s2 p2 m2 e2 Q lo hi :=
 h.imp (fun ⟨a, z1, z2, d, e, g⟩ => ⟨a, z1, z2, d.below hb, e.below hb, g⟩) id
theorem SpG.mono {B B' : Nat} {w : World} {s1 : Bool} {p1 : Option Addr} {m1 : Nat} {e1 : Int} {s2 : Bool} {p2 : Option Addr} {m2 : Nat} {e2 : Int} {Q : Prop} {lo hi : Int} (h : SpG B w s1 p1 m1 e1 s2 p2 m2 e2 Q lo hi) (hb : B' ≤ B) : SpG B' w s1 p1 m1 e1 s2 p2 m2 e2 Q lo hi :=
 h.imp (fun ⟨a, z1, z2, d, e, g⟩ => ⟨a, z1, z2, d.mono hb, e.mono hb, g⟩) id
def Off2 (p1 : Option Addr) (m1 : Nat) (p2 : Option Addr) (m2 k : Nat) : Prop := (m1 = 0 ∨ ∃ g', p1 = some ⟨g', 0, none⟩ ∧ g' ≠ k) ∧ (m2 = 0 ∨ ∃ g', p2 = some ⟨g', 0, none⟩ ∧ g' ≠ k)
theorem SpG.apart {B : Nat} {w : World} {s1 : Bool} {p1 : Option Addr} {m1 : Nat} {e1 : Int} {s2 : Bool} {p2 : Option Addr} {m2 : Nat} {e2 : Int} {Q : Prop} {lo hi : Int} (h : SpG B w s1 p1 m1 e1 s2 p2 m2 e2 Q lo hi) {k : Nat} (hk : k < B) : Off2 p1 m1 p2 m2 k := by
  rcases h with ⟨_, z1, z2, d, e, _⟩ | ⟨_, _, _, h1, _, _, _, h2, _⟩
  · exact ⟨d.apart hk, e.apart hk⟩
  · exact ⟨.inl h1, .inl h2⟩
theorem SpG.apart_new {B : Nat} {w : World} {s1 : Bool} {p1 : Option Addr} {m1 : Nat} {e1 : Int} {s2 : Bool} {p2 : Option Addr} {m2 : Nat} {e2 : Int} {Q : Prop} {lo hi : Int} (h : SpG B w s1 p1 m1 e1 s2 p2 m2 e2 Q lo hi) : Off2 p1 m1 p2 m2 w.heap.size := by
  rcases h with ⟨_, z1, z2, d, e, _⟩ | ⟨_, _, _, h1, _, _, _, h2, _⟩
  · exact ⟨d.apart_new, e.apart_new⟩
  · exact ⟨.inl h1, .inl h2⟩
theorem SpG.keep6 {B : Nat} {w : World} {s1 : Bool} {p1 : Option Addr} {m1 : Nat} {e1 : Int} {s2 : Bool} {p2 : Option Addr} {m2 : Nat} {e2 : Int} {Q : Prop} {lo hi : Int} (h : SpG B w s1 p1 m1 e1 s2 p2 m2 e2 Q lo hi) {k : Nat} (hk : Off2 p1 m1 p2 m2 k) (v0 v1 v2 v3 v4 v5 : Value) : SpG B ((((((w.setCell ⟨k, 0, none⟩ v0).setCell ⟨k, 1, none⟩ v1).setCell ⟨k, 2, none⟩ v2).setCell ⟨k, 3, none⟩ v3).setCell ⟨k, 4, none⟩ v4).setCell ⟨k, 5, none⟩ v5) s1 p1 m1 e1 s2 p2 m2 e2 Q lo hi :=
 h.imp (fun ⟨a, z1, z2, d, e, g⟩ => ⟨a, z1, z2, d.keep6 hk.1 v0 v1 v2 v3 v4 v5, e.keep6 hk.2 v0 v1 v2 v3 v4 v5, g⟩) id
theorem and_ff {a b : Bool} (h : (a && b) = false) : a = false ∨ (a = true ∧ b = false) := by cases a <;> simp_all
theorem and_tt {a b : Bool} (h : (a && b) = true) : a = true ∧ b = true := by cases a <;> simp_all
theorem smeet_any {p1 p2 p3 p4 : Option Addr} {m1 m2 m3 m4 c1 c2 c3 c4 : Nat} {w : World} {e1 e2 e3 e4 : Int} {s1 s2 s3 s4 : Bool} {x1 x2 x3 x4 : List Nat} (h1 : At w p1 m1 c1 x1) (h2 : At w p2 m2 c2 x2) (h3 : At w p3 m3 c3 x3) (h4 : At w p4 m4 c4 x4) :
  Calls Tryz.prog 5 #[SV s1 p1 m1 c1 e1 s2 p2 m2 c2 e2, SV s3 p3 m3 c3 e3 s4 p4 m4 c4 e4] w fun en w' => (∃ t1 q1 n1 f1 t2 q2 n2 f2 ok er, en = .returned (.tuple #[SV t1 q1 n1 n1 f1 t2 q2 n2 n2 f2, .bool ok, .int .i64 er]) ∧ SpG w.heap.size w' t1 q1 n1 f1 t2 q2 n2 f2 ((FormS s1 x1 e1 s2 x2 e2 && FormS s3 x3 e3 s4 x4 e4) = true ∧ (max (dv (iv s1 (valB B64 x1)) e1) (dv (iv s3 (valB B64 x3)) e3)) ≤ (min (dv (iv s2 (valB B64 x2)) e2) (dv (iv s4 (valB B64 x4)) e4))) (max (dv (iv s1 (valB B64 x1)) e1) (dv (iv s3 (valB B64 x3)) e3)) (min (dv (iv s2 (valB B64 x2)) e2) (dv (iv s4 (valB B64 x4)) e4)) ∧ (((FormS s1 x1 e1 s2 x2 e2 && FormS s3 x3 e3 s4 x4 e4) = false ∧ ok = false ∧ er = 2) ∨ ((FormS s1 x1 e1 s2 x2 e2 && FormS s3 x3 e3 s4 x4 e4) = true ∧ er = 0 ∧ ok = decide ((max (dv (iv s1 (valB B64 x1)) e1) (dv (iv s3 (valB B64 x3)) e3)) ≤ (min (dv (iv s2 (valB B64 x2)) e2) (dv (iv s4 (valB B64 x4)) e4)))))) ∧ Below w.heap.size w w' := by
 cases hb : (FormS s1 x1 e1 s2 x2 e2 && FormS s3 x3 e3 s4 x4 e4) with
 | false =>
  have hc : Calls Tryz.prog 5 #[SV s1 p1 m1 c1 e1 s2 p2 m2 c2 e2, SV s3 p3 m3 c3 e3 s4 p4 m4 c4 e4] w fun en w' => en = .returned (.tuple #[SV false none 0 0 0 false none 0 0 0, .bool false, .int .i64 2]) ∧ Below w.heap.size w w' := by
   rcases and_ff hb with h | ⟨h, h'⟩
   ·exact smeet_e1 h1 h2 h3 h4 h
   ·exact smeet_e2 h1 h2 h3 h4 h h'
  exact hc.mono fun en w' ⟨h5, h6⟩ => ⟨⟨false, none, 0, 0, false, none, 0, 0, false, 2, h5, .inr ⟨(fun h => by cases h.1), rfl, rfl, rfl, rfl, rfl, rfl, rfl, rfl⟩, .inl ⟨rfl, rfl, rfl⟩⟩, h6⟩
 | true =>
  obtain ⟨hF, hG⟩ := and_tt hb;have k1 := FormS.dn h1 h2 hF;have k2 := FormS.dn h3 h4 hG
  refine (smeet_g (d1 := ⟨s1, p1, m1, c1, e1, iv s1 (valB B64 x1)⟩) (d2 := ⟨s2, p2, m2, c2, e2, iv s2 (valB B64 x2)⟩) (d3 := ⟨s3, p3, m3, c3, e3, iv s3 (valB B64 x3)⟩) (d4 := ⟨s4, p4, m4, c4, e4, iv s4 (valB B64 x4)⟩) k1.1 k1.2.1 k2.1 k2.2.1 k1.2.2 k2.2.2).mono ?_
  rintro en w' ⟨t1, q1, n1, f1, t2, q2, n2, f2, er, z1, g1, z2, g2, ⟨h5, h6⟩, h7, h8, h9⟩;have h7 : dv z1 g1 = (max (dv (iv s1 (valB B64 x1)) e1) (dv (iv s3 (valB B64 x3)) e3)) := h7;have h8 : dv z2 g2 = (min (dv (iv s2 (valB B64 x2)) e2) (dv (iv s4 (valB B64 x4)) e4)) := h8
  refine ⟨⟨t1, q1, n1, f1, t2, q2, n2, f2, er == 0, 0, h5, ?_, .inr ⟨rfl, rfl, ?_⟩⟩, h9⟩
  ·rcases h6 with ⟨_, rfl, rfl, d1, d2, h10⟩ | ⟨_, a, b, c, d, e, f, g, h, h10⟩
   ·exact .inl ⟨⟨rfl, by rw [← h7, ← h8]; exact h10⟩, z1, z2, d1, d2, h7, h8⟩
   ·exact .inr ⟨fun h11 => by have := h11.2; omega, a, b, c, d, e, f, g, h⟩
  ·rcases h6 with ⟨h6, _, _, _, _, h10⟩ | ⟨h6, _, _, _, _, _, _, _, _, h10⟩
   ·rw [h6, decide_eq_true (by omega)]; rfl
   ·rw [h6, decide_eq_false (by omega)]; rfl
theorem shull_any {p1 p2 p3 p4 : Option Addr} {m1 m2 m3 m4 c1 c2 c3 c4 : Nat} {w : World} {e1 e2 e3 e4 : Int} {s1 s2 s3 s4 : Bool} {x1 x2 x3 x4 : List Nat} (h1 : At w p1 m1 c1 x1) (h2 : At w p2 m2 c2 x2) (h3 : At w p3 m3 c3 x3) (h4 : At w p4 m4 c4 x4) :
  Calls Tryz.prog 7 #[SV s1 p1 m1 c1 e1 s2 p2 m2 c2 e2, SV s3 p3 m3 c3 e3 s4 p4 m4 c4 e4] w fun en w' => (∃ t1 q1 n1 f1 t2 q2 n2 f2 er, en = .returned (.tuple #[SV t1 q1 n1 n1 f1 t2 q2 n2 n2 f2, .int .i64 er]) ∧ SpG w.heap.size w' t1 q1 n1 f1 t2 q2 n2 f2 ((FormS s1 x1 e1 s2 x2 e2 && FormS s3 x3 e3 s4 x4 e4) = true) (min (dv (iv s1 (valB B64 x1)) e1) (dv (iv s3 (valB B64 x3)) e3)) (max (dv (iv s2 (valB B64 x2)) e2) (dv (iv s4 (valB B64 x4)) e4)) ∧ (((FormS s1 x1 e1 s2 x2 e2 && FormS s3 x3 e3 s4 x4 e4) = false ∧ er = 2) ∨ ((FormS s1 x1 e1 s2 x2 e2 && FormS s3 x3 e3 s4 x4 e4) = true ∧ er = 0))) ∧ Below w.heap.size w w' := by
 cases hb : (FormS s1 x1 e1 s2 x2 e2 && FormS s3 x3 e3 s4 x4 e4) with
 | false =>
  have hc : Calls Tryz.prog 7 #[SV s1 p1 m1 c1 e1 s2 p2 m2 c2 e2, SV s3 p3 m3 c3 e3 s4 p4 m4 c4 e4] w fun en w' => en = .returned (.tuple #[SV false none 0 0 0 false none 0 0 0, .int .i64 2]) ∧ Below w.heap.size w w' := by
   rcases and_ff hb with h | ⟨h, h'⟩
   ·exact shull_e1 h1 h2 h3 h4 h
   ·exact shull_e2 h1 h2 h3 h4 h h'
  exact hc.mono fun en w' ⟨h5, h6⟩ => ⟨⟨false, none, 0, 0, false, none, 0, 0, 2, h5, .inr ⟨(fun h => by cases h), rfl, rfl, rfl, rfl, rfl, rfl, rfl, rfl⟩, .inl ⟨rfl, rfl⟩⟩, h6⟩
 | true =>
  obtain ⟨hF, hG⟩ := and_tt hb;have k1 := FormS.dn h1 h2 hF;have k2 := FormS.dn h3 h4 hG
  refine (shull (d1 := ⟨s1, p1, m1, c1, e1, iv s1 (valB B64 x1)⟩) (d2 := ⟨s2, p2, m2, c2, e2, iv s2 (valB B64 x2)⟩) (d3 := ⟨s3, p3, m3, c3, e3, iv s3 (valB B64 x3)⟩) (d4 := ⟨s4, p4, m4, c4, e4, iv s4 (valB B64 x4)⟩) k1.1 k1.2.1 k2.1 k2.2.1 k1.2.2 k2.2.2).mono ?_
  rintro en w' ⟨z1, f1, z2, f2, ⟨t1, q1, n1, t2, q2, n2, h5, d1, d2⟩, h7, h8, h9⟩
  exact ⟨⟨t1, q1, n1, f1, t2, q2, n2, f2, 0, h5, .inl ⟨rfl, z1, z2, d1, d2, h7, h8⟩, .inr ⟨rfl, rfl⟩⟩, h9⟩
end Go.Proofs.YtpdelpakgdanlaaGreatDoor
