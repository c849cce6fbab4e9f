import Derived.Test.YtfkoilaobglddaaGreatDoorJ18
import Derived.Test.YtfkoilaobglddaaGreatDoorJ28
import Derived.Test.YtfkoilaobglddaaGreatDoorJ24
namespace Go.Proofs.YtfkoilaobglddaaGreatDoor
open Go.RowKit Go.Shelf

structure B1q (W : World) (g : Nat) (v0 : Value) : Prop where
  c0 : W.cell? ⟨g, 0, none⟩ = some v0
  f0 : W.frozen? ⟨g, 0, none⟩ = false
theorem B1q.lt {w : World} {g : Nat} {a : Value} (h : B1q w g a) : g < w.heap.size := World.block_lt_of_cell? w _ h.c0
theorem B1q.below {W W' : World} {g : Nat} {v0 : Value} (h : B1q W g v0) (hb : Below W.heap.size W W') : B1q W' g v0 := by
  have hl : g < W.heap.size := World.block_lt_of_cell? W _ h.c0
  exact ⟨(hb.cell (p := ⟨g, 0, none⟩) hl).trans h.c0, (hb.frozen (p := ⟨g, 0, none⟩) hl).trans h.f0⟩
theorem B1q.new (w : World) (ty : TypeId) (v0 : Value) : B1q (w.alloc (.cells #[v0] ty)) w.heap.size v0 := ⟨by go_simp, by go_simp⟩
structure Lt (single : Bool) (f l : Int) (S I H sd : Nat) (Be : Int) (one : Nat) : Prop where
  fmt : ∀ w, Calls Tryz.prog 23 #[.bool single] w fun en w' => en = .returned (.int .i64 f) ∧ Below w.heap.size w w'
  pt : ∀ b, b < B64 → ∃ b', b' < 2 * S ∧ ∀ w, Calls Tryz.prog 24 #[.int .i64 f, U b] w fun en w' => en = .returned (U b') ∧ Below w.heap.size w w'
  one_ : rnp l sd Be S I 1 0 = one
  o1 : one < 2 * S ∧ one % S ≠ 0 ∧ one % S < I ∧ one % 2 = 0
  o2 : ∃ z e, DFm z e ∧ dv z e = cLo H l (decide (S ≤ one)) (one % S) ∧ e < 0
  num : (S = 2147483648 ∧ I = 2139095040) ∨ (S = 9223372036854775808 ∧ I = 9218868437227405312)
theorem lt_lo {H : Nat} {l : Int} {S one z : Nat} {mn : Nat} {ex : Int} (hs : decide (S ≤ one) = false) (hz : one % S - 1 = z) (hl : -4194303 ≤ l) (hm : 2 * (z - (z / H - 1) * H) + 1 = mn) (he : l + ((z / H - 1 : Nat) : Int) - 1 = ex) : dv (mn : Int) ex = cLo H l (decide (S ≤ one)) (one % S) := by
  have := mid_dv (H := H) z hl
  rw [hm, he] at this
  rw [this, hs]
  unfold cLo
  rw [if_neg (by simp), hz]
theorem mid_db {f p m l : Int} {S I H sd : Nat} {Be : Int} (J : Jn f p m l S I H sd Be) {k : Nat} (hk : k < I) (s : Bool) {z e : Int} (hf : DFm z e) (hv : dv z e = if s then - dv (hv H k : Int) (l - 1) else dv (hv H k : Int) (l - 1)) : DB z e 56 1100 ∧ z ≠ 0 := by
  have hp := J.jm.pm.hp
  have h9 := J.jm.pm.h9
  have hlo := J.jm.pm.lo
  have hbq := J.jm.bq k hk
  have hbu := J.jm.bu
  have hsl := J.jm.sl
  have hm := mid_dv (H := H) (l := l) k (by omega)
  obtain ⟨q, hq⟩ : ∃ q, q = k / H - 1 := ⟨_, rfl⟩
  have hmn : k - q * H < 2 * H := by
    have e1 := Nat.div_add_mod k H
    have e2 := Nat.mod_lt k hp
    rw [Nat.mul_comm] at e1
    by_cases e3 : k / H = 0
    · rw [e3] at e1; omega
    · rw [hq, Nat.sub_mul]; omega
  rw [← hq] at hm hbq
  obtain ⟨mn, hmn2⟩ : ∃ mn, mn = 2 * (k - q * H) + 1 := ⟨_, rfl⟩
  rw [← hmn2] at hm
  have hfm : DFm (iv s mn) (l + (q : Int) - 1) := .inr ⟨by rw [hmn2]; cases s <;> simp [iv] <;> omega, by omega, by omega⟩
  have he : dv z e = dv (iv s mn) (l + (q : Int) - 1) := by rw [hv, dv_iv, hm]
  obtain ⟨rfl, rfl⟩ := dv_inj hf hfm he
  have h56 : (2 : Nat) ^ 56 = 72057594037927936 := by decide
  refine ⟨⟨hfm, by rw [iv_natAbs, h56]; omega, by omega, by omega⟩, ?_⟩
  intro h0
  have : (iv s mn).natAbs = 0 := by rw [h0]; rfl
  rw [iv_natAbs] at this
  omega
theorem lo_db {f p m l : Int} {S I H sd : Nat} {Be : Int} (J : Jn f p m l S I H sd Be) {b : Nat} (h1 : b % S < I) {z e : Int} (hf : DFm z e) (hv : dv z e = cLo H l (decide (S ≤ b)) (b % S)) : DB z e 56 1100 ∧ z ≠ 0 := by
  unfold cLo at hv
  cases hs : decide (S ≤ b) <;> rw [hs] at hv
  · exact mid_db J (k := b % S - 1) (by omega) false hf hv
  · exact mid_db J (k := b % S) h1 true hf hv
theorem hi_db {f p m l : Int} {S I H sd : Nat} {Be : Int} (J : Jn f p m l S I H sd Be) {b : Nat} (h1 : b % S < I) {z e : Int} (hf : DFm z e) (hv : dv z e = cHi H l (decide (S ≤ b)) (b % S)) : DB z e 56 1100 ∧ z ≠ 0 := by
  unfold cHi at hv
  cases hs : decide (S ≤ b) <;> rw [hs] at hv
  · exact mid_db J (k := b % S) h1 false hf hv
  · exact mid_db J (k := b % S - 1) (by omega) true hf hv
theorem tnx {f p m l : Int} {S I : Nat} (F : Fm f p m l S I) {b up : Nat} (hb : b < 2 * S) (h0 : b % S ≠ 0) (h1 : b % S < I) (hu : up = if S ≤ b then b - 1 else b + 1) : Says 30 (.int .i64 f) (U b) (U up) (.int .i64 0) ∧ Says 31 (.int .i64 f) (U up) (U b) (.int .i64 0) := by
  obtain ⟨hbe, _⟩ := pat_eq hb
  have hlt := F.lt
  have hps := F.pos
  obtain ⟨z, hz⟩ : ∃ z, z = b % S := ⟨_, rfl⟩
  rw [← hz] at hbe
  by_cases hs : S ≤ b
  · rw [if_pos hs] at hu hbe
    have huz : up % S = z - 1 := by rw [show up = S + (z - 1) from by omega, Nat.add_mod_left, Nat.mod_eq_of_lt (by omega)]
    refine ⟨by rw [hu]; exact to_Next fun w => step_D F b hb (by omega) false (by rw [decide_eq_true hs]; rfl) h0 w, ?_⟩
    by_cases z1 : z = 1
    · exact Says.cast (to_Prev fun w => step_B F up (by omega) (by omega) true (by omega) w) (uEq (by rw [if_pos rfl]; omega))
    · exact Says.cast (to_Prev fun w => step_C F up (by omega) (by omega) true (by rw [decide_eq_true (by omega)]; rfl) (by omega) (by omega) w) (uEq (by omega))
  · rw [if_neg hs] at hu hbe
    have huz : up % S = z + 1 := by rw [Nat.mod_eq_of_lt (by omega)]; omega
    refine ⟨by rw [hu]; exact to_Next fun w => step_C F b hb (by omega) false (by rw [decide_eq_false hs]; rfl) h0 (by omega) w, ?_⟩
    exact Says.cast (to_Prev fun w => step_D F up (by omega) (by omega) true (by rw [decide_eq_false (by omega)]; rfl) (by omega) w) (uEq (by omega))
theorem up_edge {f p m l : Int} {S I : Nat} (F : Fm f p m l S I) {b up : Nat} (hb : b < 2 * S) (h0 : b % S ≠ 0) (h1 : b % S < I) (hu : up = if S ≤ b then b - 1 else b + 1) (hx : up % S = 0 ∨ I ≤ up % S) : up = S ∨ up = I := by
  obtain ⟨hbe, _⟩ := pat_eq hb
  have hlt := F.lt
  obtain ⟨z, hz⟩ : ∃ z, z = b % S := ⟨_, rfl⟩
  rw [← hz] at hbe h0 h1
  by_cases hs : S ≤ b
  · rw [if_pos hs] at hu hbe
    have huz : up % S = z - 1 := by rw [show up = S + (z - 1) from by omega, Nat.add_mod_left, Nat.mod_eq_of_lt (by omega)]
    omega
  · rw [if_neg hs] at hu hbe
    have huz : up % S = z + 1 := by rw [Nat.mod_eq_of_lt (by omega)]; omega
    omega
theorem lt_32 : Lt true 32 (-149) 2147483648 2139095040 8388608 23 128 1065353216 :=
  ⟨tfmt_32, fun b hb => ⟨b % 4294967296, Nat.mod_lt _ (by decide), fun w => tpat_32 b hb w⟩, by decide +kernel, by decide, ⟨33554431, -25, .inr ⟨by decide, by decide, by decide⟩, lt_lo (mn := 33554431) (z := 1065353215) (by decide) (by decide) (by decide) (by decide) (by decide), by decide⟩, .inl ⟨rfl, rfl⟩⟩
theorem lt_64 : Lt false 64 (-1074) 9223372036854775808 9218868437227405312 4503599627370496 52 1024 4607182418800017408 :=
  ⟨tfmt_64, fun b hb => ⟨b, hb, fun w => tpat_64 b w⟩, by decide +kernel, by decide, ⟨18014398509481983, -54, .inr ⟨by decide, by decide, by decide⟩, lt_lo (mn := 18014398509481983) (z := 4607182418800017407) (by decide) (by decide) (by decide) (by decide) (by decide), by decide⟩, .inr ⟨rfl, rfl⟩⟩
set_option maxRecDepth 20000 in
set_option maxHeartbeats 8000000 in
theorem cell_x {f p m l : Int} {S I H sd : Nat} {Be : Int} (J : Jn f p m l S I H sd Be) (b : Nat) (hb : b < 2 * S) (h0 : b % S = 0 ∨ I ≤ b % S) (w : World) :
    Calls Tryz.prog 21 #[.int .i64 f, U b] w fun en w' => en = .returned (.tuple #[SV false none 0 0 0 false none 0 0 0, .bool false, .int .i64 6]) ∧ Below w.heap.size w w' := by
  have HJN : Hid (Jn f p m l S I H sd Be) := J
  have HB : Hid (b < 2 * S) := hb
  have h2 := J.jm.pm.h2
  obtain ⟨c, hc⟩ : ∃ c, c = clsN H I (b % S) := ⟨_, rfl⟩
  have HC : Hid (clsN H I (b % S) = c) := hc.symm
  have hcc : c ≠ 1 ∧ c ≠ 2 := by
    rw [hc]
    unfold clsN
    by_cases a1 : b % S = 0
    · rw [if_pos a1]; omega
    · rw [if_neg a1, if_neg (by omega), if_neg (by omega)]; split <;> omega
  have k1 : (c == 1) = false := by simp [hcc.1]
  have k2 : (c == 2) = false := by simp [hcc.2]
  have k3 : (c != 1) = true := by simp [hcc.1]
  have k4 : (c != 2) = true := by simp [hcc.2]
  clear J hb h0 h2 hc hcc
  go_enter Tryz.func21, Tryz.ntmps21
  go_wp2_with fail
  obtain ⟨W0, hW0⟩ : ∃ W0, W0 = (w.alloc (.cells #[.bool false, .slice none 0 0, .int .i64 0, .bool false, .slice none 0 0, .int .i64 0] 47)) := ⟨_, rfl⟩
  have Xr : Hid (B6q W0 (w.heap.size) (.bool false) (.slice none 0 0) (.int .i64 0) (.bool false) (.slice none 0 0) (.int .i64 0)) := by rw [hW0]; exact ⟨by go_simp, by go_simp, by go_simp, by go_simp, by go_simp, by go_simp, by go_simp, by go_simp, by go_simp, by go_simp, by go_simp, by go_simp⟩
  have hb0 : Below w.heap.size w W0 := by rw [hW0]; exact below1 w _
  rw [← hW0]
  clear hW0
  have hbw : Below w.heap.size w w := Below.refl _ _
  obtain ⟨gr, hgr⟩ : ∃ g, g = w.heap.size := ⟨_, rfl⟩
  have HGr : Hid (w.heap.size ≤ gr) := by rw [hgr]; show _ ≤ _; omega
  rw [← hgr] at Xr
  try rw [← hgr]
  clear hgr
  replace hbw := Below.on hbw hb0
  clear hb0
  refine (HJN.out.cl b _ HB.out).mono ?_
  rintro e v1 ⟨rfl, hb1⟩
  rw [HC.out]
  replace Xr : Hid _ := Xr.out.below hb1
  replace hbw := Below.on hbw hb1
  clear hb1
  obtain ⟨cr0, cr1, cr2, cr3, cr4, cr5, fr0, fr1, fr2, fr3, fr4, fr5⟩ := Xr.out
  have hner : gr < v1.heap.size := World.block_lt_of_cell? v1 _ cr0
  go_wp2_with fail
  refine bodyPost_ret (v := .tuple #[SV false none 0 0 0 false none 0 0 0, .bool false, .int .i64 6]) (by rw [results_ctt rfl]; go_simp) rfl ⟨rfl, ?_⟩
  first | exact hbw | exact (bSet (bSet (bSet (bSet (bSet (bSet hbw _ _ _ HGr.out) _ _ _ HGr.out) _ _ _ HGr.out) _ _ _ HGr.out) _ _ _ HGr.out) _ _ _ HGr.out)
set_option maxRecDepth 20000 in
set_option maxHeartbeats 8000000 in
theorem wholeCells_x {single : Bool} {f p m l : Int} {S I H sd : Nat} {Be : Int} {one : Nat} (J : Jn f p m l S I H sd Be) (L : Lt single f l S I H sd Be one) (c : Nat) (hc : c < B64) (i : Nat) (hi : i < 256) (w : World) (hT : Tab w) :
    Calls Tryz.prog 5 #[.bool single, U c, .int .u8 i] w fun en w' => en = .returned (.bool true) ∧ Below w.heap.size w w' := by
  have hbw : Below w.heap.size w w := Below.refl _ _
  have HJN : Hid (Jn f p m l S I H sd Be) := J
  have HLT : Hid (Lt single f l S I H sd Be one) := L
  have TB : Hid (Tab w) := hT
  have HI : Hid (i < 256) := hi
  obtain ⟨b, hb2, hbp⟩ := L.pt c hc
  have HB : Hid (b < 2 * S) := hb2
  have HBP : Hid (∀ w, Calls Tryz.prog 24 #[.int .i64 f, U c] w fun en w' => en = .returned (U b) ∧ Below w.heap.size w w') := hbp
  clear J L hc hi hT hb2 hbp
  go_enter Tryz.func5, Tryz.ntmps5
  go_wp2_with fail
  refine (HLT.out.fmt _).mono ?_
  rintro e v1 ⟨rfl, hb1⟩
  replace hbw := Below.on hbw hb1
  clear hb1
  go_wp2_with fail
  refine (HBP.out _).mono ?_
  rintro e v2 ⟨rfl, hb2⟩
  replace hbw := Below.on hbw hb2
  clear hb2
  go_wp2_with fail
  refine (dof1 (TB.out.below hbw)).mono ?_
  rintro e0 v3 ⟨s3, p3, m3, rfl, hd3, hb3⟩
  replace hbw := Below.on hbw hb3
  clear hb3
  have D3 : Hid (DN v3 s3 p3 m3 m3 0 1) := hd3
  clear hd3
  go_wp2_with fail
  refine (rnearest HJN.out D3.out (TB.out.below hbw)).mono ?_
  rintro e v4 ⟨rfl, hb4⟩
  rw [HLT.out.one_]
  replace D3 : Hid _ := D3.out.below hb4
  replace hbw := Below.on hbw hb4
  clear hb4
  clear D3
  go_wp2_with fail
  refine (cell_ok HJN.out one HLT.out.o1.1 HLT.out.o1.2.1 HLT.out.o1.2.2.1 _ (TB.out.below hbw)).mono ?_
  rintro e0 v5 ⟨s5, p5, m5, z5, e5, t5, q5, n5, y5, f5, rfl, hd1, hd2, hv1, hv2, hb5⟩
  have he5 : e5 < 0 := by
    obtain ⟨z, e, h1, h2, h3⟩ := HLT.out.o2
    obtain ⟨_, h4⟩ := dv_inj hd1.fm h1 (hv1.trans h2.symm)
    omega
  have k5 : decide (0 ≤ e5) = false := decide_eq_false (by omega)
  rw [show decide (one % 2 = 0) = true from decide_eq_true HLT.out.o1.2.2.2]
  clear hd1 hd2 hv1 hv2 he5
  replace hbw := Below.on hbw hb5
  clear hb5
  go_wp2_with fail
  have Xlim0 : Hid (B6q (v5.alloc (.cells #[.bool s5, .slice p5 m5 m5, .int .i64 e5, .bool t5, .slice q5 n5 n5, .int .i64 f5] 47)) v5.heap.size (.bool s5) (.slice p5 m5 m5) (.int .i64 e5) (.bool t5) (.slice q5 n5 n5) (.int .i64 f5)) := B6q.new v5 _ _ _ _ _ _ _
  have hbn : Below v5.heap.size v5 (v5.alloc (.cells #[.bool s5, .slice p5 m5 m5, .int .i64 e5, .bool t5, .slice q5 n5 n5, .int .i64 f5] 47)) := below1 v5 _
  generalize v5.alloc (.cells #[.bool s5, .slice p5 m5 m5, .int .i64 e5, .bool t5, .slice q5 n5 n5, .int .i64 f5] 47) = Wl at *
  have HGlim : Hid (w.heap.size ≤ v5.heap.size) := hbw.size
  replace hbw := Below.on hbw hbn
  clear hbn
  generalize v5.heap.size = glim at *
  have Xlim := Xlim0
  clear Xlim0
  obtain ⟨cc, hcc⟩ : ∃ cc, cc = clsN H I (b % S) := ⟨_, rfl⟩
  have HCL : Hid (clsN H I (b % S) = cc) := hcc.symm
  have HCX : Hid (cc = clsN H I (b % S)) := hcc
  clear hcc
  refine (HJN.out.cl b _ HB.out).mono ?_
  rintro e v6 ⟨rfl, hb6⟩
  rw [HCL.out]
  replace Xlim : Hid _ := Xlim.out.below hb6
  replace hbw := Below.on hbw hb6
  clear hb6
  go_wp2_with fail
  by_cases hr : b % S ≠ 0 ∧ b % S < I
  · have HR : Hid (b % S ≠ 0 ∧ b % S < I) := hr
    have hcc2 : cc = 1 ∨ cc = 2 := by
      rw [HCX.out]; unfold clsN
      rw [if_neg hr.1]
      by_cases a2 : b % S < H
      · rw [if_pos a2]; exact .inl rfl
      · rw [if_neg a2, if_pos hr.2]; exact .inr rfl
    clear hr HCX HCL
    rcases hcc2 with hq | hq
    · subst hq
      refine (cell_ok HJN.out b HB.out HR.out.1 HR.out.2 _ (TB.out.below hbw)).mono ?_
      rintro e0 v7 ⟨s7, p7, m7, z7, e7, t7, q7, n7, y7, f7, rfl, hd1, hd2, hv1, hv2, hb7⟩
      obtain ⟨pr, hpr⟩ : ∃ pr, pr = decide (b % 2 = 0) := ⟨_, rfl⟩
      rw [← hpr]
      have HPR : Hid (pr = decide (b % 2 = 0)) := hpr
      obtain ⟨m2, hm2⟩ : ∃ m2, m2 = b % 2 := ⟨_, rfl⟩
      have g1 : bits BinOp.and IntKind.u64 (b : Int) 1 = ((m2 : Nat) : Int) := by rw [hm2]; exact and_one_u64q b (by have := HB.out; have := HJN.out.jm.pm.fm.le; rw [B64_eq]; omega)
      have g2 : ((m2 : Int) == 0) = pr := by rw [hpr, hm2]; by_cases a : b % 2 = 0 <;> simp [a] <;> omega
      have HV7 : Hid (dv z7 e7 = cLo H l (decide (S ≤ b)) (b % S) ∧ dv y7 f7 = cHi H l (decide (S ≤ b)) (b % S)) := ⟨hv1, hv2⟩
      have HDB : Hid ((DB z7 e7 56 1100 ∧ z7 ≠ 0) ∧ DB y7 f7 56 1100 ∧ y7 ≠ 0) := ⟨lo_db HJN.out HR.out.2 hd1.fm hv1, hi_db HJN.out HR.out.2 hd2.fm hv2⟩
      have HLT7 : Hid (dv z7 e7 < dv y7 f7) := by show _ < _; rw [hv1, hv2]; exact cell_lt HJN.out.jm.pm.hp _ HR.out.1
      clear hv1 hv2 hpr hm2
      replace Xlim : Hid _ := Xlim.out.below hb7
      replace hbw := Below.on hbw hb7
      clear hb7
      have D7 : Hid (DN v7 s7 p7 m7 m7 e7 z7) := hd1.dn
      have E7 : Hid (DN v7 t7 q7 n7 n7 f7 y7) := hd2.dn
      clear hd1 hd2
      clear Xlim
      go_wp2_with fail
      rw [show v7.heap.size + 1 = (v7.alloc (.cells #[.bool s7, .slice p7 m7 m7, .int .i64 e7, .bool t7, .slice q7 n7 n7, .int .i64 f7] 47)).heap.size from by simp]
      have Xcell0 : Hid (B6q (v7.alloc (.cells #[.bool s7, .slice p7 m7 m7, .int .i64 e7, .bool t7, .slice q7 n7 n7, .int .i64 f7] 47)) v7.heap.size (.bool s7) (.slice p7 m7 m7) (.int .i64 e7) (.bool t7) (.slice q7 n7 n7) (.int .i64 f7)) := B6q.new v7 _ _ _ _ _ _ _
      have hbn : Below v7.heap.size v7 (v7.alloc (.cells #[.bool s7, .slice p7 m7 m7, .int .i64 e7, .bool t7, .slice q7 n7 n7, .int .i64 f7] 47)) := below1 v7 _
      generalize v7.alloc (.cells #[.bool s7, .slice p7 m7 m7, .int .i64 e7, .bool t7, .slice q7 n7 n7, .int .i64 f7] 47) = Wc at *
      have HGcell : Hid (w.heap.size ≤ v7.heap.size) := hbw.size
      replace D7 : Hid _ := D7.out.below hbn
      replace E7 : Hid _ := E7.out.below hbn
      replace hbw := Below.on hbw hbn
      clear hbn
      generalize v7.heap.size = gcell at *
      have Xcell := Xcell0
      clear Xcell0
      have Xsm0 : Hid (B1q (Wc.alloc (.cells #[.bool false] 58)) Wc.heap.size (.bool false)) := B1q.new Wc _ _
      have hbn : Below Wc.heap.size Wc (Wc.alloc (.cells #[.bool false] 58)) := below1 Wc _
      generalize Wc.alloc (.cells #[.bool false] 58) = Wm at *
      have HGsm : Hid (w.heap.size ≤ Wc.heap.size) := hbw.size
      replace Xcell : Hid _ := Xcell.out.below hbn
      replace D7 : Hid _ := D7.out.below hbn
      replace E7 : Hid _ := E7.out.below hbn
      replace hbw := Below.on hbw hbn
      clear hbn
      generalize Wc.heap.size = gsm at *
      have Xsm := Xsm0
      clear Xsm0
      obtain ⟨up, hup⟩ : ∃ up, up = if S ≤ b then b - 1 else b + 1 := ⟨_, rfl⟩
      have hnx := tnx HJN.out.jm.pm.fm HB.out HR.out.1 HR.out.2 hup
      have HNF0 := nx_facts HJN.out HB.out HR.out.1 HR.out.2 hup
      have HNX : Hid (Says 30 (.int .i64 f) (U b) (U up) (.int .i64 0)) := hnx.1
      have HPV : Hid (Says 31 (.int .i64 f) (U up) (U b) (.int .i64 0)) := hnx.2
      have HNF : Hid (up < 2 * S ∧ up % S ≤ I ∧ rkS S up = rkS S b + 1 ∧ (up % S ≠ 0 → cLo H l (decide (S ≤ up)) (up % S) = cHi H l (decide (S ≤ b)) (b % S)) ∧ decide (up % 2 = 0) = !decide (b % 2 = 0)) := HNF0
      have HUPE : Hid (up = if S ≤ b then b - 1 else b + 1) := hup
      clear hup hnx HNF0
      obtain ⟨zo, eo, hvf, _⟩ := vf_ex HJN.out.jm.pm HR.out.2
      have HVF : Hid (VF S H l b zo eo) := hvf
      clear hvf
      by_cases hi5 : i = 255
      · refine (sbet_e D7.out E7.out HDB.out.1.1 HDB.out.2.1 HDB.out.1.2 HDB.out.2.2 HLT7.out i HI.out (TB.out.below hbw) hi5).mono ?_
        rintro e0 v8 ⟨s8, p8, m8, t8, q8, n8, rfl, hb8⟩
        clear hi5
        replace Xcell : Hid _ := Xcell.out.below hb8
        replace Xsm : Hid (B1q v8 gsm (.bool false)) := Xsm.out.below hb8
        replace D7 : Hid _ := D7.out.below hb8
        replace E7 : Hid _ := E7.out.below hb8
        replace hbw := Below.on hbw hb8
        clear hb8
        obtain ⟨ccell0, ccell1, ccell2, ccell3, ccell4, ccell5, fcell0, fcell1, fcell2, fcell3, fcell4, fcell5⟩ := Xcell.out
        have hnecell : gcell < v8.heap.size := World.block_lt_of_cell? v8 _ ccell0
        obtain ⟨csm0, fsm0⟩ := Xsm.out
        have hnesm : gsm < v8.heap.size := World.block_lt_of_cell? v8 _ csm0
        go_wp2_with fail
        clear ccell0 ccell1 ccell2 ccell3 ccell4 ccell5 fcell0 fcell1 fcell2 fcell3 fcell4 fcell5 hnecell
        clear csm0 fsm0 hnesm
        rw [show v8.heap.size + 1 = (v8.alloc (.cells #[.bool s8, .slice p8 m8 m8, .int .i64 e7, .bool t8, .slice q8 n8 n8, .int .i64 f7] 47)).heap.size from by simp]
        have Xbl0 : Hid (B6q (v8.alloc (.cells #[.bool s8, .slice p8 m8 m8, .int .i64 e7, .bool t8, .slice q8 n8 n8, .int .i64 f7] 47)) v8.heap.size (.bool s8) (.slice p8 m8 m8) (.int .i64 e7) (.bool t8) (.slice q8 n8 n8) (.int .i64 f7)) := B6q.new v8 _ _ _ _ _ _ _
        have hbn : Below v8.heap.size v8 (v8.alloc (.cells #[.bool s8, .slice p8 m8 m8, .int .i64 e7, .bool t8, .slice q8 n8 n8, .int .i64 f7] 47)) := below1 v8 _
        generalize v8.alloc (.cells #[.bool s8, .slice p8 m8 m8, .int .i64 e7, .bool t8, .slice q8 n8 n8, .int .i64 f7] 47) = Wb at *
        have HGbl : Hid (w.heap.size ≤ v8.heap.size) := hbw.size
        replace Xcell : Hid _ := Xcell.out.below hbn
        replace Xsm : Hid (B1q Wb gsm (.bool false)) := Xsm.out.below hbn
        replace D7 : Hid _ := D7.out.below hbn
        replace E7 : Hid _ := E7.out.below hbn
        replace hbw := Below.on hbw hbn
        clear hbn
        generalize v8.heap.size = gbl at *
        have Xbl := Xbl0
        clear Xbl0
        clear Xbl
        have Xu0 : Hid (B3q (Wb.alloc (.cells #[.bool t7, .slice q7 n7 n7, .int .i64 f7] 26)) Wb.heap.size (.bool t7) (.slice q7 n7 n7) (.int .i64 f7)) := B3q.new Wb _ _ _ _
        have hbn : Below Wb.heap.size Wb (Wb.alloc (.cells #[.bool t7, .slice q7 n7 n7, .int .i64 f7] 26)) := below1 Wb _
        generalize Wb.alloc (.cells #[.bool t7, .slice q7 n7 n7, .int .i64 f7] 26) = Wu at *
        have HGu : Hid (w.heap.size ≤ Wb.heap.size) := hbw.size
        replace Xcell : Hid _ := Xcell.out.below hbn
        replace Xsm : Hid (B1q Wu gsm (.bool false)) := Xsm.out.below hbn
        replace D7 : Hid _ := D7.out.below hbn
        replace E7 : Hid _ := E7.out.below hbn
        replace hbw := Below.on hbw hbn
        clear hbn
        generalize Wb.heap.size = gu at *
        have Xu := Xu0
        clear Xu0
        have HEU : Hid (-4194304 ≤ f7) := by rcases E7.out.fm with ⟨_, h⟩ | ⟨_, h, _⟩ <;> (show _ ≤ _) <;> omega
        cases pr
        · have hpx : ¬ b % 2 = 0 := of_decide_eq_false HPR.out.symm
          clear HPR
          have HRN : Hid (rnp l sd Be S I y7 f7 = (if S ≤ b then b - 1 else b + 1)) := by show rnp l sd Be S I y7 f7 = _; rw [meets_rn HJN.out HB.out HR.out.2 HEU.out HV7.out.2, if_neg hpx]
          have hb0 : b ≠ 0 := fun h => HR.out.1 (by rw [h]; exact Nat.zero_mod _)
          obtain ⟨rr, hrr⟩ : ∃ rr, rr = (if S ≤ b then b - 1 else b + 1) := ⟨_, rfl⟩
          have hne : rr ≠ b := by rw [hrr]; split <;> omega
          rw [← hrr] at HRN
          have kd1 : ((rr : Int) == (b : Int)) = false := by simp; omega
          have kd2 : ((rr : Int) != (b : Int)) = true := by simp; omega
          clear hrr hne
          clear hpx hb0
          refine (rnearest HJN.out E7.out (TB.out.below hbw)).mono ?_
          rintro e v10 ⟨rfl, hb10⟩
          rw [HRN.out]
          replace Xcell : Hid _ := Xcell.out.below hb10
          replace Xsm : Hid (B1q v10 gsm (.bool false)) := Xsm.out.below hb10
          replace Xu : Hid _ := Xu.out.below hb10
          replace D7 : Hid _ := D7.out.below hb10
          replace E7 : Hid _ := E7.out.below hb10
          replace hbw := Below.on hbw hb10
          clear hb10
          obtain ⟨cu0, cu1, cu2, fu0, fu1, fu2⟩ := Xu.out
          have hneu : gu < v10.heap.size := World.block_lt_of_cell? v10 _ cu0
          obtain ⟨ccell0, ccell1, ccell2, ccell3, ccell4, ccell5, fcell0, fcell1, fcell2, fcell3, fcell4, fcell5⟩ := Xcell.out
          have hnecell : gcell < v10.heap.size := World.block_lt_of_cell? v10 _ ccell0
          obtain ⟨csm0, fsm0⟩ := Xsm.out
          have hnesm : gsm < v10.heap.size := World.block_lt_of_cell? v10 _ csm0
          go_wp2_with fail
          clear cu0 cu1 cu2 fu0 fu1 fu2 hneu
          clear ccell0 ccell1 ccell2 ccell3 ccell4 ccell5 fcell0 fcell1 fcell2 fcell3 fcell4 fcell5 hnecell
          clear csm0 fsm0 hnesm
          refine (value_v HJN.out.jm.pm HB.out HR.out.2 HVF.out _ (TB.out.below hbw)).mono ?_
          rintro e0 v11 ⟨v, rfl, hv, hb11⟩
          obtain ⟨s11, p11, m11, rfl, hd11⟩ := hv.dn HVF.out.fm
          clear hv
          replace Xcell : Hid _ := Xcell.out.below hb11
          replace Xsm : Hid (B1q v11 gsm (.bool false)) := Xsm.out.below hb11
          replace Xu : Hid _ := Xu.out.below hb11
          replace D7 : Hid _ := D7.out.below hb11
          replace E7 : Hid _ := E7.out.below hb11
          replace hbw := Below.on hbw hb11
          clear hb11
          have D11 : Hid (DN v11 s11 p11 m11 m11 eo zo) := hd11
          clear hd11
          obtain ⟨cu0, cu1, cu2, fu0, fu1, fu2⟩ := Xu.out
          have hneu : gu < v11.heap.size := World.block_lt_of_cell? v11 _ cu0
          obtain ⟨ccell0, ccell1, ccell2, ccell3, ccell4, ccell5, fcell0, fcell1, fcell2, fcell3, fcell4, fcell5⟩ := Xcell.out
          have hnecell : gcell < v11.heap.size := World.block_lt_of_cell? v11 _ ccell0
          obtain ⟨csm0, fsm0⟩ := Xsm.out
          have hnesm : gsm < v11.heap.size := World.block_lt_of_cell? v11 _ csm0
          go_wp2_with fail
          clear cu0 cu1 cu2 fu0 fu1 fu2 hneu
          clear ccell0 ccell1 ccell2 ccell3 ccell4 ccell5 fcell0 fcell1 fcell2 fcell3 fcell4 fcell5 hnecell
          clear csm0 fsm0 hnesm
          have Xv0 : Hid (B3q (v11.alloc (.cells #[.bool s11, .slice p11 m11 m11, .int .i64 eo] 26)) v11.heap.size (.bool s11) (.slice p11 m11 m11) (.int .i64 eo)) := B3q.new v11 _ _ _ _
          have hbn : Below v11.heap.size v11 (v11.alloc (.cells #[.bool s11, .slice p11 m11 m11, .int .i64 eo] 26)) := below1 v11 _
          generalize v11.alloc (.cells #[.bool s11, .slice p11 m11 m11, .int .i64 eo] 26) = Wv at *
          have HGv : Hid (w.heap.size ≤ v11.heap.size) := hbw.size
          replace Xcell : Hid _ := Xcell.out.below hbn
          replace Xsm : Hid (B1q Wv gsm (.bool false)) := Xsm.out.below hbn
          replace Xu : Hid _ := Xu.out.below hbn
          replace D7 : Hid _ := D7.out.below hbn
          replace E7 : Hid _ := E7.out.below hbn
          replace D11 : Hid _ := D11.out.below hbn
          replace hbw := Below.on hbw hbn
          clear hbn
          generalize v11.heap.size = gv at *
          have Xv := Xv0
          clear Xv0
          refine (rnearest HJN.out D11.out (TB.out.below hbw)).mono ?_
          rintro e v12 ⟨rfl, hb12⟩
          rw [rn_own HJN.out HB.out HR.out.1 HR.out.2 (by rcases HVF.out.fm with ⟨_, h⟩ | ⟨_, h, _⟩ <;> omega) HVF.out.v]
          replace Xcell : Hid _ := Xcell.out.below hb12
          replace Xsm : Hid (B1q v12 gsm (.bool false)) := Xsm.out.below hb12
          replace Xu : Hid _ := Xu.out.below hb12
          replace Xv : Hid _ := Xv.out.below hb12
          replace D7 : Hid _ := D7.out.below hb12
          replace E7 : Hid _ := E7.out.below hb12
          replace D11 : Hid _ := D11.out.below hb12
          replace hbw := Below.on hbw hb12
          clear hb12
          clear D11
          obtain ⟨cu0, cu1, cu2, fu0, fu1, fu2⟩ := Xu.out
          have hneu : gu < v12.heap.size := World.block_lt_of_cell? v12 _ cu0
          obtain ⟨ccell0, ccell1, ccell2, ccell3, ccell4, ccell5, fcell0, fcell1, fcell2, fcell3, fcell4, fcell5⟩ := Xcell.out
          have hnecell : gcell < v12.heap.size := World.block_lt_of_cell? v12 _ ccell0
          obtain ⟨csm0, fsm0⟩ := Xsm.out
          have hnesm : gsm < v12.heap.size := World.block_lt_of_cell? v12 _ csm0
          go_wp2_with fail
          clear cu0 cu1 cu2 fu0 fu1 fu2 hneu
          clear ccell0 ccell1 ccell2 ccell3 ccell4 ccell5 fcell0 fcell1 fcell2 fcell3 fcell4 fcell5 hnecell
          clear csm0 fsm0 hnesm
          refine (tdy E7.out D7.out).mono ?_
          rintro e v13 ⟨rfl, hb13⟩
          rw [decide_eq_false (Int.ne_of_gt HLT7.out)]
          replace Xcell : Hid _ := Xcell.out.below hb13
          replace Xsm : Hid (B1q v13 gsm (.bool false)) := Xsm.out.below hb13
          replace Xu : Hid _ := Xu.out.below hb13
          replace Xv : Hid _ := Xv.out.below hb13
          replace D7 : Hid _ := D7.out.below hb13
          replace E7 : Hid _ := E7.out.below hb13
          replace hbw := Below.on hbw hb13
          clear hb13
          obtain ⟨cu0, cu1, cu2, fu0, fu1, fu2⟩ := Xu.out
          have hneu : gu < v13.heap.size := World.block_lt_of_cell? v13 _ cu0
          obtain ⟨ccell0, ccell1, ccell2, ccell3, ccell4, ccell5, fcell0, fcell1, fcell2, fcell3, fcell4, fcell5⟩ := Xcell.out
          have hnecell : gcell < v13.heap.size := World.block_lt_of_cell? v13 _ ccell0
          go_wp2_with fail
          clear cu0 cu1 cu2 fu0 fu1 fu2 hneu
          clear ccell0 ccell1 ccell2 ccell3 ccell4 ccell5 fcell0 fcell1 fcell2 fcell3 fcell4 fcell5 hnecell
          refine (tdy E7.out E7.out).mono ?_
          rintro e v14 ⟨rfl, hb14⟩
          rw [decide_eq_true rfl]
          replace Xcell : Hid _ := Xcell.out.below hb14
          replace Xsm : Hid (B1q v14 gsm (.bool false)) := Xsm.out.below hb14
          replace Xu : Hid _ := Xu.out.below hb14
          replace Xv : Hid _ := Xv.out.below hb14
          replace D7 : Hid _ := D7.out.below hb14
          replace E7 : Hid _ := E7.out.below hb14
          replace hbw := Below.on hbw hb14
          clear hb14
          obtain ⟨cu0, cu1, cu2, fu0, fu1, fu2⟩ := Xu.out
          have hneu : gu < v14.heap.size := World.block_lt_of_cell? v14 _ cu0
          obtain ⟨ccell0, ccell1, ccell2, ccell3, ccell4, ccell5, fcell0, fcell1, fcell2, fcell3, fcell4, fcell5⟩ := Xcell.out
          have hnecell : gcell < v14.heap.size := World.block_lt_of_cell? v14 _ ccell0
          go_wp2_with fail
          clear cu0 cu1 cu2 fu0 fu1 fu2 hneu
          clear ccell0 ccell1 ccell2 ccell3 ccell4 ccell5 fcell0 fcell1 fcell2 fcell3 fcell4 fcell5 hnecell
          refine (HNX.out _).mono ?_
          rintro e v15 ⟨rfl, hb15⟩
          replace Xcell : Hid _ := Xcell.out.below hb15
          replace Xsm : Hid (B1q v15 gsm (.bool false)) := Xsm.out.below hb15
          replace Xu : Hid _ := Xu.out.below hb15
          replace Xv : Hid _ := Xv.out.below hb15
          replace D7 : Hid _ := D7.out.below hb15
          replace E7 : Hid _ := E7.out.below hb15
          replace hbw := Below.on hbw hb15
          clear hb15
          go_wp2_with fail
          refine (HPV.out _).mono ?_
          rintro e v16 ⟨rfl, hb16⟩
          replace Xcell : Hid _ := Xcell.out.below hb16
          replace Xsm : Hid (B1q v16 gsm (.bool false)) := Xsm.out.below hb16
          replace Xu : Hid _ := Xu.out.below hb16
          replace Xv : Hid _ := Xv.out.below hb16
          replace D7 : Hid _ := D7.out.below hb16
          replace E7 : Hid _ := E7.out.below hb16
          replace hbw := Below.on hbw hb16
          clear hb16
          go_wp2_with fail
          by_cases hu : up % S ≠ 0 ∧ up % S < I
          · have HEQ : Hid (cLo H l (decide (S ≤ up)) (up % S) = cHi H l (decide (S ≤ b)) (b % S)) := HNF.out.2.2.2.1 hu.1
            have HUP : Hid (up % S ≠ 0 ∧ up % S < I) := hu
            clear hu
            refine (cell_ok HJN.out up HNF.out.1 HUP.out.1 HUP.out.2 _ (TB.out.below hbw)).mono ?_
            rintro e0 v17 ⟨s17, p17, m17, z17, e17, t17, q17, n17, y17, f17, rfl, hd1, hd2, hv1, hv2, hb17⟩
            have HV17 : Hid (dv z17 e17 = dv y7 f7) := by show dv z17 e17 = dv y7 f7; rw [hv1, HEQ.out, HV7.out.2]
            clear hv1 hv2
            replace Xcell : Hid _ := Xcell.out.below hb17
            replace Xsm : Hid (B1q v17 gsm (.bool false)) := Xsm.out.below hb17
            replace Xu : Hid _ := Xu.out.below hb17
            replace Xv : Hid _ := Xv.out.below hb17
            replace D7 : Hid _ := D7.out.below hb17
            replace E7 : Hid _ := E7.out.below hb17
            replace hbw := Below.on hbw hb17
            clear hb17
            have D17 : Hid (DN v17 s17 p17 m17 m17 e17 z17) := hd1.dn
            clear hd1 hd2
            obtain ⟨ccell0, ccell1, ccell2, ccell3, ccell4, ccell5, fcell0, fcell1, fcell2, fcell3, fcell4, fcell5⟩ := Xcell.out
            have hnecell : gcell < v17.heap.size := World.block_lt_of_cell? v17 _ ccell0
            go_wp2_with fail
            clear ccell0 ccell1 ccell2 ccell3 ccell4 ccell5 fcell0 fcell1 fcell2 fcell3 fcell4 fcell5 hnecell
            have Xnx0 : Hid (B6q (v17.alloc (.cells #[.bool s17, .slice p17 m17 m17, .int .i64 e17, .bool t17, .slice q17 n17 n17, .int .i64 f17] 47)) v17.heap.size (.bool s17) (.slice p17 m17 m17) (.int .i64 e17) (.bool t17) (.slice q17 n17 n17) (.int .i64 f17)) := B6q.new v17 _ _ _ _ _ _ _
            have hbn : Below v17.heap.size v17 (v17.alloc (.cells #[.bool s17, .slice p17 m17 m17, .int .i64 e17, .bool t17, .slice q17 n17 n17, .int .i64 f17] 47)) := below1 v17 _
            generalize v17.alloc (.cells #[.bool s17, .slice p17 m17 m17, .int .i64 e17, .bool t17, .slice q17 n17 n17, .int .i64 f17] 47) = Wn at *
            have HGnx : Hid (w.heap.size ≤ v17.heap.size) := hbw.size
            replace Xcell : Hid _ := Xcell.out.below hbn
            replace Xsm : Hid (B1q Wn gsm (.bool false)) := Xsm.out.below hbn
            replace Xu : Hid _ := Xu.out.below hbn
            replace Xv : Hid _ := Xv.out.below hbn
            replace D7 : Hid _ := D7.out.below hbn
            replace E7 : Hid _ := E7.out.below hbn
            replace D17 : Hid _ := D17.out.below hbn
            replace hbw := Below.on hbw hbn
            clear hbn
            generalize v17.heap.size = gnx at *
            have Xnx := Xnx0
            clear Xnx0
            refine (tdy D17.out E7.out).mono ?_
            rintro e v18 ⟨rfl, hb18⟩
            rw [decide_eq_true HV17.out]
            replace Xcell : Hid _ := Xcell.out.below hb18
            replace Xsm : Hid (B1q v18 gsm (.bool false)) := Xsm.out.below hb18
            replace Xu : Hid _ := Xu.out.below hb18
            replace Xv : Hid _ := Xv.out.below hb18
            replace Xnx : Hid _ := Xnx.out.below hb18
            replace D7 : Hid _ := D7.out.below hb18
            replace E7 : Hid _ := E7.out.below hb18
            replace D17 : Hid _ := D17.out.below hb18
            replace hbw := Below.on hbw hb18
            clear hb18
            go_wp2_with fail
            go_ret
            exact ⟨rfl, hbw⟩
          · have HUX : Hid (up % S = 0 ∨ I ≤ up % S) := by
              by_cases h : up % S = 0
              · exact .inl h
              · exact .inr (Nat.le_of_not_lt fun h2 => hu ⟨h, h2⟩)
            clear hu
            have hus := up_edge HJN.out.jm.pm.fm HB.out HR.out.1 HR.out.2 HUPE.out HUX.out
            rcases HLT.out.num with ⟨hS, hI⟩ | ⟨hS, hI⟩ <;> rcases hus with hu | hu
            · have hun : up = 2147483648 := by rw [hu]; assumption
              have kb : bits BinOp.and IntKind.u64 2147483648 9223372036854775807 = 2147483648 := by decide
              clear hS hI hu
              subst hun
              refine (cell_x HJN.out 2147483648 HNF.out.1 HUX.out _).mono ?_
              rintro e v17 ⟨rfl, hb17⟩
              replace Xcell : Hid _ := Xcell.out.below hb17
              replace Xsm : Hid (B1q v17 gsm (.bool false)) := Xsm.out.below hb17
              replace Xu : Hid _ := Xu.out.below hb17
              replace Xv : Hid _ := Xv.out.below hb17
              replace D7 : Hid _ := D7.out.below hb17
              replace E7 : Hid _ := E7.out.below hb17
              replace hbw := Below.on hbw hb17
              clear hb17
              obtain ⟨ccell0, ccell1, ccell2, ccell3, ccell4, ccell5, fcell0, fcell1, fcell2, fcell3, fcell4, fcell5⟩ := Xcell.out
              have hnecell : gcell < v17.heap.size := World.block_lt_of_cell? v17 _ ccell0
              go_wp2_with fail
              clear ccell0 ccell1 ccell2 ccell3 ccell4 ccell5 fcell0 fcell1 fcell2 fcell3 fcell4 fcell5 hnecell
              go_ret
              exact ⟨rfl, Below.on hbw (below1 _ _)⟩
            · have hun : up = 2139095040 := by rw [hu]; assumption
              have kb : bits BinOp.and IntKind.u64 2139095040 9223372036854775807 = 2139095040 := by decide
              clear hS hI hu
              subst hun
              refine (cell_x HJN.out 2139095040 HNF.out.1 HUX.out _).mono ?_
              rintro e v17 ⟨rfl, hb17⟩
              replace Xcell : Hid _ := Xcell.out.below hb17
              replace Xsm : Hid (B1q v17 gsm (.bool false)) := Xsm.out.below hb17
              replace Xu : Hid _ := Xu.out.below hb17
              replace Xv : Hid _ := Xv.out.below hb17
              replace D7 : Hid _ := D7.out.below hb17
              replace E7 : Hid _ := E7.out.below hb17
              replace hbw := Below.on hbw hb17
              clear hb17
              obtain ⟨ccell0, ccell1, ccell2, ccell3, ccell4, ccell5, fcell0, fcell1, fcell2, fcell3, fcell4, fcell5⟩ := Xcell.out
              have hnecell : gcell < v17.heap.size := World.block_lt_of_cell? v17 _ ccell0
              go_wp2_with fail
              clear ccell0 ccell1 ccell2 ccell3 ccell4 ccell5 fcell0 fcell1 fcell2 fcell3 fcell4 fcell5 hnecell
              go_ret
              exact ⟨rfl, Below.on hbw (below1 _ _)⟩
            · have hun : up = 9223372036854775808 := by rw [hu]; assumption
              have kb : bits BinOp.and IntKind.u64 9223372036854775808 9223372036854775807 = 0 := by decide
              clear hS hI hu
              subst hun
              refine (cell_x HJN.out 9223372036854775808 HNF.out.1 HUX.out _).mono ?_
              rintro e v17 ⟨rfl, hb17⟩
              replace Xcell : Hid _ := Xcell.out.below hb17
              replace Xsm : Hid (B1q v17 gsm (.bool false)) := Xsm.out.below hb17
              replace Xu : Hid _ := Xu.out.below hb17
              replace Xv : Hid _ := Xv.out.below hb17
              replace D7 : Hid _ := D7.out.below hb17
              replace E7 : Hid _ := E7.out.below hb17
              replace hbw := Below.on hbw hb17
              clear hb17
              obtain ⟨ccell0, ccell1, ccell2, ccell3, ccell4, ccell5, fcell0, fcell1, fcell2, fcell3, fcell4, fcell5⟩ := Xcell.out
              have hnecell : gcell < v17.heap.size := World.block_lt_of_cell? v17 _ ccell0
              go_wp2_with fail
              clear ccell0 ccell1 ccell2 ccell3 ccell4 ccell5 fcell0 fcell1 fcell2 fcell3 fcell4 fcell5 hnecell
              go_ret
              exact ⟨rfl, Below.on hbw (below1 _ _)⟩
            · have hun : up = 9218868437227405312 := by rw [hu]; assumption
              have kb : bits BinOp.and IntKind.u64 9218868437227405312 9223372036854775807 = 9218868437227405312 := by decide
              clear hS hI hu
              subst hun
              refine (cell_x HJN.out 9218868437227405312 HNF.out.1 HUX.out _).mono ?_
              rintro e v17 ⟨rfl, hb17⟩
              replace Xcell : Hid _ := Xcell.out.below hb17
              replace Xsm : Hid (B1q v17 gsm (.bool false)) := Xsm.out.below hb17
              replace Xu : Hid _ := Xu.out.below hb17
              replace Xv : Hid _ := Xv.out.below hb17
              replace D7 : Hid _ := D7.out.below hb17
              replace E7 : Hid _ := E7.out.below hb17
              replace hbw := Below.on hbw hb17
              clear hb17
              obtain ⟨ccell0, ccell1, ccell2, ccell3, ccell4, ccell5, fcell0, fcell1, fcell2, fcell3, fcell4, fcell5⟩ := Xcell.out
              have hnecell : gcell < v17.heap.size := World.block_lt_of_cell? v17 _ ccell0
              go_wp2_with fail
              clear ccell0 ccell1 ccell2 ccell3 ccell4 ccell5 fcell0 fcell1 fcell2 fcell3 fcell4 fcell5 hnecell
              go_ret
              exact ⟨rfl, Below.on hbw (below1 _ _)⟩
        · have hpx : b % 2 = 0 := of_decide_eq_true HPR.out.symm
          clear HPR
          have HRN : Hid (rnp l sd Be S I y7 f7 = b) := by show rnp l sd Be S I y7 f7 = _; rw [meets_rn HJN.out HB.out HR.out.2 HEU.out HV7.out.2, if_pos hpx]
          have hb0 : b ≠ 0 := fun h => HR.out.1 (by rw [h]; exact Nat.zero_mod _)
          clear hpx hb0
          refine (rnearest HJN.out E7.out (TB.out.below hbw)).mono ?_
          rintro e v10 ⟨rfl, hb10⟩
          rw [HRN.out]
          replace Xcell : Hid _ := Xcell.out.below hb10
          replace Xsm : Hid (B1q v10 gsm (.bool false)) := Xsm.out.below hb10
          replace Xu : Hid _ := Xu.out.below hb10
          replace D7 : Hid _ := D7.out.below hb10
          replace E7 : Hid _ := E7.out.below hb10
          replace hbw := Below.on hbw hb10
          clear hb10
          obtain ⟨cu0, cu1, cu2, fu0, fu1, fu2⟩ := Xu.out
          have hneu : gu < v10.heap.size := World.block_lt_of_cell? v10 _ cu0
          obtain ⟨ccell0, ccell1, ccell2, ccell3, ccell4, ccell5, fcell0, fcell1, fcell2, fcell3, fcell4, fcell5⟩ := Xcell.out
          have hnecell : gcell < v10.heap.size := World.block_lt_of_cell? v10 _ ccell0
          obtain ⟨csm0, fsm0⟩ := Xsm.out
          have hnesm : gsm < v10.heap.size := World.block_lt_of_cell? v10 _ csm0
          go_wp2_with fail
          clear cu0 cu1 cu2 fu0 fu1 fu2 hneu
          clear ccell0 ccell1 ccell2 ccell3 ccell4 ccell5 fcell0 fcell1 fcell2 fcell3 fcell4 fcell5 hnecell
          clear csm0 fsm0 hnesm
          refine (value_v HJN.out.jm.pm HB.out HR.out.2 HVF.out _ (TB.out.below hbw)).mono ?_
          rintro e0 v11 ⟨v, rfl, hv, hb11⟩
          obtain ⟨s11, p11, m11, rfl, hd11⟩ := hv.dn HVF.out.fm
          clear hv
          replace Xcell : Hid _ := Xcell.out.below hb11
          replace Xsm : Hid (B1q v11 gsm (.bool false)) := Xsm.out.below hb11
          replace Xu : Hid _ := Xu.out.below hb11
          replace D7 : Hid _ := D7.out.below hb11
          replace E7 : Hid _ := E7.out.below hb11
          replace hbw := Below.on hbw hb11
          clear hb11
          have D11 : Hid (DN v11 s11 p11 m11 m11 eo zo) := hd11
          clear hd11
          obtain ⟨cu0, cu1, cu2, fu0, fu1, fu2⟩ := Xu.out
          have hneu : gu < v11.heap.size := World.block_lt_of_cell? v11 _ cu0
          obtain ⟨ccell0, ccell1, ccell2, ccell3, ccell4, ccell5, fcell0, fcell1, fcell2, fcell3, fcell4, fcell5⟩ := Xcell.out
          have hnecell : gcell < v11.heap.size := World.block_lt_of_cell? v11 _ ccell0
          obtain ⟨csm0, fsm0⟩ := Xsm.out
          have hnesm : gsm < v11.heap.size := World.block_lt_of_cell? v11 _ csm0
          go_wp2_with fail
          clear cu0 cu1 cu2 fu0 fu1 fu2 hneu
          clear ccell0 ccell1 ccell2 ccell3 ccell4 ccell5 fcell0 fcell1 fcell2 fcell3 fcell4 fcell5 hnecell
          clear csm0 fsm0 hnesm
          have Xv0 : Hid (B3q (v11.alloc (.cells #[.bool s11, .slice p11 m11 m11, .int .i64 eo] 26)) v11.heap.size (.bool s11) (.slice p11 m11 m11) (.int .i64 eo)) := B3q.new v11 _ _ _ _
          have hbn : Below v11.heap.size v11 (v11.alloc (.cells #[.bool s11, .slice p11 m11 m11, .int .i64 eo] 26)) := below1 v11 _
          generalize v11.alloc (.cells #[.bool s11, .slice p11 m11 m11, .int .i64 eo] 26) = Wv at *
          have HGv : Hid (w.heap.size ≤ v11.heap.size) := hbw.size
          replace Xcell : Hid _ := Xcell.out.below hbn
          replace Xsm : Hid (B1q Wv gsm (.bool false)) := Xsm.out.below hbn
          replace Xu : Hid _ := Xu.out.below hbn
          replace D7 : Hid _ := D7.out.below hbn
          replace E7 : Hid _ := E7.out.below hbn
          replace D11 : Hid _ := D11.out.below hbn
          replace hbw := Below.on hbw hbn
          clear hbn
          generalize v11.heap.size = gv at *
          have Xv := Xv0
          clear Xv0
          refine (rnearest HJN.out D11.out (TB.out.below hbw)).mono ?_
          rintro e v12 ⟨rfl, hb12⟩
          rw [rn_own HJN.out HB.out HR.out.1 HR.out.2 (by rcases HVF.out.fm with ⟨_, h⟩ | ⟨_, h, _⟩ <;> omega) HVF.out.v]
          replace Xcell : Hid _ := Xcell.out.below hb12
          replace Xsm : Hid (B1q v12 gsm (.bool false)) := Xsm.out.below hb12
          replace Xu : Hid _ := Xu.out.below hb12
          replace Xv : Hid _ := Xv.out.below hb12
          replace D7 : Hid _ := D7.out.below hb12
          replace E7 : Hid _ := E7.out.below hb12
          replace D11 : Hid _ := D11.out.below hb12
          replace hbw := Below.on hbw hb12
          clear hb12
          clear D11
          obtain ⟨cu0, cu1, cu2, fu0, fu1, fu2⟩ := Xu.out
          have hneu : gu < v12.heap.size := World.block_lt_of_cell? v12 _ cu0
          obtain ⟨ccell0, ccell1, ccell2, ccell3, ccell4, ccell5, fcell0, fcell1, fcell2, fcell3, fcell4, fcell5⟩ := Xcell.out
          have hnecell : gcell < v12.heap.size := World.block_lt_of_cell? v12 _ ccell0
          obtain ⟨csm0, fsm0⟩ := Xsm.out
          have hnesm : gsm < v12.heap.size := World.block_lt_of_cell? v12 _ csm0
          go_wp2_with fail
          clear cu0 cu1 cu2 fu0 fu1 fu2 hneu
          clear ccell0 ccell1 ccell2 ccell3 ccell4 ccell5 fcell0 fcell1 fcell2 fcell3 fcell4 fcell5 hnecell
          clear csm0 fsm0 hnesm
          refine (tdy E7.out D7.out).mono ?_
          rintro e v13 ⟨rfl, hb13⟩
          rw [decide_eq_false (Int.ne_of_gt HLT7.out)]
          replace Xcell : Hid _ := Xcell.out.below hb13
          replace Xsm : Hid (B1q v13 gsm (.bool false)) := Xsm.out.below hb13
          replace Xu : Hid _ := Xu.out.below hb13
          replace Xv : Hid _ := Xv.out.below hb13
          replace D7 : Hid _ := D7.out.below hb13
          replace E7 : Hid _ := E7.out.below hb13
          replace hbw := Below.on hbw hb13
          clear hb13
          obtain ⟨cu0, cu1, cu2, fu0, fu1, fu2⟩ := Xu.out
          have hneu : gu < v13.heap.size := World.block_lt_of_cell? v13 _ cu0
          obtain ⟨ccell0, ccell1, ccell2, ccell3, ccell4, ccell5, fcell0, fcell1, fcell2, fcell3, fcell4, fcell5⟩ := Xcell.out
          have hnecell : gcell < v13.heap.size := World.block_lt_of_cell? v13 _ ccell0
          go_wp2_with fail
          clear cu0 cu1 cu2 fu0 fu1 fu2 hneu
          clear ccell0 ccell1 ccell2 ccell3 ccell4 ccell5 fcell0 fcell1 fcell2 fcell3 fcell4 fcell5 hnecell
          refine (tdy E7.out E7.out).mono ?_
          rintro e v14 ⟨rfl, hb14⟩
          rw [decide_eq_true rfl]
          replace Xcell : Hid _ := Xcell.out.below hb14
          replace Xsm : Hid (B1q v14 gsm (.bool false)) := Xsm.out.below hb14
          replace Xu : Hid _ := Xu.out.below hb14
          replace Xv : Hid _ := Xv.out.below hb14
          replace D7 : Hid _ := D7.out.below hb14
          replace E7 : Hid _ := E7.out.below hb14
          replace hbw := Below.on hbw hb14
          clear hb14
          obtain ⟨cu0, cu1, cu2, fu0, fu1, fu2⟩ := Xu.out
          have hneu : gu < v14.heap.size := World.block_lt_of_cell? v14 _ cu0
          obtain ⟨ccell0, ccell1, ccell2, ccell3, ccell4, ccell5, fcell0, fcell1, fcell2, fcell3, fcell4, fcell5⟩ := Xcell.out
          have hnecell : gcell < v14.heap.size := World.block_lt_of_cell? v14 _ ccell0
          go_wp2_with fail
          clear cu0 cu1 cu2 fu0 fu1 fu2 hneu
          clear ccell0 ccell1 ccell2 ccell3 ccell4 ccell5 fcell0 fcell1 fcell2 fcell3 fcell4 fcell5 hnecell
          refine (HNX.out _).mono ?_
          rintro e v15 ⟨rfl, hb15⟩
          replace Xcell : Hid _ := Xcell.out.below hb15
          replace Xsm : Hid (B1q v15 gsm (.bool false)) := Xsm.out.below hb15
          replace Xu : Hid _ := Xu.out.below hb15
          replace Xv : Hid _ := Xv.out.below hb15
          replace D7 : Hid _ := D7.out.below hb15
          replace E7 : Hid _ := E7.out.below hb15
          replace hbw := Below.on hbw hb15
          clear hb15
          go_wp2_with fail
          refine (HPV.out _).mono ?_
          rintro e v16 ⟨rfl, hb16⟩
          replace Xcell : Hid _ := Xcell.out.below hb16
          replace Xsm : Hid (B1q v16 gsm (.bool false)) := Xsm.out.below hb16
          replace Xu : Hid _ := Xu.out.below hb16
          replace Xv : Hid _ := Xv.out.below hb16
          replace D7 : Hid _ := D7.out.below hb16
          replace E7 : Hid _ := E7.out.below hb16
          replace hbw := Below.on hbw hb16
          clear hb16
          go_wp2_with fail
          by_cases hu : up % S ≠ 0 ∧ up % S < I
          · have HEQ : Hid (cLo H l (decide (S ≤ up)) (up % S) = cHi H l (decide (S ≤ b)) (b % S)) := HNF.out.2.2.2.1 hu.1
            have HUP : Hid (up % S ≠ 0 ∧ up % S < I) := hu
            clear hu
            refine (cell_ok HJN.out up HNF.out.1 HUP.out.1 HUP.out.2 _ (TB.out.below hbw)).mono ?_
            rintro e0 v17 ⟨s17, p17, m17, z17, e17, t17, q17, n17, y17, f17, rfl, hd1, hd2, hv1, hv2, hb17⟩
            have HV17 : Hid (dv z17 e17 = dv y7 f7) := by show dv z17 e17 = dv y7 f7; rw [hv1, HEQ.out, HV7.out.2]
            clear hv1 hv2
            replace Xcell : Hid _ := Xcell.out.below hb17
            replace Xsm : Hid (B1q v17 gsm (.bool false)) := Xsm.out.below hb17
            replace Xu : Hid _ := Xu.out.below hb17
            replace Xv : Hid _ := Xv.out.below hb17
            replace D7 : Hid _ := D7.out.below hb17
            replace E7 : Hid _ := E7.out.below hb17
            replace hbw := Below.on hbw hb17
            clear hb17
            have D17 : Hid (DN v17 s17 p17 m17 m17 e17 z17) := hd1.dn
            clear hd1 hd2
            obtain ⟨ccell0, ccell1, ccell2, ccell3, ccell4, ccell5, fcell0, fcell1, fcell2, fcell3, fcell4, fcell5⟩ := Xcell.out
            have hnecell : gcell < v17.heap.size := World.block_lt_of_cell? v17 _ ccell0
            go_wp2_with fail
            clear ccell0 ccell1 ccell2 ccell3 ccell4 ccell5 fcell0 fcell1 fcell2 fcell3 fcell4 fcell5 hnecell
            have Xnx0 : Hid (B6q (v17.alloc (.cells #[.bool s17, .slice p17 m17 m17, .int .i64 e17, .bool t17, .slice q17 n17 n17, .int .i64 f17] 47)) v17.heap.size (.bool s17) (.slice p17 m17 m17) (.int .i64 e17) (.bool t17) (.slice q17 n17 n17) (.int .i64 f17)) := B6q.new v17 _ _ _ _ _ _ _
            have hbn : Below v17.heap.size v17 (v17.alloc (.cells #[.bool s17, .slice p17 m17 m17, .int .i64 e17, .bool t17, .slice q17 n17 n17, .int .i64 f17] 47)) := below1 v17 _
            generalize v17.alloc (.cells #[.bool s17, .slice p17 m17 m17, .int .i64 e17, .bool t17, .slice q17 n17 n17, .int .i64 f17] 47) = Wn at *
            have HGnx : Hid (w.heap.size ≤ v17.heap.size) := hbw.size
            replace Xcell : Hid _ := Xcell.out.below hbn
            replace Xsm : Hid (B1q Wn gsm (.bool false)) := Xsm.out.below hbn
            replace Xu : Hid _ := Xu.out.below hbn
            replace Xv : Hid _ := Xv.out.below hbn
            replace D7 : Hid _ := D7.out.below hbn
            replace E7 : Hid _ := E7.out.below hbn
            replace D17 : Hid _ := D17.out.below hbn
            replace hbw := Below.on hbw hbn
            clear hbn
            generalize v17.heap.size = gnx at *
            have Xnx := Xnx0
            clear Xnx0
            refine (tdy D17.out E7.out).mono ?_
            rintro e v18 ⟨rfl, hb18⟩
            rw [decide_eq_true HV17.out]
            replace Xcell : Hid _ := Xcell.out.below hb18
            replace Xsm : Hid (B1q v18 gsm (.bool false)) := Xsm.out.below hb18
            replace Xu : Hid _ := Xu.out.below hb18
            replace Xv : Hid _ := Xv.out.below hb18
            replace Xnx : Hid _ := Xnx.out.below hb18
            replace D7 : Hid _ := D7.out.below hb18
            replace E7 : Hid _ := E7.out.below hb18
            replace D17 : Hid _ := D17.out.below hb18
            replace hbw := Below.on hbw hb18
            clear hb18
            go_wp2_with fail
            go_ret
            exact ⟨rfl, hbw⟩
          · have HUX : Hid (up % S = 0 ∨ I ≤ up % S) := by
              by_cases h : up % S = 0
              · exact .inl h
              · exact .inr (Nat.le_of_not_lt fun h2 => hu ⟨h, h2⟩)
            clear hu
            have hus := up_edge HJN.out.jm.pm.fm HB.out HR.out.1 HR.out.2 HUPE.out HUX.out
            rcases HLT.out.num with ⟨hS, hI⟩ | ⟨hS, hI⟩ <;> rcases hus with hu | hu
            · have hun : up = 2147483648 := by rw [hu]; assumption
              have kb : bits BinOp.and IntKind.u64 2147483648 9223372036854775807 = 2147483648 := by decide
              clear hS hI hu
              subst hun
              refine (cell_x HJN.out 2147483648 HNF.out.1 HUX.out _).mono ?_
              rintro e v17 ⟨rfl, hb17⟩
              replace Xcell : Hid _ := Xcell.out.below hb17
              replace Xsm : Hid (B1q v17 gsm (.bool false)) := Xsm.out.below hb17
              replace Xu : Hid _ := Xu.out.below hb17
              replace Xv : Hid _ := Xv.out.below hb17
              replace D7 : Hid _ := D7.out.below hb17
              replace E7 : Hid _ := E7.out.below hb17
              replace hbw := Below.on hbw hb17
              clear hb17
              obtain ⟨ccell0, ccell1, ccell2, ccell3, ccell4, ccell5, fcell0, fcell1, fcell2, fcell3, fcell4, fcell5⟩ := Xcell.out
              have hnecell : gcell < v17.heap.size := World.block_lt_of_cell? v17 _ ccell0
              go_wp2_with fail
              clear ccell0 ccell1 ccell2 ccell3 ccell4 ccell5 fcell0 fcell1 fcell2 fcell3 fcell4 fcell5 hnecell
              go_ret
              exact ⟨rfl, Below.on hbw (below1 _ _)⟩
            · have hun : up = 2139095040 := by rw [hu]; assumption
              have kb : bits BinOp.and IntKind.u64 2139095040 9223372036854775807 = 2139095040 := by decide
              clear hS hI hu
              subst hun
              refine (cell_x HJN.out 2139095040 HNF.out.1 HUX.out _).mono ?_
              rintro e v17 ⟨rfl, hb17⟩
              replace Xcell : Hid _ := Xcell.out.below hb17
              replace Xsm : Hid (B1q v17 gsm (.bool false)) := Xsm.out.below hb17
              replace Xu : Hid _ := Xu.out.below hb17
              replace Xv : Hid _ := Xv.out.below hb17
              replace D7 : Hid _ := D7.out.below hb17
              replace E7 : Hid _ := E7.out.below hb17
              replace hbw := Below.on hbw hb17
              clear hb17
              obtain ⟨ccell0, ccell1, ccell2, ccell3, ccell4, ccell5, fcell0, fcell1, fcell2, fcell3, fcell4, fcell5⟩ := Xcell.out
              have hnecell : gcell < v17.heap.size := World.block_lt_of_cell? v17 _ ccell0
              go_wp2_with fail
              clear ccell0 ccell1 ccell2 ccell3 ccell4 ccell5 fcell0 fcell1 fcell2 fcell3 fcell4 fcell5 hnecell
              go_ret
              exact ⟨rfl, Below.on hbw (below1 _ _)⟩
            · have hun : up = 9223372036854775808 := by rw [hu]; assumption
              have kb : bits BinOp.and IntKind.u64 9223372036854775808 9223372036854775807 = 0 := by decide
              clear hS hI hu
              subst hun
              refine (cell_x HJN.out 9223372036854775808 HNF.out.1 HUX.out _).mono ?_
              rintro e v17 ⟨rfl, hb17⟩
              replace Xcell : Hid _ := Xcell.out.below hb17
              replace Xsm : Hid (B1q v17 gsm (.bool false)) := Xsm.out.below hb17
              replace Xu : Hid _ := Xu.out.below hb17
              replace Xv : Hid _ := Xv.out.below hb17
              replace D7 : Hid _ := D7.out.below hb17
              replace E7 : Hid _ := E7.out.below hb17
              replace hbw := Below.on hbw hb17
              clear hb17
              obtain ⟨ccell0, ccell1, ccell2, ccell3, ccell4, ccell5, fcell0, fcell1, fcell2, fcell3, fcell4, fcell5⟩ := Xcell.out
              have hnecell : gcell < v17.heap.size := World.block_lt_of_cell? v17 _ ccell0
              go_wp2_with fail
              clear ccell0 ccell1 ccell2 ccell3 ccell4 ccell5 fcell0 fcell1 fcell2 fcell3 fcell4 fcell5 hnecell
              go_ret
              exact ⟨rfl, Below.on hbw (below1 _ _)⟩
            · have hun : up = 9218868437227405312 := by rw [hu]; assumption
              have kb : bits BinOp.and IntKind.u64 9218868437227405312 9223372036854775807 = 9218868437227405312 := by decide
              clear hS hI hu
              subst hun
              refine (cell_x HJN.out 9218868437227405312 HNF.out.1 HUX.out _).mono ?_
              rintro e v17 ⟨rfl, hb17⟩
              replace Xcell : Hid _ := Xcell.out.below hb17
              replace Xsm : Hid (B1q v17 gsm (.bool false)) := Xsm.out.below hb17
              replace Xu : Hid _ := Xu.out.below hb17
              replace Xv : Hid _ := Xv.out.below hb17
              replace D7 : Hid _ := D7.out.below hb17
              replace E7 : Hid _ := E7.out.below hb17
              replace hbw := Below.on hbw hb17
              clear hb17
              obtain ⟨ccell0, ccell1, ccell2, ccell3, ccell4, ccell5, fcell0, fcell1, fcell2, fcell3, fcell4, fcell5⟩ := Xcell.out
              have hnecell : gcell < v17.heap.size := World.block_lt_of_cell? v17 _ ccell0
              go_wp2_with fail
              clear ccell0 ccell1 ccell2 ccell3 ccell4 ccell5 fcell0 fcell1 fcell2 fcell3 fcell4 fcell5 hnecell
              go_ret
              exact ⟨rfl, Below.on hbw (below1 _ _)⟩
      · refine (sbet_n D7.out E7.out HDB.out.1.1 HDB.out.2.1 HDB.out.1.2 HDB.out.2.2 HLT7.out i HI.out (TB.out.below hbw) hi5).mono ?_
        rintro e0 v8 ⟨s8, p8, m8, t8, q8, n8, s9, p9, m9, zu, eu, rfl, hdu, hdv, hb8⟩
        replace Xcell : Hid _ := Xcell.out.below hb8
        replace Xsm : Hid (B1q v8 gsm (.bool false)) := Xsm.out.below hb8
        replace D7 : Hid _ := D7.out.below hb8
        replace E7 : Hid _ := E7.out.below hb8
        replace hbw := Below.on hbw hb8
        clear hb8
        have U8 : Hid (DN v8 s9 p9 m9 m9 eu zu) := hdu
        clear hdu
        by_cases hi0 : i = 0
        · have HU : Hid (dv zu eu = dv z7 e7) := by show dv zu eu = dv z7 e7; rw [hi0] at hdv; rw [show ((0 : Nat) : Int) = 0 from rfl, Int.zero_mul] at hdv; omega
          clear hi5 hi0 hdv
          obtain ⟨ccell0, ccell1, ccell2, ccell3, ccell4, ccell5, fcell0, fcell1, fcell2, fcell3, fcell4, fcell5⟩ := Xcell.out
          have hnecell : gcell < v8.heap.size := World.block_lt_of_cell? v8 _ ccell0
          obtain ⟨csm0, fsm0⟩ := Xsm.out
          have hnesm : gsm < v8.heap.size := World.block_lt_of_cell? v8 _ csm0
          go_wp2_with fail
          clear ccell0 ccell1 ccell2 ccell3 ccell4 ccell5 fcell0 fcell1 fcell2 fcell3 fcell4 fcell5 hnecell
          clear csm0 fsm0 hnesm
          rw [show v8.heap.size + 1 = (v8.alloc (.cells #[.bool s8, .slice p8 m8 m8, .int .i64 e7, .bool t8, .slice q8 n8 n8, .int .i64 f7] 47)).heap.size from by simp]
          have Xbl0 : Hid (B6q (v8.alloc (.cells #[.bool s8, .slice p8 m8 m8, .int .i64 e7, .bool t8, .slice q8 n8 n8, .int .i64 f7] 47)) v8.heap.size (.bool s8) (.slice p8 m8 m8) (.int .i64 e7) (.bool t8) (.slice q8 n8 n8) (.int .i64 f7)) := B6q.new v8 _ _ _ _ _ _ _
          have hbn : Below v8.heap.size v8 (v8.alloc (.cells #[.bool s8, .slice p8 m8 m8, .int .i64 e7, .bool t8, .slice q8 n8 n8, .int .i64 f7] 47)) := below1 v8 _
          generalize v8.alloc (.cells #[.bool s8, .slice p8 m8 m8, .int .i64 e7, .bool t8, .slice q8 n8 n8, .int .i64 f7] 47) = Wb at *
          have HGbl : Hid (w.heap.size ≤ v8.heap.size) := hbw.size
          replace Xcell : Hid _ := Xcell.out.below hbn
          replace Xsm : Hid (B1q Wb gsm (.bool false)) := Xsm.out.below hbn
          replace D7 : Hid _ := D7.out.below hbn
          replace E7 : Hid _ := E7.out.below hbn
          replace U8 : Hid _ := U8.out.below hbn
          replace hbw := Below.on hbw hbn
          clear hbn
          generalize v8.heap.size = gbl at *
          have Xbl := Xbl0
          clear Xbl0
          clear Xbl
          have Xu0 : Hid (B3q (Wb.alloc (.cells #[.bool s9, .slice p9 m9 m9, .int .i64 eu] 26)) Wb.heap.size (.bool s9) (.slice p9 m9 m9) (.int .i64 eu)) := B3q.new Wb _ _ _ _
          have hbn : Below Wb.heap.size Wb (Wb.alloc (.cells #[.bool s9, .slice p9 m9 m9, .int .i64 eu] 26)) := below1 Wb _
          generalize Wb.alloc (.cells #[.bool s9, .slice p9 m9 m9, .int .i64 eu] 26) = Wu at *
          have HGu : Hid (w.heap.size ≤ Wb.heap.size) := hbw.size
          replace Xcell : Hid _ := Xcell.out.below hbn
          replace Xsm : Hid (B1q Wu gsm (.bool false)) := Xsm.out.below hbn
          replace D7 : Hid _ := D7.out.below hbn
          replace E7 : Hid _ := E7.out.below hbn
          replace U8 : Hid _ := U8.out.below hbn
          replace hbw := Below.on hbw hbn
          clear hbn
          generalize Wb.heap.size = gu at *
          have Xu := Xu0
          clear Xu0
          have HEU : Hid (-4194304 ≤ eu) := by rcases U8.out.fm with ⟨_, h⟩ | ⟨_, h, _⟩ <;> (show _ ≤ _) <;> omega
          cases pr
          · have hpx : ¬ b % 2 = 0 := of_decide_eq_false HPR.out.symm
            clear HPR
            have HRN : Hid (rnp l sd Be S I zu eu = (if S ≤ b then b + 1 else b - 1)) := by show rnp l sd Be S I zu eu = _; rw [rn_low HJN.out HB.out HR.out.2 HEU.out (HU.out.trans HV7.out.1), if_neg hpx]
            have hb0 : b ≠ 0 := fun h => HR.out.1 (by rw [h]; exact Nat.zero_mod _)
            obtain ⟨rr, hrr⟩ : ∃ rr, rr = (if S ≤ b then b + 1 else b - 1) := ⟨_, rfl⟩
            have hne : rr ≠ b := by rw [hrr]; split <;> omega
            rw [← hrr] at HRN
            have kd1 : ((rr : Int) == (b : Int)) = false := by simp; omega
            have kd2 : ((rr : Int) != (b : Int)) = true := by simp; omega
            clear hrr hne
            clear hpx hb0
            refine (rnearest HJN.out U8.out (TB.out.below hbw)).mono ?_
            rintro e v10 ⟨rfl, hb10⟩
            rw [HRN.out]
            replace Xcell : Hid _ := Xcell.out.below hb10
            replace Xsm : Hid (B1q v10 gsm (.bool false)) := Xsm.out.below hb10
            replace Xu : Hid _ := Xu.out.below hb10
            replace D7 : Hid _ := D7.out.below hb10
            replace E7 : Hid _ := E7.out.below hb10
            replace U8 : Hid _ := U8.out.below hb10
            replace hbw := Below.on hbw hb10
            clear hb10
            obtain ⟨cu0, cu1, cu2, fu0, fu1, fu2⟩ := Xu.out
            have hneu : gu < v10.heap.size := World.block_lt_of_cell? v10 _ cu0
            obtain ⟨ccell0, ccell1, ccell2, ccell3, ccell4, ccell5, fcell0, fcell1, fcell2, fcell3, fcell4, fcell5⟩ := Xcell.out
            have hnecell : gcell < v10.heap.size := World.block_lt_of_cell? v10 _ ccell0
            obtain ⟨csm0, fsm0⟩ := Xsm.out
            have hnesm : gsm < v10.heap.size := World.block_lt_of_cell? v10 _ csm0
            go_wp2_with fail
            clear cu0 cu1 cu2 fu0 fu1 fu2 hneu
            clear ccell0 ccell1 ccell2 ccell3 ccell4 ccell5 fcell0 fcell1 fcell2 fcell3 fcell4 fcell5 hnecell
            clear csm0 fsm0 hnesm
            refine (value_v HJN.out.jm.pm HB.out HR.out.2 HVF.out _ (TB.out.below hbw)).mono ?_
            rintro e0 v11 ⟨v, rfl, hv, hb11⟩
            obtain ⟨s11, p11, m11, rfl, hd11⟩ := hv.dn HVF.out.fm
            clear hv
            replace Xcell : Hid _ := Xcell.out.below hb11
            replace Xsm : Hid (B1q v11 gsm (.bool false)) := Xsm.out.below hb11
            replace Xu : Hid _ := Xu.out.below hb11
            replace D7 : Hid _ := D7.out.below hb11
            replace E7 : Hid _ := E7.out.below hb11
            replace U8 : Hid _ := U8.out.below hb11
            replace hbw := Below.on hbw hb11
            clear hb11
            have D11 : Hid (DN v11 s11 p11 m11 m11 eo zo) := hd11
            clear hd11
            obtain ⟨cu0, cu1, cu2, fu0, fu1, fu2⟩ := Xu.out
            have hneu : gu < v11.heap.size := World.block_lt_of_cell? v11 _ cu0
            obtain ⟨ccell0, ccell1, ccell2, ccell3, ccell4, ccell5, fcell0, fcell1, fcell2, fcell3, fcell4, fcell5⟩ := Xcell.out
            have hnecell : gcell < v11.heap.size := World.block_lt_of_cell? v11 _ ccell0
            obtain ⟨csm0, fsm0⟩ := Xsm.out
            have hnesm : gsm < v11.heap.size := World.block_lt_of_cell? v11 _ csm0
            go_wp2_with fail
            clear cu0 cu1 cu2 fu0 fu1 fu2 hneu
            clear ccell0 ccell1 ccell2 ccell3 ccell4 ccell5 fcell0 fcell1 fcell2 fcell3 fcell4 fcell5 hnecell
            clear csm0 fsm0 hnesm
            have Xv0 : Hid (B3q (v11.alloc (.cells #[.bool s11, .slice p11 m11 m11, .int .i64 eo] 26)) v11.heap.size (.bool s11) (.slice p11 m11 m11) (.int .i64 eo)) := B3q.new v11 _ _ _ _
            have hbn : Below v11.heap.size v11 (v11.alloc (.cells #[.bool s11, .slice p11 m11 m11, .int .i64 eo] 26)) := below1 v11 _
            generalize v11.alloc (.cells #[.bool s11, .slice p11 m11 m11, .int .i64 eo] 26) = Wv at *
            have HGv : Hid (w.heap.size ≤ v11.heap.size) := hbw.size
            replace Xcell : Hid _ := Xcell.out.below hbn
            replace Xsm : Hid (B1q Wv gsm (.bool false)) := Xsm.out.below hbn
            replace Xu : Hid _ := Xu.out.below hbn
            replace D7 : Hid _ := D7.out.below hbn
            replace E7 : Hid _ := E7.out.below hbn
            replace U8 : Hid _ := U8.out.below hbn
            replace D11 : Hid _ := D11.out.below hbn
            replace hbw := Below.on hbw hbn
            clear hbn
            generalize v11.heap.size = gv at *
            have Xv := Xv0
            clear Xv0
            refine (rnearest HJN.out D11.out (TB.out.below hbw)).mono ?_
            rintro e v12 ⟨rfl, hb12⟩
            rw [rn_own HJN.out HB.out HR.out.1 HR.out.2 (by rcases HVF.out.fm with ⟨_, h⟩ | ⟨_, h, _⟩ <;> omega) HVF.out.v]
            replace Xcell : Hid _ := Xcell.out.below hb12
            replace Xsm : Hid (B1q v12 gsm (.bool false)) := Xsm.out.below hb12
            replace Xu : Hid _ := Xu.out.below hb12
            replace Xv : Hid _ := Xv.out.below hb12
            replace D7 : Hid _ := D7.out.below hb12
            replace E7 : Hid _ := E7.out.below hb12
            replace U8 : Hid _ := U8.out.below hb12
            replace D11 : Hid _ := D11.out.below hb12
            replace hbw := Below.on hbw hb12
            clear hb12
            clear D11
            obtain ⟨cu0, cu1, cu2, fu0, fu1, fu2⟩ := Xu.out
            have hneu : gu < v12.heap.size := World.block_lt_of_cell? v12 _ cu0
            obtain ⟨ccell0, ccell1, ccell2, ccell3, ccell4, ccell5, fcell0, fcell1, fcell2, fcell3, fcell4, fcell5⟩ := Xcell.out
            have hnecell : gcell < v12.heap.size := World.block_lt_of_cell? v12 _ ccell0
            obtain ⟨csm0, fsm0⟩ := Xsm.out
            have hnesm : gsm < v12.heap.size := World.block_lt_of_cell? v12 _ csm0
            go_wp2_with fail
            clear cu0 cu1 cu2 fu0 fu1 fu2 hneu
            clear ccell0 ccell1 ccell2 ccell3 ccell4 ccell5 fcell0 fcell1 fcell2 fcell3 fcell4 fcell5 hnecell
            clear csm0 fsm0 hnesm
            refine (tdy U8.out D7.out).mono ?_
            rintro e v13 ⟨rfl, hb13⟩
            rw [decide_eq_true HU.out]
            replace Xcell : Hid _ := Xcell.out.below hb13
            replace Xsm : Hid (B1q v13 gsm (.bool false)) := Xsm.out.below hb13
            replace Xu : Hid _ := Xu.out.below hb13
            replace Xv : Hid _ := Xv.out.below hb13
            replace D7 : Hid _ := D7.out.below hb13
            replace E7 : Hid _ := E7.out.below hb13
            replace U8 : Hid _ := U8.out.below hb13
            replace hbw := Below.on hbw hb13
            clear hb13
            obtain ⟨cu0, cu1, cu2, fu0, fu1, fu2⟩ := Xu.out
            have hneu : gu < v13.heap.size := World.block_lt_of_cell? v13 _ cu0
            obtain ⟨ccell0, ccell1, ccell2, ccell3, ccell4, ccell5, fcell0, fcell1, fcell2, fcell3, fcell4, fcell5⟩ := Xcell.out
            have hnecell : gcell < v13.heap.size := World.block_lt_of_cell? v13 _ ccell0
            go_wp2_with fail
            clear cu0 cu1 cu2 fu0 fu1 fu2 hneu
            clear ccell0 ccell1 ccell2 ccell3 ccell4 ccell5 fcell0 fcell1 fcell2 fcell3 fcell4 fcell5 hnecell
            refine (HNX.out _).mono ?_
            rintro e v15 ⟨rfl, hb15⟩
            replace Xcell : Hid _ := Xcell.out.below hb15
            replace Xsm : Hid (B1q v15 gsm (.bool false)) := Xsm.out.below hb15
            replace Xu : Hid _ := Xu.out.below hb15
            replace Xv : Hid _ := Xv.out.below hb15
            replace D7 : Hid _ := D7.out.below hb15
            replace E7 : Hid _ := E7.out.below hb15
            replace U8 : Hid _ := U8.out.below hb15
            replace hbw := Below.on hbw hb15
            clear hb15
            go_wp2_with fail
            refine (HPV.out _).mono ?_
            rintro e v16 ⟨rfl, hb16⟩
            replace Xcell : Hid _ := Xcell.out.below hb16
            replace Xsm : Hid (B1q v16 gsm (.bool false)) := Xsm.out.below hb16
            replace Xu : Hid _ := Xu.out.below hb16
            replace Xv : Hid _ := Xv.out.below hb16
            replace D7 : Hid _ := D7.out.below hb16
            replace E7 : Hid _ := E7.out.below hb16
            replace U8 : Hid _ := U8.out.below hb16
            replace hbw := Below.on hbw hb16
            clear hb16
            go_wp2_with fail
            by_cases hu : up % S ≠ 0 ∧ up % S < I
            · have HEQ : Hid (cLo H l (decide (S ≤ up)) (up % S) = cHi H l (decide (S ≤ b)) (b % S)) := HNF.out.2.2.2.1 hu.1
              have HUP : Hid (up % S ≠ 0 ∧ up % S < I) := hu
              clear hu
              refine (cell_ok HJN.out up HNF.out.1 HUP.out.1 HUP.out.2 _ (TB.out.below hbw)).mono ?_
              rintro e0 v17 ⟨s17, p17, m17, z17, e17, t17, q17, n17, y17, f17, rfl, hd1, hd2, hv1, hv2, hb17⟩
              have HV17 : Hid (dv z17 e17 = dv y7 f7) := by show dv z17 e17 = dv y7 f7; rw [hv1, HEQ.out, HV7.out.2]
              clear hv1 hv2
              replace Xcell : Hid _ := Xcell.out.below hb17
              replace Xsm : Hid (B1q v17 gsm (.bool false)) := Xsm.out.below hb17
              replace Xu : Hid _ := Xu.out.below hb17
              replace Xv : Hid _ := Xv.out.below hb17
              replace D7 : Hid _ := D7.out.below hb17
              replace E7 : Hid _ := E7.out.below hb17
              replace U8 : Hid _ := U8.out.below hb17
              replace hbw := Below.on hbw hb17
              clear hb17
              have D17 : Hid (DN v17 s17 p17 m17 m17 e17 z17) := hd1.dn
              clear hd1 hd2
              obtain ⟨ccell0, ccell1, ccell2, ccell3, ccell4, ccell5, fcell0, fcell1, fcell2, fcell3, fcell4, fcell5⟩ := Xcell.out
              have hnecell : gcell < v17.heap.size := World.block_lt_of_cell? v17 _ ccell0
              go_wp2_with fail
              clear ccell0 ccell1 ccell2 ccell3 ccell4 ccell5 fcell0 fcell1 fcell2 fcell3 fcell4 fcell5 hnecell
              have Xnx0 : Hid (B6q (v17.alloc (.cells #[.bool s17, .slice p17 m17 m17, .int .i64 e17, .bool t17, .slice q17 n17 n17, .int .i64 f17] 47)) v17.heap.size (.bool s17) (.slice p17 m17 m17) (.int .i64 e17) (.bool t17) (.slice q17 n17 n17) (.int .i64 f17)) := B6q.new v17 _ _ _ _ _ _ _
              have hbn : Below v17.heap.size v17 (v17.alloc (.cells #[.bool s17, .slice p17 m17 m17, .int .i64 e17, .bool t17, .slice q17 n17 n17, .int .i64 f17] 47)) := below1 v17 _
              generalize v17.alloc (.cells #[.bool s17, .slice p17 m17 m17, .int .i64 e17, .bool t17, .slice q17 n17 n17, .int .i64 f17] 47) = Wn at *
              have HGnx : Hid (w.heap.size ≤ v17.heap.size) := hbw.size
              replace Xcell : Hid _ := Xcell.out.below hbn
              replace Xsm : Hid (B1q Wn gsm (.bool false)) := Xsm.out.below hbn
              replace Xu : Hid _ := Xu.out.below hbn
              replace Xv : Hid _ := Xv.out.below hbn
              replace D7 : Hid _ := D7.out.below hbn
              replace E7 : Hid _ := E7.out.below hbn
              replace U8 : Hid _ := U8.out.below hbn
              replace D17 : Hid _ := D17.out.below hbn
              replace hbw := Below.on hbw hbn
              clear hbn
              generalize v17.heap.size = gnx at *
              have Xnx := Xnx0
              clear Xnx0
              refine (tdy D17.out E7.out).mono ?_
              rintro e v18 ⟨rfl, hb18⟩
              rw [decide_eq_true HV17.out]
              replace Xcell : Hid _ := Xcell.out.below hb18
              replace Xsm : Hid (B1q v18 gsm (.bool false)) := Xsm.out.below hb18
              replace Xu : Hid _ := Xu.out.below hb18
              replace Xv : Hid _ := Xv.out.below hb18
              replace Xnx : Hid _ := Xnx.out.below hb18
              replace D7 : Hid _ := D7.out.below hb18
              replace E7 : Hid _ := E7.out.below hb18
              replace U8 : Hid _ := U8.out.below hb18
              replace D17 : Hid _ := D17.out.below hb18
              replace hbw := Below.on hbw hb18
              clear hb18
              go_wp2_with fail
              go_ret
              exact ⟨rfl, hbw⟩
            · have HUX : Hid (up % S = 0 ∨ I ≤ up % S) := by
                by_cases h : up % S = 0
                · exact .inl h
                · exact .inr (Nat.le_of_not_lt fun h2 => hu ⟨h, h2⟩)
              clear hu
              have hus := up_edge HJN.out.jm.pm.fm HB.out HR.out.1 HR.out.2 HUPE.out HUX.out
              rcases HLT.out.num with ⟨hS, hI⟩ | ⟨hS, hI⟩ <;> rcases hus with hu | hu
              · have hun : up = 2147483648 := by rw [hu]; assumption
                have kb : bits BinOp.and IntKind.u64 2147483648 9223372036854775807 = 2147483648 := by decide
                clear hS hI hu
                subst hun
                refine (cell_x HJN.out 2147483648 HNF.out.1 HUX.out _).mono ?_
                rintro e v17 ⟨rfl, hb17⟩
                replace Xcell : Hid _ := Xcell.out.below hb17
                replace Xsm : Hid (B1q v17 gsm (.bool false)) := Xsm.out.below hb17
                replace Xu : Hid _ := Xu.out.below hb17
                replace Xv : Hid _ := Xv.out.below hb17
                replace D7 : Hid _ := D7.out.below hb17
                replace E7 : Hid _ := E7.out.below hb17
                replace U8 : Hid _ := U8.out.below hb17
                replace hbw := Below.on hbw hb17
                clear hb17
                obtain ⟨ccell0, ccell1, ccell2, ccell3, ccell4, ccell5, fcell0, fcell1, fcell2, fcell3, fcell4, fcell5⟩ := Xcell.out
                have hnecell : gcell < v17.heap.size := World.block_lt_of_cell? v17 _ ccell0
                go_wp2_with fail
                clear ccell0 ccell1 ccell2 ccell3 ccell4 ccell5 fcell0 fcell1 fcell2 fcell3 fcell4 fcell5 hnecell
                go_ret
                exact ⟨rfl, Below.on hbw (below1 _ _)⟩
              · have hun : up = 2139095040 := by rw [hu]; assumption
                have kb : bits BinOp.and IntKind.u64 2139095040 9223372036854775807 = 2139095040 := by decide
                clear hS hI hu
                subst hun
                refine (cell_x HJN.out 2139095040 HNF.out.1 HUX.out _).mono ?_
                rintro e v17 ⟨rfl, hb17⟩
                replace Xcell : Hid _ := Xcell.out.below hb17
                replace Xsm : Hid (B1q v17 gsm (.bool false)) := Xsm.out.below hb17
                replace Xu : Hid _ := Xu.out.below hb17
                replace Xv : Hid _ := Xv.out.below hb17
                replace D7 : Hid _ := D7.out.below hb17
                replace E7 : Hid _ := E7.out.below hb17
                replace U8 : Hid _ := U8.out.below hb17
                replace hbw := Below.on hbw hb17
                clear hb17
                obtain ⟨ccell0, ccell1, ccell2, ccell3, ccell4, ccell5, fcell0, fcell1, fcell2, fcell3, fcell4, fcell5⟩ := Xcell.out
                have hnecell : gcell < v17.heap.size := World.block_lt_of_cell? v17 _ ccell0
                go_wp2_with fail
                clear ccell0 ccell1 ccell2 ccell3 ccell4 ccell5 fcell0 fcell1 fcell2 fcell3 fcell4 fcell5 hnecell
                go_ret
                exact ⟨rfl, Below.on hbw (below1 _ _)⟩
              · have hun : up = 9223372036854775808 := by rw [hu]; assumption
                have kb : bits BinOp.and IntKind.u64 9223372036854775808 9223372036854775807 = 0 := by decide
                clear hS hI hu
                subst hun
                refine (cell_x HJN.out 9223372036854775808 HNF.out.1 HUX.out _).mono ?_
                rintro e v17 ⟨rfl, hb17⟩
                replace Xcell : Hid _ := Xcell.out.below hb17
                replace Xsm : Hid (B1q v17 gsm (.bool false)) := Xsm.out.below hb17
                replace Xu : Hid _ := Xu.out.below hb17
                replace Xv : Hid _ := Xv.out.below hb17
                replace D7 : Hid _ := D7.out.below hb17
                replace E7 : Hid _ := E7.out.below hb17
                replace U8 : Hid _ := U8.out.below hb17
                replace hbw := Below.on hbw hb17
                clear hb17
                obtain ⟨ccell0, ccell1, ccell2, ccell3, ccell4, ccell5, fcell0, fcell1, fcell2, fcell3, fcell4, fcell5⟩ := Xcell.out
                have hnecell : gcell < v17.heap.size := World.block_lt_of_cell? v17 _ ccell0
                go_wp2_with fail
                clear ccell0 ccell1 ccell2 ccell3 ccell4 ccell5 fcell0 fcell1 fcell2 fcell3 fcell4 fcell5 hnecell
                go_ret
                exact ⟨rfl, Below.on hbw (below1 _ _)⟩
              · have hun : up = 9218868437227405312 := by rw [hu]; assumption
                have kb : bits BinOp.and IntKind.u64 9218868437227405312 9223372036854775807 = 9218868437227405312 := by decide
                clear hS hI hu
                subst hun
                refine (cell_x HJN.out 9218868437227405312 HNF.out.1 HUX.out _).mono ?_
                rintro e v17 ⟨rfl, hb17⟩
                replace Xcell : Hid _ := Xcell.out.below hb17
                replace Xsm : Hid (B1q v17 gsm (.bool false)) := Xsm.out.below hb17
                replace Xu : Hid _ := Xu.out.below hb17
                replace Xv : Hid _ := Xv.out.below hb17
                replace D7 : Hid _ := D7.out.below hb17
                replace E7 : Hid _ := E7.out.below hb17
                replace U8 : Hid _ := U8.out.below hb17
                replace hbw := Below.on hbw hb17
                clear hb17
                obtain ⟨ccell0, ccell1, ccell2, ccell3, ccell4, ccell5, fcell0, fcell1, fcell2, fcell3, fcell4, fcell5⟩ := Xcell.out
                have hnecell : gcell < v17.heap.size := World.block_lt_of_cell? v17 _ ccell0
                go_wp2_with fail
                clear ccell0 ccell1 ccell2 ccell3 ccell4 ccell5 fcell0 fcell1 fcell2 fcell3 fcell4 fcell5 hnecell
                go_ret
                exact ⟨rfl, Below.on hbw (below1 _ _)⟩
          · have hpx : b % 2 = 0 := of_decide_eq_true HPR.out.symm
            clear HPR
            have HRN : Hid (rnp l sd Be S I zu eu = b) := by show rnp l sd Be S I zu eu = _; rw [rn_low HJN.out HB.out HR.out.2 HEU.out (HU.out.trans HV7.out.1), if_pos hpx]
            have hb0 : b ≠ 0 := fun h => HR.out.1 (by rw [h]; exact Nat.zero_mod _)
            clear hpx hb0
            refine (rnearest HJN.out U8.out (TB.out.below hbw)).mono ?_
            rintro e v10 ⟨rfl, hb10⟩
            rw [HRN.out]
            replace Xcell : Hid _ := Xcell.out.below hb10
            replace Xsm : Hid (B1q v10 gsm (.bool false)) := Xsm.out.below hb10
            replace Xu : Hid _ := Xu.out.below hb10
            replace D7 : Hid _ := D7.out.below hb10
            replace E7 : Hid _ := E7.out.below hb10
            replace U8 : Hid _ := U8.out.below hb10
            replace hbw := Below.on hbw hb10
            clear hb10
            obtain ⟨cu0, cu1, cu2, fu0, fu1, fu2⟩ := Xu.out
            have hneu : gu < v10.heap.size := World.block_lt_of_cell? v10 _ cu0
            obtain ⟨ccell0, ccell1, ccell2, ccell3, ccell4, ccell5, fcell0, fcell1, fcell2, fcell3, fcell4, fcell5⟩ := Xcell.out
            have hnecell : gcell < v10.heap.size := World.block_lt_of_cell? v10 _ ccell0
            obtain ⟨csm0, fsm0⟩ := Xsm.out
            have hnesm : gsm < v10.heap.size := World.block_lt_of_cell? v10 _ csm0
            go_wp2_with fail
            clear cu0 cu1 cu2 fu0 fu1 fu2 hneu
            clear ccell0 ccell1 ccell2 ccell3 ccell4 ccell5 fcell0 fcell1 fcell2 fcell3 fcell4 fcell5 hnecell
            clear csm0 fsm0 hnesm
            refine (value_v HJN.out.jm.pm HB.out HR.out.2 HVF.out _ (TB.out.below hbw)).mono ?_
            rintro e0 v11 ⟨v, rfl, hv, hb11⟩
            obtain ⟨s11, p11, m11, rfl, hd11⟩ := hv.dn HVF.out.fm
            clear hv
            replace Xcell : Hid _ := Xcell.out.below hb11
            replace Xsm : Hid (B1q v11 gsm (.bool false)) := Xsm.out.below hb11
            replace Xu : Hid _ := Xu.out.below hb11
            replace D7 : Hid _ := D7.out.below hb11
            replace E7 : Hid _ := E7.out.below hb11
            replace U8 : Hid _ := U8.out.below hb11
            replace hbw := Below.on hbw hb11
            clear hb11
            have D11 : Hid (DN v11 s11 p11 m11 m11 eo zo) := hd11
            clear hd11
            obtain ⟨cu0, cu1, cu2, fu0, fu1, fu2⟩ := Xu.out
            have hneu : gu < v11.heap.size := World.block_lt_of_cell? v11 _ cu0
            obtain ⟨ccell0, ccell1, ccell2, ccell3, ccell4, ccell5, fcell0, fcell1, fcell2, fcell3, fcell4, fcell5⟩ := Xcell.out
            have hnecell : gcell < v11.heap.size := World.block_lt_of_cell? v11 _ ccell0
            obtain ⟨csm0, fsm0⟩ := Xsm.out
            have hnesm : gsm < v11.heap.size := World.block_lt_of_cell? v11 _ csm0
            go_wp2_with fail
            clear cu0 cu1 cu2 fu0 fu1 fu2 hneu
            clear ccell0 ccell1 ccell2 ccell3 ccell4 ccell5 fcell0 fcell1 fcell2 fcell3 fcell4 fcell5 hnecell
            clear csm0 fsm0 hnesm
            have Xv0 : Hid (B3q (v11.alloc (.cells #[.bool s11, .slice p11 m11 m11, .int .i64 eo] 26)) v11.heap.size (.bool s11) (.slice p11 m11 m11) (.int .i64 eo)) := B3q.new v11 _ _ _ _
            have hbn : Below v11.heap.size v11 (v11.alloc (.cells #[.bool s11, .slice p11 m11 m11, .int .i64 eo] 26)) := below1 v11 _
            generalize v11.alloc (.cells #[.bool s11, .slice p11 m11 m11, .int .i64 eo] 26) = Wv at *
            have HGv : Hid (w.heap.size ≤ v11.heap.size) := hbw.size
            replace Xcell : Hid _ := Xcell.out.below hbn
            replace Xsm : Hid (B1q Wv gsm (.bool false)) := Xsm.out.below hbn
            replace Xu : Hid _ := Xu.out.below hbn
            replace D7 : Hid _ := D7.out.below hbn
            replace E7 : Hid _ := E7.out.below hbn
            replace U8 : Hid _ := U8.out.below hbn
            replace D11 : Hid _ := D11.out.below hbn
            replace hbw := Below.on hbw hbn
            clear hbn
            generalize v11.heap.size = gv at *
            have Xv := Xv0
            clear Xv0
            refine (rnearest HJN.out D11.out (TB.out.below hbw)).mono ?_
            rintro e v12 ⟨rfl, hb12⟩
            rw [rn_own HJN.out HB.out HR.out.1 HR.out.2 (by rcases HVF.out.fm with ⟨_, h⟩ | ⟨_, h, _⟩ <;> omega) HVF.out.v]
            replace Xcell : Hid _ := Xcell.out.below hb12
            replace Xsm : Hid (B1q v12 gsm (.bool false)) := Xsm.out.below hb12
            replace Xu : Hid _ := Xu.out.below hb12
            replace Xv : Hid _ := Xv.out.below hb12
            replace D7 : Hid _ := D7.out.below hb12
            replace E7 : Hid _ := E7.out.below hb12
            replace U8 : Hid _ := U8.out.below hb12
            replace D11 : Hid _ := D11.out.below hb12
            replace hbw := Below.on hbw hb12
            clear hb12
            clear D11
            obtain ⟨cu0, cu1, cu2, fu0, fu1, fu2⟩ := Xu.out
            have hneu : gu < v12.heap.size := World.block_lt_of_cell? v12 _ cu0
            obtain ⟨ccell0, ccell1, ccell2, ccell3, ccell4, ccell5, fcell0, fcell1, fcell2, fcell3, fcell4, fcell5⟩ := Xcell.out
            have hnecell : gcell < v12.heap.size := World.block_lt_of_cell? v12 _ ccell0
            obtain ⟨csm0, fsm0⟩ := Xsm.out
            have hnesm : gsm < v12.heap.size := World.block_lt_of_cell? v12 _ csm0
            go_wp2_with fail
            clear cu0 cu1 cu2 fu0 fu1 fu2 hneu
            clear ccell0 ccell1 ccell2 ccell3 ccell4 ccell5 fcell0 fcell1 fcell2 fcell3 fcell4 fcell5 hnecell
            clear csm0 fsm0 hnesm
            refine (tdy U8.out D7.out).mono ?_
            rintro e v13 ⟨rfl, hb13⟩
            rw [decide_eq_true HU.out]
            replace Xcell : Hid _ := Xcell.out.below hb13
            replace Xsm : Hid (B1q v13 gsm (.bool false)) := Xsm.out.below hb13
            replace Xu : Hid _ := Xu.out.below hb13
            replace Xv : Hid _ := Xv.out.below hb13
            replace D7 : Hid _ := D7.out.below hb13
            replace E7 : Hid _ := E7.out.below hb13
            replace U8 : Hid _ := U8.out.below hb13
            replace hbw := Below.on hbw hb13
            clear hb13
            obtain ⟨cu0, cu1, cu2, fu0, fu1, fu2⟩ := Xu.out
            have hneu : gu < v13.heap.size := World.block_lt_of_cell? v13 _ cu0
            obtain ⟨ccell0, ccell1, ccell2, ccell3, ccell4, ccell5, fcell0, fcell1, fcell2, fcell3, fcell4, fcell5⟩ := Xcell.out
            have hnecell : gcell < v13.heap.size := World.block_lt_of_cell? v13 _ ccell0
            go_wp2_with fail
            clear cu0 cu1 cu2 fu0 fu1 fu2 hneu
            clear ccell0 ccell1 ccell2 ccell3 ccell4 ccell5 fcell0 fcell1 fcell2 fcell3 fcell4 fcell5 hnecell
            refine (HNX.out _).mono ?_
            rintro e v15 ⟨rfl, hb15⟩
            replace Xcell : Hid _ := Xcell.out.below hb15
            replace Xsm : Hid (B1q v15 gsm (.bool false)) := Xsm.out.below hb15
            replace Xu : Hid _ := Xu.out.below hb15
            replace Xv : Hid _ := Xv.out.below hb15
            replace D7 : Hid _ := D7.out.below hb15
            replace E7 : Hid _ := E7.out.below hb15
            replace U8 : Hid _ := U8.out.below hb15
            replace hbw := Below.on hbw hb15
            clear hb15
            go_wp2_with fail
            refine (HPV.out _).mono ?_
            rintro e v16 ⟨rfl, hb16⟩
            replace Xcell : Hid _ := Xcell.out.below hb16
            replace Xsm : Hid (B1q v16 gsm (.bool false)) := Xsm.out.below hb16
            replace Xu : Hid _ := Xu.out.below hb16
            replace Xv : Hid _ := Xv.out.below hb16
            replace D7 : Hid _ := D7.out.below hb16
            replace E7 : Hid _ := E7.out.below hb16
            replace U8 : Hid _ := U8.out.below hb16
            replace hbw := Below.on hbw hb16
            clear hb16
            go_wp2_with fail
            by_cases hu : up % S ≠ 0 ∧ up % S < I
            · have HEQ : Hid (cLo H l (decide (S ≤ up)) (up % S) = cHi H l (decide (S ≤ b)) (b % S)) := HNF.out.2.2.2.1 hu.1
              have HUP : Hid (up % S ≠ 0 ∧ up % S < I) := hu
              clear hu
              refine (cell_ok HJN.out up HNF.out.1 HUP.out.1 HUP.out.2 _ (TB.out.below hbw)).mono ?_
              rintro e0 v17 ⟨s17, p17, m17, z17, e17, t17, q17, n17, y17, f17, rfl, hd1, hd2, hv1, hv2, hb17⟩
              have HV17 : Hid (dv z17 e17 = dv y7 f7) := by show dv z17 e17 = dv y7 f7; rw [hv1, HEQ.out, HV7.out.2]
              clear hv1 hv2
              replace Xcell : Hid _ := Xcell.out.below hb17
              replace Xsm : Hid (B1q v17 gsm (.bool false)) := Xsm.out.below hb17
              replace Xu : Hid _ := Xu.out.below hb17
              replace Xv : Hid _ := Xv.out.below hb17
              replace D7 : Hid _ := D7.out.below hb17
              replace E7 : Hid _ := E7.out.below hb17
              replace U8 : Hid _ := U8.out.below hb17
              replace hbw := Below.on hbw hb17
              clear hb17
              have D17 : Hid (DN v17 s17 p17 m17 m17 e17 z17) := hd1.dn
              clear hd1 hd2
              obtain ⟨ccell0, ccell1, ccell2, ccell3, ccell4, ccell5, fcell0, fcell1, fcell2, fcell3, fcell4, fcell5⟩ := Xcell.out
              have hnecell : gcell < v17.heap.size := World.block_lt_of_cell? v17 _ ccell0
              go_wp2_with fail
              clear ccell0 ccell1 ccell2 ccell3 ccell4 ccell5 fcell0 fcell1 fcell2 fcell3 fcell4 fcell5 hnecell
              have Xnx0 : Hid (B6q (v17.alloc (.cells #[.bool s17, .slice p17 m17 m17, .int .i64 e17, .bool t17, .slice q17 n17 n17, .int .i64 f17] 47)) v17.heap.size (.bool s17) (.slice p17 m17 m17) (.int .i64 e17) (.bool t17) (.slice q17 n17 n17) (.int .i64 f17)) := B6q.new v17 _ _ _ _ _ _ _
              have hbn : Below v17.heap.size v17 (v17.alloc (.cells #[.bool s17, .slice p17 m17 m17, .int .i64 e17, .bool t17, .slice q17 n17 n17, .int .i64 f17] 47)) := below1 v17 _
              generalize v17.alloc (.cells #[.bool s17, .slice p17 m17 m17, .int .i64 e17, .bool t17, .slice q17 n17 n17, .int .i64 f17] 47) = Wn at *
              have HGnx : Hid (w.heap.size ≤ v17.heap.size) := hbw.size
              replace Xcell : Hid _ := Xcell.out.below hbn
              replace Xsm : Hid (B1q Wn gsm (.bool false)) := Xsm.out.below hbn
              replace Xu : Hid _ := Xu.out.below hbn
              replace Xv : Hid _ := Xv.out.below hbn
              replace D7 : Hid _ := D7.out.below hbn
              replace E7 : Hid _ := E7.out.below hbn
              replace U8 : Hid _ := U8.out.below hbn
              replace D17 : Hid _ := D17.out.below hbn
              replace hbw := Below.on hbw hbn
              clear hbn
              generalize v17.heap.size = gnx at *
              have Xnx := Xnx0
              clear Xnx0
              refine (tdy D17.out E7.out).mono ?_
              rintro e v18 ⟨rfl, hb18⟩
              rw [decide_eq_true HV17.out]
              replace Xcell : Hid _ := Xcell.out.below hb18
              replace Xsm : Hid (B1q v18 gsm (.bool false)) := Xsm.out.below hb18
              replace Xu : Hid _ := Xu.out.below hb18
              replace Xv : Hid _ := Xv.out.below hb18
              replace Xnx : Hid _ := Xnx.out.below hb18
              replace D7 : Hid _ := D7.out.below hb18
              replace E7 : Hid _ := E7.out.below hb18
              replace U8 : Hid _ := U8.out.below hb18
              replace D17 : Hid _ := D17.out.below hb18
              replace hbw := Below.on hbw hb18
              clear hb18
              go_wp2_with fail
              go_ret
              exact ⟨rfl, hbw⟩
            · have HUX : Hid (up % S = 0 ∨ I ≤ up % S) := by
                by_cases h : up % S = 0
                · exact .inl h
                · exact .inr (Nat.le_of_not_lt fun h2 => hu ⟨h, h2⟩)
              clear hu
              have hus := up_edge HJN.out.jm.pm.fm HB.out HR.out.1 HR.out.2 HUPE.out HUX.out
              rcases HLT.out.num with ⟨hS, hI⟩ | ⟨hS, hI⟩ <;> rcases hus with hu | hu
              · have hun : up = 2147483648 := by rw [hu]; assumption
                have kb : bits BinOp.and IntKind.u64 2147483648 9223372036854775807 = 2147483648 := by decide
                clear hS hI hu
                subst hun
                refine (cell_x HJN.out 2147483648 HNF.out.1 HUX.out _).mono ?_
                rintro e v17 ⟨rfl, hb17⟩
                replace Xcell : Hid _ := Xcell.out.below hb17
                replace Xsm : Hid (B1q v17 gsm (.bool false)) := Xsm.out.below hb17
                replace Xu : Hid _ := Xu.out.below hb17
                replace Xv : Hid _ := Xv.out.below hb17
                replace D7 : Hid _ := D7.out.below hb17
                replace E7 : Hid _ := E7.out.below hb17
                replace U8 : Hid _ := U8.out.below hb17
                replace hbw := Below.on hbw hb17
                clear hb17
                obtain ⟨ccell0, ccell1, ccell2, ccell3, ccell4, ccell5, fcell0, fcell1, fcell2, fcell3, fcell4, fcell5⟩ := Xcell.out
                have hnecell : gcell < v17.heap.size := World.block_lt_of_cell? v17 _ ccell0
                go_wp2_with fail
                clear ccell0 ccell1 ccell2 ccell3 ccell4 ccell5 fcell0 fcell1 fcell2 fcell3 fcell4 fcell5 hnecell
                go_ret
                exact ⟨rfl, Below.on hbw (below1 _ _)⟩
              · have hun : up = 2139095040 := by rw [hu]; assumption
                have kb : bits BinOp.and IntKind.u64 2139095040 9223372036854775807 = 2139095040 := by decide
                clear hS hI hu
                subst hun
                refine (cell_x HJN.out 2139095040 HNF.out.1 HUX.out _).mono ?_
                rintro e v17 ⟨rfl, hb17⟩
                replace Xcell : Hid _ := Xcell.out.below hb17
                replace Xsm : Hid (B1q v17 gsm (.bool false)) := Xsm.out.below hb17
                replace Xu : Hid _ := Xu.out.below hb17
                replace Xv : Hid _ := Xv.out.below hb17
                replace D7 : Hid _ := D7.out.below hb17
                replace E7 : Hid _ := E7.out.below hb17
                replace U8 : Hid _ := U8.out.below hb17
                replace hbw := Below.on hbw hb17
                clear hb17
                obtain ⟨ccell0, ccell1, ccell2, ccell3, ccell4, ccell5, fcell0, fcell1, fcell2, fcell3, fcell4, fcell5⟩ := Xcell.out
                have hnecell : gcell < v17.heap.size := World.block_lt_of_cell? v17 _ ccell0
                go_wp2_with fail
                clear ccell0 ccell1 ccell2 ccell3 ccell4 ccell5 fcell0 fcell1 fcell2 fcell3 fcell4 fcell5 hnecell
                go_ret
                exact ⟨rfl, Below.on hbw (below1 _ _)⟩
              · have hun : up = 9223372036854775808 := by rw [hu]; assumption
                have kb : bits BinOp.and IntKind.u64 9223372036854775808 9223372036854775807 = 0 := by decide
                clear hS hI hu
                subst hun
                refine (cell_x HJN.out 9223372036854775808 HNF.out.1 HUX.out _).mono ?_
                rintro e v17 ⟨rfl, hb17⟩
                replace Xcell : Hid _ := Xcell.out.below hb17
                replace Xsm : Hid (B1q v17 gsm (.bool false)) := Xsm.out.below hb17
                replace Xu : Hid _ := Xu.out.below hb17
                replace Xv : Hid _ := Xv.out.below hb17
                replace D7 : Hid _ := D7.out.below hb17
                replace E7 : Hid _ := E7.out.below hb17
                replace U8 : Hid _ := U8.out.below hb17
                replace hbw := Below.on hbw hb17
                clear hb17
                obtain ⟨ccell0, ccell1, ccell2, ccell3, ccell4, ccell5, fcell0, fcell1, fcell2, fcell3, fcell4, fcell5⟩ := Xcell.out
                have hnecell : gcell < v17.heap.size := World.block_lt_of_cell? v17 _ ccell0
                go_wp2_with fail
                clear ccell0 ccell1 ccell2 ccell3 ccell4 ccell5 fcell0 fcell1 fcell2 fcell3 fcell4 fcell5 hnecell
                go_ret
                exact ⟨rfl, Below.on hbw (below1 _ _)⟩
              · have hun : up = 9218868437227405312 := by rw [hu]; assumption
                have kb : bits BinOp.and IntKind.u64 9218868437227405312 9223372036854775807 = 9218868437227405312 := by decide
                clear hS hI hu
                subst hun
                refine (cell_x HJN.out 9218868437227405312 HNF.out.1 HUX.out _).mono ?_
                rintro e v17 ⟨rfl, hb17⟩
                replace Xcell : Hid _ := Xcell.out.below hb17
                replace Xsm : Hid (B1q v17 gsm (.bool false)) := Xsm.out.below hb17
                replace Xu : Hid _ := Xu.out.below hb17
                replace Xv : Hid _ := Xv.out.below hb17
                replace D7 : Hid _ := D7.out.below hb17
                replace E7 : Hid _ := E7.out.below hb17
                replace U8 : Hid _ := U8.out.below hb17
                replace hbw := Below.on hbw hb17
                clear hb17
                obtain ⟨ccell0, ccell1, ccell2, ccell3, ccell4, ccell5, fcell0, fcell1, fcell2, fcell3, fcell4, fcell5⟩ := Xcell.out
                have hnecell : gcell < v17.heap.size := World.block_lt_of_cell? v17 _ ccell0
                go_wp2_with fail
                clear ccell0 ccell1 ccell2 ccell3 ccell4 ccell5 fcell0 fcell1 fcell2 fcell3 fcell4 fcell5 hnecell
                go_ret
                exact ⟨rfl, Below.on hbw (below1 _ _)⟩
        · have HU : Hid (dv z7 e7 < dv zu eu ∧ dv zu eu < dv y7 f7) := by
            have h1 := part_in (D := dv y7 f7 - dv z7 e7) (i := i) (by have := HLT7.out; omega) (by omega) (by have := HI.out; omega)
            exact ⟨by omega, by omega⟩
          clear hi5 hi0 hdv
          obtain ⟨ccell0, ccell1, ccell2, ccell3, ccell4, ccell5, fcell0, fcell1, fcell2, fcell3, fcell4, fcell5⟩ := Xcell.out
          have hnecell : gcell < v8.heap.size := World.block_lt_of_cell? v8 _ ccell0
          obtain ⟨csm0, fsm0⟩ := Xsm.out
          have hnesm : gsm < v8.heap.size := World.block_lt_of_cell? v8 _ csm0
          go_wp2_with fail
          clear ccell0 ccell1 ccell2 ccell3 ccell4 ccell5 fcell0 fcell1 fcell2 fcell3 fcell4 fcell5 hnecell
          clear csm0 fsm0 hnesm
          rw [show v8.heap.size + 1 = (v8.alloc (.cells #[.bool s8, .slice p8 m8 m8, .int .i64 e7, .bool t8, .slice q8 n8 n8, .int .i64 f7] 47)).heap.size from by simp]
          have Xbl0 : Hid (B6q (v8.alloc (.cells #[.bool s8, .slice p8 m8 m8, .int .i64 e7, .bool t8, .slice q8 n8 n8, .int .i64 f7] 47)) v8.heap.size (.bool s8) (.slice p8 m8 m8) (.int .i64 e7) (.bool t8) (.slice q8 n8 n8) (.int .i64 f7)) := B6q.new v8 _ _ _ _ _ _ _
          have hbn : Below v8.heap.size v8 (v8.alloc (.cells #[.bool s8, .slice p8 m8 m8, .int .i64 e7, .bool t8, .slice q8 n8 n8, .int .i64 f7] 47)) := below1 v8 _
          generalize v8.alloc (.cells #[.bool s8, .slice p8 m8 m8, .int .i64 e7, .bool t8, .slice q8 n8 n8, .int .i64 f7] 47) = Wb at *
          have HGbl : Hid (w.heap.size ≤ v8.heap.size) := hbw.size
          replace Xcell : Hid _ := Xcell.out.below hbn
          replace Xsm : Hid (B1q Wb gsm (.bool false)) := Xsm.out.below hbn
          replace D7 : Hid _ := D7.out.below hbn
          replace E7 : Hid _ := E7.out.below hbn
          replace U8 : Hid _ := U8.out.below hbn
          replace hbw := Below.on hbw hbn
          clear hbn
          generalize v8.heap.size = gbl at *
          have Xbl := Xbl0
          clear Xbl0
          clear Xbl
          have Xu0 : Hid (B3q (Wb.alloc (.cells #[.bool s9, .slice p9 m9 m9, .int .i64 eu] 26)) Wb.heap.size (.bool s9) (.slice p9 m9 m9) (.int .i64 eu)) := B3q.new Wb _ _ _ _
          have hbn : Below Wb.heap.size Wb (Wb.alloc (.cells #[.bool s9, .slice p9 m9 m9, .int .i64 eu] 26)) := below1 Wb _
          generalize Wb.alloc (.cells #[.bool s9, .slice p9 m9 m9, .int .i64 eu] 26) = Wu at *
          have HGu : Hid (w.heap.size ≤ Wb.heap.size) := hbw.size
          replace Xcell : Hid _ := Xcell.out.below hbn
          replace Xsm : Hid (B1q Wu gsm (.bool false)) := Xsm.out.below hbn
          replace D7 : Hid _ := D7.out.below hbn
          replace E7 : Hid _ := E7.out.below hbn
          replace U8 : Hid _ := U8.out.below hbn
          replace hbw := Below.on hbw hbn
          clear hbn
          generalize Wb.heap.size = gu at *
          have Xu := Xu0
          clear Xu0
          have HEU : Hid (-4194304 ≤ eu) := by rcases U8.out.fm with ⟨_, h⟩ | ⟨_, h, _⟩ <;> (show _ ≤ _) <;> omega
          refine (rnearest HJN.out U8.out (TB.out.below hbw)).mono ?_
          rintro e v10 ⟨rfl, hb10⟩
          rw [rn_in HJN.out HB.out HR.out.2 HEU.out (by rw [← HV7.out.1]; exact HU.out.1) (by rw [← HV7.out.2]; exact HU.out.2)]
          replace Xcell : Hid _ := Xcell.out.below hb10
          replace Xsm : Hid (B1q v10 gsm (.bool false)) := Xsm.out.below hb10
          replace Xu : Hid _ := Xu.out.below hb10
          replace D7 : Hid _ := D7.out.below hb10
          replace E7 : Hid _ := E7.out.below hb10
          replace U8 : Hid _ := U8.out.below hb10
          replace hbw := Below.on hbw hb10
          clear hb10
          obtain ⟨cu0, cu1, cu2, fu0, fu1, fu2⟩ := Xu.out
          have hneu : gu < v10.heap.size := World.block_lt_of_cell? v10 _ cu0
          obtain ⟨ccell0, ccell1, ccell2, ccell3, ccell4, ccell5, fcell0, fcell1, fcell2, fcell3, fcell4, fcell5⟩ := Xcell.out
          have hnecell : gcell < v10.heap.size := World.block_lt_of_cell? v10 _ ccell0
          obtain ⟨csm0, fsm0⟩ := Xsm.out
          have hnesm : gsm < v10.heap.size := World.block_lt_of_cell? v10 _ csm0
          go_wp2_with fail
          clear cu0 cu1 cu2 fu0 fu1 fu2 hneu
          clear ccell0 ccell1 ccell2 ccell3 ccell4 ccell5 fcell0 fcell1 fcell2 fcell3 fcell4 fcell5 hnecell
          clear csm0 fsm0 hnesm
          refine (value_v HJN.out.jm.pm HB.out HR.out.2 HVF.out _ (TB.out.below hbw)).mono ?_
          rintro e0 v11 ⟨v, rfl, hv, hb11⟩
          obtain ⟨s11, p11, m11, rfl, hd11⟩ := hv.dn HVF.out.fm
          clear hv
          replace Xcell : Hid _ := Xcell.out.below hb11
          replace Xsm : Hid (B1q v11 gsm (.bool false)) := Xsm.out.below hb11
          replace Xu : Hid _ := Xu.out.below hb11
          replace D7 : Hid _ := D7.out.below hb11
          replace E7 : Hid _ := E7.out.below hb11
          replace U8 : Hid _ := U8.out.below hb11
          replace hbw := Below.on hbw hb11
          clear hb11
          have D11 : Hid (DN v11 s11 p11 m11 m11 eo zo) := hd11
          clear hd11
          obtain ⟨cu0, cu1, cu2, fu0, fu1, fu2⟩ := Xu.out
          have hneu : gu < v11.heap.size := World.block_lt_of_cell? v11 _ cu0
          obtain ⟨ccell0, ccell1, ccell2, ccell3, ccell4, ccell5, fcell0, fcell1, fcell2, fcell3, fcell4, fcell5⟩ := Xcell.out
          have hnecell : gcell < v11.heap.size := World.block_lt_of_cell? v11 _ ccell0
          obtain ⟨csm0, fsm0⟩ := Xsm.out
          have hnesm : gsm < v11.heap.size := World.block_lt_of_cell? v11 _ csm0
          go_wp2_with fail
          clear cu0 cu1 cu2 fu0 fu1 fu2 hneu
          clear ccell0 ccell1 ccell2 ccell3 ccell4 ccell5 fcell0 fcell1 fcell2 fcell3 fcell4 fcell5 hnecell
          clear csm0 fsm0 hnesm
          have Xv0 : Hid (B3q (v11.alloc (.cells #[.bool s11, .slice p11 m11 m11, .int .i64 eo] 26)) v11.heap.size (.bool s11) (.slice p11 m11 m11) (.int .i64 eo)) := B3q.new v11 _ _ _ _
          have hbn : Below v11.heap.size v11 (v11.alloc (.cells #[.bool s11, .slice p11 m11 m11, .int .i64 eo] 26)) := below1 v11 _
          generalize v11.alloc (.cells #[.bool s11, .slice p11 m11 m11, .int .i64 eo] 26) = Wv at *
          have HGv : Hid (w.heap.size ≤ v11.heap.size) := hbw.size
          replace Xcell : Hid _ := Xcell.out.below hbn
          replace Xsm : Hid (B1q Wv gsm (.bool false)) := Xsm.out.below hbn
          replace Xu : Hid _ := Xu.out.below hbn
          replace D7 : Hid _ := D7.out.below hbn
          replace E7 : Hid _ := E7.out.below hbn
          replace U8 : Hid _ := U8.out.below hbn
          replace D11 : Hid _ := D11.out.below hbn
          replace hbw := Below.on hbw hbn
          clear hbn
          generalize v11.heap.size = gv at *
          have Xv := Xv0
          clear Xv0
          refine (rnearest HJN.out D11.out (TB.out.below hbw)).mono ?_
          rintro e v12 ⟨rfl, hb12⟩
          rw [rn_own HJN.out HB.out HR.out.1 HR.out.2 (by rcases HVF.out.fm with ⟨_, h⟩ | ⟨_, h, _⟩ <;> omega) HVF.out.v]
          replace Xcell : Hid _ := Xcell.out.below hb12
          replace Xsm : Hid (B1q v12 gsm (.bool false)) := Xsm.out.below hb12
          replace Xu : Hid _ := Xu.out.below hb12
          replace Xv : Hid _ := Xv.out.below hb12
          replace D7 : Hid _ := D7.out.below hb12
          replace E7 : Hid _ := E7.out.below hb12
          replace U8 : Hid _ := U8.out.below hb12
          replace D11 : Hid _ := D11.out.below hb12
          replace hbw := Below.on hbw hb12
          clear hb12
          clear D11
          obtain ⟨cu0, cu1, cu2, fu0, fu1, fu2⟩ := Xu.out
          have hneu : gu < v12.heap.size := World.block_lt_of_cell? v12 _ cu0
          obtain ⟨ccell0, ccell1, ccell2, ccell3, ccell4, ccell5, fcell0, fcell1, fcell2, fcell3, fcell4, fcell5⟩ := Xcell.out
          have hnecell : gcell < v12.heap.size := World.block_lt_of_cell? v12 _ ccell0
          obtain ⟨csm0, fsm0⟩ := Xsm.out
          have hnesm : gsm < v12.heap.size := World.block_lt_of_cell? v12 _ csm0
          go_wp2_with fail
          clear cu0 cu1 cu2 fu0 fu1 fu2 hneu
          clear ccell0 ccell1 ccell2 ccell3 ccell4 ccell5 fcell0 fcell1 fcell2 fcell3 fcell4 fcell5 hnecell
          clear csm0 fsm0 hnesm
          refine (tdy U8.out D7.out).mono ?_
          rintro e v13 ⟨rfl, hb13⟩
          rw [decide_eq_false (Int.ne_of_gt HU.out.1)]
          replace Xcell : Hid _ := Xcell.out.below hb13
          replace Xsm : Hid (B1q v13 gsm (.bool false)) := Xsm.out.below hb13
          replace Xu : Hid _ := Xu.out.below hb13
          replace Xv : Hid _ := Xv.out.below hb13
          replace D7 : Hid _ := D7.out.below hb13
          replace E7 : Hid _ := E7.out.below hb13
          replace U8 : Hid _ := U8.out.below hb13
          replace hbw := Below.on hbw hb13
          clear hb13
          obtain ⟨cu0, cu1, cu2, fu0, fu1, fu2⟩ := Xu.out
          have hneu : gu < v13.heap.size := World.block_lt_of_cell? v13 _ cu0
          obtain ⟨ccell0, ccell1, ccell2, ccell3, ccell4, ccell5, fcell0, fcell1, fcell2, fcell3, fcell4, fcell5⟩ := Xcell.out
          have hnecell : gcell < v13.heap.size := World.block_lt_of_cell? v13 _ ccell0
          go_wp2_with fail
          clear cu0 cu1 cu2 fu0 fu1 fu2 hneu
          clear ccell0 ccell1 ccell2 ccell3 ccell4 ccell5 fcell0 fcell1 fcell2 fcell3 fcell4 fcell5 hnecell
          refine (tdy U8.out E7.out).mono ?_
          rintro e v14 ⟨rfl, hb14⟩
          rw [decide_eq_false (Int.ne_of_lt HU.out.2)]
          replace Xcell : Hid _ := Xcell.out.below hb14
          replace Xsm : Hid (B1q v14 gsm (.bool false)) := Xsm.out.below hb14
          replace Xu : Hid _ := Xu.out.below hb14
          replace Xv : Hid _ := Xv.out.below hb14
          replace D7 : Hid _ := D7.out.below hb14
          replace E7 : Hid _ := E7.out.below hb14
          replace U8 : Hid _ := U8.out.below hb14
          replace hbw := Below.on hbw hb14
          clear hb14
          obtain ⟨cu0, cu1, cu2, fu0, fu1, fu2⟩ := Xu.out
          have hneu : gu < v14.heap.size := World.block_lt_of_cell? v14 _ cu0
          obtain ⟨ccell0, ccell1, ccell2, ccell3, ccell4, ccell5, fcell0, fcell1, fcell2, fcell3, fcell4, fcell5⟩ := Xcell.out
          have hnecell : gcell < v14.heap.size := World.block_lt_of_cell? v14 _ ccell0
          go_wp2_with fail
          clear cu0 cu1 cu2 fu0 fu1 fu2 hneu
          clear ccell0 ccell1 ccell2 ccell3 ccell4 ccell5 fcell0 fcell1 fcell2 fcell3 fcell4 fcell5 hnecell
          refine (HNX.out _).mono ?_
          rintro e v15 ⟨rfl, hb15⟩
          replace Xcell : Hid _ := Xcell.out.below hb15
          replace Xsm : Hid (B1q v15 gsm (.bool false)) := Xsm.out.below hb15
          replace Xu : Hid _ := Xu.out.below hb15
          replace Xv : Hid _ := Xv.out.below hb15
          replace D7 : Hid _ := D7.out.below hb15
          replace E7 : Hid _ := E7.out.below hb15
          replace U8 : Hid _ := U8.out.below hb15
          replace hbw := Below.on hbw hb15
          clear hb15
          go_wp2_with fail
          refine (HPV.out _).mono ?_
          rintro e v16 ⟨rfl, hb16⟩
          replace Xcell : Hid _ := Xcell.out.below hb16
          replace Xsm : Hid (B1q v16 gsm (.bool false)) := Xsm.out.below hb16
          replace Xu : Hid _ := Xu.out.below hb16
          replace Xv : Hid _ := Xv.out.below hb16
          replace D7 : Hid _ := D7.out.below hb16
          replace E7 : Hid _ := E7.out.below hb16
          replace U8 : Hid _ := U8.out.below hb16
          replace hbw := Below.on hbw hb16
          clear hb16
          go_wp2_with fail
          by_cases hu : up % S ≠ 0 ∧ up % S < I
          · have HEQ : Hid (cLo H l (decide (S ≤ up)) (up % S) = cHi H l (decide (S ≤ b)) (b % S)) := HNF.out.2.2.2.1 hu.1
            have HUP : Hid (up % S ≠ 0 ∧ up % S < I) := hu
            clear hu
            refine (cell_ok HJN.out up HNF.out.1 HUP.out.1 HUP.out.2 _ (TB.out.below hbw)).mono ?_
            rintro e0 v17 ⟨s17, p17, m17, z17, e17, t17, q17, n17, y17, f17, rfl, hd1, hd2, hv1, hv2, hb17⟩
            have HV17 : Hid (dv z17 e17 = dv y7 f7) := by show dv z17 e17 = dv y7 f7; rw [hv1, HEQ.out, HV7.out.2]
            clear hv1 hv2
            replace Xcell : Hid _ := Xcell.out.below hb17
            replace Xsm : Hid (B1q v17 gsm (.bool false)) := Xsm.out.below hb17
            replace Xu : Hid _ := Xu.out.below hb17
            replace Xv : Hid _ := Xv.out.below hb17
            replace D7 : Hid _ := D7.out.below hb17
            replace E7 : Hid _ := E7.out.below hb17
            replace U8 : Hid _ := U8.out.below hb17
            replace hbw := Below.on hbw hb17
            clear hb17
            have D17 : Hid (DN v17 s17 p17 m17 m17 e17 z17) := hd1.dn
            clear hd1 hd2
            obtain ⟨ccell0, ccell1, ccell2, ccell3, ccell4, ccell5, fcell0, fcell1, fcell2, fcell3, fcell4, fcell5⟩ := Xcell.out
            have hnecell : gcell < v17.heap.size := World.block_lt_of_cell? v17 _ ccell0
            go_wp2_with fail
            clear ccell0 ccell1 ccell2 ccell3 ccell4 ccell5 fcell0 fcell1 fcell2 fcell3 fcell4 fcell5 hnecell
            have Xnx0 : Hid (B6q (v17.alloc (.cells #[.bool s17, .slice p17 m17 m17, .int .i64 e17, .bool t17, .slice q17 n17 n17, .int .i64 f17] 47)) v17.heap.size (.bool s17) (.slice p17 m17 m17) (.int .i64 e17) (.bool t17) (.slice q17 n17 n17) (.int .i64 f17)) := B6q.new v17 _ _ _ _ _ _ _
            have hbn : Below v17.heap.size v17 (v17.alloc (.cells #[.bool s17, .slice p17 m17 m17, .int .i64 e17, .bool t17, .slice q17 n17 n17, .int .i64 f17] 47)) := below1 v17 _
            generalize v17.alloc (.cells #[.bool s17, .slice p17 m17 m17, .int .i64 e17, .bool t17, .slice q17 n17 n17, .int .i64 f17] 47) = Wn at *
            have HGnx : Hid (w.heap.size ≤ v17.heap.size) := hbw.size
            replace Xcell : Hid _ := Xcell.out.below hbn
            replace Xsm : Hid (B1q Wn gsm (.bool false)) := Xsm.out.below hbn
            replace Xu : Hid _ := Xu.out.below hbn
            replace Xv : Hid _ := Xv.out.below hbn
            replace D7 : Hid _ := D7.out.below hbn
            replace E7 : Hid _ := E7.out.below hbn
            replace U8 : Hid _ := U8.out.below hbn
            replace D17 : Hid _ := D17.out.below hbn
            replace hbw := Below.on hbw hbn
            clear hbn
            generalize v17.heap.size = gnx at *
            have Xnx := Xnx0
            clear Xnx0
            refine (tdy D17.out E7.out).mono ?_
            rintro e v18 ⟨rfl, hb18⟩
            rw [decide_eq_true HV17.out]
            replace Xcell : Hid _ := Xcell.out.below hb18
            replace Xsm : Hid (B1q v18 gsm (.bool false)) := Xsm.out.below hb18
            replace Xu : Hid _ := Xu.out.below hb18
            replace Xv : Hid _ := Xv.out.below hb18
            replace Xnx : Hid _ := Xnx.out.below hb18
            replace D7 : Hid _ := D7.out.below hb18
            replace E7 : Hid _ := E7.out.below hb18
            replace U8 : Hid _ := U8.out.below hb18
            replace D17 : Hid _ := D17.out.below hb18
            replace hbw := Below.on hbw hb18
            clear hb18
            go_wp2_with fail
            go_ret
            exact ⟨rfl, hbw⟩
          · have HUX : Hid (up % S = 0 ∨ I ≤ up % S) := by
              by_cases h : up % S = 0
              · exact .inl h
              · exact .inr (Nat.le_of_not_lt fun h2 => hu ⟨h, h2⟩)
            clear hu
            have hus := up_edge HJN.out.jm.pm.fm HB.out HR.out.1 HR.out.2 HUPE.out HUX.out
            rcases HLT.out.num with ⟨hS, hI⟩ | ⟨hS, hI⟩ <;> rcases hus with hu | hu
            · have hun : up = 2147483648 := by rw [hu]; assumption
              have kb : bits BinOp.and IntKind.u64 2147483648 9223372036854775807 = 2147483648 := by decide
              clear hS hI hu
              subst hun
              refine (cell_x HJN.out 2147483648 HNF.out.1 HUX.out _).mono ?_
              rintro e v17 ⟨rfl, hb17⟩
              replace Xcell : Hid _ := Xcell.out.below hb17
              replace Xsm : Hid (B1q v17 gsm (.bool false)) := Xsm.out.below hb17
              replace Xu : Hid _ := Xu.out.below hb17
              replace Xv : Hid _ := Xv.out.below hb17
              replace D7 : Hid _ := D7.out.below hb17
              replace E7 : Hid _ := E7.out.below hb17
              replace U8 : Hid _ := U8.out.below hb17
              replace hbw := Below.on hbw hb17
              clear hb17
              obtain ⟨ccell0, ccell1, ccell2, ccell3, ccell4, ccell5, fcell0, fcell1, fcell2, fcell3, fcell4, fcell5⟩ := Xcell.out
              have hnecell : gcell < v17.heap.size := World.block_lt_of_cell? v17 _ ccell0
              go_wp2_with fail
              clear ccell0 ccell1 ccell2 ccell3 ccell4 ccell5 fcell0 fcell1 fcell2 fcell3 fcell4 fcell5 hnecell
              go_ret
              exact ⟨rfl, Below.on hbw (below1 _ _)⟩
            · have hun : up = 2139095040 := by rw [hu]; assumption
              have kb : bits BinOp.and IntKind.u64 2139095040 9223372036854775807 = 2139095040 := by decide
              clear hS hI hu
              subst hun
              refine (cell_x HJN.out 2139095040 HNF.out.1 HUX.out _).mono ?_
              rintro e v17 ⟨rfl, hb17⟩
              replace Xcell : Hid _ := Xcell.out.below hb17
              replace Xsm : Hid (B1q v17 gsm (.bool false)) := Xsm.out.below hb17
              replace Xu : Hid _ := Xu.out.below hb17
              replace Xv : Hid _ := Xv.out.below hb17
              replace D7 : Hid _ := D7.out.below hb17
              replace E7 : Hid _ := E7.out.below hb17
              replace U8 : Hid _ := U8.out.below hb17
              replace hbw := Below.on hbw hb17
              clear hb17
              obtain ⟨ccell0, ccell1, ccell2, ccell3, ccell4, ccell5, fcell0, fcell1, fcell2, fcell3, fcell4, fcell5⟩ := Xcell.out
              have hnecell : gcell < v17.heap.size := World.block_lt_of_cell? v17 _ ccell0
              go_wp2_with fail
              clear ccell0 ccell1 ccell2 ccell3 ccell4 ccell5 fcell0 fcell1 fcell2 fcell3 fcell4 fcell5 hnecell
              go_ret
              exact ⟨rfl, Below.on hbw (below1 _ _)⟩
            · have hun : up = 9223372036854775808 := by rw [hu]; assumption
              have kb : bits BinOp.and IntKind.u64 9223372036854775808 9223372036854775807 = 0 := by decide
              clear hS hI hu
              subst hun
              refine (cell_x HJN.out 9223372036854775808 HNF.out.1 HUX.out _).mono ?_
              rintro e v17 ⟨rfl, hb17⟩
              replace Xcell : Hid _ := Xcell.out.below hb17
              replace Xsm : Hid (B1q v17 gsm (.bool false)) := Xsm.out.below hb17
              replace Xu : Hid _ := Xu.out.below hb17
              replace Xv : Hid _ := Xv.out.below hb17
              replace D7 : Hid _ := D7.out.below hb17
              replace E7 : Hid _ := E7.out.below hb17
              replace U8 : Hid _ := U8.out.below hb17
              replace hbw := Below.on hbw hb17
              clear hb17
              obtain ⟨ccell0, ccell1, ccell2, ccell3, ccell4, ccell5, fcell0, fcell1, fcell2, fcell3, fcell4, fcell5⟩ := Xcell.out
              have hnecell : gcell < v17.heap.size := World.block_lt_of_cell? v17 _ ccell0
              go_wp2_with fail
              clear ccell0 ccell1 ccell2 ccell3 ccell4 ccell5 fcell0 fcell1 fcell2 fcell3 fcell4 fcell5 hnecell
              go_ret
              exact ⟨rfl, Below.on hbw (below1 _ _)⟩
            · have hun : up = 9218868437227405312 := by rw [hu]; assumption
              have kb : bits BinOp.and IntKind.u64 9218868437227405312 9223372036854775807 = 9218868437227405312 := by decide
              clear hS hI hu
              subst hun
              refine (cell_x HJN.out 9218868437227405312 HNF.out.1 HUX.out _).mono ?_
              rintro e v17 ⟨rfl, hb17⟩
              replace Xcell : Hid _ := Xcell.out.below hb17
              replace Xsm : Hid (B1q v17 gsm (.bool false)) := Xsm.out.below hb17
              replace Xu : Hid _ := Xu.out.below hb17
              replace Xv : Hid _ := Xv.out.below hb17
              replace D7 : Hid _ := D7.out.below hb17
              replace E7 : Hid _ := E7.out.below hb17
              replace U8 : Hid _ := U8.out.below hb17
              replace hbw := Below.on hbw hb17
              clear hb17
              obtain ⟨ccell0, ccell1, ccell2, ccell3, ccell4, ccell5, fcell0, fcell1, fcell2, fcell3, fcell4, fcell5⟩ := Xcell.out
              have hnecell : gcell < v17.heap.size := World.block_lt_of_cell? v17 _ ccell0
              go_wp2_with fail
              clear ccell0 ccell1 ccell2 ccell3 ccell4 ccell5 fcell0 fcell1 fcell2 fcell3 fcell4 fcell5 hnecell
              go_ret
              exact ⟨rfl, Below.on hbw (below1 _ _)⟩
    · subst hq
      refine (cell_ok HJN.out b HB.out HR.out.1 HR.out.2 _ (TB.out.below hbw)).mono ?_
      rintro e0 v7 ⟨s7, p7, m7, z7, e7, t7, q7, n7, y7, f7, rfl, hd1, hd2, hv1, hv2, hb7⟩
      obtain ⟨pr, hpr⟩ : ∃ pr, pr = decide (b % 2 = 0) := ⟨_, rfl⟩
      rw [← hpr]
      have HPR : Hid (pr = decide (b % 2 = 0)) := hpr
      obtain ⟨m2, hm2⟩ : ∃ m2, m2 = b % 2 := ⟨_, rfl⟩
      have g1 : bits BinOp.and IntKind.u64 (b : Int) 1 = ((m2 : Nat) : Int) := by rw [hm2]; exact and_one_u64q b (by have := HB.out; have := HJN.out.jm.pm.fm.le; rw [B64_eq]; omega)
      have g2 : ((m2 : Int) == 0) = pr := by rw [hpr, hm2]; by_cases a : b % 2 = 0 <;> simp [a] <;> omega
      have HV7 : Hid (dv z7 e7 = cLo H l (decide (S ≤ b)) (b % S) ∧ dv y7 f7 = cHi H l (decide (S ≤ b)) (b % S)) := ⟨hv1, hv2⟩
      have HDB : Hid ((DB z7 e7 56 1100 ∧ z7 ≠ 0) ∧ DB y7 f7 56 1100 ∧ y7 ≠ 0) := ⟨lo_db HJN.out HR.out.2 hd1.fm hv1, hi_db HJN.out HR.out.2 hd2.fm hv2⟩
      have HLT7 : Hid (dv z7 e7 < dv y7 f7) := by show _ < _; rw [hv1, hv2]; exact cell_lt HJN.out.jm.pm.hp _ HR.out.1
      clear hv1 hv2 hpr hm2
      replace Xlim : Hid _ := Xlim.out.below hb7
      replace hbw := Below.on hbw hb7
      clear hb7
      have D7 : Hid (DN v7 s7 p7 m7 m7 e7 z7) := hd1.dn
      have E7 : Hid (DN v7 t7 q7 n7 n7 f7 y7) := hd2.dn
      clear hd1 hd2
      clear Xlim
      go_wp2_with fail
      rw [show v7.heap.size + 1 = (v7.alloc (.cells #[.bool s7, .slice p7 m7 m7, .int .i64 e7, .bool t7, .slice q7 n7 n7, .int .i64 f7] 47)).heap.size from by simp]
      have Xcell0 : Hid (B6q (v7.alloc (.cells #[.bool s7, .slice p7 m7 m7, .int .i64 e7, .bool t7, .slice q7 n7 n7, .int .i64 f7] 47)) v7.heap.size (.bool s7) (.slice p7 m7 m7) (.int .i64 e7) (.bool t7) (.slice q7 n7 n7) (.int .i64 f7)) := B6q.new v7 _ _ _ _ _ _ _
      have hbn : Below v7.heap.size v7 (v7.alloc (.cells #[.bool s7, .slice p7 m7 m7, .int .i64 e7, .bool t7, .slice q7 n7 n7, .int .i64 f7] 47)) := below1 v7 _
      generalize v7.alloc (.cells #[.bool s7, .slice p7 m7 m7, .int .i64 e7, .bool t7, .slice q7 n7 n7, .int .i64 f7] 47) = Wc at *
      have HGcell : Hid (w.heap.size ≤ v7.heap.size) := hbw.size
      replace D7 : Hid _ := D7.out.below hbn
      replace E7 : Hid _ := E7.out.below hbn
      replace hbw := Below.on hbw hbn
      clear hbn
      generalize v7.heap.size = gcell at *
      have Xcell := Xcell0
      clear Xcell0
      have Xsm0 : Hid (B1q (Wc.alloc (.cells #[.bool false] 58)) Wc.heap.size (.bool false)) := B1q.new Wc _ _
      have hbn : Below Wc.heap.size Wc (Wc.alloc (.cells #[.bool false] 58)) := below1 Wc _
      generalize Wc.alloc (.cells #[.bool false] 58) = Wm at *
      have HGsm : Hid (w.heap.size ≤ Wc.heap.size) := hbw.size
      replace Xcell : Hid _ := Xcell.out.below hbn
      replace D7 : Hid _ := D7.out.below hbn
      replace E7 : Hid _ := E7.out.below hbn
      replace hbw := Below.on hbw hbn
      clear hbn
      generalize Wc.heap.size = gsm at *
      have Xsm := Xsm0
      clear Xsm0
      obtain ⟨up, hup⟩ : ∃ up, up = if S ≤ b then b - 1 else b + 1 := ⟨_, rfl⟩
      have hnx := tnx HJN.out.jm.pm.fm HB.out HR.out.1 HR.out.2 hup
      have HNF0 := nx_facts HJN.out HB.out HR.out.1 HR.out.2 hup
      have HNX : Hid (Says 30 (.int .i64 f) (U b) (U up) (.int .i64 0)) := hnx.1
      have HPV : Hid (Says 31 (.int .i64 f) (U up) (U b) (.int .i64 0)) := hnx.2
      have HNF : Hid (up < 2 * S ∧ up % S ≤ I ∧ rkS S up = rkS S b + 1 ∧ (up % S ≠ 0 → cLo H l (decide (S ≤ up)) (up % S) = cHi H l (decide (S ≤ b)) (b % S)) ∧ decide (up % 2 = 0) = !decide (b % 2 = 0)) := HNF0
      have HUPE : Hid (up = if S ≤ b then b - 1 else b + 1) := hup
      clear hup hnx HNF0
      obtain ⟨zo, eo, hvf, _⟩ := vf_ex HJN.out.jm.pm HR.out.2
      have HVF : Hid (VF S H l b zo eo) := hvf
      clear hvf
      by_cases hi5 : i = 255
      · refine (sbet_e D7.out E7.out HDB.out.1.1 HDB.out.2.1 HDB.out.1.2 HDB.out.2.2 HLT7.out i HI.out (TB.out.below hbw) hi5).mono ?_
        rintro e0 v8 ⟨s8, p8, m8, t8, q8, n8, rfl, hb8⟩
        clear hi5
        replace Xcell : Hid _ := Xcell.out.below hb8
        replace Xsm : Hid (B1q v8 gsm (.bool false)) := Xsm.out.below hb8
        replace D7 : Hid _ := D7.out.below hb8
        replace E7 : Hid _ := E7.out.below hb8
        replace hbw := Below.on hbw hb8
        clear hb8
        obtain ⟨ccell0, ccell1, ccell2, ccell3, ccell4, ccell5, fcell0, fcell1, fcell2, fcell3, fcell4, fcell5⟩ := Xcell.out
        have hnecell : gcell < v8.heap.size := World.block_lt_of_cell? v8 _ ccell0
        obtain ⟨csm0, fsm0⟩ := Xsm.out
        have hnesm : gsm < v8.heap.size := World.block_lt_of_cell? v8 _ csm0
        go_wp2_with fail
        clear ccell0 ccell1 ccell2 ccell3 ccell4 ccell5 fcell0 fcell1 fcell2 fcell3 fcell4 fcell5 hnecell
        clear csm0 fsm0 hnesm
        rw [show v8.heap.size + 1 = (v8.alloc (.cells #[.bool s8, .slice p8 m8 m8, .int .i64 e7, .bool t8, .slice q8 n8 n8, .int .i64 f7] 47)).heap.size from by simp]
        have Xbl0 : Hid (B6q (v8.alloc (.cells #[.bool s8, .slice p8 m8 m8, .int .i64 e7, .bool t8, .slice q8 n8 n8, .int .i64 f7] 47)) v8.heap.size (.bool s8) (.slice p8 m8 m8) (.int .i64 e7) (.bool t8) (.slice q8 n8 n8) (.int .i64 f7)) := B6q.new v8 _ _ _ _ _ _ _
        have hbn : Below v8.heap.size v8 (v8.alloc (.cells #[.bool s8, .slice p8 m8 m8, .int .i64 e7, .bool t8, .slice q8 n8 n8, .int .i64 f7] 47)) := below1 v8 _
        generalize v8.alloc (.cells #[.bool s8, .slice p8 m8 m8, .int .i64 e7, .bool t8, .slice q8 n8 n8, .int .i64 f7] 47) = Wb at *
        have HGbl : Hid (w.heap.size ≤ v8.heap.size) := hbw.size
        replace Xcell : Hid _ := Xcell.out.below hbn
        replace Xsm : Hid (B1q Wb gsm (.bool false)) := Xsm.out.below hbn
        replace D7 : Hid _ := D7.out.below hbn
        replace E7 : Hid _ := E7.out.below hbn
        replace hbw := Below.on hbw hbn
        clear hbn
        generalize v8.heap.size = gbl at *
        have Xbl := Xbl0
        clear Xbl0
        clear Xbl
        have Xu0 : Hid (B3q (Wb.alloc (.cells #[.bool t7, .slice q7 n7 n7, .int .i64 f7] 26)) Wb.heap.size (.bool t7) (.slice q7 n7 n7) (.int .i64 f7)) := B3q.new Wb _ _ _ _
        have hbn : Below Wb.heap.size Wb (Wb.alloc (.cells #[.bool t7, .slice q7 n7 n7, .int .i64 f7] 26)) := below1 Wb _
        generalize Wb.alloc (.cells #[.bool t7, .slice q7 n7 n7, .int .i64 f7] 26) = Wu at *
        have HGu : Hid (w.heap.size ≤ Wb.heap.size) := hbw.size
        replace Xcell : Hid _ := Xcell.out.below hbn
        replace Xsm : Hid (B1q Wu gsm (.bool false)) := Xsm.out.below hbn
        replace D7 : Hid _ := D7.out.below hbn
        replace E7 : Hid _ := E7.out.below hbn
        replace hbw := Below.on hbw hbn
        clear hbn
        generalize Wb.heap.size = gu at *
        have Xu := Xu0
        clear Xu0
        have HEU : Hid (-4194304 ≤ f7) := by rcases E7.out.fm with ⟨_, h⟩ | ⟨_, h, _⟩ <;> (show _ ≤ _) <;> omega
        cases pr
        · have hpx : ¬ b % 2 = 0 := of_decide_eq_false HPR.out.symm
          clear HPR
          have HRN : Hid (rnp l sd Be S I y7 f7 = (if S ≤ b then b - 1 else b + 1)) := by show rnp l sd Be S I y7 f7 = _; rw [meets_rn HJN.out HB.out HR.out.2 HEU.out HV7.out.2, if_neg hpx]
          have hb0 : b ≠ 0 := fun h => HR.out.1 (by rw [h]; exact Nat.zero_mod _)
          obtain ⟨rr, hrr⟩ : ∃ rr, rr = (if S ≤ b then b - 1 else b + 1) := ⟨_, rfl⟩
          have hne : rr ≠ b := by rw [hrr]; split <;> omega
          rw [← hrr] at HRN
          have kd1 : ((rr : Int) == (b : Int)) = false := by simp; omega
          have kd2 : ((rr : Int) != (b : Int)) = true := by simp; omega
          clear hrr hne
          clear hpx hb0
          refine (rnearest HJN.out E7.out (TB.out.below hbw)).mono ?_
          rintro e v10 ⟨rfl, hb10⟩
          rw [HRN.out]
          replace Xcell : Hid _ := Xcell.out.below hb10
          replace Xsm : Hid (B1q v10 gsm (.bool false)) := Xsm.out.below hb10
          replace Xu : Hid _ := Xu.out.below hb10
          replace D7 : Hid _ := D7.out.below hb10
          replace E7 : Hid _ := E7.out.below hb10
          replace hbw := Below.on hbw hb10
          clear hb10
          obtain ⟨cu0, cu1, cu2, fu0, fu1, fu2⟩ := Xu.out
          have hneu : gu < v10.heap.size := World.block_lt_of_cell? v10 _ cu0
          obtain ⟨ccell0, ccell1, ccell2, ccell3, ccell4, ccell5, fcell0, fcell1, fcell2, fcell3, fcell4, fcell5⟩ := Xcell.out
          have hnecell : gcell < v10.heap.size := World.block_lt_of_cell? v10 _ ccell0
          obtain ⟨csm0, fsm0⟩ := Xsm.out
          have hnesm : gsm < v10.heap.size := World.block_lt_of_cell? v10 _ csm0
          go_wp2_with fail
          clear cu0 cu1 cu2 fu0 fu1 fu2 hneu
          clear ccell0 ccell1 ccell2 ccell3 ccell4 ccell5 fcell0 fcell1 fcell2 fcell3 fcell4 fcell5 hnecell
          clear csm0 fsm0 hnesm
          refine (value_v HJN.out.jm.pm HB.out HR.out.2 HVF.out _ (TB.out.below hbw)).mono ?_
          rintro e0 v11 ⟨v, rfl, hv, hb11⟩
          obtain ⟨s11, p11, m11, rfl, hd11⟩ := hv.dn HVF.out.fm
          clear hv
          replace Xcell : Hid _ := Xcell.out.below hb11
          replace Xsm : Hid (B1q v11 gsm (.bool false)) := Xsm.out.below hb11
          replace Xu : Hid _ := Xu.out.below hb11
          replace D7 : Hid _ := D7.out.below hb11
          replace E7 : Hid _ := E7.out.below hb11
          replace hbw := Below.on hbw hb11
          clear hb11
          have D11 : Hid (DN v11 s11 p11 m11 m11 eo zo) := hd11
          clear hd11
          obtain ⟨cu0, cu1, cu2, fu0, fu1, fu2⟩ := Xu.out
          have hneu : gu < v11.heap.size := World.block_lt_of_cell? v11 _ cu0
          obtain ⟨ccell0, ccell1, ccell2, ccell3, ccell4, ccell5, fcell0, fcell1, fcell2, fcell3, fcell4, fcell5⟩ := Xcell.out
          have hnecell : gcell < v11.heap.size := World.block_lt_of_cell? v11 _ ccell0
          obtain ⟨csm0, fsm0⟩ := Xsm.out
          have hnesm : gsm < v11.heap.size := World.block_lt_of_cell? v11 _ csm0
          go_wp2_with fail
          clear cu0 cu1 cu2 fu0 fu1 fu2 hneu
          clear ccell0 ccell1 ccell2 ccell3 ccell4 ccell5 fcell0 fcell1 fcell2 fcell3 fcell4 fcell5 hnecell
          clear csm0 fsm0 hnesm
          have Xv0 : Hid (B3q (v11.alloc (.cells #[.bool s11, .slice p11 m11 m11, .int .i64 eo] 26)) v11.heap.size (.bool s11) (.slice p11 m11 m11) (.int .i64 eo)) := B3q.new v11 _ _ _ _
          have hbn : Below v11.heap.size v11 (v11.alloc (.cells #[.bool s11, .slice p11 m11 m11, .int .i64 eo] 26)) := below1 v11 _
          generalize v11.alloc (.cells #[.bool s11, .slice p11 m11 m11, .int .i64 eo] 26) = Wv at *
          have HGv : Hid (w.heap.size ≤ v11.heap.size) := hbw.size
          replace Xcell : Hid _ := Xcell.out.below hbn
          replace Xsm : Hid (B1q Wv gsm (.bool false)) := Xsm.out.below hbn
          replace Xu : Hid _ := Xu.out.below hbn
          replace D7 : Hid _ := D7.out.below hbn
          replace E7 : Hid _ := E7.out.below hbn
          replace D11 : Hid _ := D11.out.below hbn
          replace hbw := Below.on hbw hbn
          clear hbn
          generalize v11.heap.size = gv at *
          have Xv := Xv0
          clear Xv0
          refine (rnearest HJN.out D11.out (TB.out.below hbw)).mono ?_
          rintro e v12 ⟨rfl, hb12⟩
          rw [rn_own HJN.out HB.out HR.out.1 HR.out.2 (by rcases HVF.out.fm with ⟨_, h⟩ | ⟨_, h, _⟩ <;> omega) HVF.out.v]
          replace Xcell : Hid _ := Xcell.out.below hb12
          replace Xsm : Hid (B1q v12 gsm (.bool false)) := Xsm.out.below hb12
          replace Xu : Hid _ := Xu.out.below hb12
          replace Xv : Hid _ := Xv.out.below hb12
          replace D7 : Hid _ := D7.out.below hb12
          replace E7 : Hid _ := E7.out.below hb12
          replace D11 : Hid _ := D11.out.below hb12
          replace hbw := Below.on hbw hb12
          clear hb12
          clear D11
          obtain ⟨cu0, cu1, cu2, fu0, fu1, fu2⟩ := Xu.out
          have hneu : gu < v12.heap.size := World.block_lt_of_cell? v12 _ cu0
          obtain ⟨ccell0, ccell1, ccell2, ccell3, ccell4, ccell5, fcell0, fcell1, fcell2, fcell3, fcell4, fcell5⟩ := Xcell.out
          have hnecell : gcell < v12.heap.size := World.block_lt_of_cell? v12 _ ccell0
          obtain ⟨csm0, fsm0⟩ := Xsm.out
          have hnesm : gsm < v12.heap.size := World.block_lt_of_cell? v12 _ csm0
          go_wp2_with fail
          clear cu0 cu1 cu2 fu0 fu1 fu2 hneu
          clear ccell0 ccell1 ccell2 ccell3 ccell4 ccell5 fcell0 fcell1 fcell2 fcell3 fcell4 fcell5 hnecell
          clear csm0 fsm0 hnesm
          refine (tdy E7.out D7.out).mono ?_
          rintro e v13 ⟨rfl, hb13⟩
          rw [decide_eq_false (Int.ne_of_gt HLT7.out)]
          replace Xcell : Hid _ := Xcell.out.below hb13
          replace Xsm : Hid (B1q v13 gsm (.bool false)) := Xsm.out.below hb13
          replace Xu : Hid _ := Xu.out.below hb13
          replace Xv : Hid _ := Xv.out.below hb13
          replace D7 : Hid _ := D7.out.below hb13
          replace E7 : Hid _ := E7.out.below hb13
          replace hbw := Below.on hbw hb13
          clear hb13
          obtain ⟨cu0, cu1, cu2, fu0, fu1, fu2⟩ := Xu.out
          have hneu : gu < v13.heap.size := World.block_lt_of_cell? v13 _ cu0
          obtain ⟨ccell0, ccell1, ccell2, ccell3, ccell4, ccell5, fcell0, fcell1, fcell2, fcell3, fcell4, fcell5⟩ := Xcell.out
          have hnecell : gcell < v13.heap.size := World.block_lt_of_cell? v13 _ ccell0
          go_wp2_with fail
          clear cu0 cu1 cu2 fu0 fu1 fu2 hneu
          clear ccell0 ccell1 ccell2 ccell3 ccell4 ccell5 fcell0 fcell1 fcell2 fcell3 fcell4 fcell5 hnecell
          refine (tdy E7.out E7.out).mono ?_
          rintro e v14 ⟨rfl, hb14⟩
          rw [decide_eq_true rfl]
          replace Xcell : Hid _ := Xcell.out.below hb14
          replace Xsm : Hid (B1q v14 gsm (.bool false)) := Xsm.out.below hb14
          replace Xu : Hid _ := Xu.out.below hb14
          replace Xv : Hid _ := Xv.out.below hb14
          replace D7 : Hid _ := D7.out.below hb14
          replace E7 : Hid _ := E7.out.below hb14
          replace hbw := Below.on hbw hb14
          clear hb14
          obtain ⟨cu0, cu1, cu2, fu0, fu1, fu2⟩ := Xu.out
          have hneu : gu < v14.heap.size := World.block_lt_of_cell? v14 _ cu0
          obtain ⟨ccell0, ccell1, ccell2, ccell3, ccell4, ccell5, fcell0, fcell1, fcell2, fcell3, fcell4, fcell5⟩ := Xcell.out
          have hnecell : gcell < v14.heap.size := World.block_lt_of_cell? v14 _ ccell0
          go_wp2_with fail
          clear cu0 cu1 cu2 fu0 fu1 fu2 hneu
          clear ccell0 ccell1 ccell2 ccell3 ccell4 ccell5 fcell0 fcell1 fcell2 fcell3 fcell4 fcell5 hnecell
          refine (HNX.out _).mono ?_
          rintro e v15 ⟨rfl, hb15⟩
          replace Xcell : Hid _ := Xcell.out.below hb15
          replace Xsm : Hid (B1q v15 gsm (.bool false)) := Xsm.out.below hb15
          replace Xu : Hid _ := Xu.out.below hb15
          replace Xv : Hid _ := Xv.out.below hb15
          replace D7 : Hid _ := D7.out.below hb15
          replace E7 : Hid _ := E7.out.below hb15
          replace hbw := Below.on hbw hb15
          clear hb15
          go_wp2_with fail
          refine (HPV.out _).mono ?_
          rintro e v16 ⟨rfl, hb16⟩
          replace Xcell : Hid _ := Xcell.out.below hb16
          replace Xsm : Hid (B1q v16 gsm (.bool false)) := Xsm.out.below hb16
          replace Xu : Hid _ := Xu.out.below hb16
          replace Xv : Hid _ := Xv.out.below hb16
          replace D7 : Hid _ := D7.out.below hb16
          replace E7 : Hid _ := E7.out.below hb16
          replace hbw := Below.on hbw hb16
          clear hb16
          go_wp2_with fail
          by_cases hu : up % S ≠ 0 ∧ up % S < I
          · have HEQ : Hid (cLo H l (decide (S ≤ up)) (up % S) = cHi H l (decide (S ≤ b)) (b % S)) := HNF.out.2.2.2.1 hu.1
            have HUP : Hid (up % S ≠ 0 ∧ up % S < I) := hu
            clear hu
            refine (cell_ok HJN.out up HNF.out.1 HUP.out.1 HUP.out.2 _ (TB.out.below hbw)).mono ?_
            rintro e0 v17 ⟨s17, p17, m17, z17, e17, t17, q17, n17, y17, f17, rfl, hd1, hd2, hv1, hv2, hb17⟩
            have HV17 : Hid (dv z17 e17 = dv y7 f7) := by show dv z17 e17 = dv y7 f7; rw [hv1, HEQ.out, HV7.out.2]
            clear hv1 hv2
            replace Xcell : Hid _ := Xcell.out.below hb17
            replace Xsm : Hid (B1q v17 gsm (.bool false)) := Xsm.out.below hb17
            replace Xu : Hid _ := Xu.out.below hb17
            replace Xv : Hid _ := Xv.out.below hb17
            replace D7 : Hid _ := D7.out.below hb17
            replace E7 : Hid _ := E7.out.below hb17
            replace hbw := Below.on hbw hb17
            clear hb17
            have D17 : Hid (DN v17 s17 p17 m17 m17 e17 z17) := hd1.dn
            clear hd1 hd2
            obtain ⟨ccell0, ccell1, ccell2, ccell3, ccell4, ccell5, fcell0, fcell1, fcell2, fcell3, fcell4, fcell5⟩ := Xcell.out
            have hnecell : gcell < v17.heap.size := World.block_lt_of_cell? v17 _ ccell0
            go_wp2_with fail
            clear ccell0 ccell1 ccell2 ccell3 ccell4 ccell5 fcell0 fcell1 fcell2 fcell3 fcell4 fcell5 hnecell
            have Xnx0 : Hid (B6q (v17.alloc (.cells #[.bool s17, .slice p17 m17 m17, .int .i64 e17, .bool t17, .slice q17 n17 n17, .int .i64 f17] 47)) v17.heap.size (.bool s17) (.slice p17 m17 m17) (.int .i64 e17) (.bool t17) (.slice q17 n17 n17) (.int .i64 f17)) := B6q.new v17 _ _ _ _ _ _ _
            have hbn : Below v17.heap.size v17 (v17.alloc (.cells #[.bool s17, .slice p17 m17 m17, .int .i64 e17, .bool t17, .slice q17 n17 n17, .int .i64 f17] 47)) := below1 v17 _
            generalize v17.alloc (.cells #[.bool s17, .slice p17 m17 m17, .int .i64 e17, .bool t17, .slice q17 n17 n17, .int .i64 f17] 47) = Wn at *
            have HGnx : Hid (w.heap.size ≤ v17.heap.size) := hbw.size
            replace Xcell : Hid _ := Xcell.out.below hbn
            replace Xsm : Hid (B1q Wn gsm (.bool false)) := Xsm.out.below hbn
            replace Xu : Hid _ := Xu.out.below hbn
            replace Xv : Hid _ := Xv.out.below hbn
            replace D7 : Hid _ := D7.out.below hbn
            replace E7 : Hid _ := E7.out.below hbn
            replace D17 : Hid _ := D17.out.below hbn
            replace hbw := Below.on hbw hbn
            clear hbn
            generalize v17.heap.size = gnx at *
            have Xnx := Xnx0
            clear Xnx0
            refine (tdy D17.out E7.out).mono ?_
            rintro e v18 ⟨rfl, hb18⟩
            rw [decide_eq_true HV17.out]
            replace Xcell : Hid _ := Xcell.out.below hb18
            replace Xsm : Hid (B1q v18 gsm (.bool false)) := Xsm.out.below hb18
            replace Xu : Hid _ := Xu.out.below hb18
            replace Xv : Hid _ := Xv.out.below hb18
            replace Xnx : Hid _ := Xnx.out.below hb18
            replace D7 : Hid _ := D7.out.below hb18
            replace E7 : Hid _ := E7.out.below hb18
            replace D17 : Hid _ := D17.out.below hb18
            replace hbw := Below.on hbw hb18
            clear hb18
            go_wp2_with fail
            go_ret
            exact ⟨rfl, hbw⟩
          · have HUX : Hid (up % S = 0 ∨ I ≤ up % S) := by
              by_cases h : up % S = 0
              · exact .inl h
              · exact .inr (Nat.le_of_not_lt fun h2 => hu ⟨h, h2⟩)
            clear hu
            have hus := up_edge HJN.out.jm.pm.fm HB.out HR.out.1 HR.out.2 HUPE.out HUX.out
            rcases HLT.out.num with ⟨hS, hI⟩ | ⟨hS, hI⟩ <;> rcases hus with hu | hu
            · have hun : up = 2147483648 := by rw [hu]; assumption
              have kb : bits BinOp.and IntKind.u64 2147483648 9223372036854775807 = 2147483648 := by decide
              clear hS hI hu
              subst hun
              refine (cell_x HJN.out 2147483648 HNF.out.1 HUX.out _).mono ?_
              rintro e v17 ⟨rfl, hb17⟩
              replace Xcell : Hid _ := Xcell.out.below hb17
              replace Xsm : Hid (B1q v17 gsm (.bool false)) := Xsm.out.below hb17
              replace Xu : Hid _ := Xu.out.below hb17
              replace Xv : Hid _ := Xv.out.below hb17
              replace D7 : Hid _ := D7.out.below hb17
              replace E7 : Hid _ := E7.out.below hb17
              replace hbw := Below.on hbw hb17
              clear hb17
              obtain ⟨ccell0, ccell1, ccell2, ccell3, ccell4, ccell5, fcell0, fcell1, fcell2, fcell3, fcell4, fcell5⟩ := Xcell.out
              have hnecell : gcell < v17.heap.size := World.block_lt_of_cell? v17 _ ccell0
              go_wp2_with fail
              clear ccell0 ccell1 ccell2 ccell3 ccell4 ccell5 fcell0 fcell1 fcell2 fcell3 fcell4 fcell5 hnecell
              go_ret
              exact ⟨rfl, Below.on hbw (below1 _ _)⟩
            · have hun : up = 2139095040 := by rw [hu]; assumption
              have kb : bits BinOp.and IntKind.u64 2139095040 9223372036854775807 = 2139095040 := by decide
              clear hS hI hu
              subst hun
              refine (cell_x HJN.out 2139095040 HNF.out.1 HUX.out _).mono ?_
              rintro e v17 ⟨rfl, hb17⟩
              replace Xcell : Hid _ := Xcell.out.below hb17
              replace Xsm : Hid (B1q v17 gsm (.bool false)) := Xsm.out.below hb17
              replace Xu : Hid _ := Xu.out.below hb17
              replace Xv : Hid _ := Xv.out.below hb17
              replace D7 : Hid _ := D7.out.below hb17
              replace E7 : Hid _ := E7.out.below hb17
              replace hbw := Below.on hbw hb17
              clear hb17
              obtain ⟨ccell0, ccell1, ccell2, ccell3, ccell4, ccell5, fcell0, fcell1, fcell2, fcell3, fcell4, fcell5⟩ := Xcell.out
              have hnecell : gcell < v17.heap.size := World.block_lt_of_cell? v17 _ ccell0
              go_wp2_with fail
              clear ccell0 ccell1 ccell2 ccell3 ccell4 ccell5 fcell0 fcell1 fcell2 fcell3 fcell4 fcell5 hnecell
              go_ret
              exact ⟨rfl, Below.on hbw (below1 _ _)⟩
            · have hun : up = 9223372036854775808 := by rw [hu]; assumption
              have kb : bits BinOp.and IntKind.u64 9223372036854775808 9223372036854775807 = 0 := by decide
              clear hS hI hu
              subst hun
              refine (cell_x HJN.out 9223372036854775808 HNF.out.1 HUX.out _).mono ?_
              rintro e v17 ⟨rfl, hb17⟩
              replace Xcell : Hid _ := Xcell.out.below hb17
              replace Xsm : Hid (B1q v17 gsm (.bool false)) := Xsm.out.below hb17
              replace Xu : Hid _ := Xu.out.below hb17
              replace Xv : Hid _ := Xv.out.below hb17
              replace D7 : Hid _ := D7.out.below hb17
              replace E7 : Hid _ := E7.out.below hb17
              replace hbw := Below.on hbw hb17
              clear hb17
              obtain ⟨ccell0, ccell1, ccell2, ccell3, ccell4, ccell5, fcell0, fcell1, fcell2, fcell3, fcell4, fcell5⟩ := Xcell.out
              have hnecell : gcell < v17.heap.size := World.block_lt_of_cell? v17 _ ccell0
              go_wp2_with fail
              clear ccell0 ccell1 ccell2 ccell3 ccell4 ccell5 fcell0 fcell1 fcell2 fcell3 fcell4 fcell5 hnecell
              go_ret
              exact ⟨rfl, Below.on hbw (below1 _ _)⟩
            · have hun : up = 9218868437227405312 := by rw [hu]; assumption
              have kb : bits BinOp.and IntKind.u64 9218868437227405312 9223372036854775807 = 9218868437227405312 := by decide
              clear hS hI hu
              subst hun
              refine (cell_x HJN.out 9218868437227405312 HNF.out.1 HUX.out _).mono ?_
              rintro e v17 ⟨rfl, hb17⟩
              replace Xcell : Hid _ := Xcell.out.below hb17
              replace Xsm : Hid (B1q v17 gsm (.bool false)) := Xsm.out.below hb17
              replace Xu : Hid _ := Xu.out.below hb17
              replace Xv : Hid _ := Xv.out.below hb17
              replace D7 : Hid _ := D7.out.below hb17
              replace E7 : Hid _ := E7.out.below hb17
              replace hbw := Below.on hbw hb17
              clear hb17
              obtain ⟨ccell0, ccell1, ccell2, ccell3, ccell4, ccell5, fcell0, fcell1, fcell2, fcell3, fcell4, fcell5⟩ := Xcell.out
              have hnecell : gcell < v17.heap.size := World.block_lt_of_cell? v17 _ ccell0
              go_wp2_with fail
              clear ccell0 ccell1 ccell2 ccell3 ccell4 ccell5 fcell0 fcell1 fcell2 fcell3 fcell4 fcell5 hnecell
              go_ret
              exact ⟨rfl, Below.on hbw (below1 _ _)⟩
        · have hpx : b % 2 = 0 := of_decide_eq_true HPR.out.symm
          clear HPR
          have HRN : Hid (rnp l sd Be S I y7 f7 = b) := by show rnp l sd Be S I y7 f7 = _; rw [meets_rn HJN.out HB.out HR.out.2 HEU.out HV7.out.2, if_pos hpx]
          have hb0 : b ≠ 0 := fun h => HR.out.1 (by rw [h]; exact Nat.zero_mod _)
          clear hpx hb0
          refine (rnearest HJN.out E7.out (TB.out.below hbw)).mono ?_
          rintro e v10 ⟨rfl, hb10⟩
          rw [HRN.out]
          replace Xcell : Hid _ := Xcell.out.below hb10
          replace Xsm : Hid (B1q v10 gsm (.bool false)) := Xsm.out.below hb10
          replace Xu : Hid _ := Xu.out.below hb10
          replace D7 : Hid _ := D7.out.below hb10
          replace E7 : Hid _ := E7.out.below hb10
          replace hbw := Below.on hbw hb10
          clear hb10
          obtain ⟨cu0, cu1, cu2, fu0, fu1, fu2⟩ := Xu.out
          have hneu : gu < v10.heap.size := World.block_lt_of_cell? v10 _ cu0
          obtain ⟨ccell0, ccell1, ccell2, ccell3, ccell4, ccell5, fcell0, fcell1, fcell2, fcell3, fcell4, fcell5⟩ := Xcell.out
          have hnecell : gcell < v10.heap.size := World.block_lt_of_cell? v10 _ ccell0
          obtain ⟨csm0, fsm0⟩ := Xsm.out
          have hnesm : gsm < v10.heap.size := World.block_lt_of_cell? v10 _ csm0
          go_wp2_with fail
          clear cu0 cu1 cu2 fu0 fu1 fu2 hneu
          clear ccell0 ccell1 ccell2 ccell3 ccell4 ccell5 fcell0 fcell1 fcell2 fcell3 fcell4 fcell5 hnecell
          clear csm0 fsm0 hnesm
          refine (value_v HJN.out.jm.pm HB.out HR.out.2 HVF.out _ (TB.out.below hbw)).mono ?_
          rintro e0 v11 ⟨v, rfl, hv, hb11⟩
          obtain ⟨s11, p11, m11, rfl, hd11⟩ := hv.dn HVF.out.fm
          clear hv
          replace Xcell : Hid _ := Xcell.out.below hb11
          replace Xsm : Hid (B1q v11 gsm (.bool false)) := Xsm.out.below hb11
          replace Xu : Hid _ := Xu.out.below hb11
          replace D7 : Hid _ := D7.out.below hb11
          replace E7 : Hid _ := E7.out.below hb11
          replace hbw := Below.on hbw hb11
          clear hb11
          have D11 : Hid (DN v11 s11 p11 m11 m11 eo zo) := hd11
          clear hd11
          obtain ⟨cu0, cu1, cu2, fu0, fu1, fu2⟩ := Xu.out
          have hneu : gu < v11.heap.size := World.block_lt_of_cell? v11 _ cu0
          obtain ⟨ccell0, ccell1, ccell2, ccell3, ccell4, ccell5, fcell0, fcell1, fcell2, fcell3, fcell4, fcell5⟩ := Xcell.out
          have hnecell : gcell < v11.heap.size := World.block_lt_of_cell? v11 _ ccell0
          obtain ⟨csm0, fsm0⟩ := Xsm.out
          have hnesm : gsm < v11.heap.size := World.block_lt_of_cell? v11 _ csm0
          go_wp2_with fail
          clear cu0 cu1 cu2 fu0 fu1 fu2 hneu
          clear ccell0 ccell1 ccell2 ccell3 ccell4 ccell5 fcell0 fcell1 fcell2 fcell3 fcell4 fcell5 hnecell
          clear csm0 fsm0 hnesm
          have Xv0 : Hid (B3q (v11.alloc (.cells #[.bool s11, .slice p11 m11 m11, .int .i64 eo] 26)) v11.heap.size (.bool s11) (.slice p11 m11 m11) (.int .i64 eo)) := B3q.new v11 _ _ _ _
          have hbn : Below v11.heap.size v11 (v11.alloc (.cells #[.bool s11, .slice p11 m11 m11, .int .i64 eo] 26)) := below1 v11 _
          generalize v11.alloc (.cells #[.bool s11, .slice p11 m11 m11, .int .i64 eo] 26) = Wv at *
          have HGv : Hid (w.heap.size ≤ v11.heap.size) := hbw.size
          replace Xcell : Hid _ := Xcell.out.below hbn
          replace Xsm : Hid (B1q Wv gsm (.bool false)) := Xsm.out.below hbn
          replace Xu : Hid _ := Xu.out.below hbn
          replace D7 : Hid _ := D7.out.below hbn
          replace E7 : Hid _ := E7.out.below hbn
          replace D11 : Hid _ := D11.out.below hbn
          replace hbw := Below.on hbw hbn
          clear hbn
          generalize v11.heap.size = gv at *
          have Xv := Xv0
          clear Xv0
          refine (rnearest HJN.out D11.out (TB.out.below hbw)).mono ?_
          rintro e v12 ⟨rfl, hb12⟩
          rw [rn_own HJN.out HB.out HR.out.1 HR.out.2 (by rcases HVF.out.fm with ⟨_, h⟩ | ⟨_, h, _⟩ <;> omega) HVF.out.v]
          replace Xcell : Hid _ := Xcell.out.below hb12
          replace Xsm : Hid (B1q v12 gsm (.bool false)) := Xsm.out.below hb12
          replace Xu : Hid _ := Xu.out.below hb12
          replace Xv : Hid _ := Xv.out.below hb12
          replace D7 : Hid _ := D7.out.below hb12
          replace E7 : Hid _ := E7.out.below hb12
          replace D11 : Hid _ := D11.out.below hb12
          replace hbw := Below.on hbw hb12
          clear hb12
          clear D11
          obtain ⟨cu0, cu1, cu2, fu0, fu1, fu2⟩ := Xu.out
          have hneu : gu < v12.heap.size := World.block_lt_of_cell? v12 _ cu0
          obtain ⟨ccell0, ccell1, ccell2, ccell3, ccell4, ccell5, fcell0, fcell1, fcell2, fcell3, fcell4, fcell5⟩ := Xcell.out
          have hnecell : gcell < v12.heap.size := World.block_lt_of_cell? v12 _ ccell0
          obtain ⟨csm0, fsm0⟩ := Xsm.out
          have hnesm : gsm < v12.heap.size := World.block_lt_of_cell? v12 _ csm0
          go_wp2_with fail
          clear cu0 cu1 cu2 fu0 fu1 fu2 hneu
          clear ccell0 ccell1 ccell2 ccell3 ccell4 ccell5 fcell0 fcell1 fcell2 fcell3 fcell4 fcell5 hnecell
          clear csm0 fsm0 hnesm
          refine (tdy E7.out D7.out).mono ?_
          rintro e v13 ⟨rfl, hb13⟩
          rw [decide_eq_false (Int.ne_of_gt HLT7.out)]
          replace Xcell : Hid _ := Xcell.out.below hb13
          replace Xsm : Hid (B1q v13 gsm (.bool false)) := Xsm.out.below hb13
          replace Xu : Hid _ := Xu.out.below hb13
          replace Xv : Hid _ := Xv.out.below hb13
          replace D7 : Hid _ := D7.out.below hb13
          replace E7 : Hid _ := E7.out.below hb13
          replace hbw := Below.on hbw hb13
          clear hb13
          obtain ⟨cu0, cu1, cu2, fu0, fu1, fu2⟩ := Xu.out
          have hneu : gu < v13.heap.size := World.block_lt_of_cell? v13 _ cu0
          obtain ⟨ccell0, ccell1, ccell2, ccell3, ccell4, ccell5, fcell0, fcell1, fcell2, fcell3, fcell4, fcell5⟩ := Xcell.out
          have hnecell : gcell < v13.heap.size := World.block_lt_of_cell? v13 _ ccell0
          go_wp2_with fail
          clear cu0 cu1 cu2 fu0 fu1 fu2 hneu
          clear ccell0 ccell1 ccell2 ccell3 ccell4 ccell5 fcell0 fcell1 fcell2 fcell3 fcell4 fcell5 hnecell
          refine (tdy E7.out E7.out).mono ?_
          rintro e v14 ⟨rfl, hb14⟩
          rw [decide_eq_true rfl]
          replace Xcell : Hid _ := Xcell.out.below hb14
          replace Xsm : Hid (B1q v14 gsm (.bool false)) := Xsm.out.below hb14
          replace Xu : Hid _ := Xu.out.below hb14
          replace Xv : Hid _ := Xv.out.below hb14
          replace D7 : Hid _ := D7.out.below hb14
          replace E7 : Hid _ := E7.out.below hb14
          replace hbw := Below.on hbw hb14
          clear hb14
          obtain ⟨cu0, cu1, cu2, fu0, fu1, fu2⟩ := Xu.out
          have hneu : gu < v14.heap.size := World.block_lt_of_cell? v14 _ cu0
          obtain ⟨ccell0, ccell1, ccell2, ccell3, ccell4, ccell5, fcell0, fcell1, fcell2, fcell3, fcell4, fcell5⟩ := Xcell.out
          have hnecell : gcell < v14.heap.size := World.block_lt_of_cell? v14 _ ccell0
          go_wp2_with fail
          clear cu0 cu1 cu2 fu0 fu1 fu2 hneu
          clear ccell0 ccell1 ccell2 ccell3 ccell4 ccell5 fcell0 fcell1 fcell2 fcell3 fcell4 fcell5 hnecell
          refine (HNX.out _).mono ?_
          rintro e v15 ⟨rfl, hb15⟩
          replace Xcell : Hid _ := Xcell.out.below hb15
          replace Xsm : Hid (B1q v15 gsm (.bool false)) := Xsm.out.below hb15
          replace Xu : Hid _ := Xu.out.below hb15
          replace Xv : Hid _ := Xv.out.below hb15
          replace D7 : Hid _ := D7.out.below hb15
          replace E7 : Hid _ := E7.out.below hb15
          replace hbw := Below.on hbw hb15
          clear hb15
          go_wp2_with fail
          refine (HPV.out _).mono ?_
          rintro e v16 ⟨rfl, hb16⟩
          replace Xcell : Hid _ := Xcell.out.below hb16
          replace Xsm : Hid (B1q v16 gsm (.bool false)) := Xsm.out.below hb16
          replace Xu : Hid _ := Xu.out.below hb16
          replace Xv : Hid _ := Xv.out.below hb16
          replace D7 : Hid _ := D7.out.below hb16
          replace E7 : Hid _ := E7.out.below hb16
          replace hbw := Below.on hbw hb16
          clear hb16
          go_wp2_with fail
          by_cases hu : up % S ≠ 0 ∧ up % S < I
          · have HEQ : Hid (cLo H l (decide (S ≤ up)) (up % S) = cHi H l (decide (S ≤ b)) (b % S)) := HNF.out.2.2.2.1 hu.1
            have HUP : Hid (up % S ≠ 0 ∧ up % S < I) := hu
            clear hu
            refine (cell_ok HJN.out up HNF.out.1 HUP.out.1 HUP.out.2 _ (TB.out.below hbw)).mono ?_
            rintro e0 v17 ⟨s17, p17, m17, z17, e17, t17, q17, n17, y17, f17, rfl, hd1, hd2, hv1, hv2, hb17⟩
            have HV17 : Hid (dv z17 e17 = dv y7 f7) := by show dv z17 e17 = dv y7 f7; rw [hv1, HEQ.out, HV7.out.2]
            clear hv1 hv2
            replace Xcell : Hid _ := Xcell.out.below hb17
            replace Xsm : Hid (B1q v17 gsm (.bool false)) := Xsm.out.below hb17
            replace Xu : Hid _ := Xu.out.below hb17
            replace Xv : Hid _ := Xv.out.below hb17
            replace D7 : Hid _ := D7.out.below hb17
            replace E7 : Hid _ := E7.out.below hb17
            replace hbw := Below.on hbw hb17
            clear hb17
            have D17 : Hid (DN v17 s17 p17 m17 m17 e17 z17) := hd1.dn
            clear hd1 hd2
            obtain ⟨ccell0, ccell1, ccell2, ccell3, ccell4, ccell5, fcell0, fcell1, fcell2, fcell3, fcell4, fcell5⟩ := Xcell.out
            have hnecell : gcell < v17.heap.size := World.block_lt_of_cell? v17 _ ccell0
            go_wp2_with fail
            clear ccell0 ccell1 ccell2 ccell3 ccell4 ccell5 fcell0 fcell1 fcell2 fcell3 fcell4 fcell5 hnecell
            have Xnx0 : Hid (B6q (v17.alloc (.cells #[.bool s17, .slice p17 m17 m17, .int .i64 e17, .bool t17, .slice q17 n17 n17, .int .i64 f17] 47)) v17.heap.size (.bool s17) (.slice p17 m17 m17) (.int .i64 e17) (.bool t17) (.slice q17 n17 n17) (.int .i64 f17)) := B6q.new v17 _ _ _ _ _ _ _
            have hbn : Below v17.heap.size v17 (v17.alloc (.cells #[.bool s17, .slice p17 m17 m17, .int .i64 e17, .bool t17, .slice q17 n17 n17, .int .i64 f17] 47)) := below1 v17 _
            generalize v17.alloc (.cells #[.bool s17, .slice p17 m17 m17, .int .i64 e17, .bool t17, .slice q17 n17 n17, .int .i64 f17] 47) = Wn at *
            have HGnx : Hid (w.heap.size ≤ v17.heap.size) := hbw.size
            replace Xcell : Hid _ := Xcell.out.below hbn
            replace Xsm : Hid (B1q Wn gsm (.bool false)) := Xsm.out.below hbn
            replace Xu : Hid _ := Xu.out.below hbn
            replace Xv : Hid _ := Xv.out.below hbn
            replace D7 : Hid _ := D7.out.below hbn
            replace E7 : Hid _ := E7.out.below hbn
            replace D17 : Hid _ := D17.out.below hbn
            replace hbw := Below.on hbw hbn
            clear hbn
            generalize v17.heap.size = gnx at *
            have Xnx := Xnx0
            clear Xnx0
            refine (tdy D17.out E7.out).mono ?_
            rintro e v18 ⟨rfl, hb18⟩
            rw [decide_eq_true HV17.out]
            replace Xcell : Hid _ := Xcell.out.below hb18
            replace Xsm : Hid (B1q v18 gsm (.bool false)) := Xsm.out.below hb18
            replace Xu : Hid _ := Xu.out.below hb18
            replace Xv : Hid _ := Xv.out.below hb18
            replace Xnx : Hid _ := Xnx.out.below hb18
            replace D7 : Hid _ := D7.out.below hb18
            replace E7 : Hid _ := E7.out.below hb18
            replace D17 : Hid _ := D17.out.below hb18
            replace hbw := Below.on hbw hb18
            clear hb18
            go_wp2_with fail
            go_ret
            exact ⟨rfl, hbw⟩
          · have HUX : Hid (up % S = 0 ∨ I ≤ up % S) := by
              by_cases h : up % S = 0
              · exact .inl h
              · exact .inr (Nat.le_of_not_lt fun h2 => hu ⟨h, h2⟩)
            clear hu
            have hus := up_edge HJN.out.jm.pm.fm HB.out HR.out.1 HR.out.2 HUPE.out HUX.out
            rcases HLT.out.num with ⟨hS, hI⟩ | ⟨hS, hI⟩ <;> rcases hus with hu | hu
            · have hun : up = 2147483648 := by rw [hu]; assumption
              have kb : bits BinOp.and IntKind.u64 2147483648 9223372036854775807 = 2147483648 := by decide
              clear hS hI hu
              subst hun
              refine (cell_x HJN.out 2147483648 HNF.out.1 HUX.out _).mono ?_
              rintro e v17 ⟨rfl, hb17⟩
              replace Xcell : Hid _ := Xcell.out.below hb17
              replace Xsm : Hid (B1q v17 gsm (.bool false)) := Xsm.out.below hb17
              replace Xu : Hid _ := Xu.out.below hb17
              replace Xv : Hid _ := Xv.out.below hb17
              replace D7 : Hid _ := D7.out.below hb17
              replace E7 : Hid _ := E7.out.below hb17
              replace hbw := Below.on hbw hb17
              clear hb17
              obtain ⟨ccell0, ccell1, ccell2, ccell3, ccell4, ccell5, fcell0, fcell1, fcell2, fcell3, fcell4, fcell5⟩ := Xcell.out
              have hnecell : gcell < v17.heap.size := World.block_lt_of_cell? v17 _ ccell0
              go_wp2_with fail
              clear ccell0 ccell1 ccell2 ccell3 ccell4 ccell5 fcell0 fcell1 fcell2 fcell3 fcell4 fcell5 hnecell
              go_ret
              exact ⟨rfl, Below.on hbw (below1 _ _)⟩
            · have hun : up = 2139095040 := by rw [hu]; assumption
              have kb : bits BinOp.and IntKind.u64 2139095040 9223372036854775807 = 2139095040 := by decide
              clear hS hI hu
              subst hun
              refine (cell_x HJN.out 2139095040 HNF.out.1 HUX.out _).mono ?_
              rintro e v17 ⟨rfl, hb17⟩
              replace Xcell : Hid _ := Xcell.out.below hb17
              replace Xsm : Hid (B1q v17 gsm (.bool false)) := Xsm.out.below hb17
              replace Xu : Hid _ := Xu.out.below hb17
              replace Xv : Hid _ := Xv.out.below hb17
              replace D7 : Hid _ := D7.out.below hb17
              replace E7 : Hid _ := E7.out.below hb17
              replace hbw := Below.on hbw hb17
              clear hb17
              obtain ⟨ccell0, ccell1, ccell2, ccell3, ccell4, ccell5, fcell0, fcell1, fcell2, fcell3, fcell4, fcell5⟩ := Xcell.out
              have hnecell : gcell < v17.heap.size := World.block_lt_of_cell? v17 _ ccell0
              go_wp2_with fail
              clear ccell0 ccell1 ccell2 ccell3 ccell4 ccell5 fcell0 fcell1 fcell2 fcell3 fcell4 fcell5 hnecell
              go_ret
              exact ⟨rfl, Below.on hbw (below1 _ _)⟩
            · have hun : up = 9223372036854775808 := by rw [hu]; assumption
              have kb : bits BinOp.and IntKind.u64 9223372036854775808 9223372036854775807 = 0 := by decide
              clear hS hI hu
              subst hun
              refine (cell_x HJN.out 9223372036854775808 HNF.out.1 HUX.out _).mono ?_
              rintro e v17 ⟨rfl, hb17⟩
              replace Xcell : Hid _ := Xcell.out.below hb17
              replace Xsm : Hid (B1q v17 gsm (.bool false)) := Xsm.out.below hb17
              replace Xu : Hid _ := Xu.out.below hb17
              replace Xv : Hid _ := Xv.out.below hb17
              replace D7 : Hid _ := D7.out.below hb17
              replace E7 : Hid _ := E7.out.below hb17
              replace hbw := Below.on hbw hb17
              clear hb17
              obtain ⟨ccell0, ccell1, ccell2, ccell3, ccell4, ccell5, fcell0, fcell1, fcell2, fcell3, fcell4, fcell5⟩ := Xcell.out
              have hnecell : gcell < v17.heap.size := World.block_lt_of_cell? v17 _ ccell0
              go_wp2_with fail
              clear ccell0 ccell1 ccell2 ccell3 ccell4 ccell5 fcell0 fcell1 fcell2 fcell3 fcell4 fcell5 hnecell
              go_ret
              exact ⟨rfl, Below.on hbw (below1 _ _)⟩
            · have hun : up = 9218868437227405312 := by rw [hu]; assumption
              have kb : bits BinOp.and IntKind.u64 9218868437227405312 9223372036854775807 = 9218868437227405312 := by decide
              clear hS hI hu
              subst hun
              refine (cell_x HJN.out 9218868437227405312 HNF.out.1 HUX.out _).mono ?_
              rintro e v17 ⟨rfl, hb17⟩
              replace Xcell : Hid _ := Xcell.out.below hb17
              replace Xsm : Hid (B1q v17 gsm (.bool false)) := Xsm.out.below hb17
              replace Xu : Hid _ := Xu.out.below hb17
              replace Xv : Hid _ := Xv.out.below hb17
              replace D7 : Hid _ := D7.out.below hb17
              replace E7 : Hid _ := E7.out.below hb17
              replace hbw := Below.on hbw hb17
              clear hb17
              obtain ⟨ccell0, ccell1, ccell2, ccell3, ccell4, ccell5, fcell0, fcell1, fcell2, fcell3, fcell4, fcell5⟩ := Xcell.out
              have hnecell : gcell < v17.heap.size := World.block_lt_of_cell? v17 _ ccell0
              go_wp2_with fail
              clear ccell0 ccell1 ccell2 ccell3 ccell4 ccell5 fcell0 fcell1 fcell2 fcell3 fcell4 fcell5 hnecell
              go_ret
              exact ⟨rfl, Below.on hbw (below1 _ _)⟩
      · refine (sbet_n D7.out E7.out HDB.out.1.1 HDB.out.2.1 HDB.out.1.2 HDB.out.2.2 HLT7.out i HI.out (TB.out.below hbw) hi5).mono ?_
        rintro e0 v8 ⟨s8, p8, m8, t8, q8, n8, s9, p9, m9, zu, eu, rfl, hdu, hdv, hb8⟩
        replace Xcell : Hid _ := Xcell.out.below hb8
        replace Xsm : Hid (B1q v8 gsm (.bool false)) := Xsm.out.below hb8
        replace D7 : Hid _ := D7.out.below hb8
        replace E7 : Hid _ := E7.out.below hb8
        replace hbw := Below.on hbw hb8
        clear hb8
        have U8 : Hid (DN v8 s9 p9 m9 m9 eu zu) := hdu
        clear hdu
        by_cases hi0 : i = 0
        · have HU : Hid (dv zu eu = dv z7 e7) := by show dv zu eu = dv z7 e7; rw [hi0] at hdv; rw [show ((0 : Nat) : Int) = 0 from rfl, Int.zero_mul] at hdv; omega
          clear hi5 hi0 hdv
          obtain ⟨ccell0, ccell1, ccell2, ccell3, ccell4, ccell5, fcell0, fcell1, fcell2, fcell3, fcell4, fcell5⟩ := Xcell.out
          have hnecell : gcell < v8.heap.size := World.block_lt_of_cell? v8 _ ccell0
          obtain ⟨csm0, fsm0⟩ := Xsm.out
          have hnesm : gsm < v8.heap.size := World.block_lt_of_cell? v8 _ csm0
          go_wp2_with fail
          clear ccell0 ccell1 ccell2 ccell3 ccell4 ccell5 fcell0 fcell1 fcell2 fcell3 fcell4 fcell5 hnecell
          clear csm0 fsm0 hnesm
          rw [show v8.heap.size + 1 = (v8.alloc (.cells #[.bool s8, .slice p8 m8 m8, .int .i64 e7, .bool t8, .slice q8 n8 n8, .int .i64 f7] 47)).heap.size from by simp]
          have Xbl0 : Hid (B6q (v8.alloc (.cells #[.bool s8, .slice p8 m8 m8, .int .i64 e7, .bool t8, .slice q8 n8 n8, .int .i64 f7] 47)) v8.heap.size (.bool s8) (.slice p8 m8 m8) (.int .i64 e7) (.bool t8) (.slice q8 n8 n8) (.int .i64 f7)) := B6q.new v8 _ _ _ _ _ _ _
          have hbn : Below v8.heap.size v8 (v8.alloc (.cells #[.bool s8, .slice p8 m8 m8, .int .i64 e7, .bool t8, .slice q8 n8 n8, .int .i64 f7] 47)) := below1 v8 _
          generalize v8.alloc (.cells #[.bool s8, .slice p8 m8 m8, .int .i64 e7, .bool t8, .slice q8 n8 n8, .int .i64 f7] 47) = Wb at *
          have HGbl : Hid (w.heap.size ≤ v8.heap.size) := hbw.size
          replace Xcell : Hid _ := Xcell.out.below hbn
          replace Xsm : Hid (B1q Wb gsm (.bool false)) := Xsm.out.below hbn
          replace D7 : Hid _ := D7.out.below hbn
          replace E7 : Hid _ := E7.out.below hbn
          replace U8 : Hid _ := U8.out.below hbn
          replace hbw := Below.on hbw hbn
          clear hbn
          generalize v8.heap.size = gbl at *
          have Xbl := Xbl0
          clear Xbl0
          clear Xbl
          have Xu0 : Hid (B3q (Wb.alloc (.cells #[.bool s9, .slice p9 m9 m9, .int .i64 eu] 26)) Wb.heap.size (.bool s9) (.slice p9 m9 m9) (.int .i64 eu)) := B3q.new Wb _ _ _ _
          have hbn : Below Wb.heap.size Wb (Wb.alloc (.cells #[.bool s9, .slice p9 m9 m9, .int .i64 eu] 26)) := below1 Wb _
          generalize Wb.alloc (.cells #[.bool s9, .slice p9 m9 m9, .int .i64 eu] 26) = Wu at *
          have HGu : Hid (w.heap.size ≤ Wb.heap.size) := hbw.size
          replace Xcell : Hid _ := Xcell.out.below hbn
          replace Xsm : Hid (B1q Wu gsm (.bool false)) := Xsm.out.below hbn
          replace D7 : Hid _ := D7.out.below hbn
          replace E7 : Hid _ := E7.out.below hbn
          replace U8 : Hid _ := U8.out.below hbn
          replace hbw := Below.on hbw hbn
          clear hbn
          generalize Wb.heap.size = gu at *
          have Xu := Xu0
          clear Xu0
          have HEU : Hid (-4194304 ≤ eu) := by rcases U8.out.fm with ⟨_, h⟩ | ⟨_, h, _⟩ <;> (show _ ≤ _) <;> omega
          cases pr
          · have hpx : ¬ b % 2 = 0 := of_decide_eq_false HPR.out.symm
            clear HPR
            have HRN : Hid (rnp l sd Be S I zu eu = (if S ≤ b then b + 1 else b - 1)) := by show rnp l sd Be S I zu eu = _; rw [rn_low HJN.out HB.out HR.out.2 HEU.out (HU.out.trans HV7.out.1), if_neg hpx]
            have hb0 : b ≠ 0 := fun h => HR.out.1 (by rw [h]; exact Nat.zero_mod _)
            obtain ⟨rr, hrr⟩ : ∃ rr, rr = (if S ≤ b then b + 1 else b - 1) := ⟨_, rfl⟩
            have hne : rr ≠ b := by rw [hrr]; split <;> omega
            rw [← hrr] at HRN
            have kd1 : ((rr : Int) == (b : Int)) = false := by simp; omega
            have kd2 : ((rr : Int) != (b : Int)) = true := by simp; omega
            clear hrr hne
            clear hpx hb0
            refine (rnearest HJN.out U8.out (TB.out.below hbw)).mono ?_
            rintro e v10 ⟨rfl, hb10⟩
            rw [HRN.out]
            replace Xcell : Hid _ := Xcell.out.below hb10
            replace Xsm : Hid (B1q v10 gsm (.bool false)) := Xsm.out.below hb10
            replace Xu : Hid _ := Xu.out.below hb10
            replace D7 : Hid _ := D7.out.below hb10
            replace E7 : Hid _ := E7.out.below hb10
            replace U8 : Hid _ := U8.out.below hb10
            replace hbw := Below.on hbw hb10
            clear hb10
            obtain ⟨cu0, cu1, cu2, fu0, fu1, fu2⟩ := Xu.out
            have hneu : gu < v10.heap.size := World.block_lt_of_cell? v10 _ cu0
            obtain ⟨ccell0, ccell1, ccell2, ccell3, ccell4, ccell5, fcell0, fcell1, fcell2, fcell3, fcell4, fcell5⟩ := Xcell.out
            have hnecell : gcell < v10.heap.size := World.block_lt_of_cell? v10 _ ccell0
            obtain ⟨csm0, fsm0⟩ := Xsm.out
            have hnesm : gsm < v10.heap.size := World.block_lt_of_cell? v10 _ csm0
            go_wp2_with fail
            clear cu0 cu1 cu2 fu0 fu1 fu2 hneu
            clear ccell0 ccell1 ccell2 ccell3 ccell4 ccell5 fcell0 fcell1 fcell2 fcell3 fcell4 fcell5 hnecell
            clear csm0 fsm0 hnesm
            refine (value_v HJN.out.jm.pm HB.out HR.out.2 HVF.out _ (TB.out.below hbw)).mono ?_
            rintro e0 v11 ⟨v, rfl, hv, hb11⟩
            obtain ⟨s11, p11, m11, rfl, hd11⟩ := hv.dn HVF.out.fm
            clear hv
            replace Xcell : Hid _ := Xcell.out.below hb11
            replace Xsm : Hid (B1q v11 gsm (.bool false)) := Xsm.out.below hb11
            replace Xu : Hid _ := Xu.out.below hb11
            replace D7 : Hid _ := D7.out.below hb11
            replace E7 : Hid _ := E7.out.below hb11
            replace U8 : Hid _ := U8.out.below hb11
            replace hbw := Below.on hbw hb11
            clear hb11
            have D11 : Hid (DN v11 s11 p11 m11 m11 eo zo) := hd11
            clear hd11
            obtain ⟨cu0, cu1, cu2, fu0, fu1, fu2⟩ := Xu.out
            have hneu : gu < v11.heap.size := World.block_lt_of_cell? v11 _ cu0
            obtain ⟨ccell0, ccell1, ccell2, ccell3, ccell4, ccell5, fcell0, fcell1, fcell2, fcell3, fcell4, fcell5⟩ := Xcell.out
            have hnecell : gcell < v11.heap.size := World.block_lt_of_cell? v11 _ ccell0
            obtain ⟨csm0, fsm0⟩ := Xsm.out
            have hnesm : gsm < v11.heap.size := World.block_lt_of_cell? v11 _ csm0
            go_wp2_with fail
            clear cu0 cu1 cu2 fu0 fu1 fu2 hneu
            clear ccell0 ccell1 ccell2 ccell3 ccell4 ccell5 fcell0 fcell1 fcell2 fcell3 fcell4 fcell5 hnecell
            clear csm0 fsm0 hnesm
            have Xv0 : Hid (B3q (v11.alloc (.cells #[.bool s11, .slice p11 m11 m11, .int .i64 eo] 26)) v11.heap.size (.bool s11) (.slice p11 m11 m11) (.int .i64 eo)) := B3q.new v11 _ _ _ _
            have hbn : Below v11.heap.size v11 (v11.alloc (.cells #[.bool s11, .slice p11 m11 m11, .int .i64 eo] 26)) := below1 v11 _
            generalize v11.alloc (.cells #[.bool s11, .slice p11 m11 m11, .int .i64 eo] 26) = Wv at *
            have HGv : Hid (w.heap.size ≤ v11.heap.size) := hbw.size
            replace Xcell : Hid _ := Xcell.out.below hbn
            replace Xsm : Hid (B1q Wv gsm (.bool false)) := Xsm.out.below hbn
            replace Xu : Hid _ := Xu.out.below hbn
            replace D7 : Hid _ := D7.out.below hbn
            replace E7 : Hid _ := E7.out.below hbn
            replace U8 : Hid _ := U8.out.below hbn
            replace D11 : Hid _ := D11.out.below hbn
            replace hbw := Below.on hbw hbn
            clear hbn
            generalize v11.heap.size = gv at *
            have Xv := Xv0
            clear Xv0
            refine (rnearest HJN.out D11.out (TB.out.below hbw)).mono ?_
            rintro e v12 ⟨rfl, hb12⟩
            rw [rn_own HJN.out HB.out HR.out.1 HR.out.2 (by rcases HVF.out.fm with ⟨_, h⟩ | ⟨_, h, _⟩ <;> omega) HVF.out.v]
            replace Xcell : Hid _ := Xcell.out.below hb12
            replace Xsm : Hid (B1q v12 gsm (.bool false)) := Xsm.out.below hb12
            replace Xu : Hid _ := Xu.out.below hb12
            replace Xv : Hid _ := Xv.out.below hb12
            replace D7 : Hid _ := D7.out.below hb12
            replace E7 : Hid _ := E7.out.below hb12
            replace U8 : Hid _ := U8.out.below hb12
            replace D11 : Hid _ := D11.out.below hb12
            replace hbw := Below.on hbw hb12
            clear hb12
            clear D11
            obtain ⟨cu0, cu1, cu2, fu0, fu1, fu2⟩ := Xu.out
            have hneu : gu < v12.heap.size := World.block_lt_of_cell? v12 _ cu0
            obtain ⟨ccell0, ccell1, ccell2, ccell3, ccell4, ccell5, fcell0, fcell1, fcell2, fcell3, fcell4, fcell5⟩ := Xcell.out
            have hnecell : gcell < v12.heap.size := World.block_lt_of_cell? v12 _ ccell0
            obtain ⟨csm0, fsm0⟩ := Xsm.out
            have hnesm : gsm < v12.heap.size := World.block_lt_of_cell? v12 _ csm0
            go_wp2_with fail
            clear cu0 cu1 cu2 fu0 fu1 fu2 hneu
            clear ccell0 ccell1 ccell2 ccell3 ccell4 ccell5 fcell0 fcell1 fcell2 fcell3 fcell4 fcell5 hnecell
            clear csm0 fsm0 hnesm
            refine (tdy U8.out D7.out).mono ?_
            rintro e v13 ⟨rfl, hb13⟩
            rw [decide_eq_true HU.out]
            replace Xcell : Hid _ := Xcell.out.below hb13
            replace Xsm : Hid (B1q v13 gsm (.bool false)) := Xsm.out.below hb13
            replace Xu : Hid _ := Xu.out.below hb13
            replace Xv : Hid _ := Xv.out.below hb13
            replace D7 : Hid _ := D7.out.below hb13
            replace E7 : Hid _ := E7.out.below hb13
            replace U8 : Hid _ := U8.out.below hb13
            replace hbw := Below.on hbw hb13
            clear hb13
            obtain ⟨cu0, cu1, cu2, fu0, fu1, fu2⟩ := Xu.out
            have hneu : gu < v13.heap.size := World.block_lt_of_cell? v13 _ cu0
            obtain ⟨ccell0, ccell1, ccell2, ccell3, ccell4, ccell5, fcell0, fcell1, fcell2, fcell3, fcell4, fcell5⟩ := Xcell.out
            have hnecell : gcell < v13.heap.size := World.block_lt_of_cell? v13 _ ccell0
            go_wp2_with fail
            clear cu0 cu1 cu2 fu0 fu1 fu2 hneu
            clear ccell0 ccell1 ccell2 ccell3 ccell4 ccell5 fcell0 fcell1 fcell2 fcell3 fcell4 fcell5 hnecell
            refine (HNX.out _).mono ?_
            rintro e v15 ⟨rfl, hb15⟩
            replace Xcell : Hid _ := Xcell.out.below hb15
            replace Xsm : Hid (B1q v15 gsm (.bool false)) := Xsm.out.below hb15
            replace Xu : Hid _ := Xu.out.below hb15
            replace Xv : Hid _ := Xv.out.below hb15
            replace D7 : Hid _ := D7.out.below hb15
            replace E7 : Hid _ := E7.out.below hb15
            replace U8 : Hid _ := U8.out.below hb15
            replace hbw := Below.on hbw hb15
            clear hb15
            go_wp2_with fail
            refine (HPV.out _).mono ?_
            rintro e v16 ⟨rfl, hb16⟩
            replace Xcell : Hid _ := Xcell.out.below hb16
            replace Xsm : Hid (B1q v16 gsm (.bool false)) := Xsm.out.below hb16
            replace Xu : Hid _ := Xu.out.below hb16
            replace Xv : Hid _ := Xv.out.below hb16
            replace D7 : Hid _ := D7.out.below hb16
            replace E7 : Hid _ := E7.out.below hb16
            replace U8 : Hid _ := U8.out.below hb16
            replace hbw := Below.on hbw hb16
            clear hb16
            go_wp2_with fail
            by_cases hu : up % S ≠ 0 ∧ up % S < I
            · have HEQ : Hid (cLo H l (decide (S ≤ up)) (up % S) = cHi H l (decide (S ≤ b)) (b % S)) := HNF.out.2.2.2.1 hu.1
              have HUP : Hid (up % S ≠ 0 ∧ up % S < I) := hu
              clear hu
              refine (cell_ok HJN.out up HNF.out.1 HUP.out.1 HUP.out.2 _ (TB.out.below hbw)).mono ?_
              rintro e0 v17 ⟨s17, p17, m17, z17, e17, t17, q17, n17, y17, f17, rfl, hd1, hd2, hv1, hv2, hb17⟩
              have HV17 : Hid (dv z17 e17 = dv y7 f7) := by show dv z17 e17 = dv y7 f7; rw [hv1, HEQ.out, HV7.out.2]
              clear hv1 hv2
              replace Xcell : Hid _ := Xcell.out.below hb17
              replace Xsm : Hid (B1q v17 gsm (.bool false)) := Xsm.out.below hb17
              replace Xu : Hid _ := Xu.out.below hb17
              replace Xv : Hid _ := Xv.out.below hb17
              replace D7 : Hid _ := D7.out.below hb17
              replace E7 : Hid _ := E7.out.below hb17
              replace U8 : Hid _ := U8.out.below hb17
              replace hbw := Below.on hbw hb17
              clear hb17
              have D17 : Hid (DN v17 s17 p17 m17 m17 e17 z17) := hd1.dn
              clear hd1 hd2
              obtain ⟨ccell0, ccell1, ccell2, ccell3, ccell4, ccell5, fcell0, fcell1, fcell2, fcell3, fcell4, fcell5⟩ := Xcell.out
              have hnecell : gcell < v17.heap.size := World.block_lt_of_cell? v17 _ ccell0
              go_wp2_with fail
              clear ccell0 ccell1 ccell2 ccell3 ccell4 ccell5 fcell0 fcell1 fcell2 fcell3 fcell4 fcell5 hnecell
              have Xnx0 : Hid (B6q (v17.alloc (.cells #[.bool s17, .slice p17 m17 m17, .int .i64 e17, .bool t17, .slice q17 n17 n17, .int .i64 f17] 47)) v17.heap.size (.bool s17) (.slice p17 m17 m17) (.int .i64 e17) (.bool t17) (.slice q17 n17 n17) (.int .i64 f17)) := B6q.new v17 _ _ _ _ _ _ _
              have hbn : Below v17.heap.size v17 (v17.alloc (.cells #[.bool s17, .slice p17 m17 m17, .int .i64 e17, .bool t17, .slice q17 n17 n17, .int .i64 f17] 47)) := below1 v17 _
              generalize v17.alloc (.cells #[.bool s17, .slice p17 m17 m17, .int .i64 e17, .bool t17, .slice q17 n17 n17, .int .i64 f17] 47) = Wn at *
              have HGnx : Hid (w.heap.size ≤ v17.heap.size) := hbw.size
              replace Xcell : Hid _ := Xcell.out.below hbn
              replace Xsm : Hid (B1q Wn gsm (.bool false)) := Xsm.out.below hbn
              replace Xu : Hid _ := Xu.out.below hbn
              replace Xv : Hid _ := Xv.out.below hbn
              replace D7 : Hid _ := D7.out.below hbn
              replace E7 : Hid _ := E7.out.below hbn
              replace U8 : Hid _ := U8.out.below hbn
              replace D17 : Hid _ := D17.out.below hbn
              replace hbw := Below.on hbw hbn
              clear hbn
              generalize v17.heap.size = gnx at *
              have Xnx := Xnx0
              clear Xnx0
              refine (tdy D17.out E7.out).mono ?_
              rintro e v18 ⟨rfl, hb18⟩
              rw [decide_eq_true HV17.out]
              replace Xcell : Hid _ := Xcell.out.below hb18
              replace Xsm : Hid (B1q v18 gsm (.bool false)) := Xsm.out.below hb18
              replace Xu : Hid _ := Xu.out.below hb18
              replace Xv : Hid _ := Xv.out.below hb18
              replace Xnx : Hid _ := Xnx.out.below hb18
              replace D7 : Hid _ := D7.out.below hb18
              replace E7 : Hid _ := E7.out.below hb18
              replace U8 : Hid _ := U8.out.below hb18
              replace D17 : Hid _ := D17.out.below hb18
              replace hbw := Below.on hbw hb18
              clear hb18
              go_wp2_with fail
              go_ret
              exact ⟨rfl, hbw⟩
            · have HUX : Hid (up % S = 0 ∨ I ≤ up % S) := by
                by_cases h : up % S = 0
                · exact .inl h
                · exact .inr (Nat.le_of_not_lt fun h2 => hu ⟨h, h2⟩)
              clear hu
              have hus := up_edge HJN.out.jm.pm.fm HB.out HR.out.1 HR.out.2 HUPE.out HUX.out
              rcases HLT.out.num with ⟨hS, hI⟩ | ⟨hS, hI⟩ <;> rcases hus with hu | hu
              · have hun : up = 2147483648 := by rw [hu]; assumption
                have kb : bits BinOp.and IntKind.u64 2147483648 9223372036854775807 = 2147483648 := by decide
                clear hS hI hu
                subst hun
                refine (cell_x HJN.out 2147483648 HNF.out.1 HUX.out _).mono ?_
                rintro e v17 ⟨rfl, hb17⟩
                replace Xcell : Hid _ := Xcell.out.below hb17
                replace Xsm : Hid (B1q v17 gsm (.bool false)) := Xsm.out.below hb17
                replace Xu : Hid _ := Xu.out.below hb17
                replace Xv : Hid _ := Xv.out.below hb17
                replace D7 : Hid _ := D7.out.below hb17
                replace E7 : Hid _ := E7.out.below hb17
                replace U8 : Hid _ := U8.out.below hb17
                replace hbw := Below.on hbw hb17
                clear hb17
                obtain ⟨ccell0, ccell1, ccell2, ccell3, ccell4, ccell5, fcell0, fcell1, fcell2, fcell3, fcell4, fcell5⟩ := Xcell.out
                have hnecell : gcell < v17.heap.size := World.block_lt_of_cell? v17 _ ccell0
                go_wp2_with fail
                clear ccell0 ccell1 ccell2 ccell3 ccell4 ccell5 fcell0 fcell1 fcell2 fcell3 fcell4 fcell5 hnecell
                go_ret
                exact ⟨rfl, Below.on hbw (below1 _ _)⟩
              · have hun : up = 2139095040 := by rw [hu]; assumption
                have kb : bits BinOp.and IntKind.u64 2139095040 9223372036854775807 = 2139095040 := by decide
                clear hS hI hu
                subst hun
                refine (cell_x HJN.out 2139095040 HNF.out.1 HUX.out _).mono ?_
                rintro e v17 ⟨rfl, hb17⟩
                replace Xcell : Hid _ := Xcell.out.below hb17
                replace Xsm : Hid (B1q v17 gsm (.bool false)) := Xsm.out.below hb17
                replace Xu : Hid _ := Xu.out.below hb17
                replace Xv : Hid _ := Xv.out.below hb17
                replace D7 : Hid _ := D7.out.below hb17
                replace E7 : Hid _ := E7.out.below hb17
                replace U8 : Hid _ := U8.out.below hb17
                replace hbw := Below.on hbw hb17
                clear hb17
                obtain ⟨ccell0, ccell1, ccell2, ccell3, ccell4, ccell5, fcell0, fcell1, fcell2, fcell3, fcell4, fcell5⟩ := Xcell.out
                have hnecell : gcell < v17.heap.size := World.block_lt_of_cell? v17 _ ccell0
                go_wp2_with fail
                clear ccell0 ccell1 ccell2 ccell3 ccell4 ccell5 fcell0 fcell1 fcell2 fcell3 fcell4 fcell5 hnecell
                go_ret
                exact ⟨rfl, Below.on hbw (below1 _ _)⟩
              · have hun : up = 9223372036854775808 := by rw [hu]; assumption
                have kb : bits BinOp.and IntKind.u64 9223372036854775808 9223372036854775807 = 0 := by decide
                clear hS hI hu
                subst hun
                refine (cell_x HJN.out 9223372036854775808 HNF.out.1 HUX.out _).mono ?_
                rintro e v17 ⟨rfl, hb17⟩
                replace Xcell : Hid _ := Xcell.out.below hb17
                replace Xsm : Hid (B1q v17 gsm (.bool false)) := Xsm.out.below hb17
                replace Xu : Hid _ := Xu.out.below hb17
                replace Xv : Hid _ := Xv.out.below hb17
                replace D7 : Hid _ := D7.out.below hb17
                replace E7 : Hid _ := E7.out.below hb17
                replace U8 : Hid _ := U8.out.below hb17
                replace hbw := Below.on hbw hb17
                clear hb17
                obtain ⟨ccell0, ccell1, ccell2, ccell3, ccell4, ccell5, fcell0, fcell1, fcell2, fcell3, fcell4, fcell5⟩ := Xcell.out
                have hnecell : gcell < v17.heap.size := World.block_lt_of_cell? v17 _ ccell0
                go_wp2_with fail
                clear ccell0 ccell1 ccell2 ccell3 ccell4 ccell5 fcell0 fcell1 fcell2 fcell3 fcell4 fcell5 hnecell
                go_ret
                exact ⟨rfl, Below.on hbw (below1 _ _)⟩
              · have hun : up = 9218868437227405312 := by rw [hu]; assumption
                have kb : bits BinOp.and IntKind.u64 9218868437227405312 9223372036854775807 = 9218868437227405312 := by decide
                clear hS hI hu
                subst hun
                refine (cell_x HJN.out 9218868437227405312 HNF.out.1 HUX.out _).mono ?_
                rintro e v17 ⟨rfl, hb17⟩
                replace Xcell : Hid _ := Xcell.out.below hb17
                replace Xsm : Hid (B1q v17 gsm (.bool false)) := Xsm.out.below hb17
                replace Xu : Hid _ := Xu.out.below hb17
                replace Xv : Hid _ := Xv.out.below hb17
                replace D7 : Hid _ := D7.out.below hb17
                replace E7 : Hid _ := E7.out.below hb17
                replace U8 : Hid _ := U8.out.below hb17
                replace hbw := Below.on hbw hb17
                clear hb17
                obtain ⟨ccell0, ccell1, ccell2, ccell3, ccell4, ccell5, fcell0, fcell1, fcell2, fcell3, fcell4, fcell5⟩ := Xcell.out
                have hnecell : gcell < v17.heap.size := World.block_lt_of_cell? v17 _ ccell0
                go_wp2_with fail
                clear ccell0 ccell1 ccell2 ccell3 ccell4 ccell5 fcell0 fcell1 fcell2 fcell3 fcell4 fcell5 hnecell
                go_ret
                exact ⟨rfl, Below.on hbw (below1 _ _)⟩
          · have hpx : b % 2 = 0 := of_decide_eq_true HPR.out.symm
            clear HPR
            have HRN : Hid (rnp l sd Be S I zu eu = b) := by show rnp l sd Be S I zu eu = _; rw [rn_low HJN.out HB.out HR.out.2 HEU.out (HU.out.trans HV7.out.1), if_pos hpx]
            have hb0 : b ≠ 0 := fun h => HR.out.1 (by rw [h]; exact Nat.zero_mod _)
            clear hpx hb0
            refine (rnearest HJN.out U8.out (TB.out.below hbw)).mono ?_
            rintro e v10 ⟨rfl, hb10⟩
            rw [HRN.out]
            replace Xcell : Hid _ := Xcell.out.below hb10
            replace Xsm : Hid (B1q v10 gsm (.bool false)) := Xsm.out.below hb10
            replace Xu : Hid _ := Xu.out.below hb10
            replace D7 : Hid _ := D7.out.below hb10
            replace E7 : Hid _ := E7.out.below hb10
            replace U8 : Hid _ := U8.out.below hb10
            replace hbw := Below.on hbw hb10
            clear hb10
            obtain ⟨cu0, cu1, cu2, fu0, fu1, fu2⟩ := Xu.out
            have hneu : gu < v10.heap.size := World.block_lt_of_cell? v10 _ cu0
            obtain ⟨ccell0, ccell1, ccell2, ccell3, ccell4, ccell5, fcell0, fcell1, fcell2, fcell3, fcell4, fcell5⟩ := Xcell.out
            have hnecell : gcell < v10.heap.size := World.block_lt_of_cell? v10 _ ccell0
            obtain ⟨csm0, fsm0⟩ := Xsm.out
            have hnesm : gsm < v10.heap.size := World.block_lt_of_cell? v10 _ csm0
            go_wp2_with fail
            clear cu0 cu1 cu2 fu0 fu1 fu2 hneu
            clear ccell0 ccell1 ccell2 ccell3 ccell4 ccell5 fcell0 fcell1 fcell2 fcell3 fcell4 fcell5 hnecell
            clear csm0 fsm0 hnesm
            refine (value_v HJN.out.jm.pm HB.out HR.out.2 HVF.out _ (TB.out.below hbw)).mono ?_
            rintro e0 v11 ⟨v, rfl, hv, hb11⟩
            obtain ⟨s11, p11, m11, rfl, hd11⟩ := hv.dn HVF.out.fm
            clear hv
            replace Xcell : Hid _ := Xcell.out.below hb11
            replace Xsm : Hid (B1q v11 gsm (.bool false)) := Xsm.out.below hb11
            replace Xu : Hid _ := Xu.out.below hb11
            replace D7 : Hid _ := D7.out.below hb11
            replace E7 : Hid _ := E7.out.below hb11
            replace U8 : Hid _ := U8.out.below hb11
            replace hbw := Below.on hbw hb11
            clear hb11
            have D11 : Hid (DN v11 s11 p11 m11 m11 eo zo) := hd11
            clear hd11
            obtain ⟨cu0, cu1, cu2, fu0, fu1, fu2⟩ := Xu.out
            have hneu : gu < v11.heap.size := World.block_lt_of_cell? v11 _ cu0
            obtain ⟨ccell0, ccell1, ccell2, ccell3, ccell4, ccell5, fcell0, fcell1, fcell2, fcell3, fcell4, fcell5⟩ := Xcell.out
            have hnecell : gcell < v11.heap.size := World.block_lt_of_cell? v11 _ ccell0
            obtain ⟨csm0, fsm0⟩ := Xsm.out
            have hnesm : gsm < v11.heap.size := World.block_lt_of_cell? v11 _ csm0
            go_wp2_with fail
            clear cu0 cu1 cu2 fu0 fu1 fu2 hneu
            clear ccell0 ccell1 ccell2 ccell3 ccell4 ccell5 fcell0 fcell1 fcell2 fcell3 fcell4 fcell5 hnecell
            clear csm0 fsm0 hnesm
            have Xv0 : Hid (B3q (v11.alloc (.cells #[.bool s11, .slice p11 m11 m11, .int .i64 eo] 26)) v11.heap.size (.bool s11) (.slice p11 m11 m11) (.int .i64 eo)) := B3q.new v11 _ _ _ _
            have hbn : Below v11.heap.size v11 (v11.alloc (.cells #[.bool s11, .slice p11 m11 m11, .int .i64 eo] 26)) := below1 v11 _
            generalize v11.alloc (.cells #[.bool s11, .slice p11 m11 m11, .int .i64 eo] 26) = Wv at *
            have HGv : Hid (w.heap.size ≤ v11.heap.size) := hbw.size
            replace Xcell : Hid _ := Xcell.out.below hbn
            replace Xsm : Hid (B1q Wv gsm (.bool false)) := Xsm.out.below hbn
            replace Xu : Hid _ := Xu.out.below hbn
            replace D7 : Hid _ := D7.out.below hbn
            replace E7 : Hid _ := E7.out.below hbn
            replace U8 : Hid _ := U8.out.below hbn
            replace D11 : Hid _ := D11.out.below hbn
            replace hbw := Below.on hbw hbn
            clear hbn
            generalize v11.heap.size = gv at *
            have Xv := Xv0
            clear Xv0
            refine (rnearest HJN.out D11.out (TB.out.below hbw)).mono ?_
            rintro e v12 ⟨rfl, hb12⟩
            rw [rn_own HJN.out HB.out HR.out.1 HR.out.2 (by rcases HVF.out.fm with ⟨_, h⟩ | ⟨_, h, _⟩ <;> omega) HVF.out.v]
            replace Xcell : Hid _ := Xcell.out.below hb12
            replace Xsm : Hid (B1q v12 gsm (.bool false)) := Xsm.out.below hb12
            replace Xu : Hid _ := Xu.out.below hb12
            replace Xv : Hid _ := Xv.out.below hb12
            replace D7 : Hid _ := D7.out.below hb12
            replace E7 : Hid _ := E7.out.below hb12
            replace U8 : Hid _ := U8.out.below hb12
            replace D11 : Hid _ := D11.out.below hb12
            replace hbw := Below.on hbw hb12
            clear hb12
            clear D11
            obtain ⟨cu0, cu1, cu2, fu0, fu1, fu2⟩ := Xu.out
            have hneu : gu < v12.heap.size := World.block_lt_of_cell? v12 _ cu0
            obtain ⟨ccell0, ccell1, ccell2, ccell3, ccell4, ccell5, fcell0, fcell1, fcell2, fcell3, fcell4, fcell5⟩ := Xcell.out
            have hnecell : gcell < v12.heap.size := World.block_lt_of_cell? v12 _ ccell0
            obtain ⟨csm0, fsm0⟩ := Xsm.out
            have hnesm : gsm < v12.heap.size := World.block_lt_of_cell? v12 _ csm0
            go_wp2_with fail
            clear cu0 cu1 cu2 fu0 fu1 fu2 hneu
            clear ccell0 ccell1 ccell2 ccell3 ccell4 ccell5 fcell0 fcell1 fcell2 fcell3 fcell4 fcell5 hnecell
            clear csm0 fsm0 hnesm
            refine (tdy U8.out D7.out).mono ?_
            rintro e v13 ⟨rfl, hb13⟩
            rw [decide_eq_true HU.out]
            replace Xcell : Hid _ := Xcell.out.below hb13
            replace Xsm : Hid (B1q v13 gsm (.bool false)) := Xsm.out.below hb13
            replace Xu : Hid _ := Xu.out.below hb13
            replace Xv : Hid _ := Xv.out.below hb13
            replace D7 : Hid _ := D7.out.below hb13
            replace E7 : Hid _ := E7.out.below hb13
            replace U8 : Hid _ := U8.out.below hb13
            replace hbw := Below.on hbw hb13
            clear hb13
            obtain ⟨cu0, cu1, cu2, fu0, fu1, fu2⟩ := Xu.out
            have hneu : gu < v13.heap.size := World.block_lt_of_cell? v13 _ cu0
            obtain ⟨ccell0, ccell1, ccell2, ccell3, ccell4, ccell5, fcell0, fcell1, fcell2, fcell3, fcell4, fcell5⟩ := Xcell.out
            have hnecell : gcell < v13.heap.size := World.block_lt_of_cell? v13 _ ccell0
            go_wp2_with fail
            clear cu0 cu1 cu2 fu0 fu1 fu2 hneu
            clear ccell0 ccell1 ccell2 ccell3 ccell4 ccell5 fcell0 fcell1 fcell2 fcell3 fcell4 fcell5 hnecell
            refine (HNX.out _).mono ?_
            rintro e v15 ⟨rfl, hb15⟩
            replace Xcell : Hid _ := Xcell.out.below hb15
            replace Xsm : Hid (B1q v15 gsm (.bool false)) := Xsm.out.below hb15
            replace Xu : Hid _ := Xu.out.below hb15
            replace Xv : Hid _ := Xv.out.below hb15
            replace D7 : Hid _ := D7.out.below hb15
            replace E7 : Hid _ := E7.out.below hb15
            replace U8 : Hid _ := U8.out.below hb15
            replace hbw := Below.on hbw hb15
            clear hb15
            go_wp2_with fail
            refine (HPV.out _).mono ?_
            rintro e v16 ⟨rfl, hb16⟩
            replace Xcell : Hid _ := Xcell.out.below hb16
            replace Xsm : Hid (B1q v16 gsm (.bool false)) := Xsm.out.below hb16
            replace Xu : Hid _ := Xu.out.below hb16
            replace Xv : Hid _ := Xv.out.below hb16
            replace D7 : Hid _ := D7.out.below hb16
            replace E7 : Hid _ := E7.out.below hb16
            replace U8 : Hid _ := U8.out.below hb16
            replace hbw := Below.on hbw hb16
            clear hb16
            go_wp2_with fail
            by_cases hu : up % S ≠ 0 ∧ up % S < I
            · have HEQ : Hid (cLo H l (decide (S ≤ up)) (up % S) = cHi H l (decide (S ≤ b)) (b % S)) := HNF.out.2.2.2.1 hu.1
              have HUP : Hid (up % S ≠ 0 ∧ up % S < I) := hu
              clear hu
              refine (cell_ok HJN.out up HNF.out.1 HUP.out.1 HUP.out.2 _ (TB.out.below hbw)).mono ?_
              rintro e0 v17 ⟨s17, p17, m17, z17, e17, t17, q17, n17, y17, f17, rfl, hd1, hd2, hv1, hv2, hb17⟩
              have HV17 : Hid (dv z17 e17 = dv y7 f7) := by show dv z17 e17 = dv y7 f7; rw [hv1, HEQ.out, HV7.out.2]
              clear hv1 hv2
              replace Xcell : Hid _ := Xcell.out.below hb17
              replace Xsm : Hid (B1q v17 gsm (.bool false)) := Xsm.out.below hb17
              replace Xu : Hid _ := Xu.out.below hb17
              replace Xv : Hid _ := Xv.out.below hb17
              replace D7 : Hid _ := D7.out.below hb17
              replace E7 : Hid _ := E7.out.below hb17
              replace U8 : Hid _ := U8.out.below hb17
              replace hbw := Below.on hbw hb17
              clear hb17
              have D17 : Hid (DN v17 s17 p17 m17 m17 e17 z17) := hd1.dn
              clear hd1 hd2
              obtain ⟨ccell0, ccell1, ccell2, ccell3, ccell4, ccell5, fcell0, fcell1, fcell2, fcell3, fcell4, fcell5⟩ := Xcell.out
              have hnecell : gcell < v17.heap.size := World.block_lt_of_cell? v17 _ ccell0
              go_wp2_with fail
              clear ccell0 ccell1 ccell2 ccell3 ccell4 ccell5 fcell0 fcell1 fcell2 fcell3 fcell4 fcell5 hnecell
              have Xnx0 : Hid (B6q (v17.alloc (.cells #[.bool s17, .slice p17 m17 m17, .int .i64 e17, .bool t17, .slice q17 n17 n17, .int .i64 f17] 47)) v17.heap.size (.bool s17) (.slice p17 m17 m17) (.int .i64 e17) (.bool t17) (.slice q17 n17 n17) (.int .i64 f17)) := B6q.new v17 _ _ _ _ _ _ _
              have hbn : Below v17.heap.size v17 (v17.alloc (.cells #[.bool s17, .slice p17 m17 m17, .int .i64 e17, .bool t17, .slice q17 n17 n17, .int .i64 f17] 47)) := below1 v17 _
              generalize v17.alloc (.cells #[.bool s17, .slice p17 m17 m17, .int .i64 e17, .bool t17, .slice q17 n17 n17, .int .i64 f17] 47) = Wn at *
              have HGnx : Hid (w.heap.size ≤ v17.heap.size) := hbw.size
              replace Xcell : Hid _ := Xcell.out.below hbn
              replace Xsm : Hid (B1q Wn gsm (.bool false)) := Xsm.out.below hbn
              replace Xu : Hid _ := Xu.out.below hbn
              replace Xv : Hid _ := Xv.out.below hbn
              replace D7 : Hid _ := D7.out.below hbn
              replace E7 : Hid _ := E7.out.below hbn
              replace U8 : Hid _ := U8.out.below hbn
              replace D17 : Hid _ := D17.out.below hbn
              replace hbw := Below.on hbw hbn
              clear hbn
              generalize v17.heap.size = gnx at *
              have Xnx := Xnx0
              clear Xnx0
              refine (tdy D17.out E7.out).mono ?_
              rintro e v18 ⟨rfl, hb18⟩
              rw [decide_eq_true HV17.out]
              replace Xcell : Hid _ := Xcell.out.below hb18
              replace Xsm : Hid (B1q v18 gsm (.bool false)) := Xsm.out.below hb18
              replace Xu : Hid _ := Xu.out.below hb18
              replace Xv : Hid _ := Xv.out.below hb18
              replace Xnx : Hid _ := Xnx.out.below hb18
              replace D7 : Hid _ := D7.out.below hb18
              replace E7 : Hid _ := E7.out.below hb18
              replace U8 : Hid _ := U8.out.below hb18
              replace D17 : Hid _ := D17.out.below hb18
              replace hbw := Below.on hbw hb18
              clear hb18
              go_wp2_with fail
              go_ret
              exact ⟨rfl, hbw⟩
            · have HUX : Hid (up % S = 0 ∨ I ≤ up % S) := by
                by_cases h : up % S = 0
                · exact .inl h
                · exact .inr (Nat.le_of_not_lt fun h2 => hu ⟨h, h2⟩)
              clear hu
              have hus := up_edge HJN.out.jm.pm.fm HB.out HR.out.1 HR.out.2 HUPE.out HUX.out
              rcases HLT.out.num with ⟨hS, hI⟩ | ⟨hS, hI⟩ <;> rcases hus with hu | hu
              · have hun : up = 2147483648 := by rw [hu]; assumption
                have kb : bits BinOp.and IntKind.u64 2147483648 9223372036854775807 = 2147483648 := by decide
                clear hS hI hu
                subst hun
                refine (cell_x HJN.out 2147483648 HNF.out.1 HUX.out _).mono ?_
                rintro e v17 ⟨rfl, hb17⟩
                replace Xcell : Hid _ := Xcell.out.below hb17
                replace Xsm : Hid (B1q v17 gsm (.bool false)) := Xsm.out.below hb17
                replace Xu : Hid _ := Xu.out.below hb17
                replace Xv : Hid _ := Xv.out.below hb17
                replace D7 : Hid _ := D7.out.below hb17
                replace E7 : Hid _ := E7.out.below hb17
                replace U8 : Hid _ := U8.out.below hb17
                replace hbw := Below.on hbw hb17
                clear hb17
                obtain ⟨ccell0, ccell1, ccell2, ccell3, ccell4, ccell5, fcell0, fcell1, fcell2, fcell3, fcell4, fcell5⟩ := Xcell.out
                have hnecell : gcell < v17.heap.size := World.block_lt_of_cell? v17 _ ccell0
                go_wp2_with fail
                clear ccell0 ccell1 ccell2 ccell3 ccell4 ccell5 fcell0 fcell1 fcell2 fcell3 fcell4 fcell5 hnecell
                go_ret
                exact ⟨rfl, Below.on hbw (below1 _ _)⟩
              · have hun : up = 2139095040 := by rw [hu]; assumption
                have kb : bits BinOp.and IntKind.u64 2139095040 9223372036854775807 = 2139095040 := by decide
                clear hS hI hu
                subst hun
                refine (cell_x HJN.out 2139095040 HNF.out.1 HUX.out _).mono ?_
                rintro e v17 ⟨rfl, hb17⟩
                replace Xcell : Hid _ := Xcell.out.below hb17
                replace Xsm : Hid (B1q v17 gsm (.bool false)) := Xsm.out.below hb17
                replace Xu : Hid _ := Xu.out.below hb17
                replace Xv : Hid _ := Xv.out.below hb17
                replace D7 : Hid _ := D7.out.below hb17
                replace E7 : Hid _ := E7.out.below hb17
                replace U8 : Hid _ := U8.out.below hb17
                replace hbw := Below.on hbw hb17
                clear hb17
                obtain ⟨ccell0, ccell1, ccell2, ccell3, ccell4, ccell5, fcell0, fcell1, fcell2, fcell3, fcell4, fcell5⟩ := Xcell.out
                have hnecell : gcell < v17.heap.size := World.block_lt_of_cell? v17 _ ccell0
                go_wp2_with fail
                clear ccell0 ccell1 ccell2 ccell3 ccell4 ccell5 fcell0 fcell1 fcell2 fcell3 fcell4 fcell5 hnecell
                go_ret
                exact ⟨rfl, Below.on hbw (below1 _ _)⟩
              · have hun : up = 9223372036854775808 := by rw [hu]; assumption
                have kb : bits BinOp.and IntKind.u64 9223372036854775808 9223372036854775807 = 0 := by decide
                clear hS hI hu
                subst hun
                refine (cell_x HJN.out 9223372036854775808 HNF.out.1 HUX.out _).mono ?_
                rintro e v17 ⟨rfl, hb17⟩
                replace Xcell : Hid _ := Xcell.out.below hb17
                replace Xsm : Hid (B1q v17 gsm (.bool false)) := Xsm.out.below hb17
                replace Xu : Hid _ := Xu.out.below hb17
                replace Xv : Hid _ := Xv.out.below hb17
                replace D7 : Hid _ := D7.out.below hb17
                replace E7 : Hid _ := E7.out.below hb17
                replace U8 : Hid _ := U8.out.below hb17
                replace hbw := Below.on hbw hb17
                clear hb17
                obtain ⟨ccell0, ccell1, ccell2, ccell3, ccell4, ccell5, fcell0, fcell1, fcell2, fcell3, fcell4, fcell5⟩ := Xcell.out
                have hnecell : gcell < v17.heap.size := World.block_lt_of_cell? v17 _ ccell0
                go_wp2_with fail
                clear ccell0 ccell1 ccell2 ccell3 ccell4 ccell5 fcell0 fcell1 fcell2 fcell3 fcell4 fcell5 hnecell
                go_ret
                exact ⟨rfl, Below.on hbw (below1 _ _)⟩
              · have hun : up = 9218868437227405312 := by rw [hu]; assumption
                have kb : bits BinOp.and IntKind.u64 9218868437227405312 9223372036854775807 = 9218868437227405312 := by decide
                clear hS hI hu
                subst hun
                refine (cell_x HJN.out 9218868437227405312 HNF.out.1 HUX.out _).mono ?_
                rintro e v17 ⟨rfl, hb17⟩
                replace Xcell : Hid _ := Xcell.out.below hb17
                replace Xsm : Hid (B1q v17 gsm (.bool false)) := Xsm.out.below hb17
                replace Xu : Hid _ := Xu.out.below hb17
                replace Xv : Hid _ := Xv.out.below hb17
                replace D7 : Hid _ := D7.out.below hb17
                replace E7 : Hid _ := E7.out.below hb17
                replace U8 : Hid _ := U8.out.below hb17
                replace hbw := Below.on hbw hb17
                clear hb17
                obtain ⟨ccell0, ccell1, ccell2, ccell3, ccell4, ccell5, fcell0, fcell1, fcell2, fcell3, fcell4, fcell5⟩ := Xcell.out
                have hnecell : gcell < v17.heap.size := World.block_lt_of_cell? v17 _ ccell0
                go_wp2_with fail
                clear ccell0 ccell1 ccell2 ccell3 ccell4 ccell5 fcell0 fcell1 fcell2 fcell3 fcell4 fcell5 hnecell
                go_ret
                exact ⟨rfl, Below.on hbw (below1 _ _)⟩
        · have HU : Hid (dv z7 e7 < dv zu eu ∧ dv zu eu < dv y7 f7) := by
            have h1 := part_in (D := dv y7 f7 - dv z7 e7) (i := i) (by have := HLT7.out; omega) (by omega) (by have := HI.out; omega)
            exact ⟨by omega, by omega⟩
          clear hi5 hi0 hdv
          obtain ⟨ccell0, ccell1, ccell2, ccell3, ccell4, ccell5, fcell0, fcell1, fcell2, fcell3, fcell4, fcell5⟩ := Xcell.out
          have hnecell : gcell < v8.heap.size := World.block_lt_of_cell? v8 _ ccell0
          obtain ⟨csm0, fsm0⟩ := Xsm.out
          have hnesm : gsm < v8.heap.size := World.block_lt_of_cell? v8 _ csm0
          go_wp2_with fail
          clear ccell0 ccell1 ccell2 ccell3 ccell4 ccell5 fcell0 fcell1 fcell2 fcell3 fcell4 fcell5 hnecell
          clear csm0 fsm0 hnesm
          rw [show v8.heap.size + 1 = (v8.alloc (.cells #[.bool s8, .slice p8 m8 m8, .int .i64 e7, .bool t8, .slice q8 n8 n8, .int .i64 f7] 47)).heap.size from by simp]
          have Xbl0 : Hid (B6q (v8.alloc (.cells #[.bool s8, .slice p8 m8 m8, .int .i64 e7, .bool t8, .slice q8 n8 n8, .int .i64 f7] 47)) v8.heap.size (.bool s8) (.slice p8 m8 m8) (.int .i64 e7) (.bool t8) (.slice q8 n8 n8) (.int .i64 f7)) := B6q.new v8 _ _ _ _ _ _ _
          have hbn : Below v8.heap.size v8 (v8.alloc (.cells #[.bool s8, .slice p8 m8 m8, .int .i64 e7, .bool t8, .slice q8 n8 n8, .int .i64 f7] 47)) := below1 v8 _
          generalize v8.alloc (.cells #[.bool s8, .slice p8 m8 m8, .int .i64 e7, .bool t8, .slice q8 n8 n8, .int .i64 f7] 47) = Wb at *
          have HGbl : Hid (w.heap.size ≤ v8.heap.size) := hbw.size
          replace Xcell : Hid _ := Xcell.out.below hbn
          replace Xsm : Hid (B1q Wb gsm (.bool false)) := Xsm.out.below hbn
          replace D7 : Hid _ := D7.out.below hbn
          replace E7 : Hid _ := E7.out.below hbn
          replace U8 : Hid _ := U8.out.below hbn
          replace hbw := Below.on hbw hbn
          clear hbn
          generalize v8.heap.size = gbl at *
          have Xbl := Xbl0
          clear Xbl0
          clear Xbl
          have Xu0 : Hid (B3q (Wb.alloc (.cells #[.bool s9, .slice p9 m9 m9, .int .i64 eu] 26)) Wb.heap.size (.bool s9) (.slice p9 m9 m9) (.int .i64 eu)) := B3q.new Wb _ _ _ _
          have hbn : Below Wb.heap.size Wb (Wb.alloc (.cells #[.bool s9, .slice p9 m9 m9, .int .i64 eu] 26)) := below1 Wb _
          generalize Wb.alloc (.cells #[.bool s9, .slice p9 m9 m9, .int .i64 eu] 26) = Wu at *
          have HGu : Hid (w.heap.size ≤ Wb.heap.size) := hbw.size
          replace Xcell : Hid _ := Xcell.out.below hbn
          replace Xsm : Hid (B1q Wu gsm (.bool false)) := Xsm.out.below hbn
          replace D7 : Hid _ := D7.out.below hbn
          replace E7 : Hid _ := E7.out.below hbn
          replace U8 : Hid _ := U8.out.below hbn
          replace hbw := Below.on hbw hbn
          clear hbn
          generalize Wb.heap.size = gu at *
          have Xu := Xu0
          clear Xu0
          have HEU : Hid (-4194304 ≤ eu) := by rcases U8.out.fm with ⟨_, h⟩ | ⟨_, h, _⟩ <;> (show _ ≤ _) <;> omega
          refine (rnearest HJN.out U8.out (TB.out.below hbw)).mono ?_
          rintro e v10 ⟨rfl, hb10⟩
          rw [rn_in HJN.out HB.out HR.out.2 HEU.out (by rw [← HV7.out.1]; exact HU.out.1) (by rw [← HV7.out.2]; exact HU.out.2)]
          replace Xcell : Hid _ := Xcell.out.below hb10
          replace Xsm : Hid (B1q v10 gsm (.bool false)) := Xsm.out.below hb10
          replace Xu : Hid _ := Xu.out.below hb10
          replace D7 : Hid _ := D7.out.below hb10
          replace E7 : Hid _ := E7.out.below hb10
          replace U8 : Hid _ := U8.out.below hb10
          replace hbw := Below.on hbw hb10
          clear hb10
          obtain ⟨cu0, cu1, cu2, fu0, fu1, fu2⟩ := Xu.out
          have hneu : gu < v10.heap.size := World.block_lt_of_cell? v10 _ cu0
          obtain ⟨ccell0, ccell1, ccell2, ccell3, ccell4, ccell5, fcell0, fcell1, fcell2, fcell3, fcell4, fcell5⟩ := Xcell.out
          have hnecell : gcell < v10.heap.size := World.block_lt_of_cell? v10 _ ccell0
          obtain ⟨csm0, fsm0⟩ := Xsm.out
          have hnesm : gsm < v10.heap.size := World.block_lt_of_cell? v10 _ csm0
          go_wp2_with fail
          clear cu0 cu1 cu2 fu0 fu1 fu2 hneu
          clear ccell0 ccell1 ccell2 ccell3 ccell4 ccell5 fcell0 fcell1 fcell2 fcell3 fcell4 fcell5 hnecell
          clear csm0 fsm0 hnesm
          refine (value_v HJN.out.jm.pm HB.out HR.out.2 HVF.out _ (TB.out.below hbw)).mono ?_
          rintro e0 v11 ⟨v, rfl, hv, hb11⟩
          obtain ⟨s11, p11, m11, rfl, hd11⟩ := hv.dn HVF.out.fm
          clear hv
          replace Xcell : Hid _ := Xcell.out.below hb11
          replace Xsm : Hid (B1q v11 gsm (.bool false)) := Xsm.out.below hb11
          replace Xu : Hid _ := Xu.out.below hb11
          replace D7 : Hid _ := D7.out.below hb11
          replace E7 : Hid _ := E7.out.below hb11
          replace U8 : Hid _ := U8.out.below hb11
          replace hbw := Below.on hbw hb11
          clear hb11
          have D11 : Hid (DN v11 s11 p11 m11 m11 eo zo) := hd11
          clear hd11
          obtain ⟨cu0, cu1, cu2, fu0, fu1, fu2⟩ := Xu.out
          have hneu : gu < v11.heap.size := World.block_lt_of_cell? v11 _ cu0
          obtain ⟨ccell0, ccell1, ccell2, ccell3, ccell4, ccell5, fcell0, fcell1, fcell2, fcell3, fcell4, fcell5⟩ := Xcell.out
          have hnecell : gcell < v11.heap.size := World.block_lt_of_cell? v11 _ ccell0
          obtain ⟨csm0, fsm0⟩ := Xsm.out
          have hnesm : gsm < v11.heap.size := World.block_lt_of_cell? v11 _ csm0
          go_wp2_with fail
          clear cu0 cu1 cu2 fu0 fu1 fu2 hneu
          clear ccell0 ccell1 ccell2 ccell3 ccell4 ccell5 fcell0 fcell1 fcell2 fcell3 fcell4 fcell5 hnecell
          clear csm0 fsm0 hnesm
          have Xv0 : Hid (B3q (v11.alloc (.cells #[.bool s11, .slice p11 m11 m11, .int .i64 eo] 26)) v11.heap.size (.bool s11) (.slice p11 m11 m11) (.int .i64 eo)) := B3q.new v11 _ _ _ _
          have hbn : Below v11.heap.size v11 (v11.alloc (.cells #[.bool s11, .slice p11 m11 m11, .int .i64 eo] 26)) := below1 v11 _
          generalize v11.alloc (.cells #[.bool s11, .slice p11 m11 m11, .int .i64 eo] 26) = Wv at *
          have HGv : Hid (w.heap.size ≤ v11.heap.size) := hbw.size
          replace Xcell : Hid _ := Xcell.out.below hbn
          replace Xsm : Hid (B1q Wv gsm (.bool false)) := Xsm.out.below hbn
          replace Xu : Hid _ := Xu.out.below hbn
          replace D7 : Hid _ := D7.out.below hbn
          replace E7 : Hid _ := E7.out.below hbn
          replace U8 : Hid _ := U8.out.below hbn
          replace D11 : Hid _ := D11.out.below hbn
          replace hbw := Below.on hbw hbn
          clear hbn
          generalize v11.heap.size = gv at *
          have Xv := Xv0
          clear Xv0
          refine (rnearest HJN.out D11.out (TB.out.below hbw)).mono ?_
          rintro e v12 ⟨rfl, hb12⟩
          rw [rn_own HJN.out HB.out HR.out.1 HR.out.2 (by rcases HVF.out.fm with ⟨_, h⟩ | ⟨_, h, _⟩ <;> omega) HVF.out.v]
          replace Xcell : Hid _ := Xcell.out.below hb12
          replace Xsm : Hid (B1q v12 gsm (.bool false)) := Xsm.out.below hb12
          replace Xu : Hid _ := Xu.out.below hb12
          replace Xv : Hid _ := Xv.out.below hb12
          replace D7 : Hid _ := D7.out.below hb12
          replace E7 : Hid _ := E7.out.below hb12
          replace U8 : Hid _ := U8.out.below hb12
          replace D11 : Hid _ := D11.out.below hb12
          replace hbw := Below.on hbw hb12
          clear hb12
          clear D11
          obtain ⟨cu0, cu1, cu2, fu0, fu1, fu2⟩ := Xu.out
          have hneu : gu < v12.heap.size := World.block_lt_of_cell? v12 _ cu0
          obtain ⟨ccell0, ccell1, ccell2, ccell3, ccell4, ccell5, fcell0, fcell1, fcell2, fcell3, fcell4, fcell5⟩ := Xcell.out
          have hnecell : gcell < v12.heap.size := World.block_lt_of_cell? v12 _ ccell0
          obtain ⟨csm0, fsm0⟩ := Xsm.out
          have hnesm : gsm < v12.heap.size := World.block_lt_of_cell? v12 _ csm0
          go_wp2_with fail
          clear cu0 cu1 cu2 fu0 fu1 fu2 hneu
          clear ccell0 ccell1 ccell2 ccell3 ccell4 ccell5 fcell0 fcell1 fcell2 fcell3 fcell4 fcell5 hnecell
          clear csm0 fsm0 hnesm
          refine (tdy U8.out D7.out).mono ?_
          rintro e v13 ⟨rfl, hb13⟩
          rw [decide_eq_false (Int.ne_of_gt HU.out.1)]
          replace Xcell : Hid _ := Xcell.out.below hb13
          replace Xsm : Hid (B1q v13 gsm (.bool false)) := Xsm.out.below hb13
          replace Xu : Hid _ := Xu.out.below hb13
          replace Xv : Hid _ := Xv.out.below hb13
          replace D7 : Hid _ := D7.out.below hb13
          replace E7 : Hid _ := E7.out.below hb13
          replace U8 : Hid _ := U8.out.below hb13
          replace hbw := Below.on hbw hb13
          clear hb13
          obtain ⟨cu0, cu1, cu2, fu0, fu1, fu2⟩ := Xu.out
          have hneu : gu < v13.heap.size := World.block_lt_of_cell? v13 _ cu0
          obtain ⟨ccell0, ccell1, ccell2, ccell3, ccell4, ccell5, fcell0, fcell1, fcell2, fcell3, fcell4, fcell5⟩ := Xcell.out
          have hnecell : gcell < v13.heap.size := World.block_lt_of_cell? v13 _ ccell0
          go_wp2_with fail
          clear cu0 cu1 cu2 fu0 fu1 fu2 hneu
          clear ccell0 ccell1 ccell2 ccell3 ccell4 ccell5 fcell0 fcell1 fcell2 fcell3 fcell4 fcell5 hnecell
          refine (tdy U8.out E7.out).mono ?_
          rintro e v14 ⟨rfl, hb14⟩
          rw [decide_eq_false (Int.ne_of_lt HU.out.2)]
          replace Xcell : Hid _ := Xcell.out.below hb14
          replace Xsm : Hid (B1q v14 gsm (.bool false)) := Xsm.out.below hb14
          replace Xu : Hid _ := Xu.out.below hb14
          replace Xv : Hid _ := Xv.out.below hb14
          replace D7 : Hid _ := D7.out.below hb14
          replace E7 : Hid _ := E7.out.below hb14
          replace U8 : Hid _ := U8.out.below hb14
          replace hbw := Below.on hbw hb14
          clear hb14
          obtain ⟨cu0, cu1, cu2, fu0, fu1, fu2⟩ := Xu.out
          have hneu : gu < v14.heap.size := World.block_lt_of_cell? v14 _ cu0
          obtain ⟨ccell0, ccell1, ccell2, ccell3, ccell4, ccell5, fcell0, fcell1, fcell2, fcell3, fcell4, fcell5⟩ := Xcell.out
          have hnecell : gcell < v14.heap.size := World.block_lt_of_cell? v14 _ ccell0
          go_wp2_with fail
          clear cu0 cu1 cu2 fu0 fu1 fu2 hneu
          clear ccell0 ccell1 ccell2 ccell3 ccell4 ccell5 fcell0 fcell1 fcell2 fcell3 fcell4 fcell5 hnecell
          refine (HNX.out _).mono ?_
          rintro e v15 ⟨rfl, hb15⟩
          replace Xcell : Hid _ := Xcell.out.below hb15
          replace Xsm : Hid (B1q v15 gsm (.bool false)) := Xsm.out.below hb15
          replace Xu : Hid _ := Xu.out.below hb15
          replace Xv : Hid _ := Xv.out.below hb15
          replace D7 : Hid _ := D7.out.below hb15
          replace E7 : Hid _ := E7.out.below hb15
          replace U8 : Hid _ := U8.out.below hb15
          replace hbw := Below.on hbw hb15
          clear hb15
          go_wp2_with fail
          refine (HPV.out _).mono ?_
          rintro e v16 ⟨rfl, hb16⟩
          replace Xcell : Hid _ := Xcell.out.below hb16
          replace Xsm : Hid (B1q v16 gsm (.bool false)) := Xsm.out.below hb16
          replace Xu : Hid _ := Xu.out.below hb16
          replace Xv : Hid _ := Xv.out.below hb16
          replace D7 : Hid _ := D7.out.below hb16
          replace E7 : Hid _ := E7.out.below hb16
          replace U8 : Hid _ := U8.out.below hb16
          replace hbw := Below.on hbw hb16
          clear hb16
          go_wp2_with fail
          by_cases hu : up % S ≠ 0 ∧ up % S < I
          · have HEQ : Hid (cLo H l (decide (S ≤ up)) (up % S) = cHi H l (decide (S ≤ b)) (b % S)) := HNF.out.2.2.2.1 hu.1
            have HUP : Hid (up % S ≠ 0 ∧ up % S < I) := hu
            clear hu
            refine (cell_ok HJN.out up HNF.out.1 HUP.out.1 HUP.out.2 _ (TB.out.below hbw)).mono ?_
            rintro e0 v17 ⟨s17, p17, m17, z17, e17, t17, q17, n17, y17, f17, rfl, hd1, hd2, hv1, hv2, hb17⟩
            have HV17 : Hid (dv z17 e17 = dv y7 f7) := by show dv z17 e17 = dv y7 f7; rw [hv1, HEQ.out, HV7.out.2]
            clear hv1 hv2
            replace Xcell : Hid _ := Xcell.out.below hb17
            replace Xsm : Hid (B1q v17 gsm (.bool false)) := Xsm.out.below hb17
            replace Xu : Hid _ := Xu.out.below hb17
            replace Xv : Hid _ := Xv.out.below hb17
            replace D7 : Hid _ := D7.out.below hb17
            replace E7 : Hid _ := E7.out.below hb17
            replace U8 : Hid _ := U8.out.below hb17
            replace hbw := Below.on hbw hb17
            clear hb17
            have D17 : Hid (DN v17 s17 p17 m17 m17 e17 z17) := hd1.dn
            clear hd1 hd2
            obtain ⟨ccell0, ccell1, ccell2, ccell3, ccell4, ccell5, fcell0, fcell1, fcell2, fcell3, fcell4, fcell5⟩ := Xcell.out
            have hnecell : gcell < v17.heap.size := World.block_lt_of_cell? v17 _ ccell0
            go_wp2_with fail
            clear ccell0 ccell1 ccell2 ccell3 ccell4 ccell5 fcell0 fcell1 fcell2 fcell3 fcell4 fcell5 hnecell
            have Xnx0 : Hid (B6q (v17.alloc (.cells #[.bool s17, .slice p17 m17 m17, .int .i64 e17, .bool t17, .slice q17 n17 n17, .int .i64 f17] 47)) v17.heap.size (.bool s17) (.slice p17 m17 m17) (.int .i64 e17) (.bool t17) (.slice q17 n17 n17) (.int .i64 f17)) := B6q.new v17 _ _ _ _ _ _ _
            have hbn : Below v17.heap.size v17 (v17.alloc (.cells #[.bool s17, .slice p17 m17 m17, .int .i64 e17, .bool t17, .slice q17 n17 n17, .int .i64 f17] 47)) := below1 v17 _
            generalize v17.alloc (.cells #[.bool s17, .slice p17 m17 m17, .int .i64 e17, .bool t17, .slice q17 n17 n17, .int .i64 f17] 47) = Wn at *
            have HGnx : Hid (w.heap.size ≤ v17.heap.size) := hbw.size
            replace Xcell : Hid _ := Xcell.out.below hbn
            replace Xsm : Hid (B1q Wn gsm (.bool false)) := Xsm.out.below hbn
            replace Xu : Hid _ := Xu.out.below hbn
            replace Xv : Hid _ := Xv.out.below hbn
            replace D7 : Hid _ := D7.out.below hbn
            replace E7 : Hid _ := E7.out.below hbn
            replace U8 : Hid _ := U8.out.below hbn
            replace D17 : Hid _ := D17.out.below hbn
            replace hbw := Below.on hbw hbn
            clear hbn
            generalize v17.heap.size = gnx at *
            have Xnx := Xnx0
            clear Xnx0
            refine (tdy D17.out E7.out).mono ?_
            rintro e v18 ⟨rfl, hb18⟩
            rw [decide_eq_true HV17.out]
            replace Xcell : Hid _ := Xcell.out.below hb18
            replace Xsm : Hid (B1q v18 gsm (.bool false)) := Xsm.out.below hb18
            replace Xu : Hid _ := Xu.out.below hb18
            replace Xv : Hid _ := Xv.out.below hb18
            replace Xnx : Hid _ := Xnx.out.below hb18
            replace D7 : Hid _ := D7.out.below hb18
            replace E7 : Hid _ := E7.out.below hb18
            replace U8 : Hid _ := U8.out.below hb18
            replace D17 : Hid _ := D17.out.below hb18
            replace hbw := Below.on hbw hb18
            clear hb18
            go_wp2_with fail
            go_ret
            exact ⟨rfl, hbw⟩
          · have HUX : Hid (up % S = 0 ∨ I ≤ up % S) := by
              by_cases h : up % S = 0
              · exact .inl h
              · exact .inr (Nat.le_of_not_lt fun h2 => hu ⟨h, h2⟩)
            clear hu
            have hus := up_edge HJN.out.jm.pm.fm HB.out HR.out.1 HR.out.2 HUPE.out HUX.out
            rcases HLT.out.num with ⟨hS, hI⟩ | ⟨hS, hI⟩ <;> rcases hus with hu | hu
            · have hun : up = 2147483648 := by rw [hu]; assumption
              have kb : bits BinOp.and IntKind.u64 2147483648 9223372036854775807 = 2147483648 := by decide
              clear hS hI hu
              subst hun
              refine (cell_x HJN.out 2147483648 HNF.out.1 HUX.out _).mono ?_
              rintro e v17 ⟨rfl, hb17⟩
              replace Xcell : Hid _ := Xcell.out.below hb17
              replace Xsm : Hid (B1q v17 gsm (.bool false)) := Xsm.out.below hb17
              replace Xu : Hid _ := Xu.out.below hb17
              replace Xv : Hid _ := Xv.out.below hb17
              replace D7 : Hid _ := D7.out.below hb17
              replace E7 : Hid _ := E7.out.below hb17
              replace U8 : Hid _ := U8.out.below hb17
              replace hbw := Below.on hbw hb17
              clear hb17
              obtain ⟨ccell0, ccell1, ccell2, ccell3, ccell4, ccell5, fcell0, fcell1, fcell2, fcell3, fcell4, fcell5⟩ := Xcell.out
              have hnecell : gcell < v17.heap.size := World.block_lt_of_cell? v17 _ ccell0
              go_wp2_with fail
              clear ccell0 ccell1 ccell2 ccell3 ccell4 ccell5 fcell0 fcell1 fcell2 fcell3 fcell4 fcell5 hnecell
              go_ret
              exact ⟨rfl, Below.on hbw (below1 _ _)⟩
            · have hun : up = 2139095040 := by rw [hu]; assumption
              have kb : bits BinOp.and IntKind.u64 2139095040 9223372036854775807 = 2139095040 := by decide
              clear hS hI hu
              subst hun
              refine (cell_x HJN.out 2139095040 HNF.out.1 HUX.out _).mono ?_
              rintro e v17 ⟨rfl, hb17⟩
              replace Xcell : Hid _ := Xcell.out.below hb17
              replace Xsm : Hid (B1q v17 gsm (.bool false)) := Xsm.out.below hb17
              replace Xu : Hid _ := Xu.out.below hb17
              replace Xv : Hid _ := Xv.out.below hb17
              replace D7 : Hid _ := D7.out.below hb17
              replace E7 : Hid _ := E7.out.below hb17
              replace U8 : Hid _ := U8.out.below hb17
              replace hbw := Below.on hbw hb17
              clear hb17
              obtain ⟨ccell0, ccell1, ccell2, ccell3, ccell4, ccell5, fcell0, fcell1, fcell2, fcell3, fcell4, fcell5⟩ := Xcell.out
              have hnecell : gcell < v17.heap.size := World.block_lt_of_cell? v17 _ ccell0
              go_wp2_with fail
              clear ccell0 ccell1 ccell2 ccell3 ccell4 ccell5 fcell0 fcell1 fcell2 fcell3 fcell4 fcell5 hnecell
              go_ret
              exact ⟨rfl, Below.on hbw (below1 _ _)⟩
            · have hun : up = 9223372036854775808 := by rw [hu]; assumption
              have kb : bits BinOp.and IntKind.u64 9223372036854775808 9223372036854775807 = 0 := by decide
              clear hS hI hu
              subst hun
              refine (cell_x HJN.out 9223372036854775808 HNF.out.1 HUX.out _).mono ?_
              rintro e v17 ⟨rfl, hb17⟩
              replace Xcell : Hid _ := Xcell.out.below hb17
              replace Xsm : Hid (B1q v17 gsm (.bool false)) := Xsm.out.below hb17
              replace Xu : Hid _ := Xu.out.below hb17
              replace Xv : Hid _ := Xv.out.below hb17
              replace D7 : Hid _ := D7.out.below hb17
              replace E7 : Hid _ := E7.out.below hb17
              replace U8 : Hid _ := U8.out.below hb17
              replace hbw := Below.on hbw hb17
              clear hb17
              obtain ⟨ccell0, ccell1, ccell2, ccell3, ccell4, ccell5, fcell0, fcell1, fcell2, fcell3, fcell4, fcell5⟩ := Xcell.out
              have hnecell : gcell < v17.heap.size := World.block_lt_of_cell? v17 _ ccell0
              go_wp2_with fail
              clear ccell0 ccell1 ccell2 ccell3 ccell4 ccell5 fcell0 fcell1 fcell2 fcell3 fcell4 fcell5 hnecell
              go_ret
              exact ⟨rfl, Below.on hbw (below1 _ _)⟩
            · have hun : up = 9218868437227405312 := by rw [hu]; assumption
              have kb : bits BinOp.and IntKind.u64 9218868437227405312 9223372036854775807 = 9218868437227405312 := by decide
              clear hS hI hu
              subst hun
              refine (cell_x HJN.out 9218868437227405312 HNF.out.1 HUX.out _).mono ?_
              rintro e v17 ⟨rfl, hb17⟩
              replace Xcell : Hid _ := Xcell.out.below hb17
              replace Xsm : Hid (B1q v17 gsm (.bool false)) := Xsm.out.below hb17
              replace Xu : Hid _ := Xu.out.below hb17
              replace Xv : Hid _ := Xv.out.below hb17
              replace D7 : Hid _ := D7.out.below hb17
              replace E7 : Hid _ := E7.out.below hb17
              replace U8 : Hid _ := U8.out.below hb17
              replace hbw := Below.on hbw hb17
              clear hb17
              obtain ⟨ccell0, ccell1, ccell2, ccell3, ccell4, ccell5, fcell0, fcell1, fcell2, fcell3, fcell4, fcell5⟩ := Xcell.out
              have hnecell : gcell < v17.heap.size := World.block_lt_of_cell? v17 _ ccell0
              go_wp2_with fail
              clear ccell0 ccell1 ccell2 ccell3 ccell4 ccell5 fcell0 fcell1 fcell2 fcell3 fcell4 fcell5 hnecell
              go_ret
              exact ⟨rfl, Below.on hbw (below1 _ _)⟩
  · have hx : b % S = 0 ∨ I ≤ b % S := by by_cases h : b % S = 0; (· exact .inl h); exact .inr (Nat.le_of_not_lt fun h2 => hr ⟨h, h2⟩)
    have hcc2 : cc ≠ 1 ∧ cc ≠ 2 := by
      have h2 := HJN.out.jm.pm.h2
      rw [HCX.out]; unfold clsN
      by_cases a1 : b % S = 0
      · rw [if_pos a1]; omega
      · rw [if_neg a1, if_neg (by omega), if_neg (by omega)]; split <;> omega
    have k6 : (cc == 1) = false := by simp [hcc2.1]
    have k7 : (cc == 2) = false := by simp [hcc2.2]
    have k8 : (cc != 1) = true := by simp [hcc2.1]
    have k9 : (cc != 2) = true := by simp [hcc2.2]
    have HX : Hid (b % S = 0 ∨ I ≤ b % S) := hx
    clear hr HCX HCL hx hcc2
    refine (cell_x HJN.out b HB.out HX.out _).mono ?_
    rintro e v7 ⟨rfl, hb7⟩
    replace Xlim : Hid _ := Xlim.out.below hb7
    replace hbw := Below.on hbw hb7
    clear hb7
    go_wp2_with fail
    go_ret
    exact ⟨rfl, Below.on hbw (below1 _ _)⟩
theorem wholeCells_w (single : Bool) (c : Nat) (hc : c < B64) (i : Nat) (hi : i < 256) (w : World) (hT : Tab w) :
    Calls Tryz.prog 5 #[.bool single, U c, .int .u8 i] w fun en w' => en = .returned (.bool true) ∧ Below w.heap.size w w' := by
  cases single
  · exact wholeCells_x jn_64 lt_64 c hc i hi w hT
  · exact wholeCells_x jn_32 lt_32 c hc i hi w hT
end Go.Proofs.YtfkoilaobglddaaGreatDoor

