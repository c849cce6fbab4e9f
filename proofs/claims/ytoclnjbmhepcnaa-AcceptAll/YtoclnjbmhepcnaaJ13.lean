import Derived.Test.YtoclnjbmhepcnaaJ12
import Derived.Test.YtoclnjbmhepcnaaJ11
import Derived.Laws.OwnMore
import Derived.Maps.AppendAt
import Derived.Deep.AppendLies
import Derived.Test.YtoclnjbmhepcnaaCopied
import Derived.Test.YtoclnjbmhepcnaaJ7
namespace Go.Proofs.Ytoclnjbmhepcnaa
open Go.RowKit Go.Shelf
set_option maxRecDepth 20000
set_option maxHeartbeats 0
theorem bits_add1 {n : Nat} {K : Nat} (h : n < 2 ^ K) : bitsN (n + 1) ≤ K + 1 ∧ bitsN (n - 1) ≤ K + 1 ∧ bitsN n ≤ K + 1 := by
  have h1 := p2succ K
  exact ⟨bits_le_of (by omega), bits_le_of (by omega), bits_le_of (by omega)⟩
theorem bits_pk {k : Nat} (h : k ≤ 100) : bitsN (((2 ^ k : Nat) : Int) + 1).natAbs ≤ 200 ∧ bitsN (((2 ^ k : Nat) : Int) - 1).natAbs ≤ 200 ∧ bitsN (((2 ^ k : Nat) : Int)).natAbs ≤ 200 := by
  have h0 : 2 ^ k < 2 ^ 101 := Nat.pow_lt_pow_right (by decide) (by omega)
  obtain ⟨h1, h2, h3⟩ := bits_add1 h0
  have hp := p2pos k
  rw [show (((2 ^ k : Nat) : Int) + 1).natAbs = 2 ^ k + 1 by omega, show (((2 ^ k : Nat) : Int) - 1).natAbs = 2 ^ k - 1 by omega, Int.natAbs_natCast]
  exact ⟨by omega, by omega, by omega⟩
theorem bits_vp {hi lo : Nat} (sz : SzF hi) (hl : Fin64 lo) {B : Int} (hB : bitsN B.natAbs ≤ 200) : bitsN ((ux hi + ux lo) * B).natAbs ≤ 2400 := by
  have h1 := v_bits sz hl
  rw [Int.natAbs_mul]
  obtain ⟨T, hT⟩ : ∃ T, T = 2400 := ⟨_, rfl⟩
  rw [← hT]
  refine bits_le_of ?_
  have h2 := bitsN_lt (ux hi + ux lo).natAbs
  have h3 := bitsN_lt B.natAbs
  obtain ⟨J, hJ⟩ : ∃ J, J = 2098 := ⟨_, rfl⟩
  obtain ⟨J2, hJ2⟩ : ∃ J, J = 200 := ⟨_, rfl⟩
  have h4 : (ux hi + ux lo).natAbs < 2 ^ J := Nat.lt_of_lt_of_le h2 (p2le (by omega))
  have h5 : B.natAbs < 2 ^ J2 := Nat.lt_of_lt_of_le h3 (p2le (by omega))
  have h6 : (ux hi + ux lo).natAbs * B.natAbs < 2 ^ J * 2 ^ J2 := Nat.mul_lt_mul'' h4 h5
  rw [← Nat.pow_add] at h6
  exact Nat.lt_of_lt_of_le h6 (p2le (by omega))
theorem p2int (k : Nat) : (2 : Int) ^ k = ((2 ^ k : Nat) : Int) := by rw [Int.natCast_pow]; rfl
theorem rsound25 {hi lo k : Nat} (hA : AccP hi lo k) (e : Int) (he : e = -(k : Int)) (w : World) :
    Calls Try.prog 12 #[U hi, U lo, .int .i64 e, U hi] w fun en w' => en = .returned (.bool true) ∧ Below w.heap.size w w' := by
  have HA : Hid (AccP hi lo k ∧ e = -(k : Int)) := ⟨hA, he⟩
  obtain ⟨ke, hke⟩ : ∃ ke : Int, ke = (k : Int) := ⟨_, rfl⟩
  have HK : Hid (ke = (k : Int)) := hke
  have wn1 : IntKind.i64.wrap (-e) = ke := by have := hA.k1; have := hA.k2; simp [IntKind.wrap, IntKind.signed, IntKind.bits]; omega
  have wn2 : wrap64 (-e) = ke := by have := hA.k1; have := hA.k2; simp only [wrap64]; omega
  clear hA he hke
  go_enter Try.func12, Try.ntmps12
  go_wp2_with fail
  have hbw : Below w.heap.size w w := Below.refl _ _
  refine (rpow2k k ke (HK.out) (by have := HA.out.1.k2; omega) _).mono ?_
  rintro e9 v1 ⟨p1, m1, z1, rfl, hA1, hN1, hm1, hb1⟩
  replace hbw := Below.on hbw hb1
  clear hb1
  have A1 : Hid (At32 v1 p1 m1 m1 z1) := hA1
  have N1 : Hid (Nf B32 z1 (2 ^ k) ∧ m1 ≤ 40000) := ⟨hN1, hm1⟩
  clear hA1 hN1 hm1
  go_wp2_with fail
  refine (rmk_any false A1.out N1.out.1 (by have := N1.out.2; omega)).mono ?_
  rintro e9 v2 ⟨v, rfl, hv, hb2⟩
  rw [show iv false (2 ^ k) = ((2 ^ k : Nat) : Int) from rfl] at hv
  obtain ⟨s2, g2, m2, rfl, hg2, hz2, hl2⟩ := hv
  replace A1 : Hid _ := A1.out.below hb2
  replace hbw := Below.on hbw hb2
  clear hb2
  have Z2 : Hid (ZR v2 s2 (some ⟨g2, 0, none⟩) m2 ((2 ^ k : Nat) : Int)) := hz2
  clear hz2 hl2 hg2
  clear A1
  go_wp2_with fail
  have Xo0 : Hid (Box (v2.alloc (.cells #[.bool s2, .slice (some ⟨g2, 0, none⟩) m2 m2] 47)) v2.heap.size (.bool s2) (.slice (some ⟨g2, 0, none⟩) m2 m2)) := Box.new v2 _ _ _
  have hbn : Below v2.heap.size v2 (v2.alloc (.cells #[.bool s2, .slice (some ⟨g2, 0, none⟩) m2 m2] 47)) := below1 v2 _
  generalize v2.alloc (.cells #[.bool s2, .slice (some ⟨g2, 0, none⟩) m2 m2] 47) = W3 at *
  have HGo : Hid (w.heap.size ≤ v2.heap.size) := hbw.size
  replace Z2 : Hid _ := Z2.out.below hbn
  replace hbw := Below.on hbw hbn
  clear hbn
  generalize v2.heap.size = go at *
  have Xo := Xo0
  clear Xo0
  obtain ⟨co0, co1, fo0, fo1⟩ := Xo.out
  have hneo := Xo.out.lt
  go_wp2_with fail
  clear co0 co1 fo0 fo1 hneo
  refine (rsum25 _).mono ?_
  rintro e v4 ⟨v, rfl, hv, hb4⟩
  obtain ⟨s4, g4, m4, rfl, hg4, hz4, hl4⟩ := hv
  have HN4 : Hid (W3.heap.size ≤ g4) := hg4
  have HB4 : Hid (W3.heap.size ≤ v4.heap.size) := hb4.size
  replace Xo : Hid _ := Xo.out.below hb4
  replace Z2 : Hid _ := Z2.out.below hb4
  replace hbw := Below.on hbw hb4
  clear hb4
  have Z4 : Hid (ZR v4 s4 (some ⟨g4, 0, none⟩) m4 (ux hi + ux lo)) := hz4
  have HL4 : Hid (m4 ≤ 2201) := hl4
  clear hz4 hl4 hg4
  go_wp2_with fail
  refine (rshl04k s4 Z4.out (by have := HL4.out; omega) k ke HK.out (by have := HA.out.1.k2; omega)).mono ?_
  rintro e v5 ⟨v, rfl, hv, hb5⟩
  obtain ⟨s5, g5, m5, rfl, hg5, hz5, hl5⟩ := hv
  have HN5 : Hid (v4.heap.size ≤ g5) := hg5
  have HB5 : Hid (v4.heap.size ≤ v5.heap.size) := hb5.size
  replace Xo : Hid _ := Xo.out.below hb5
  replace Z2 : Hid _ := Z2.out.below hb5
  replace Z4 : Hid _ := Z4.out.below hb5
  replace hbw := Below.on hbw hb5
  clear hb5
  have Z5 : Hid (ZR v5 s5 (some ⟨g5, 0, none⟩) m5 ((ux hi + ux lo) * 2 ^ k)) := hz5
  have HL5 : Hid (m5 ≤ 40000) := hl5
  clear hz5 hl5 hg5
  rw [p2int] at Z5
  go_wp2_with fail
  have Xv0 : Hid (Box (v5.alloc (.cells #[.bool s5, .slice (some ⟨g5, 0, none⟩) m5 m5] 47)) v5.heap.size (.bool s5) (.slice (some ⟨g5, 0, none⟩) m5 m5)) := Box.new v5 _ _ _
  have hbn : Below v5.heap.size v5 (v5.alloc (.cells #[.bool s5, .slice (some ⟨g5, 0, none⟩) m5 m5] 47)) := below1 v5 _
  generalize v5.alloc (.cells #[.bool s5, .slice (some ⟨g5, 0, none⟩) m5 m5] 47) = W6 at *
  have HGv : Hid (w.heap.size ≤ v5.heap.size) := hbw.size
  replace Xo : Hid _ := Xo.out.below hbn
  replace Z2 : Hid _ := Z2.out.below hbn
  replace Z4 : Hid _ := Z4.out.below hbn
  replace Z5 : Hid _ := Z5.out.below hbn
  replace hbw := Below.on hbw hbn
  clear hbn
  generalize v5.heap.size = gv at *
  have Xv := Xv0
  clear Xv0
  obtain ⟨co0, co1, fo0, fo1⟩ := Xo.out
  have hneo := Xo.out.lt
  obtain ⟨cv0, cv1, fv0, fv1⟩ := Xv.out
  have hnev := Xv.out.lt
  go_wp2_with fail
  clear co0 co1 fo0 fo1 hneo
  clear cv0 cv1 fv0 fv1 hnev
  obtain ⟨W7, hW7⟩ : ∃ W1, W1 = W6.drew := ⟨_, rfl⟩
  have hbd : Below W6.heap.size W6 W7 := by rw [hW7]; exact bDrew1 (Below.refl _ _)
  replace Xo : Hid _ := Xo.out.below hbd
  replace Xv : Hid _ := Xv.out.below hbd
  replace Z2 : Hid _ := Z2.out.below hbd
  replace Z4 : Hid _ := Z4.out.below hbd
  replace Z5 : Hid _ := Z5.out.below hbd
  replace hbw := Below.on hbw hbd
  clear hbd
  have HJ : Hid ((fun W' : World => W'.cell? ⟨gv, 0, none⟩ = some (.bool s5) ∧ W'.cell? ⟨gv, 1, none⟩ = some (.slice (some ⟨g5, 0, none⟩) m5 m5) ∧ W'.cell? ⟨go, 0, none⟩ = some (.bool s2) ∧ W'.cell? ⟨go, 1, none⟩ = some (.slice (some ⟨g2, 0, none⟩) m2 m2)) W7) := ⟨Xv.out.c0, Xv.out.c1, Xo.out.c0, Xo.out.c1⟩
  refine wp_region_J (fun W' => W'.cell? ⟨gv, 0, none⟩ = some (.bool s5) ∧ W'.cell? ⟨gv, 1, none⟩ = some (.slice (some ⟨g5, 0, none⟩) m5 m5) ∧ W'.cell? ⟨go, 0, none⟩ = some (.bool s2) ∧ W'.cell? ⟨go, 1, none⟩ = some (.slice (some ⟨g2, 0, none⟩) m2 m2)) (by kernel_rfl) ?_
  rw [← hW7]
  clear hW7
  refine wpJ_tq 0 rfl HJ.out ?_
  refine wpJ_tq 1 rfl HJ.out ?_
  refine wpJ_tq 4 rfl HJ.out ?_
  refine wpJ_on 2 rfl fun KJ hK => ?_
  go_simp
  refine (rof04 1 _ (by decide) (by decide)).mono ?_
  rintro e9 v8 ⟨s8, g8, m8, rfl, hz8, hl8, hb8⟩
  replace Xo : Hid _ := Xo.out.below hb8
  replace Xv : Hid _ := Xv.out.below hb8
  replace Z2 : Hid _ := Z2.out.below hb8
  replace Z4 : Hid _ := Z4.out.below hb8
  replace Z5 : Hid _ := Z5.out.below hb8
  replace hbw := Below.on hbw hb8
  clear hb8
  have Z8 : Hid (ZR v8 s8 (some ⟨g8, 0, none⟩) m8 1) := hz8
  have HL8 : Hid (m8 ≤ 3) := hl8
  clear hz8 hl8
  refine hK _ _ ⟨Xv.out.c0, Xv.out.c1, Xo.out.c0, Xo.out.c1⟩ ?_
  clear hK
  refine wpJ_on 3 rfl fun KJ hK => ?_
  go_simp
  refine (radd04 s2 s8 Z2.out Z8.out (by have := zr_len Z2.out (bits_pk HA.out.1.k2).2.2; omega) (by have := HL8.out; omega)).mono ?_
  rintro e v9 ⟨v, rfl, hv, hb9⟩
  obtain ⟨s9, g9, m9, rfl, hg9, hz9, hl9⟩ := hv
  have HN9 : Hid (v8.heap.size ≤ g9) := hg9
  have HB9 : Hid (v8.heap.size ≤ v9.heap.size) := hb9.size
  replace Xo : Hid _ := Xo.out.below hb9
  replace Xv : Hid _ := Xv.out.below hb9
  replace Z2 : Hid _ := Z2.out.below hb9
  replace Z4 : Hid _ := Z4.out.below hb9
  replace Z5 : Hid _ := Z5.out.below hb9
  replace Z8 : Hid _ := Z8.out.below hb9
  replace hbw := Below.on hbw hb9
  clear hb9
  have Z9 : Hid (ZR v9 s9 (some ⟨g9, 0, none⟩) m9 (((2 ^ k : Nat) : Int) + 1)) := hz9
  have HL9 : Hid (m9 ≤ max m2 m8 + 1) := hl9
  clear hz9 hl9 hg9
  refine hK _ _ ⟨Xv.out.c0, Xv.out.c1, Xo.out.c0, Xo.out.c1⟩ ?_
  clear hK
  refine wpJ_on 5 rfl fun KJ hK => ?_
  go_simp
  refine (incell (s := hi % 9223372036854775808) Z5.out Z9.out (bits_vp HA.out.1.sz HA.out.1.dd.lo (bits_pk HA.out.1.k2).2.2) (bits_pk HA.out.1.k2).1 rfl ((sound_all HA.out.1).1.trans Z5.out.sg.symm) (by have := HA.out.1.sz.least; omega) (by have := HA.out.1.sz.most; omega)).mono ?_
  rintro e v10 ⟨rfl, hb10⟩
  rw [(sound_all HA.out.1).2.1]
  replace Xo : Hid _ := Xo.out.below hb10
  replace Xv : Hid _ := Xv.out.below hb10
  replace Z2 : Hid _ := Z2.out.below hb10
  replace Z4 : Hid _ := Z4.out.below hb10
  replace Z5 : Hid _ := Z5.out.below hb10
  replace Z8 : Hid _ := Z8.out.below hb10
  replace Z9 : Hid _ := Z9.out.below hb10
  replace hbw := Below.on hbw hb10
  clear hb10
  clear HJ
  have HJ : Hid ((fun W' : World => W'.cell? ⟨gv, 0, none⟩ = some (.bool s5) ∧ W'.cell? ⟨gv, 1, none⟩ = some (.slice (some ⟨g5, 0, none⟩) m5 m5) ∧ W'.cell? ⟨go, 0, none⟩ = some (.bool s2) ∧ W'.cell? ⟨go, 1, none⟩ = some (.slice (some ⟨g2, 0, none⟩) m2 m2)) v10) := ⟨Xv.out.c0, Xv.out.c1, Xo.out.c0, Xo.out.c1⟩
  refine hK _ _ HJ.out ?_
  clear hK
  refine wpJ_tq 6 rfl HJ.out ?_
  refine wpJ_tq 7 rfl HJ.out ?_
  refine wpJ_tq 8 rfl HJ.out ?_
  refine wpJ_tq 11 rfl HJ.out ?_
  refine wpJ_on 9 rfl fun KJ hK => ?_
  go_simp
  refine (rof04 1 _ (by decide) (by decide)).mono ?_
  rintro e9 v11 ⟨s11, g11, m11, rfl, hz11, hl11, hb11⟩
  replace Xo : Hid _ := Xo.out.below hb11
  replace Xv : Hid _ := Xv.out.below hb11
  replace Z2 : Hid _ := Z2.out.below hb11
  replace Z4 : Hid _ := Z4.out.below hb11
  replace Z5 : Hid _ := Z5.out.below hb11
  replace Z8 : Hid _ := Z8.out.below hb11
  replace Z9 : Hid _ := Z9.out.below hb11
  replace hbw := Below.on hbw hb11
  clear hb11
  have Z11 : Hid (ZR v11 s11 (some ⟨g11, 0, none⟩) m11 1) := hz11
  have HL11 : Hid (m11 ≤ 3) := hl11
  clear hz11 hl11
  refine hK _ _ ⟨Xv.out.c0, Xv.out.c1, Xo.out.c0, Xo.out.c1⟩ ?_
  clear hK
  refine wpJ_on 10 rfl fun KJ hK => ?_
  go_simp
  refine (rsub04 s2 s11 Z2.out Z11.out (by have := zr_len Z2.out (bits_pk HA.out.1.k2).2.2; omega) (by have := HL11.out; omega)).mono ?_
  rintro e v12 ⟨v, rfl, hv, hb12⟩
  obtain ⟨s12, g12, m12, rfl, hg12, hz12, hl12⟩ := hv
  have HN12 : Hid (v11.heap.size ≤ g12) := hg12
  have HB12 : Hid (v11.heap.size ≤ v12.heap.size) := hb12.size
  replace Xo : Hid _ := Xo.out.below hb12
  replace Xv : Hid _ := Xv.out.below hb12
  replace Z2 : Hid _ := Z2.out.below hb12
  replace Z4 : Hid _ := Z4.out.below hb12
  replace Z5 : Hid _ := Z5.out.below hb12
  replace Z8 : Hid _ := Z8.out.below hb12
  replace Z9 : Hid _ := Z9.out.below hb12
  replace Z11 : Hid _ := Z11.out.below hb12
  replace hbw := Below.on hbw hb12
  clear hb12
  have Z12 : Hid (ZR v12 s12 (some ⟨g12, 0, none⟩) m12 (((2 ^ k : Nat) : Int) - 1)) := hz12
  have HL12 : Hid (m12 ≤ max m2 m11 + 1) := hl12
  clear hz12 hl12 hg12
  refine hK _ _ ⟨Xv.out.c0, Xv.out.c1, Xo.out.c0, Xo.out.c1⟩ ?_
  clear hK
  refine wpJ_on 12 rfl fun KJ hK => ?_
  go_simp
  refine (incell (s := hi % 9223372036854775808) Z5.out Z12.out (bits_vp HA.out.1.sz HA.out.1.dd.lo (bits_pk HA.out.1.k2).2.2) (bits_pk HA.out.1.k2).2.1 rfl ((sound_all HA.out.1).1.trans Z5.out.sg.symm) (by have := HA.out.1.sz.least; omega) (by have := HA.out.1.sz.most; omega)).mono ?_
  rintro e v13 ⟨rfl, hb13⟩
  rw [(sound_all HA.out.1).2.2]
  replace Xo : Hid _ := Xo.out.below hb13
  replace Xv : Hid _ := Xv.out.below hb13
  replace Z2 : Hid _ := Z2.out.below hb13
  replace Z4 : Hid _ := Z4.out.below hb13
  replace Z5 : Hid _ := Z5.out.below hb13
  replace Z8 : Hid _ := Z8.out.below hb13
  replace Z9 : Hid _ := Z9.out.below hb13
  replace Z11 : Hid _ := Z11.out.below hb13
  replace Z12 : Hid _ := Z12.out.below hb13
  replace hbw := Below.on hbw hb13
  clear hb13
  clear HJ
  have HJ : Hid ((fun W' : World => W'.cell? ⟨gv, 0, none⟩ = some (.bool s5) ∧ W'.cell? ⟨gv, 1, none⟩ = some (.slice (some ⟨g5, 0, none⟩) m5 m5) ∧ W'.cell? ⟨go, 0, none⟩ = some (.bool s2) ∧ W'.cell? ⟨go, 1, none⟩ = some (.slice (some ⟨g2, 0, none⟩) m2 m2)) v13) := ⟨Xv.out.c0, Xv.out.c1, Xo.out.c0, Xo.out.c1⟩
  refine hK _ _ HJ.out ?_
  clear hK
  refine wpJ_tq 13 rfl HJ.out ?_
  refine wpJ_tq 14 rfl HJ.out ?_
  refine wpJ_done (by kernel_rfl) ?_ _
  clear HJ
  go_wp2_with fail
  go_ret
  exact ⟨rfl, hbw⟩
def OkM (hi lo k : Nat) (en : Ending) : Prop := ∃ b, en = .returned (.bool b) ∧ (b = true → AccP hi lo k)
theorem must_sign {hi lo : Nat} (sz : SzF hi) (d : DdF hi lo) {Q : Int} (hQ : 0 < Q) : decide (9223372036854775808 ≤ hi) = decide ((ux hi + ux lo) * Q < 0) := by
  have h1 := dd_little d
  have h2 := sz.ne
  have h3 := ux_neg h2
  rw [h3]
  refine decide_eq_decide.2 ⟨fun h => Int.mul_neg_of_neg_of_pos (by omega) hQ, fun h => ?_⟩
  refine Int.lt_of_not_ge fun h4 => ?_
  have := Int.mul_nonneg (show 0 ≤ ux hi + ux lo by omega) (Int.le_of_lt hQ)
  omega
theorem ZR.blk {w : World} {s : Bool} {g m : Nat} {z : Int} (h : ZR w s (some ⟨g, 0, none⟩) m z) : m = 0 ∨ g < w.heap.size := by
  obtain ⟨zs, hA, _⟩ := h.ex
  rcases hA.cells with h0 | ⟨g9, off, hp, hc⟩
  · exact .inl h0
  · by_cases h0 : m = 0
    · exact .inl h0
    · have h1 := World.block_lt_of_cell? w _ (hc 0 (by omega))
      injection hp with hp
      injection hp with hp1 hp2
      subst hp1
      exact .inr h1
theorem ZR.setq {w : World} {s : Bool} {g m : Nat} {z : Int} (h : ZR w s (some ⟨g, 0, none⟩) m z) (g2 o2 : Nat) (v : Value) (hne : m = 0 ∨ g ≠ g2) : ZR (w.setCell ⟨g2, o2, none⟩ v) s (some ⟨g, 0, none⟩) m z := by
  rcases hne with h0 | h0
  · obtain ⟨zs, hA, hN⟩ := h.ex
    exact ⟨⟨zs, ⟨hA.len, hA.cap, hA.big, hA.dig, .inl h0⟩, hN⟩, h.sg⟩
  · exact h.set g2 o2 v h0
theorem wpJ_nodes {P : Program} {md : Region.Mode} {ops : Array Oper} {Q : Exit → Act → World → Prop} {J : World → Prop} {fuel : Nat} {listed : Array Bool} {a : Act} {w : World} (h : ∀ WP : Nat → Array Bool → Act → World → Prop, WP = wpJ P md ops Q J → ∀ L a0, L = listed → a0 = a → WP fuel L a0 w) : wpJ P md ops Q J fuel listed a w := h _ rfl _ _ rfl rfl
theorem wpJ_same {P : Program} {md : Region.Mode} {ops : Array Oper} {Q : Exit → Act → World → Prop} {J : World → Prop} {fuel : Nat} {L L' : Array Bool} {a a' : Act} {w : World} (h1 : L = L') (h2 : a = a') (h : wpJ P md ops Q J fuel L a w) : wpJ P md ops Q J fuel L' a' w := by
  subst h1 h2; exact h
theorem Hid.mk9 {p : Prop} (h : p) : Hid p := h
theorem rmust25 {hi lo k : Nat} (k1 : 56 ≤ k) (k2 : k ≤ 100) (sz : SzF hi) (d : DdF hi lo) (e : Int) (he : e = -(k : Int)) (w : World) :
    Calls Try.prog 13 #[U hi, U lo, .int .i64 e] w fun en w' => OkM hi lo k en ∧ Below w.heap.size w w' := by
  obtain ⟨j, hj⟩ : ∃ j : Nat, j = k - 1 := ⟨_, rfl⟩
  have HA : Hid (56 ≤ k ∧ k ≤ 100 ∧ SzF hi ∧ DdF hi lo ∧ e = -(k : Int) ∧ j = k - 1) := ⟨k1, k2, sz, d, he, hj⟩
  obtain ⟨kf, hkf⟩ : ∃ ke : Int, ke = (k : Int) := ⟨_, rfl⟩
  obtain ⟨ke, hke⟩ : ∃ ke : Int, ke = (j : Int) := ⟨_, rfl⟩
  have HK : Hid (ke = (j : Int)) := hke
  have wn1 : IntKind.i64.wrap (-e) = kf := by simp [IntKind.wrap, IntKind.signed, IntKind.bits]; omega
  have wn2 : wrap64 (-e) = kf := by simp only [wrap64]; omega
  have wn3 : IntKind.i64.wrap (kf - 1) = ke := by simp [IntKind.wrap, IntKind.signed, IntKind.bits]; omega
  have wn4 : wrap64 (kf - 1) = ke := by simp only [wrap64]; omega
  clear k1 k2 sz d he hj hkf hke
  go_enter Try.func13, Try.ntmps13
  go_wp2_with fail
  have hbw : Below w.heap.size w w := Below.refl _ _
  refine (rpow2k j ke (HK.out) (by have := HA.out.2.1; have := HA.out.2.2.2.2.2; omega) _).mono ?_
  rintro e9 v1 ⟨p1, m1, z1, rfl, hA1, hN1, hm1, hb1⟩
  replace hbw := Below.on hbw hb1
  clear hb1
  have A1 : Hid (At32 v1 p1 m1 m1 z1) := hA1
  have N1 : Hid (Nf B32 z1 (2 ^ j) ∧ m1 ≤ 40000) := ⟨hN1, hm1⟩
  clear hA1 hN1 hm1
  go_wp2_with fail
  refine (rmk_any false A1.out N1.out.1 (by have := N1.out.2; omega)).mono ?_
  rintro e9 v2 ⟨v, rfl, hv, hb2⟩
  rw [show iv false (2 ^ j) = ((2 ^ j : Nat) : Int) from rfl] at hv
  obtain ⟨s2, g2, m2, rfl, hg2, hz2, hl2⟩ := hv
  replace A1 : Hid _ := A1.out.below hb2
  replace hbw := Below.on hbw hb2
  clear hb2
  have Z2 : Hid (ZR v2 s2 (some ⟨g2, 0, none⟩) m2 ((2 ^ j : Nat) : Int)) := hz2
  clear hz2 hl2 hg2
  clear A1
  go_wp2_with fail
  have Xo0 : Hid (Box (v2.alloc (.cells #[.bool s2, .slice (some ⟨g2, 0, none⟩) m2 m2] 47)) v2.heap.size (.bool s2) (.slice (some ⟨g2, 0, none⟩) m2 m2)) := Box.new v2 _ _ _
  have hbn : Below v2.heap.size v2 (v2.alloc (.cells #[.bool s2, .slice (some ⟨g2, 0, none⟩) m2 m2] 47)) := below1 v2 _
  generalize v2.alloc (.cells #[.bool s2, .slice (some ⟨g2, 0, none⟩) m2 m2] 47) = W3 at *
  have HGo : Hid (w.heap.size ≤ v2.heap.size) := hbw.size
  replace Z2 : Hid _ := Z2.out.below hbn
  replace hbw := Below.on hbw hbn
  clear hbn
  generalize v2.heap.size = go at *
  have Xo := Xo0
  clear Xo0
  obtain ⟨co0, co1, fo0, fo1⟩ := Xo.out
  have hneo := Xo.out.lt
  go_wp2_with fail
  clear co0 co1 fo0 fo1 hneo
  refine (rsum25 _).mono ?_
  rintro e v4 ⟨v, rfl, hv, hb4⟩
  obtain ⟨s4, g4, m4, rfl, hg4, hz4, hl4⟩ := hv
  have HN4 : Hid (W3.heap.size ≤ g4) := hg4
  have HB4 : Hid (W3.heap.size ≤ v4.heap.size) := hb4.size
  replace Xo : Hid _ := Xo.out.below hb4
  replace Z2 : Hid _ := Z2.out.below hb4
  replace hbw := Below.on hbw hb4
  clear hb4
  have Z4 : Hid (ZR v4 s4 (some ⟨g4, 0, none⟩) m4 (ux hi + ux lo)) := hz4
  have HL4 : Hid (m4 ≤ 2201) := hl4
  clear hz4 hl4 hg4
  obtain ⟨co0, co1, fo0, fo1⟩ := Xo.out
  have hneo := Xo.out.lt
  go_wp2_with fail
  clear co0 co1 fo0 fo1 hneo
  have Xv0 : Hid (Box (v4.alloc (.cells #[.bool s4, .slice (some ⟨g4, 0, none⟩) m4 m4] 47)) v4.heap.size (.bool s4) (.slice (some ⟨g4, 0, none⟩) m4 m4)) := Box.new v4 _ _ _
  have hbn : Below v4.heap.size v4 (v4.alloc (.cells #[.bool s4, .slice (some ⟨g4, 0, none⟩) m4 m4] 47)) := below1 v4 _
  generalize v4.alloc (.cells #[.bool s4, .slice (some ⟨g4, 0, none⟩) m4 m4] 47) = W6 at *
  have HGv : Hid (w.heap.size ≤ v4.heap.size) := hbw.size
  replace Xo : Hid _ := Xo.out.below hbn
  replace Z2 : Hid _ := Z2.out.below hbn
  replace Z4 : Hid _ := Z4.out.below hbn
  replace hbw := Below.on hbw hbn
  clear hbn
  generalize v4.heap.size = gv at *
  have Xv := Xv0
  clear Xv0
  obtain ⟨co0, co1, fo0, fo1⟩ := Xo.out
  have hneo := Xo.out.lt
  obtain ⟨cv0, cv1, fv0, fv1⟩ := Xv.out
  have hnev := Xv.out.lt
  go_wp2_with fail
  clear co0 co1 fo0 fo1 hneo
  clear cv0 cv1 fv0 fv1 hnev
  have HJ2 : Hid (j ≤ 100) := by have h := HA.out.2.1; have h2 := HA.out.2.2.2.2.2; show _ ≤ _; omega
  have BP := bits_pk HJ2.out
  have HBP : Hid (bitsN (((2 ^ j : Nat) : Int) + 1).natAbs ≤ 200 ∧ bitsN (((2 ^ j : Nat) : Int) - 1).natAbs ≤ 200 ∧ bitsN (((2 ^ j : Nat) : Int)).natAbs ≤ 200) := BP
  clear BP
  obtain ⟨U, hU⟩ : ∃ W1, W1 = W6.drew := ⟨_, rfl⟩
  have hbd : Below W6.heap.size W6 U := by rw [hU]; exact bDrew1 (Below.refl _ _)
  replace Xo : Hid _ := Xo.out.below hbd
  replace Xv : Hid _ := Xv.out.below hbd
  replace Z2 : Hid _ := Z2.out.below hbd
  replace Z4 : Hid _ := Z4.out.below hbd
  replace hbw := Below.on hbw hbd
  clear hbd
  have HJ : Hid ((fun W' : World => W'.cell? ⟨gv, 0, none⟩ = some (.bool s4) ∧ W'.cell? ⟨gv, 1, none⟩ = some (.slice (some ⟨g4, 0, none⟩) m4 m4) ∧ W'.cell? ⟨go, 0, none⟩ = some (.bool s2) ∧ W'.cell? ⟨go, 1, none⟩ = some (.slice (some ⟨g2, 0, none⟩) m2 m2)) U) := ⟨Xv.out.c0, Xv.out.c1, Xo.out.c0, Xo.out.c1⟩
  refine wp_region_J (fun W' => W'.cell? ⟨gv, 0, none⟩ = some (.bool s4) ∧ W'.cell? ⟨gv, 1, none⟩ = some (.slice (some ⟨g4, 0, none⟩) m4 m4) ∧ W'.cell? ⟨go, 0, none⟩ = some (.bool s2) ∧ W'.cell? ⟨go, 1, none⟩ = some (.slice (some ⟨g2, 0, none⟩) m2 m2)) (by kernel_rfl) ?_
  rw [← hU]
  clear hU
  refine wpJ_tq 0 rfl HJ.out ?_
  refine wpJ_tq 1 rfl HJ.out ?_
  refine wpJ_tq 5 rfl HJ.out ?_
  refine wpJ_tq 6 rfl HJ.out ?_
  have hbu : Below U.heap.size U U := Below.refl _ _
  have ZQ : Hid (ZR U s2 (some ⟨g2, 0, none⟩) m2 ((2 ^ j : Nat) : Int)) := Z2.out
  have ZV : Hid (ZR U s4 (some ⟨g4, 0, none⟩) m4 (ux hi + ux lo)) := Z4.out
  have HM2 : Hid (m2 ≤ 200) := zr_len Z2.out HBP.out.2.2
  clear Z2
  clear Z4
  go_simp
  refine wpJ_nodes fun WP hWP L0 a0 hL ha => ?_
  have N6xy : ∀ (t1 : Bool) (k1 n1 : Nat) (t2 : Bool) (k2 n2 : Nat) (t3 : Bool) (k3 n3 : Nat) (t4 : Bool) (k4 n4 : Nat) (t5 : Bool) (k5 n5 : Nat) (t6 : Bool) (k6 n6 : Nat) (gx : Nat) (gy : Nat) (W' : World), Box W' go (.bool s2) (.slice (some ⟨g2, 0, none⟩) m2 m2) ∧ Box W' gv (.bool s4) (.slice (some ⟨g4, 0, none⟩) m4 m4) ∧ Below w.heap.size w W' ∧ Below U.heap.size U W' ∧ Box W' gx (.bool false) (.slice none 0 0) ∧ w.heap.size ≤ gx ∧ U.heap.size ≤ gx ∧ gx ≠ go ∧ gx ≠ gv ∧ Box W' gy (.bool false) (.slice none 0 0) ∧ w.heap.size ≤ gy ∧ U.heap.size ≤ gy ∧ gy ≠ go ∧ gy ≠ gv ∧ gx ≠ gy ∧ ZR W' t3 (some ⟨k3, 0, none⟩) n3 ((ux hi + ux lo) * (((2 ^ j : Nat) : Int) - 1)) ∧ n3 ≤ 3000 ∧ (n3 = 0 ∨ k3 ≠ gx) ∧ (n3 = 0 ∨ k3 ≠ gy) ∧ ZR W' t6 (some ⟨k6, 0, none⟩) n6 ((ux hi + ux lo) * (((2 ^ j : Nat) : Int) + 1)) ∧ n6 ≤ 3000 ∧ (n6 = 0 ∨ k6 ≠ gx) ∧ (n6 = 0 ∨ k6 ≠ gy) → WP 2 ((((((((L0.setIfInBounds 2 true).setIfInBounds 3 true).setIfInBounds 4 true).setIfInBounds 7 true).setIfInBounds 8 true).setIfInBounds 9 true).setIfInBounds 10 true).setIfInBounds 11 true) ((((((((a0.put (some 22) (.agg #[.bool t1, .slice (some ⟨k1, 0, none⟩) n1 n1])).put (some 23) (.agg #[.bool t2, .slice (some ⟨k2, 0, none⟩) n2 n2])).put (some 24) (.agg #[.bool t3, .slice (some ⟨k3, 0, none⟩) n3 n3])).put (some 27) (.agg #[.bool t4, .slice (some ⟨k4, 0, none⟩) n4 n4])).put (some 28) (.agg #[.bool t5, .slice (some ⟨k5, 0, none⟩) n5 n5])).put (some 29) (.agg #[.bool t6, .slice (some ⟨k6, 0, none⟩) n6 n6])).put (some 9) (.pointer (some ⟨gx, 0, none⟩))).put (some 10) (.pointer (some ⟨gy, 0, none⟩))) W' := by
    rintro t1 k1 n1 t2 k2 n2 t3 k3 n3 t4 k4 n4 t5 k5 n5 t6 k6 n6 gx gy W' ⟨xo, xv, hbw, hbu, xx, hgx, hux, dxo, dxv, xy, hgy, huy, dyo, dyv, dd, z3, l3, a3x, a3y, z6, l6, a6x, a6y⟩
    subst hWP hL ha
    have Hxo := Hid.mk9 xo
    have Hxv := Hid.mk9 xv
    have Hxx := Hid.mk9 xx
    have Hhgx := Hid.mk9 hgx
    have Hhux := Hid.mk9 hux
    have Hdxo := Hid.mk9 dxo
    have Hdxv := Hid.mk9 dxv
    have Hxy := Hid.mk9 xy
    have Hhgy := Hid.mk9 hgy
    have Hhuy := Hid.mk9 huy
    have Hdyo := Hid.mk9 dyo
    have Hdyv := Hid.mk9 dyv
    have Hdd := Hid.mk9 dd
    have Hz3 := Hid.mk9 z3
    have Hl3 := Hid.mk9 l3
    have Ha3x := Hid.mk9 a3x
    have Ha3y := Hid.mk9 a3y
    have Hz6 := Hid.mk9 z6
    have Hl6 := Hid.mk9 l6
    have Ha6x := Hid.mk9 a6x
    have Ha6y := Hid.mk9 a6y
    clear xo xv xx hgx hux dxo dxv xy hgy huy dyo dyv dd z3 l3 a3x a3y z6 l6 a6x a6y
    go_simp
    have Xo := Hxo
    have Xv := Hxv
    have Xx := Hxx
    have Xy := Hxy
    clear Hxo Hxv Hxx Hxy
    have qxo := Hdxo.out
    have qox := Ne.symm qxo
    have qxv := Hdxv.out
    have qvx := Ne.symm qxv
    have qyo := Hdyo.out
    have qoy := Ne.symm qyo
    have qyv := Hdyv.out
    have qvy := Ne.symm qyv
    have qxy := Hdd.out
    have qyx := Ne.symm qxy
    obtain ⟨co0, co1, fo0, fo1⟩ := Xo.out
    have hneo := Xo.out.lt
    obtain ⟨cv0, cv1, fv0, fv1⟩ := Xv.out
    have hnev := Xv.out.lt
    obtain ⟨cx0, cx1, fx0, fx1⟩ := Xx.out
    have hnex := Xx.out.lt
    obtain ⟨cy0, cy1, fy0, fy1⟩ := Xy.out
    have hney := Xy.out.lt
    refine wpJ_on 12 rfl fun KJ hK => ?_
    go_simp
    refine hK _ _ ⟨by go_simp, by go_simp, by go_simp, by go_simp⟩ ?_
    clear hK
    refine wpJ_on 13 rfl fun KJ hK => ?_
    go_simp
    refine hK _ _ ⟨by go_simp, by go_simp, by go_simp, by go_simp⟩ ?_
    clear hK
    refine wpJ_done (by kernel_rfl) ?_ _
    obtain ⟨Wy, hWy⟩ : ∃ W9, W9 = ((((W'.setCell ⟨gx, 0, none⟩ (.bool t3)).setCell ⟨gx, 1, none⟩ (.slice (some ⟨k3, 0, none⟩) n3 n3)).setCell ⟨gy, 0, none⟩ (.bool t6)).setCell ⟨gy, 1, none⟩ (.slice (some ⟨k6, 0, none⟩) n6 n6)) := ⟨_, rfl⟩
    have Yo : Hid (Box Wy go (.bool s2) (.slice (some ⟨g2, 0, none⟩) m2 m2)) := by rw [hWy]; exact ⟨by go_simp, by go_simp, by go_simp, by go_simp⟩
    have Yv : Hid (Box Wy gv (.bool s4) (.slice (some ⟨g4, 0, none⟩) m4 m4)) := by rw [hWy]; exact ⟨by go_simp, by go_simp, by go_simp, by go_simp⟩
    have Yx : Hid (Box Wy gx (.bool t3) (.slice (some ⟨k3, 0, none⟩) n3 n3)) := by rw [hWy]; exact ⟨by go_simp, by go_simp, by go_simp, by go_simp⟩
    have Yy : Hid (Box Wy gy (.bool t6) (.slice (some ⟨k6, 0, none⟩) n6 n6)) := by rw [hWy]; exact ⟨by go_simp, by go_simp, by go_simp, by go_simp⟩
    have hbw2 : Below w.heap.size w Wy := by rw [hWy]; exact bSet (bSet (bSet (bSet hbw _ _ _ Hhgx.out) _ _ _ Hhgx.out) _ _ _ Hhgy.out) _ _ _ Hhgy.out
    have hbu2 : Below U.heap.size U Wy := by rw [hWy]; exact bSet (bSet (bSet (bSet hbu _ _ _ Hhux.out) _ _ _ Hhux.out) _ _ _ Hhuy.out) _ _ _ Hhuy.out
    have ZX : Hid (ZR Wy t3 (some ⟨k3, 0, none⟩) n3 ((ux hi + ux lo) * (((2 ^ j : Nat) : Int) - 1))) := by rw [hWy]; exact (((Hz3.out.setq _ _ _ Ha3x.out).setq _ _ _ Ha3x.out).setq _ _ _ Ha3y.out).setq _ _ _ Ha3y.out
    have ZY : Hid (ZR Wy t6 (some ⟨k6, 0, none⟩) n6 ((ux hi + ux lo) * (((2 ^ j : Nat) : Int) + 1))) := by rw [hWy]; exact (((Hz6.out.setq _ _ _ Ha6x.out).setq _ _ _ Ha6x.out).setq _ _ _ Ha6y.out).setq _ _ _ Ha6y.out
    have ZO : Hid (ZR Wy s2 (some ⟨g2, 0, none⟩) m2 (((2 ^ j : Nat) : Int))) := ZQ.out.below hbu2
    have ZU : Hid (ZR Wy s4 (some ⟨g4, 0, none⟩) m4 ((ux hi + ux lo))) := ZV.out.below hbu2
    clear co0 co1 fo0 fo1 hneo
    clear cv0 cv1 fv0 fv1 hnev
    clear cx0 cx1 fx0 fx1 hnex
    clear cy0 cy1 fy0 fy1 hney
    rw [← hWy]
    clear hWy hbw hbu hbu2 Xo Xv Xx Xy qxo qox qxv qvx qyo qoy qyv qvy qxy qyx Hz3 Hz6 ZQ ZV
    have hbw := hbw2
    clear hbw2
    have Xo := Yo
    have Xv := Yv
    have Xx := Yx
    have Xy := Yy
    clear Yo Yv Yx Yy
    obtain ⟨cv0, cv1, fv0, fv1⟩ := Xv.out
    have hnev := Xv.out.lt
    go_wp2_with fail
    clear cv0 cv1 fv0 fv1 hnev
    refine (rround19 s4 ZU.out (by have := HL4.out; omega) (v_bits HA.out.2.2.1 HA.out.2.2.2.1.lo)).mono ?_
    rintro e v20 ⟨rfl, hb20⟩
    rw [(fit_round HA.out.2.2.1 HA.out.2.2.2.1.lo).2 HA.out.2.2.2.1]
    replace Xo : Hid _ := Xo.out.below hb20
    replace Xv : Hid _ := Xv.out.below hb20
    replace Xx : Hid _ := Xx.out.below hb20
    replace Xy : Hid _ := Xy.out.below hb20
    replace ZX : Hid _ := ZX.out.below hb20
    replace ZY : Hid _ := ZY.out.below hb20
    replace ZO : Hid _ := ZO.out.below hb20
    replace ZU : Hid _ := ZU.out.below hb20
    replace hbw := Below.on hbw hb20
    clear hb20
    obtain ⟨co0, co1, fo0, fo1⟩ := Xo.out
    have hneo := Xo.out.lt
    obtain ⟨cv0, cv1, fv0, fv1⟩ := Xv.out
    have hnev := Xv.out.lt
    obtain ⟨cx0, cx1, fx0, fx1⟩ := Xx.out
    have hnex := Xx.out.lt
    obtain ⟨cy0, cy1, fy0, fy1⟩ := Xy.out
    have hney := Xy.out.lt
    go_wp2_with fail
    clear co0 co1 fo0 fo1 hneo
    clear cv0 cv1 fv0 fv1 hnev
    clear cx0 cx1 fx0 fx1 hnex
    clear cy0 cy1 fy0 fy1 hney
    obtain ⟨b21, hc21⟩ : ∃ b, inC ((ux hi + ux lo) * (((2 ^ j : Nat) : Int) - 1)) ((2 ^ j : Nat) : Int) (hi % 9223372036854775808) = b := ⟨_, rfl⟩
    have HC21 : Hid (inC ((ux hi + ux lo) * (((2 ^ j : Nat) : Int) - 1)) ((2 ^ j : Nat) : Int) (hi % 9223372036854775808) = b21) := hc21
    obtain ⟨b22, hc22⟩ : ∃ b, inC ((ux hi + ux lo) * (((2 ^ j : Nat) : Int) + 1)) ((2 ^ j : Nat) : Int) (hi % 9223372036854775808) = b := ⟨_, rfl⟩
    have HC22 : Hid (inC ((ux hi + ux lo) * (((2 ^ j : Nat) : Int) + 1)) ((2 ^ j : Nat) : Int) (hi % 9223372036854775808) = b22) := hc22
    have HQ9 : Hid ((0 : Int) < ((2 ^ j : Nat) : Int) - 1) := by have h1 := HA.out.1; have h2 := HA.out.2.2.2.2.2; have h3 : 2 ^ 2 ≤ 2 ^ j := p2le (by omega); rw [show 2 ^ 2 = 4 by decide] at h3; show _ < _; omega
    refine (incell (s := hi % 9223372036854775808) ZX.out ZO.out (bits_vp HA.out.2.2.1 HA.out.2.2.2.1.lo HBP.out.2.1) HBP.out.2.2 rfl ((must_sign HA.out.2.2.1 HA.out.2.2.2.1 (HQ9.out)).trans ZX.out.sg.symm) (by have := HA.out.2.2.1.least; omega) (by have := HA.out.2.2.1.most; omega)).mono ?_
    rintro e v21 ⟨rfl, hb21⟩
    rw [hc21]
    clear hc21
    replace Xo : Hid _ := Xo.out.below hb21
    replace Xv : Hid _ := Xv.out.below hb21
    replace Xx : Hid _ := Xx.out.below hb21
    replace Xy : Hid _ := Xy.out.below hb21
    replace ZX : Hid _ := ZX.out.below hb21
    replace ZY : Hid _ := ZY.out.below hb21
    replace ZO : Hid _ := ZO.out.below hb21
    replace ZU : Hid _ := ZU.out.below hb21
    replace hbw := Below.on hbw hb21
    clear hb21
    cases b21
    · go_wp2_with fail
      go_ret
      exact ⟨⟨_, rfl, fun h => by cases h⟩, hbw⟩
    · obtain ⟨co0, co1, fo0, fo1⟩ := Xo.out
      have hneo : go < v21.heap.size := World.block_lt_of_cell? v21 _ co0
      obtain ⟨cy0, cy1, fy0, fy1⟩ := Xy.out
      have hney := Xy.out.lt
      go_wp2_with fail
      clear co0 co1 fo0 fo1 hneo
      clear cy0 cy1 fy0 fy1 hney
      refine (incell (s := hi % 9223372036854775808) ZY.out ZO.out (bits_vp HA.out.2.2.1 HA.out.2.2.2.1.lo HBP.out.1) HBP.out.2.2 rfl ((must_sign HA.out.2.2.1 HA.out.2.2.2.1 (by have := HQ9.out; omega)).trans ZY.out.sg.symm) (by have := HA.out.2.2.1.least; omega) (by have := HA.out.2.2.1.most; omega)).mono ?_
      rintro e v22 ⟨rfl, hb22⟩
      rw [hc22]
      clear hc22
      replace Xo : Hid _ := Xo.out.below hb22
      replace Xv : Hid _ := Xv.out.below hb22
      replace Xx : Hid _ := Xx.out.below hb22
      replace Xy : Hid _ := Xy.out.below hb22
      replace ZX : Hid _ := ZX.out.below hb22
      replace ZY : Hid _ := ZY.out.below hb22
      replace ZO : Hid _ := ZO.out.below hb22
      replace ZU : Hid _ := ZU.out.below hb22
      replace hbw := Below.on hbw hb22
      clear hb22
      go_wp2_with fail
      go_ret
      refine ⟨⟨_, rfl, fun h => ?_⟩, hbw⟩
      have h1 := HC21.out
      have h2 := HC22.out
      rw [h] at h2
      rw [HA.out.2.2.2.2.2] at h1 h2
      exact must_all HA.out.1 HA.out.2.1 HA.out.2.2.1 HA.out.2.2.2.1 h1 h2
  have N6x : ∀ (t1 : Bool) (k1 n1 : Nat) (t2 : Bool) (k2 n2 : Nat) (t3 : Bool) (k3 n3 : Nat) (t4 : Bool) (k4 n4 : Nat) (t5 : Bool) (k5 n5 : Nat) (t6 : Bool) (k6 n6 : Nat) (gx : Nat) (W' : World), Box W' go (.bool s2) (.slice (some ⟨g2, 0, none⟩) m2 m2) ∧ Box W' gv (.bool s4) (.slice (some ⟨g4, 0, none⟩) m4 m4) ∧ Below w.heap.size w W' ∧ Below U.heap.size U W' ∧ Box W' gx (.bool false) (.slice none 0 0) ∧ w.heap.size ≤ gx ∧ U.heap.size ≤ gx ∧ gx ≠ go ∧ gx ≠ gv ∧ ZR W' t3 (some ⟨k3, 0, none⟩) n3 ((ux hi + ux lo) * (((2 ^ j : Nat) : Int) - 1)) ∧ n3 ≤ 3000 ∧ (n3 = 0 ∨ k3 ≠ gx) ∧ ZR W' t6 (some ⟨k6, 0, none⟩) n6 ((ux hi + ux lo) * (((2 ^ j : Nat) : Int) + 1)) ∧ n6 ≤ 3000 ∧ (n6 = 0 ∨ k6 ≠ gx) → WP 3 (((((((L0.setIfInBounds 2 true).setIfInBounds 3 true).setIfInBounds 4 true).setIfInBounds 7 true).setIfInBounds 8 true).setIfInBounds 9 true).setIfInBounds 10 true) (((((((a0.put (some 22) (.agg #[.bool t1, .slice (some ⟨k1, 0, none⟩) n1 n1])).put (some 23) (.agg #[.bool t2, .slice (some ⟨k2, 0, none⟩) n2 n2])).put (some 24) (.agg #[.bool t3, .slice (some ⟨k3, 0, none⟩) n3 n3])).put (some 27) (.agg #[.bool t4, .slice (some ⟨k4, 0, none⟩) n4 n4])).put (some 28) (.agg #[.bool t5, .slice (some ⟨k5, 0, none⟩) n5 n5])).put (some 29) (.agg #[.bool t6, .slice (some ⟨k6, 0, none⟩) n6 n6])).put (some 9) (.pointer (some ⟨gx, 0, none⟩))) W' := by
    rintro t1 k1 n1 t2 k2 n2 t3 k3 n3 t4 k4 n4 t5 k5 n5 t6 k6 n6 gx W' ⟨xo, xv, hbw, hbu, xx, hgx, hux, dxo, dxv, z3, l3, a3x, z6, l6, a6x⟩
    subst hWP hL ha
    have Hxo := Hid.mk9 xo
    have Hxv := Hid.mk9 xv
    have Hxx := Hid.mk9 xx
    have Hhgx := Hid.mk9 hgx
    have Hhux := Hid.mk9 hux
    have Hdxo := Hid.mk9 dxo
    have Hdxv := Hid.mk9 dxv
    have Hz3 := Hid.mk9 z3
    have Hl3 := Hid.mk9 l3
    have Ha3x := Hid.mk9 a3x
    have Hz6 := Hid.mk9 z6
    have Hl6 := Hid.mk9 l6
    have Ha6x := Hid.mk9 a6x
    clear xo xv xx hgx hux dxo dxv z3 l3 a3x z6 l6 a6x
    go_simp
    refine wpJ_on 11 rfl fun KJ hK => ?_
    go_simp
    have hb := below1 W' (.cells #[.bool false, .slice none 0 0] 47)
    refine hK _ _ ⟨(Hxv.out.below hb).c0, (Hxv.out.below hb).c1, (Hxo.out.below hb).c0, (Hxo.out.below hb).c1⟩ ?_
    exact wpJ_same (by kernel_rfl) (by kernel_rfl) (N6xy t1 k1 n1 t2 k2 n2 t3 k3 n3 t4 k4 n4 t5 k5 n5 t6 k6 n6 gx W'.heap.size _ ⟨(Hxo.out.below hb), (Hxv.out.below hb), (Below.on hbw hb), (Below.on hbu hb), (Hxx.out.below hb), Hhgx.out, Hhux.out, Hdxo.out, Hdxv.out, (Box.new W' _ _ _), hbw.size, hbu.size, (Nat.ne_of_gt Hxo.out.lt), (Nat.ne_of_gt Hxv.out.lt), (Nat.ne_of_lt Hxx.out.lt), (Hz3.out.below hb), Hl3.out, Ha3x.out, (Hz3.out.blk.imp id Nat.ne_of_lt), (Hz6.out.below hb), Hl6.out, Ha6x.out, (Hz6.out.blk.imp id Nat.ne_of_lt)⟩)
  have N6y : ∀ (t1 : Bool) (k1 n1 : Nat) (t2 : Bool) (k2 n2 : Nat) (t3 : Bool) (k3 n3 : Nat) (t4 : Bool) (k4 n4 : Nat) (t5 : Bool) (k5 n5 : Nat) (t6 : Bool) (k6 n6 : Nat) (gy : Nat) (W' : World), Box W' go (.bool s2) (.slice (some ⟨g2, 0, none⟩) m2 m2) ∧ Box W' gv (.bool s4) (.slice (some ⟨g4, 0, none⟩) m4 m4) ∧ Below w.heap.size w W' ∧ Below U.heap.size U W' ∧ Box W' gy (.bool false) (.slice none 0 0) ∧ w.heap.size ≤ gy ∧ U.heap.size ≤ gy ∧ gy ≠ go ∧ gy ≠ gv ∧ ZR W' t3 (some ⟨k3, 0, none⟩) n3 ((ux hi + ux lo) * (((2 ^ j : Nat) : Int) - 1)) ∧ n3 ≤ 3000 ∧ (n3 = 0 ∨ k3 ≠ gy) ∧ ZR W' t6 (some ⟨k6, 0, none⟩) n6 ((ux hi + ux lo) * (((2 ^ j : Nat) : Int) + 1)) ∧ n6 ≤ 3000 ∧ (n6 = 0 ∨ k6 ≠ gy) → WP 3 (((((((L0.setIfInBounds 2 true).setIfInBounds 3 true).setIfInBounds 4 true).setIfInBounds 7 true).setIfInBounds 8 true).setIfInBounds 9 true).setIfInBounds 11 true) (((((((a0.put (some 22) (.agg #[.bool t1, .slice (some ⟨k1, 0, none⟩) n1 n1])).put (some 23) (.agg #[.bool t2, .slice (some ⟨k2, 0, none⟩) n2 n2])).put (some 24) (.agg #[.bool t3, .slice (some ⟨k3, 0, none⟩) n3 n3])).put (some 27) (.agg #[.bool t4, .slice (some ⟨k4, 0, none⟩) n4 n4])).put (some 28) (.agg #[.bool t5, .slice (some ⟨k5, 0, none⟩) n5 n5])).put (some 29) (.agg #[.bool t6, .slice (some ⟨k6, 0, none⟩) n6 n6])).put (some 10) (.pointer (some ⟨gy, 0, none⟩))) W' := by
    rintro t1 k1 n1 t2 k2 n2 t3 k3 n3 t4 k4 n4 t5 k5 n5 t6 k6 n6 gy W' ⟨xo, xv, hbw, hbu, xy, hgy, huy, dyo, dyv, z3, l3, a3y, z6, l6, a6y⟩
    subst hWP hL ha
    have Hxo := Hid.mk9 xo
    have Hxv := Hid.mk9 xv
    have Hxy := Hid.mk9 xy
    have Hhgy := Hid.mk9 hgy
    have Hhuy := Hid.mk9 huy
    have Hdyo := Hid.mk9 dyo
    have Hdyv := Hid.mk9 dyv
    have Hz3 := Hid.mk9 z3
    have Hl3 := Hid.mk9 l3
    have Ha3y := Hid.mk9 a3y
    have Hz6 := Hid.mk9 z6
    have Hl6 := Hid.mk9 l6
    have Ha6y := Hid.mk9 a6y
    clear xo xv xy hgy huy dyo dyv z3 l3 a3y z6 l6 a6y
    go_simp
    refine wpJ_on 10 rfl fun KJ hK => ?_
    go_simp
    have hb := below1 W' (.cells #[.bool false, .slice none 0 0] 47)
    refine hK _ _ ⟨(Hxv.out.below hb).c0, (Hxv.out.below hb).c1, (Hxo.out.below hb).c0, (Hxo.out.below hb).c1⟩ ?_
    exact wpJ_same (by kernel_rfl) (by kernel_rfl) (N6xy t1 k1 n1 t2 k2 n2 t3 k3 n3 t4 k4 n4 t5 k5 n5 t6 k6 n6 W'.heap.size gy _ ⟨(Hxo.out.below hb), (Hxv.out.below hb), (Below.on hbw hb), (Below.on hbu hb), (Box.new W' _ _ _), hbw.size, hbu.size, (Nat.ne_of_gt Hxo.out.lt), (Nat.ne_of_gt Hxv.out.lt), (Hxy.out.below hb), Hhgy.out, Hhuy.out, Hdyo.out, Hdyv.out, (Nat.ne_of_gt Hxy.out.lt), (Hz3.out.below hb), Hl3.out, (Hz3.out.blk.imp id Nat.ne_of_lt), Ha3y.out, (Hz6.out.below hb), Hl6.out, (Hz6.out.blk.imp id Nat.ne_of_lt), Ha6y.out⟩)
  have N6 : ∀ (t1 : Bool) (k1 n1 : Nat) (t2 : Bool) (k2 n2 : Nat) (t3 : Bool) (k3 n3 : Nat) (t4 : Bool) (k4 n4 : Nat) (t5 : Bool) (k5 n5 : Nat) (t6 : Bool) (k6 n6 : Nat) (W' : World), Box W' go (.bool s2) (.slice (some ⟨g2, 0, none⟩) m2 m2) ∧ Box W' gv (.bool s4) (.slice (some ⟨g4, 0, none⟩) m4 m4) ∧ Below w.heap.size w W' ∧ Below U.heap.size U W' ∧ ZR W' t3 (some ⟨k3, 0, none⟩) n3 ((ux hi + ux lo) * (((2 ^ j : Nat) : Int) - 1)) ∧ n3 ≤ 3000 ∧ ZR W' t6 (some ⟨k6, 0, none⟩) n6 ((ux hi + ux lo) * (((2 ^ j : Nat) : Int) + 1)) ∧ n6 ≤ 3000 → WP 4 ((((((L0.setIfInBounds 2 true).setIfInBounds 3 true).setIfInBounds 4 true).setIfInBounds 7 true).setIfInBounds 8 true).setIfInBounds 9 true) ((((((a0.put (some 22) (.agg #[.bool t1, .slice (some ⟨k1, 0, none⟩) n1 n1])).put (some 23) (.agg #[.bool t2, .slice (some ⟨k2, 0, none⟩) n2 n2])).put (some 24) (.agg #[.bool t3, .slice (some ⟨k3, 0, none⟩) n3 n3])).put (some 27) (.agg #[.bool t4, .slice (some ⟨k4, 0, none⟩) n4 n4])).put (some 28) (.agg #[.bool t5, .slice (some ⟨k5, 0, none⟩) n5 n5])).put (some 29) (.agg #[.bool t6, .slice (some ⟨k6, 0, none⟩) n6 n6])) W' := by
    rintro t1 k1 n1 t2 k2 n2 t3 k3 n3 t4 k4 n4 t5 k5 n5 t6 k6 n6 W' ⟨xo, xv, hbw, hbu, z3, l3, z6, l6⟩
    subst hWP hL ha
    have Hxo := Hid.mk9 xo
    have Hxv := Hid.mk9 xv
    have Hz3 := Hid.mk9 z3
    have Hl3 := Hid.mk9 l3
    have Hz6 := Hid.mk9 z6
    have Hl6 := Hid.mk9 l6
    clear xo xv z3 l3 z6 l6
    go_simp
    refine wpJ_two (i := 10) (k := 11) (by kernel_rfl) rfl rfl (by kernel_rfl) (by kernel_rfl) (fun KJ hK => ?_) (fun KJ hK => ?_)
    · go_simp
      have hb := below1 W' (.cells #[.bool false, .slice none 0 0] 47)
      refine hK _ _ ⟨(Hxv.out.below hb).c0, (Hxv.out.below hb).c1, (Hxo.out.below hb).c0, (Hxo.out.below hb).c1⟩ ?_
      exact wpJ_same (by kernel_rfl) (by kernel_rfl) (N6x t1 k1 n1 t2 k2 n2 t3 k3 n3 t4 k4 n4 t5 k5 n5 t6 k6 n6 W'.heap.size _ ⟨(Hxo.out.below hb), (Hxv.out.below hb), (Below.on hbw hb), (Below.on hbu hb), (Box.new W' _ _ _), hbw.size, hbu.size, (Nat.ne_of_gt Hxo.out.lt), (Nat.ne_of_gt Hxv.out.lt), (Hz3.out.below hb), Hl3.out, (Hz3.out.blk.imp id Nat.ne_of_lt), (Hz6.out.below hb), Hl6.out, (Hz6.out.blk.imp id Nat.ne_of_lt)⟩)
    · go_simp
      have hb := below1 W' (.cells #[.bool false, .slice none 0 0] 47)
      refine hK _ _ ⟨(Hxv.out.below hb).c0, (Hxv.out.below hb).c1, (Hxo.out.below hb).c0, (Hxo.out.below hb).c1⟩ ?_
      exact wpJ_same (by kernel_rfl) (by kernel_rfl) (N6y t1 k1 n1 t2 k2 n2 t3 k3 n3 t4 k4 n4 t5 k5 n5 t6 k6 n6 W'.heap.size _ ⟨(Hxo.out.below hb), (Hxv.out.below hb), (Below.on hbw hb), (Below.on hbu hb), (Box.new W' _ _ _), hbw.size, hbu.size, (Nat.ne_of_gt Hxo.out.lt), (Nat.ne_of_gt Hxv.out.lt), (Hz3.out.below hb), Hl3.out, (Hz3.out.blk.imp id Nat.ne_of_lt), (Hz6.out.below hb), Hl6.out, (Hz6.out.blk.imp id Nat.ne_of_lt)⟩)
  have N5xy : ∀ (t1 : Bool) (k1 n1 : Nat) (t2 : Bool) (k2 n2 : Nat) (t3 : Bool) (k3 n3 : Nat) (t4 : Bool) (k4 n4 : Nat) (t5 : Bool) (k5 n5 : Nat) (gx : Nat) (gy : Nat) (W' : World), Box W' go (.bool s2) (.slice (some ⟨g2, 0, none⟩) m2 m2) ∧ Box W' gv (.bool s4) (.slice (some ⟨g4, 0, none⟩) m4 m4) ∧ Below w.heap.size w W' ∧ Below U.heap.size U W' ∧ Box W' gx (.bool false) (.slice none 0 0) ∧ w.heap.size ≤ gx ∧ U.heap.size ≤ gx ∧ gx ≠ go ∧ gx ≠ gv ∧ Box W' gy (.bool false) (.slice none 0 0) ∧ w.heap.size ≤ gy ∧ U.heap.size ≤ gy ∧ gy ≠ go ∧ gy ≠ gv ∧ gx ≠ gy ∧ ZR W' t3 (some ⟨k3, 0, none⟩) n3 ((ux hi + ux lo) * (((2 ^ j : Nat) : Int) - 1)) ∧ n3 ≤ 3000 ∧ (n3 = 0 ∨ k3 ≠ gx) ∧ (n3 = 0 ∨ k3 ≠ gy) ∧ ZR W' t5 (some ⟨k5, 0, none⟩) n5 (((2 ^ j : Nat) : Int) + 1) ∧ n5 ≤ 204 → WP 3 (((((((L0.setIfInBounds 2 true).setIfInBounds 3 true).setIfInBounds 4 true).setIfInBounds 7 true).setIfInBounds 8 true).setIfInBounds 10 true).setIfInBounds 11 true) (((((((a0.put (some 22) (.agg #[.bool t1, .slice (some ⟨k1, 0, none⟩) n1 n1])).put (some 23) (.agg #[.bool t2, .slice (some ⟨k2, 0, none⟩) n2 n2])).put (some 24) (.agg #[.bool t3, .slice (some ⟨k3, 0, none⟩) n3 n3])).put (some 27) (.agg #[.bool t4, .slice (some ⟨k4, 0, none⟩) n4 n4])).put (some 28) (.agg #[.bool t5, .slice (some ⟨k5, 0, none⟩) n5 n5])).put (some 9) (.pointer (some ⟨gx, 0, none⟩))).put (some 10) (.pointer (some ⟨gy, 0, none⟩))) W' := by
    rintro t1 k1 n1 t2 k2 n2 t3 k3 n3 t4 k4 n4 t5 k5 n5 gx gy W' ⟨xo, xv, hbw, hbu, xx, hgx, hux, dxo, dxv, xy, hgy, huy, dyo, dyv, dd, z3, l3, a3x, a3y, z5, l5⟩
    subst hWP hL ha
    have Hxo := Hid.mk9 xo
    have Hxv := Hid.mk9 xv
    have Hxx := Hid.mk9 xx
    have Hhgx := Hid.mk9 hgx
    have Hhux := Hid.mk9 hux
    have Hdxo := Hid.mk9 dxo
    have Hdxv := Hid.mk9 dxv
    have Hxy := Hid.mk9 xy
    have Hhgy := Hid.mk9 hgy
    have Hhuy := Hid.mk9 huy
    have Hdyo := Hid.mk9 dyo
    have Hdyv := Hid.mk9 dyv
    have Hdd := Hid.mk9 dd
    have Hz3 := Hid.mk9 z3
    have Hl3 := Hid.mk9 l3
    have Ha3x := Hid.mk9 a3x
    have Ha3y := Hid.mk9 a3y
    have Hz5 := Hid.mk9 z5
    have Hl5 := Hid.mk9 l5
    clear xo xv xx hgx hux dxo dxv xy hgy huy dyo dyv dd z3 l3 a3x a3y z5 l5
    go_simp
    refine wpJ_on 9 rfl fun KJ hK => ?_
    go_simp
    refine (rmul04 s4 t5 (ZV.out.below hbu) Hz5.out (by have := HL4.out; omega) (by have := Hl5.out; omega)).mono ?_
    rintro e W2 ⟨v, rfl, hv, hb⟩
    obtain ⟨t6, k6, n6, rfl, hg, hz, hl⟩ := hv
    refine hK _ _ ⟨(Hxv.out.below hb).c0, (Hxv.out.below hb).c1, (Hxo.out.below hb).c0, (Hxo.out.below hb).c1⟩ ?_
    exact wpJ_same (by kernel_rfl) (by kernel_rfl) (N6xy t1 k1 n1 t2 k2 n2 t3 k3 n3 t4 k4 n4 t5 k5 n5 t6 k6 n6 gx gy W2 ⟨(Hxo.out.below hb), (Hxv.out.below hb), (Below.on hbw hb), (Below.on hbu hb), (Hxx.out.below hb), Hhgx.out, Hhux.out, Hdxo.out, Hdxv.out, (Hxy.out.below hb), Hhgy.out, Hhuy.out, Hdyo.out, Hdyv.out, Hdd.out, (Hz3.out.below hb), Hl3.out, Ha3x.out, Ha3y.out, hz, (by have h9 := hl; have := Hl3.out; have := Hl5.out; have := HM2.out; have := HL4.out; omega), (.inr (Nat.ne_of_gt (Nat.lt_of_lt_of_le Hxx.out.lt hg))), (.inr (Nat.ne_of_gt (Nat.lt_of_lt_of_le Hxy.out.lt hg)))⟩)
  have N5x : ∀ (t1 : Bool) (k1 n1 : Nat) (t2 : Bool) (k2 n2 : Nat) (t3 : Bool) (k3 n3 : Nat) (t4 : Bool) (k4 n4 : Nat) (t5 : Bool) (k5 n5 : Nat) (gx : Nat) (W' : World), Box W' go (.bool s2) (.slice (some ⟨g2, 0, none⟩) m2 m2) ∧ Box W' gv (.bool s4) (.slice (some ⟨g4, 0, none⟩) m4 m4) ∧ Below w.heap.size w W' ∧ Below U.heap.size U W' ∧ Box W' gx (.bool false) (.slice none 0 0) ∧ w.heap.size ≤ gx ∧ U.heap.size ≤ gx ∧ gx ≠ go ∧ gx ≠ gv ∧ ZR W' t3 (some ⟨k3, 0, none⟩) n3 ((ux hi + ux lo) * (((2 ^ j : Nat) : Int) - 1)) ∧ n3 ≤ 3000 ∧ (n3 = 0 ∨ k3 ≠ gx) ∧ ZR W' t5 (some ⟨k5, 0, none⟩) n5 (((2 ^ j : Nat) : Int) + 1) ∧ n5 ≤ 204 → WP 4 ((((((L0.setIfInBounds 2 true).setIfInBounds 3 true).setIfInBounds 4 true).setIfInBounds 7 true).setIfInBounds 8 true).setIfInBounds 10 true) ((((((a0.put (some 22) (.agg #[.bool t1, .slice (some ⟨k1, 0, none⟩) n1 n1])).put (some 23) (.agg #[.bool t2, .slice (some ⟨k2, 0, none⟩) n2 n2])).put (some 24) (.agg #[.bool t3, .slice (some ⟨k3, 0, none⟩) n3 n3])).put (some 27) (.agg #[.bool t4, .slice (some ⟨k4, 0, none⟩) n4 n4])).put (some 28) (.agg #[.bool t5, .slice (some ⟨k5, 0, none⟩) n5 n5])).put (some 9) (.pointer (some ⟨gx, 0, none⟩))) W' := by
    rintro t1 k1 n1 t2 k2 n2 t3 k3 n3 t4 k4 n4 t5 k5 n5 gx W' ⟨xo, xv, hbw, hbu, xx, hgx, hux, dxo, dxv, z3, l3, a3x, z5, l5⟩
    subst hWP hL ha
    have Hxo := Hid.mk9 xo
    have Hxv := Hid.mk9 xv
    have Hxx := Hid.mk9 xx
    have Hhgx := Hid.mk9 hgx
    have Hhux := Hid.mk9 hux
    have Hdxo := Hid.mk9 dxo
    have Hdxv := Hid.mk9 dxv
    have Hz3 := Hid.mk9 z3
    have Hl3 := Hid.mk9 l3
    have Ha3x := Hid.mk9 a3x
    have Hz5 := Hid.mk9 z5
    have Hl5 := Hid.mk9 l5
    clear xo xv xx hgx hux dxo dxv z3 l3 a3x z5 l5
    go_simp
    refine wpJ_two (i := 9) (k := 11) (by kernel_rfl) rfl rfl (by kernel_rfl) (by kernel_rfl) (fun KJ hK => ?_) (fun KJ hK => ?_)
    · go_simp
      refine (rmul04 s4 t5 (ZV.out.below hbu) Hz5.out (by have := HL4.out; omega) (by have := Hl5.out; omega)).mono ?_
      rintro e W2 ⟨v, rfl, hv, hb⟩
      obtain ⟨t6, k6, n6, rfl, hg, hz, hl⟩ := hv
      refine hK _ _ ⟨(Hxv.out.below hb).c0, (Hxv.out.below hb).c1, (Hxo.out.below hb).c0, (Hxo.out.below hb).c1⟩ ?_
      exact wpJ_same (by kernel_rfl) (by kernel_rfl) (N6x t1 k1 n1 t2 k2 n2 t3 k3 n3 t4 k4 n4 t5 k5 n5 t6 k6 n6 gx W2 ⟨(Hxo.out.below hb), (Hxv.out.below hb), (Below.on hbw hb), (Below.on hbu hb), (Hxx.out.below hb), Hhgx.out, Hhux.out, Hdxo.out, Hdxv.out, (Hz3.out.below hb), Hl3.out, Ha3x.out, hz, (by have h9 := hl; have := Hl3.out; have := Hl5.out; have := HM2.out; have := HL4.out; omega), (.inr (Nat.ne_of_gt (Nat.lt_of_lt_of_le Hxx.out.lt hg)))⟩)
    · go_simp
      have hb := below1 W' (.cells #[.bool false, .slice none 0 0] 47)
      refine hK _ _ ⟨(Hxv.out.below hb).c0, (Hxv.out.below hb).c1, (Hxo.out.below hb).c0, (Hxo.out.below hb).c1⟩ ?_
      exact wpJ_same (by kernel_rfl) (by kernel_rfl) (N5xy t1 k1 n1 t2 k2 n2 t3 k3 n3 t4 k4 n4 t5 k5 n5 gx W'.heap.size _ ⟨(Hxo.out.below hb), (Hxv.out.below hb), (Below.on hbw hb), (Below.on hbu hb), (Hxx.out.below hb), Hhgx.out, Hhux.out, Hdxo.out, Hdxv.out, (Box.new W' _ _ _), hbw.size, hbu.size, (Nat.ne_of_gt Hxo.out.lt), (Nat.ne_of_gt Hxv.out.lt), (Nat.ne_of_lt Hxx.out.lt), (Hz3.out.below hb), Hl3.out, Ha3x.out, (Hz3.out.blk.imp id Nat.ne_of_lt), (Hz5.out.below hb), Hl5.out⟩)
  have N5y : ∀ (t1 : Bool) (k1 n1 : Nat) (t2 : Bool) (k2 n2 : Nat) (t3 : Bool) (k3 n3 : Nat) (t4 : Bool) (k4 n4 : Nat) (t5 : Bool) (k5 n5 : Nat) (gy : Nat) (W' : World), Box W' go (.bool s2) (.slice (some ⟨g2, 0, none⟩) m2 m2) ∧ Box W' gv (.bool s4) (.slice (some ⟨g4, 0, none⟩) m4 m4) ∧ Below w.heap.size w W' ∧ Below U.heap.size U W' ∧ Box W' gy (.bool false) (.slice none 0 0) ∧ w.heap.size ≤ gy ∧ U.heap.size ≤ gy ∧ gy ≠ go ∧ gy ≠ gv ∧ ZR W' t3 (some ⟨k3, 0, none⟩) n3 ((ux hi + ux lo) * (((2 ^ j : Nat) : Int) - 1)) ∧ n3 ≤ 3000 ∧ (n3 = 0 ∨ k3 ≠ gy) ∧ ZR W' t5 (some ⟨k5, 0, none⟩) n5 (((2 ^ j : Nat) : Int) + 1) ∧ n5 ≤ 204 → WP 4 ((((((L0.setIfInBounds 2 true).setIfInBounds 3 true).setIfInBounds 4 true).setIfInBounds 7 true).setIfInBounds 8 true).setIfInBounds 11 true) ((((((a0.put (some 22) (.agg #[.bool t1, .slice (some ⟨k1, 0, none⟩) n1 n1])).put (some 23) (.agg #[.bool t2, .slice (some ⟨k2, 0, none⟩) n2 n2])).put (some 24) (.agg #[.bool t3, .slice (some ⟨k3, 0, none⟩) n3 n3])).put (some 27) (.agg #[.bool t4, .slice (some ⟨k4, 0, none⟩) n4 n4])).put (some 28) (.agg #[.bool t5, .slice (some ⟨k5, 0, none⟩) n5 n5])).put (some 10) (.pointer (some ⟨gy, 0, none⟩))) W' := by
    rintro t1 k1 n1 t2 k2 n2 t3 k3 n3 t4 k4 n4 t5 k5 n5 gy W' ⟨xo, xv, hbw, hbu, xy, hgy, huy, dyo, dyv, z3, l3, a3y, z5, l5⟩
    subst hWP hL ha
    have Hxo := Hid.mk9 xo
    have Hxv := Hid.mk9 xv
    have Hxy := Hid.mk9 xy
    have Hhgy := Hid.mk9 hgy
    have Hhuy := Hid.mk9 huy
    have Hdyo := Hid.mk9 dyo
    have Hdyv := Hid.mk9 dyv
    have Hz3 := Hid.mk9 z3
    have Hl3 := Hid.mk9 l3
    have Ha3y := Hid.mk9 a3y
    have Hz5 := Hid.mk9 z5
    have Hl5 := Hid.mk9 l5
    clear xo xv xy hgy huy dyo dyv z3 l3 a3y z5 l5
    go_simp
    refine wpJ_two (i := 9) (k := 10) (by kernel_rfl) rfl rfl (by kernel_rfl) (by kernel_rfl) (fun KJ hK => ?_) (fun KJ hK => ?_)
    · go_simp
      refine (rmul04 s4 t5 (ZV.out.below hbu) Hz5.out (by have := HL4.out; omega) (by have := Hl5.out; omega)).mono ?_
      rintro e W2 ⟨v, rfl, hv, hb⟩
      obtain ⟨t6, k6, n6, rfl, hg, hz, hl⟩ := hv
      refine hK _ _ ⟨(Hxv.out.below hb).c0, (Hxv.out.below hb).c1, (Hxo.out.below hb).c0, (Hxo.out.below hb).c1⟩ ?_
      exact wpJ_same (by kernel_rfl) (by kernel_rfl) (N6y t1 k1 n1 t2 k2 n2 t3 k3 n3 t4 k4 n4 t5 k5 n5 t6 k6 n6 gy W2 ⟨(Hxo.out.below hb), (Hxv.out.below hb), (Below.on hbw hb), (Below.on hbu hb), (Hxy.out.below hb), Hhgy.out, Hhuy.out, Hdyo.out, Hdyv.out, (Hz3.out.below hb), Hl3.out, Ha3y.out, hz, (by have h9 := hl; have := Hl3.out; have := Hl5.out; have := HM2.out; have := HL4.out; omega), (.inr (Nat.ne_of_gt (Nat.lt_of_lt_of_le Hxy.out.lt hg)))⟩)
    · go_simp
      have hb := below1 W' (.cells #[.bool false, .slice none 0 0] 47)
      refine hK _ _ ⟨(Hxv.out.below hb).c0, (Hxv.out.below hb).c1, (Hxo.out.below hb).c0, (Hxo.out.below hb).c1⟩ ?_
      exact wpJ_same (by kernel_rfl) (by kernel_rfl) (N5xy t1 k1 n1 t2 k2 n2 t3 k3 n3 t4 k4 n4 t5 k5 n5 W'.heap.size gy _ ⟨(Hxo.out.below hb), (Hxv.out.below hb), (Below.on hbw hb), (Below.on hbu hb), (Box.new W' _ _ _), hbw.size, hbu.size, (Nat.ne_of_gt Hxo.out.lt), (Nat.ne_of_gt Hxv.out.lt), (Hxy.out.below hb), Hhgy.out, Hhuy.out, Hdyo.out, Hdyv.out, (Nat.ne_of_gt Hxy.out.lt), (Hz3.out.below hb), Hl3.out, (Hz3.out.blk.imp id Nat.ne_of_lt), Ha3y.out, (Hz5.out.below hb), Hl5.out⟩)
  have N5 : ∀ (t1 : Bool) (k1 n1 : Nat) (t2 : Bool) (k2 n2 : Nat) (t3 : Bool) (k3 n3 : Nat) (t4 : Bool) (k4 n4 : Nat) (t5 : Bool) (k5 n5 : Nat) (W' : World), Box W' go (.bool s2) (.slice (some ⟨g2, 0, none⟩) m2 m2) ∧ Box W' gv (.bool s4) (.slice (some ⟨g4, 0, none⟩) m4 m4) ∧ Below w.heap.size w W' ∧ Below U.heap.size U W' ∧ ZR W' t3 (some ⟨k3, 0, none⟩) n3 ((ux hi + ux lo) * (((2 ^ j : Nat) : Int) - 1)) ∧ n3 ≤ 3000 ∧ ZR W' t5 (some ⟨k5, 0, none⟩) n5 (((2 ^ j : Nat) : Int) + 1) ∧ n5 ≤ 204 → WP 5 (((((L0.setIfInBounds 2 true).setIfInBounds 3 true).setIfInBounds 4 true).setIfInBounds 7 true).setIfInBounds 8 true) (((((a0.put (some 22) (.agg #[.bool t1, .slice (some ⟨k1, 0, none⟩) n1 n1])).put (some 23) (.agg #[.bool t2, .slice (some ⟨k2, 0, none⟩) n2 n2])).put (some 24) (.agg #[.bool t3, .slice (some ⟨k3, 0, none⟩) n3 n3])).put (some 27) (.agg #[.bool t4, .slice (some ⟨k4, 0, none⟩) n4 n4])).put (some 28) (.agg #[.bool t5, .slice (some ⟨k5, 0, none⟩) n5 n5])) W' := by
    rintro t1 k1 n1 t2 k2 n2 t3 k3 n3 t4 k4 n4 t5 k5 n5 W' ⟨xo, xv, hbw, hbu, z3, l3, z5, l5⟩
    subst hWP hL ha
    have Hxo := Hid.mk9 xo
    have Hxv := Hid.mk9 xv
    have Hz3 := Hid.mk9 z3
    have Hl3 := Hid.mk9 l3
    have Hz5 := Hid.mk9 z5
    have Hl5 := Hid.mk9 l5
    clear xo xv z3 l3 z5 l5
    go_simp
    refine wpJ_three (i := 9) (k := 10) (l := 11) (by kernel_rfl) rfl rfl rfl (by kernel_rfl) (by kernel_rfl) (by kernel_rfl) (fun KJ hK => ?_) (fun KJ hK => ?_) (fun KJ hK => ?_)
    · go_simp
      refine (rmul04 s4 t5 (ZV.out.below hbu) Hz5.out (by have := HL4.out; omega) (by have := Hl5.out; omega)).mono ?_
      rintro e W2 ⟨v, rfl, hv, hb⟩
      obtain ⟨t6, k6, n6, rfl, hg, hz, hl⟩ := hv
      refine hK _ _ ⟨(Hxv.out.below hb).c0, (Hxv.out.below hb).c1, (Hxo.out.below hb).c0, (Hxo.out.below hb).c1⟩ ?_
      exact wpJ_same (by kernel_rfl) (by kernel_rfl) (N6 t1 k1 n1 t2 k2 n2 t3 k3 n3 t4 k4 n4 t5 k5 n5 t6 k6 n6 W2 ⟨(Hxo.out.below hb), (Hxv.out.below hb), (Below.on hbw hb), (Below.on hbu hb), (Hz3.out.below hb), Hl3.out, hz, (by have h9 := hl; have := Hl3.out; have := Hl5.out; have := HM2.out; have := HL4.out; omega)⟩)
    · go_simp
      have hb := below1 W' (.cells #[.bool false, .slice none 0 0] 47)
      refine hK _ _ ⟨(Hxv.out.below hb).c0, (Hxv.out.below hb).c1, (Hxo.out.below hb).c0, (Hxo.out.below hb).c1⟩ ?_
      exact wpJ_same (by kernel_rfl) (by kernel_rfl) (N5x t1 k1 n1 t2 k2 n2 t3 k3 n3 t4 k4 n4 t5 k5 n5 W'.heap.size _ ⟨(Hxo.out.below hb), (Hxv.out.below hb), (Below.on hbw hb), (Below.on hbu hb), (Box.new W' _ _ _), hbw.size, hbu.size, (Nat.ne_of_gt Hxo.out.lt), (Nat.ne_of_gt Hxv.out.lt), (Hz3.out.below hb), Hl3.out, (Hz3.out.blk.imp id Nat.ne_of_lt), (Hz5.out.below hb), Hl5.out⟩)
    · go_simp
      have hb := below1 W' (.cells #[.bool false, .slice none 0 0] 47)
      refine hK _ _ ⟨(Hxv.out.below hb).c0, (Hxv.out.below hb).c1, (Hxo.out.below hb).c0, (Hxo.out.below hb).c1⟩ ?_
      exact wpJ_same (by kernel_rfl) (by kernel_rfl) (N5y t1 k1 n1 t2 k2 n2 t3 k3 n3 t4 k4 n4 t5 k5 n5 W'.heap.size _ ⟨(Hxo.out.below hb), (Hxv.out.below hb), (Below.on hbw hb), (Below.on hbu hb), (Box.new W' _ _ _), hbw.size, hbu.size, (Nat.ne_of_gt Hxo.out.lt), (Nat.ne_of_gt Hxv.out.lt), (Hz3.out.below hb), Hl3.out, (Hz3.out.blk.imp id Nat.ne_of_lt), (Hz5.out.below hb), Hl5.out⟩)
  have N4xy : ∀ (t1 : Bool) (k1 n1 : Nat) (t2 : Bool) (k2 n2 : Nat) (t3 : Bool) (k3 n3 : Nat) (t4 : Bool) (k4 n4 : Nat) (gx : Nat) (gy : Nat) (W' : World), Box W' go (.bool s2) (.slice (some ⟨g2, 0, none⟩) m2 m2) ∧ Box W' gv (.bool s4) (.slice (some ⟨g4, 0, none⟩) m4 m4) ∧ Below w.heap.size w W' ∧ Below U.heap.size U W' ∧ Box W' gx (.bool false) (.slice none 0 0) ∧ w.heap.size ≤ gx ∧ U.heap.size ≤ gx ∧ gx ≠ go ∧ gx ≠ gv ∧ Box W' gy (.bool false) (.slice none 0 0) ∧ w.heap.size ≤ gy ∧ U.heap.size ≤ gy ∧ gy ≠ go ∧ gy ≠ gv ∧ gx ≠ gy ∧ ZR W' t3 (some ⟨k3, 0, none⟩) n3 ((ux hi + ux lo) * (((2 ^ j : Nat) : Int) - 1)) ∧ n3 ≤ 3000 ∧ (n3 = 0 ∨ k3 ≠ gx) ∧ (n3 = 0 ∨ k3 ≠ gy) ∧ ZR W' t4 (some ⟨k4, 0, none⟩) n4 (1) ∧ n4 ≤ 3 → WP 4 ((((((L0.setIfInBounds 2 true).setIfInBounds 3 true).setIfInBounds 4 true).setIfInBounds 7 true).setIfInBounds 10 true).setIfInBounds 11 true) ((((((a0.put (some 22) (.agg #[.bool t1, .slice (some ⟨k1, 0, none⟩) n1 n1])).put (some 23) (.agg #[.bool t2, .slice (some ⟨k2, 0, none⟩) n2 n2])).put (some 24) (.agg #[.bool t3, .slice (some ⟨k3, 0, none⟩) n3 n3])).put (some 27) (.agg #[.bool t4, .slice (some ⟨k4, 0, none⟩) n4 n4])).put (some 9) (.pointer (some ⟨gx, 0, none⟩))).put (some 10) (.pointer (some ⟨gy, 0, none⟩))) W' := by
    rintro t1 k1 n1 t2 k2 n2 t3 k3 n3 t4 k4 n4 gx gy W' ⟨xo, xv, hbw, hbu, xx, hgx, hux, dxo, dxv, xy, hgy, huy, dyo, dyv, dd, z3, l3, a3x, a3y, z4, l4⟩
    subst hWP hL ha
    have Hxo := Hid.mk9 xo
    have Hxv := Hid.mk9 xv
    have Hxx := Hid.mk9 xx
    have Hhgx := Hid.mk9 hgx
    have Hhux := Hid.mk9 hux
    have Hdxo := Hid.mk9 dxo
    have Hdxv := Hid.mk9 dxv
    have Hxy := Hid.mk9 xy
    have Hhgy := Hid.mk9 hgy
    have Hhuy := Hid.mk9 huy
    have Hdyo := Hid.mk9 dyo
    have Hdyv := Hid.mk9 dyv
    have Hdd := Hid.mk9 dd
    have Hz3 := Hid.mk9 z3
    have Hl3 := Hid.mk9 l3
    have Ha3x := Hid.mk9 a3x
    have Ha3y := Hid.mk9 a3y
    have Hz4 := Hid.mk9 z4
    have Hl4 := Hid.mk9 l4
    clear xo xv xx hgx hux dxo dxv xy hgy huy dyo dyv dd z3 l3 a3x a3y z4 l4
    go_simp
    refine wpJ_on 8 rfl fun KJ hK => ?_
    go_simp
    refine (radd04 s2 t4 (ZQ.out.below hbu) Hz4.out (by have := HM2.out; omega) (by have := Hl4.out; omega)).mono ?_
    rintro e W2 ⟨v, rfl, hv, hb⟩
    obtain ⟨t5, k5, n5, rfl, hg, hz, hl⟩ := hv
    refine hK _ _ ⟨(Hxv.out.below hb).c0, (Hxv.out.below hb).c1, (Hxo.out.below hb).c0, (Hxo.out.below hb).c1⟩ ?_
    exact wpJ_same (by kernel_rfl) (by kernel_rfl) (N5xy t1 k1 n1 t2 k2 n2 t3 k3 n3 t4 k4 n4 t5 k5 n5 gx gy W2 ⟨(Hxo.out.below hb), (Hxv.out.below hb), (Below.on hbw hb), (Below.on hbu hb), (Hxx.out.below hb), Hhgx.out, Hhux.out, Hdxo.out, Hdxv.out, (Hxy.out.below hb), Hhgy.out, Hhuy.out, Hdyo.out, Hdyv.out, Hdd.out, (Hz3.out.below hb), Hl3.out, Ha3x.out, Ha3y.out, hz, (by have h9 := hl; have := Hl3.out; have := Hl4.out; have := HM2.out; have := HL4.out; omega)⟩)
  have N4x : ∀ (t1 : Bool) (k1 n1 : Nat) (t2 : Bool) (k2 n2 : Nat) (t3 : Bool) (k3 n3 : Nat) (t4 : Bool) (k4 n4 : Nat) (gx : Nat) (W' : World), Box W' go (.bool s2) (.slice (some ⟨g2, 0, none⟩) m2 m2) ∧ Box W' gv (.bool s4) (.slice (some ⟨g4, 0, none⟩) m4 m4) ∧ Below w.heap.size w W' ∧ Below U.heap.size U W' ∧ Box W' gx (.bool false) (.slice none 0 0) ∧ w.heap.size ≤ gx ∧ U.heap.size ≤ gx ∧ gx ≠ go ∧ gx ≠ gv ∧ ZR W' t3 (some ⟨k3, 0, none⟩) n3 ((ux hi + ux lo) * (((2 ^ j : Nat) : Int) - 1)) ∧ n3 ≤ 3000 ∧ (n3 = 0 ∨ k3 ≠ gx) ∧ ZR W' t4 (some ⟨k4, 0, none⟩) n4 (1) ∧ n4 ≤ 3 → WP 5 (((((L0.setIfInBounds 2 true).setIfInBounds 3 true).setIfInBounds 4 true).setIfInBounds 7 true).setIfInBounds 10 true) (((((a0.put (some 22) (.agg #[.bool t1, .slice (some ⟨k1, 0, none⟩) n1 n1])).put (some 23) (.agg #[.bool t2, .slice (some ⟨k2, 0, none⟩) n2 n2])).put (some 24) (.agg #[.bool t3, .slice (some ⟨k3, 0, none⟩) n3 n3])).put (some 27) (.agg #[.bool t4, .slice (some ⟨k4, 0, none⟩) n4 n4])).put (some 9) (.pointer (some ⟨gx, 0, none⟩))) W' := by
    rintro t1 k1 n1 t2 k2 n2 t3 k3 n3 t4 k4 n4 gx W' ⟨xo, xv, hbw, hbu, xx, hgx, hux, dxo, dxv, z3, l3, a3x, z4, l4⟩
    subst hWP hL ha
    have Hxo := Hid.mk9 xo
    have Hxv := Hid.mk9 xv
    have Hxx := Hid.mk9 xx
    have Hhgx := Hid.mk9 hgx
    have Hhux := Hid.mk9 hux
    have Hdxo := Hid.mk9 dxo
    have Hdxv := Hid.mk9 dxv
    have Hz3 := Hid.mk9 z3
    have Hl3 := Hid.mk9 l3
    have Ha3x := Hid.mk9 a3x
    have Hz4 := Hid.mk9 z4
    have Hl4 := Hid.mk9 l4
    clear xo xv xx hgx hux dxo dxv z3 l3 a3x z4 l4
    go_simp
    refine wpJ_two (i := 8) (k := 11) (by kernel_rfl) rfl rfl (by kernel_rfl) (by kernel_rfl) (fun KJ hK => ?_) (fun KJ hK => ?_)
    · go_simp
      refine (radd04 s2 t4 (ZQ.out.below hbu) Hz4.out (by have := HM2.out; omega) (by have := Hl4.out; omega)).mono ?_
      rintro e W2 ⟨v, rfl, hv, hb⟩
      obtain ⟨t5, k5, n5, rfl, hg, hz, hl⟩ := hv
      refine hK _ _ ⟨(Hxv.out.below hb).c0, (Hxv.out.below hb).c1, (Hxo.out.below hb).c0, (Hxo.out.below hb).c1⟩ ?_
      exact wpJ_same (by kernel_rfl) (by kernel_rfl) (N5x t1 k1 n1 t2 k2 n2 t3 k3 n3 t4 k4 n4 t5 k5 n5 gx W2 ⟨(Hxo.out.below hb), (Hxv.out.below hb), (Below.on hbw hb), (Below.on hbu hb), (Hxx.out.below hb), Hhgx.out, Hhux.out, Hdxo.out, Hdxv.out, (Hz3.out.below hb), Hl3.out, Ha3x.out, hz, (by have h9 := hl; have := Hl3.out; have := Hl4.out; have := HM2.out; have := HL4.out; omega)⟩)
    · go_simp
      have hb := below1 W' (.cells #[.bool false, .slice none 0 0] 47)
      refine hK _ _ ⟨(Hxv.out.below hb).c0, (Hxv.out.below hb).c1, (Hxo.out.below hb).c0, (Hxo.out.below hb).c1⟩ ?_
      exact wpJ_same (by kernel_rfl) (by kernel_rfl) (N4xy t1 k1 n1 t2 k2 n2 t3 k3 n3 t4 k4 n4 gx W'.heap.size _ ⟨(Hxo.out.below hb), (Hxv.out.below hb), (Below.on hbw hb), (Below.on hbu hb), (Hxx.out.below hb), Hhgx.out, Hhux.out, Hdxo.out, Hdxv.out, (Box.new W' _ _ _), hbw.size, hbu.size, (Nat.ne_of_gt Hxo.out.lt), (Nat.ne_of_gt Hxv.out.lt), (Nat.ne_of_lt Hxx.out.lt), (Hz3.out.below hb), Hl3.out, Ha3x.out, (Hz3.out.blk.imp id Nat.ne_of_lt), (Hz4.out.below hb), Hl4.out⟩)
  have N4y : ∀ (t1 : Bool) (k1 n1 : Nat) (t2 : Bool) (k2 n2 : Nat) (t3 : Bool) (k3 n3 : Nat) (t4 : Bool) (k4 n4 : Nat) (gy : Nat) (W' : World), Box W' go (.bool s2) (.slice (some ⟨g2, 0, none⟩) m2 m2) ∧ Box W' gv (.bool s4) (.slice (some ⟨g4, 0, none⟩) m4 m4) ∧ Below w.heap.size w W' ∧ Below U.heap.size U W' ∧ Box W' gy (.bool false) (.slice none 0 0) ∧ w.heap.size ≤ gy ∧ U.heap.size ≤ gy ∧ gy ≠ go ∧ gy ≠ gv ∧ ZR W' t3 (some ⟨k3, 0, none⟩) n3 ((ux hi + ux lo) * (((2 ^ j : Nat) : Int) - 1)) ∧ n3 ≤ 3000 ∧ (n3 = 0 ∨ k3 ≠ gy) ∧ ZR W' t4 (some ⟨k4, 0, none⟩) n4 (1) ∧ n4 ≤ 3 → WP 5 (((((L0.setIfInBounds 2 true).setIfInBounds 3 true).setIfInBounds 4 true).setIfInBounds 7 true).setIfInBounds 11 true) (((((a0.put (some 22) (.agg #[.bool t1, .slice (some ⟨k1, 0, none⟩) n1 n1])).put (some 23) (.agg #[.bool t2, .slice (some ⟨k2, 0, none⟩) n2 n2])).put (some 24) (.agg #[.bool t3, .slice (some ⟨k3, 0, none⟩) n3 n3])).put (some 27) (.agg #[.bool t4, .slice (some ⟨k4, 0, none⟩) n4 n4])).put (some 10) (.pointer (some ⟨gy, 0, none⟩))) W' := by
    rintro t1 k1 n1 t2 k2 n2 t3 k3 n3 t4 k4 n4 gy W' ⟨xo, xv, hbw, hbu, xy, hgy, huy, dyo, dyv, z3, l3, a3y, z4, l4⟩
    subst hWP hL ha
    have Hxo := Hid.mk9 xo
    have Hxv := Hid.mk9 xv
    have Hxy := Hid.mk9 xy
    have Hhgy := Hid.mk9 hgy
    have Hhuy := Hid.mk9 huy
    have Hdyo := Hid.mk9 dyo
    have Hdyv := Hid.mk9 dyv
    have Hz3 := Hid.mk9 z3
    have Hl3 := Hid.mk9 l3
    have Ha3y := Hid.mk9 a3y
    have Hz4 := Hid.mk9 z4
    have Hl4 := Hid.mk9 l4
    clear xo xv xy hgy huy dyo dyv z3 l3 a3y z4 l4
    go_simp
    refine wpJ_two (i := 8) (k := 10) (by kernel_rfl) rfl rfl (by kernel_rfl) (by kernel_rfl) (fun KJ hK => ?_) (fun KJ hK => ?_)
    · go_simp
      refine (radd04 s2 t4 (ZQ.out.below hbu) Hz4.out (by have := HM2.out; omega) (by have := Hl4.out; omega)).mono ?_
      rintro e W2 ⟨v, rfl, hv, hb⟩
      obtain ⟨t5, k5, n5, rfl, hg, hz, hl⟩ := hv
      refine hK _ _ ⟨(Hxv.out.below hb).c0, (Hxv.out.below hb).c1, (Hxo.out.below hb).c0, (Hxo.out.below hb).c1⟩ ?_
      exact wpJ_same (by kernel_rfl) (by kernel_rfl) (N5y t1 k1 n1 t2 k2 n2 t3 k3 n3 t4 k4 n4 t5 k5 n5 gy W2 ⟨(Hxo.out.below hb), (Hxv.out.below hb), (Below.on hbw hb), (Below.on hbu hb), (Hxy.out.below hb), Hhgy.out, Hhuy.out, Hdyo.out, Hdyv.out, (Hz3.out.below hb), Hl3.out, Ha3y.out, hz, (by have h9 := hl; have := Hl3.out; have := Hl4.out; have := HM2.out; have := HL4.out; omega)⟩)
    · go_simp
      have hb := below1 W' (.cells #[.bool false, .slice none 0 0] 47)
      refine hK _ _ ⟨(Hxv.out.below hb).c0, (Hxv.out.below hb).c1, (Hxo.out.below hb).c0, (Hxo.out.below hb).c1⟩ ?_
      exact wpJ_same (by kernel_rfl) (by kernel_rfl) (N4xy t1 k1 n1 t2 k2 n2 t3 k3 n3 t4 k4 n4 W'.heap.size gy _ ⟨(Hxo.out.below hb), (Hxv.out.below hb), (Below.on hbw hb), (Below.on hbu hb), (Box.new W' _ _ _), hbw.size, hbu.size, (Nat.ne_of_gt Hxo.out.lt), (Nat.ne_of_gt Hxv.out.lt), (Hxy.out.below hb), Hhgy.out, Hhuy.out, Hdyo.out, Hdyv.out, (Nat.ne_of_gt Hxy.out.lt), (Hz3.out.below hb), Hl3.out, (Hz3.out.blk.imp id Nat.ne_of_lt), Ha3y.out, (Hz4.out.below hb), Hl4.out⟩)
  have N4 : ∀ (t1 : Bool) (k1 n1 : Nat) (t2 : Bool) (k2 n2 : Nat) (t3 : Bool) (k3 n3 : Nat) (t4 : Bool) (k4 n4 : Nat) (W' : World), Box W' go (.bool s2) (.slice (some ⟨g2, 0, none⟩) m2 m2) ∧ Box W' gv (.bool s4) (.slice (some ⟨g4, 0, none⟩) m4 m4) ∧ Below w.heap.size w W' ∧ Below U.heap.size U W' ∧ ZR W' t3 (some ⟨k3, 0, none⟩) n3 ((ux hi + ux lo) * (((2 ^ j : Nat) : Int) - 1)) ∧ n3 ≤ 3000 ∧ ZR W' t4 (some ⟨k4, 0, none⟩) n4 (1) ∧ n4 ≤ 3 → WP 6 ((((L0.setIfInBounds 2 true).setIfInBounds 3 true).setIfInBounds 4 true).setIfInBounds 7 true) ((((a0.put (some 22) (.agg #[.bool t1, .slice (some ⟨k1, 0, none⟩) n1 n1])).put (some 23) (.agg #[.bool t2, .slice (some ⟨k2, 0, none⟩) n2 n2])).put (some 24) (.agg #[.bool t3, .slice (some ⟨k3, 0, none⟩) n3 n3])).put (some 27) (.agg #[.bool t4, .slice (some ⟨k4, 0, none⟩) n4 n4])) W' := by
    rintro t1 k1 n1 t2 k2 n2 t3 k3 n3 t4 k4 n4 W' ⟨xo, xv, hbw, hbu, z3, l3, z4, l4⟩
    subst hWP hL ha
    have Hxo := Hid.mk9 xo
    have Hxv := Hid.mk9 xv
    have Hz3 := Hid.mk9 z3
    have Hl3 := Hid.mk9 l3
    have Hz4 := Hid.mk9 z4
    have Hl4 := Hid.mk9 l4
    clear xo xv z3 l3 z4 l4
    go_simp
    refine wpJ_three (i := 8) (k := 10) (l := 11) (by kernel_rfl) rfl rfl rfl (by kernel_rfl) (by kernel_rfl) (by kernel_rfl) (fun KJ hK => ?_) (fun KJ hK => ?_) (fun KJ hK => ?_)
    · go_simp
      refine (radd04 s2 t4 (ZQ.out.below hbu) Hz4.out (by have := HM2.out; omega) (by have := Hl4.out; omega)).mono ?_
      rintro e W2 ⟨v, rfl, hv, hb⟩
      obtain ⟨t5, k5, n5, rfl, hg, hz, hl⟩ := hv
      refine hK _ _ ⟨(Hxv.out.below hb).c0, (Hxv.out.below hb).c1, (Hxo.out.below hb).c0, (Hxo.out.below hb).c1⟩ ?_
      exact wpJ_same (by kernel_rfl) (by kernel_rfl) (N5 t1 k1 n1 t2 k2 n2 t3 k3 n3 t4 k4 n4 t5 k5 n5 W2 ⟨(Hxo.out.below hb), (Hxv.out.below hb), (Below.on hbw hb), (Below.on hbu hb), (Hz3.out.below hb), Hl3.out, hz, (by have h9 := hl; have := Hl3.out; have := Hl4.out; have := HM2.out; have := HL4.out; omega)⟩)
    · go_simp
      have hb := below1 W' (.cells #[.bool false, .slice none 0 0] 47)
      refine hK _ _ ⟨(Hxv.out.below hb).c0, (Hxv.out.below hb).c1, (Hxo.out.below hb).c0, (Hxo.out.below hb).c1⟩ ?_
      exact wpJ_same (by kernel_rfl) (by kernel_rfl) (N4x t1 k1 n1 t2 k2 n2 t3 k3 n3 t4 k4 n4 W'.heap.size _ ⟨(Hxo.out.below hb), (Hxv.out.below hb), (Below.on hbw hb), (Below.on hbu hb), (Box.new W' _ _ _), hbw.size, hbu.size, (Nat.ne_of_gt Hxo.out.lt), (Nat.ne_of_gt Hxv.out.lt), (Hz3.out.below hb), Hl3.out, (Hz3.out.blk.imp id Nat.ne_of_lt), (Hz4.out.below hb), Hl4.out⟩)
    · go_simp
      have hb := below1 W' (.cells #[.bool false, .slice none 0 0] 47)
      refine hK _ _ ⟨(Hxv.out.below hb).c0, (Hxv.out.below hb).c1, (Hxo.out.below hb).c0, (Hxo.out.below hb).c1⟩ ?_
      exact wpJ_same (by kernel_rfl) (by kernel_rfl) (N4y t1 k1 n1 t2 k2 n2 t3 k3 n3 t4 k4 n4 W'.heap.size _ ⟨(Hxo.out.below hb), (Hxv.out.below hb), (Below.on hbw hb), (Below.on hbu hb), (Box.new W' _ _ _), hbw.size, hbu.size, (Nat.ne_of_gt Hxo.out.lt), (Nat.ne_of_gt Hxv.out.lt), (Hz3.out.below hb), Hl3.out, (Hz3.out.blk.imp id Nat.ne_of_lt), (Hz4.out.below hb), Hl4.out⟩)
  have N3xy : ∀ (t1 : Bool) (k1 n1 : Nat) (t2 : Bool) (k2 n2 : Nat) (t3 : Bool) (k3 n3 : Nat) (gx : Nat) (gy : Nat) (W' : World), Box W' go (.bool s2) (.slice (some ⟨g2, 0, none⟩) m2 m2) ∧ Box W' gv (.bool s4) (.slice (some ⟨g4, 0, none⟩) m4 m4) ∧ Below w.heap.size w W' ∧ Below U.heap.size U W' ∧ Box W' gx (.bool false) (.slice none 0 0) ∧ w.heap.size ≤ gx ∧ U.heap.size ≤ gx ∧ gx ≠ go ∧ gx ≠ gv ∧ Box W' gy (.bool false) (.slice none 0 0) ∧ w.heap.size ≤ gy ∧ U.heap.size ≤ gy ∧ gy ≠ go ∧ gy ≠ gv ∧ gx ≠ gy ∧ ZR W' t3 (some ⟨k3, 0, none⟩) n3 ((ux hi + ux lo) * (((2 ^ j : Nat) : Int) - 1)) ∧ n3 ≤ 3000 ∧ (n3 = 0 ∨ k3 ≠ gx) ∧ (n3 = 0 ∨ k3 ≠ gy) → WP 5 (((((L0.setIfInBounds 2 true).setIfInBounds 3 true).setIfInBounds 4 true).setIfInBounds 10 true).setIfInBounds 11 true) (((((a0.put (some 22) (.agg #[.bool t1, .slice (some ⟨k1, 0, none⟩) n1 n1])).put (some 23) (.agg #[.bool t2, .slice (some ⟨k2, 0, none⟩) n2 n2])).put (some 24) (.agg #[.bool t3, .slice (some ⟨k3, 0, none⟩) n3 n3])).put (some 9) (.pointer (some ⟨gx, 0, none⟩))).put (some 10) (.pointer (some ⟨gy, 0, none⟩))) W' := by
    rintro t1 k1 n1 t2 k2 n2 t3 k3 n3 gx gy W' ⟨xo, xv, hbw, hbu, xx, hgx, hux, dxo, dxv, xy, hgy, huy, dyo, dyv, dd, z3, l3, a3x, a3y⟩
    subst hWP hL ha
    have Hxo := Hid.mk9 xo
    have Hxv := Hid.mk9 xv
    have Hxx := Hid.mk9 xx
    have Hhgx := Hid.mk9 hgx
    have Hhux := Hid.mk9 hux
    have Hdxo := Hid.mk9 dxo
    have Hdxv := Hid.mk9 dxv
    have Hxy := Hid.mk9 xy
    have Hhgy := Hid.mk9 hgy
    have Hhuy := Hid.mk9 huy
    have Hdyo := Hid.mk9 dyo
    have Hdyv := Hid.mk9 dyv
    have Hdd := Hid.mk9 dd
    have Hz3 := Hid.mk9 z3
    have Hl3 := Hid.mk9 l3
    have Ha3x := Hid.mk9 a3x
    have Ha3y := Hid.mk9 a3y
    clear xo xv xx hgx hux dxo dxv xy hgy huy dyo dyv dd z3 l3 a3x a3y
    go_simp
    refine wpJ_on 7 rfl fun KJ hK => ?_
    go_simp
    refine (rof04 1 _ (by decide) (by decide)).mono ?_
    rintro e W2 ⟨t4, k4, n4, rfl, hz, hl, hb⟩
    refine hK _ _ ⟨(Hxv.out.below hb).c0, (Hxv.out.below hb).c1, (Hxo.out.below hb).c0, (Hxo.out.below hb).c1⟩ ?_
    exact wpJ_same (by kernel_rfl) (by kernel_rfl) (N4xy t1 k1 n1 t2 k2 n2 t3 k3 n3 t4 k4 n4 gx gy W2 ⟨(Hxo.out.below hb), (Hxv.out.below hb), (Below.on hbw hb), (Below.on hbu hb), (Hxx.out.below hb), Hhgx.out, Hhux.out, Hdxo.out, Hdxv.out, (Hxy.out.below hb), Hhgy.out, Hhuy.out, Hdyo.out, Hdyv.out, Hdd.out, (Hz3.out.below hb), Hl3.out, Ha3x.out, Ha3y.out, hz, (by have h9 := hl; have := Hl3.out; have := HM2.out; have := HL4.out; omega)⟩)
  have N3x : ∀ (t1 : Bool) (k1 n1 : Nat) (t2 : Bool) (k2 n2 : Nat) (t3 : Bool) (k3 n3 : Nat) (gx : Nat) (W' : World), Box W' go (.bool s2) (.slice (some ⟨g2, 0, none⟩) m2 m2) ∧ Box W' gv (.bool s4) (.slice (some ⟨g4, 0, none⟩) m4 m4) ∧ Below w.heap.size w W' ∧ Below U.heap.size U W' ∧ Box W' gx (.bool false) (.slice none 0 0) ∧ w.heap.size ≤ gx ∧ U.heap.size ≤ gx ∧ gx ≠ go ∧ gx ≠ gv ∧ ZR W' t3 (some ⟨k3, 0, none⟩) n3 ((ux hi + ux lo) * (((2 ^ j : Nat) : Int) - 1)) ∧ n3 ≤ 3000 ∧ (n3 = 0 ∨ k3 ≠ gx) → WP 6 ((((L0.setIfInBounds 2 true).setIfInBounds 3 true).setIfInBounds 4 true).setIfInBounds 10 true) ((((a0.put (some 22) (.agg #[.bool t1, .slice (some ⟨k1, 0, none⟩) n1 n1])).put (some 23) (.agg #[.bool t2, .slice (some ⟨k2, 0, none⟩) n2 n2])).put (some 24) (.agg #[.bool t3, .slice (some ⟨k3, 0, none⟩) n3 n3])).put (some 9) (.pointer (some ⟨gx, 0, none⟩))) W' := by
    rintro t1 k1 n1 t2 k2 n2 t3 k3 n3 gx W' ⟨xo, xv, hbw, hbu, xx, hgx, hux, dxo, dxv, z3, l3, a3x⟩
    subst hWP hL ha
    have Hxo := Hid.mk9 xo
    have Hxv := Hid.mk9 xv
    have Hxx := Hid.mk9 xx
    have Hhgx := Hid.mk9 hgx
    have Hhux := Hid.mk9 hux
    have Hdxo := Hid.mk9 dxo
    have Hdxv := Hid.mk9 dxv
    have Hz3 := Hid.mk9 z3
    have Hl3 := Hid.mk9 l3
    have Ha3x := Hid.mk9 a3x
    clear xo xv xx hgx hux dxo dxv z3 l3 a3x
    go_simp
    refine wpJ_two (i := 7) (k := 11) (by kernel_rfl) rfl rfl (by kernel_rfl) (by kernel_rfl) (fun KJ hK => ?_) (fun KJ hK => ?_)
    · go_simp
      refine (rof04 1 _ (by decide) (by decide)).mono ?_
      rintro e W2 ⟨t4, k4, n4, rfl, hz, hl, hb⟩
      refine hK _ _ ⟨(Hxv.out.below hb).c0, (Hxv.out.below hb).c1, (Hxo.out.below hb).c0, (Hxo.out.below hb).c1⟩ ?_
      exact wpJ_same (by kernel_rfl) (by kernel_rfl) (N4x t1 k1 n1 t2 k2 n2 t3 k3 n3 t4 k4 n4 gx W2 ⟨(Hxo.out.below hb), (Hxv.out.below hb), (Below.on hbw hb), (Below.on hbu hb), (Hxx.out.below hb), Hhgx.out, Hhux.out, Hdxo.out, Hdxv.out, (Hz3.out.below hb), Hl3.out, Ha3x.out, hz, (by have h9 := hl; have := Hl3.out; have := HM2.out; have := HL4.out; omega)⟩)
    · go_simp
      have hb := below1 W' (.cells #[.bool false, .slice none 0 0] 47)
      refine hK _ _ ⟨(Hxv.out.below hb).c0, (Hxv.out.below hb).c1, (Hxo.out.below hb).c0, (Hxo.out.below hb).c1⟩ ?_
      exact wpJ_same (by kernel_rfl) (by kernel_rfl) (N3xy t1 k1 n1 t2 k2 n2 t3 k3 n3 gx W'.heap.size _ ⟨(Hxo.out.below hb), (Hxv.out.below hb), (Below.on hbw hb), (Below.on hbu hb), (Hxx.out.below hb), Hhgx.out, Hhux.out, Hdxo.out, Hdxv.out, (Box.new W' _ _ _), hbw.size, hbu.size, (Nat.ne_of_gt Hxo.out.lt), (Nat.ne_of_gt Hxv.out.lt), (Nat.ne_of_lt Hxx.out.lt), (Hz3.out.below hb), Hl3.out, Ha3x.out, (Hz3.out.blk.imp id Nat.ne_of_lt)⟩)
  have N3y : ∀ (t1 : Bool) (k1 n1 : Nat) (t2 : Bool) (k2 n2 : Nat) (t3 : Bool) (k3 n3 : Nat) (gy : Nat) (W' : World), Box W' go (.bool s2) (.slice (some ⟨g2, 0, none⟩) m2 m2) ∧ Box W' gv (.bool s4) (.slice (some ⟨g4, 0, none⟩) m4 m4) ∧ Below w.heap.size w W' ∧ Below U.heap.size U W' ∧ Box W' gy (.bool false) (.slice none 0 0) ∧ w.heap.size ≤ gy ∧ U.heap.size ≤ gy ∧ gy ≠ go ∧ gy ≠ gv ∧ ZR W' t3 (some ⟨k3, 0, none⟩) n3 ((ux hi + ux lo) * (((2 ^ j : Nat) : Int) - 1)) ∧ n3 ≤ 3000 ∧ (n3 = 0 ∨ k3 ≠ gy) → WP 6 ((((L0.setIfInBounds 2 true).setIfInBounds 3 true).setIfInBounds 4 true).setIfInBounds 11 true) ((((a0.put (some 22) (.agg #[.bool t1, .slice (some ⟨k1, 0, none⟩) n1 n1])).put (some 23) (.agg #[.bool t2, .slice (some ⟨k2, 0, none⟩) n2 n2])).put (some 24) (.agg #[.bool t3, .slice (some ⟨k3, 0, none⟩) n3 n3])).put (some 10) (.pointer (some ⟨gy, 0, none⟩))) W' := by
    rintro t1 k1 n1 t2 k2 n2 t3 k3 n3 gy W' ⟨xo, xv, hbw, hbu, xy, hgy, huy, dyo, dyv, z3, l3, a3y⟩
    subst hWP hL ha
    have Hxo := Hid.mk9 xo
    have Hxv := Hid.mk9 xv
    have Hxy := Hid.mk9 xy
    have Hhgy := Hid.mk9 hgy
    have Hhuy := Hid.mk9 huy
    have Hdyo := Hid.mk9 dyo
    have Hdyv := Hid.mk9 dyv
    have Hz3 := Hid.mk9 z3
    have Hl3 := Hid.mk9 l3
    have Ha3y := Hid.mk9 a3y
    clear xo xv xy hgy huy dyo dyv z3 l3 a3y
    go_simp
    refine wpJ_two (i := 7) (k := 10) (by kernel_rfl) rfl rfl (by kernel_rfl) (by kernel_rfl) (fun KJ hK => ?_) (fun KJ hK => ?_)
    · go_simp
      refine (rof04 1 _ (by decide) (by decide)).mono ?_
      rintro e W2 ⟨t4, k4, n4, rfl, hz, hl, hb⟩
      refine hK _ _ ⟨(Hxv.out.below hb).c0, (Hxv.out.below hb).c1, (Hxo.out.below hb).c0, (Hxo.out.below hb).c1⟩ ?_
      exact wpJ_same (by kernel_rfl) (by kernel_rfl) (N4y t1 k1 n1 t2 k2 n2 t3 k3 n3 t4 k4 n4 gy W2 ⟨(Hxo.out.below hb), (Hxv.out.below hb), (Below.on hbw hb), (Below.on hbu hb), (Hxy.out.below hb), Hhgy.out, Hhuy.out, Hdyo.out, Hdyv.out, (Hz3.out.below hb), Hl3.out, Ha3y.out, hz, (by have h9 := hl; have := Hl3.out; have := HM2.out; have := HL4.out; omega)⟩)
    · go_simp
      have hb := below1 W' (.cells #[.bool false, .slice none 0 0] 47)
      refine hK _ _ ⟨(Hxv.out.below hb).c0, (Hxv.out.below hb).c1, (Hxo.out.below hb).c0, (Hxo.out.below hb).c1⟩ ?_
      exact wpJ_same (by kernel_rfl) (by kernel_rfl) (N3xy t1 k1 n1 t2 k2 n2 t3 k3 n3 W'.heap.size gy _ ⟨(Hxo.out.below hb), (Hxv.out.below hb), (Below.on hbw hb), (Below.on hbu hb), (Box.new W' _ _ _), hbw.size, hbu.size, (Nat.ne_of_gt Hxo.out.lt), (Nat.ne_of_gt Hxv.out.lt), (Hxy.out.below hb), Hhgy.out, Hhuy.out, Hdyo.out, Hdyv.out, (Nat.ne_of_gt Hxy.out.lt), (Hz3.out.below hb), Hl3.out, (Hz3.out.blk.imp id Nat.ne_of_lt), Ha3y.out⟩)
  have N3 : ∀ (t1 : Bool) (k1 n1 : Nat) (t2 : Bool) (k2 n2 : Nat) (t3 : Bool) (k3 n3 : Nat) (W' : World), Box W' go (.bool s2) (.slice (some ⟨g2, 0, none⟩) m2 m2) ∧ Box W' gv (.bool s4) (.slice (some ⟨g4, 0, none⟩) m4 m4) ∧ Below w.heap.size w W' ∧ Below U.heap.size U W' ∧ ZR W' t3 (some ⟨k3, 0, none⟩) n3 ((ux hi + ux lo) * (((2 ^ j : Nat) : Int) - 1)) ∧ n3 ≤ 3000 → WP 7 (((L0.setIfInBounds 2 true).setIfInBounds 3 true).setIfInBounds 4 true) (((a0.put (some 22) (.agg #[.bool t1, .slice (some ⟨k1, 0, none⟩) n1 n1])).put (some 23) (.agg #[.bool t2, .slice (some ⟨k2, 0, none⟩) n2 n2])).put (some 24) (.agg #[.bool t3, .slice (some ⟨k3, 0, none⟩) n3 n3])) W' := by
    rintro t1 k1 n1 t2 k2 n2 t3 k3 n3 W' ⟨xo, xv, hbw, hbu, z3, l3⟩
    subst hWP hL ha
    have Hxo := Hid.mk9 xo
    have Hxv := Hid.mk9 xv
    have Hz3 := Hid.mk9 z3
    have Hl3 := Hid.mk9 l3
    clear xo xv z3 l3
    go_simp
    refine wpJ_three (i := 7) (k := 10) (l := 11) (by kernel_rfl) rfl rfl rfl (by kernel_rfl) (by kernel_rfl) (by kernel_rfl) (fun KJ hK => ?_) (fun KJ hK => ?_) (fun KJ hK => ?_)
    · go_simp
      refine (rof04 1 _ (by decide) (by decide)).mono ?_
      rintro e W2 ⟨t4, k4, n4, rfl, hz, hl, hb⟩
      refine hK _ _ ⟨(Hxv.out.below hb).c0, (Hxv.out.below hb).c1, (Hxo.out.below hb).c0, (Hxo.out.below hb).c1⟩ ?_
      exact wpJ_same (by kernel_rfl) (by kernel_rfl) (N4 t1 k1 n1 t2 k2 n2 t3 k3 n3 t4 k4 n4 W2 ⟨(Hxo.out.below hb), (Hxv.out.below hb), (Below.on hbw hb), (Below.on hbu hb), (Hz3.out.below hb), Hl3.out, hz, (by have h9 := hl; have := Hl3.out; have := HM2.out; have := HL4.out; omega)⟩)
    · go_simp
      have hb := below1 W' (.cells #[.bool false, .slice none 0 0] 47)
      refine hK _ _ ⟨(Hxv.out.below hb).c0, (Hxv.out.below hb).c1, (Hxo.out.below hb).c0, (Hxo.out.below hb).c1⟩ ?_
      exact wpJ_same (by kernel_rfl) (by kernel_rfl) (N3x t1 k1 n1 t2 k2 n2 t3 k3 n3 W'.heap.size _ ⟨(Hxo.out.below hb), (Hxv.out.below hb), (Below.on hbw hb), (Below.on hbu hb), (Box.new W' _ _ _), hbw.size, hbu.size, (Nat.ne_of_gt Hxo.out.lt), (Nat.ne_of_gt Hxv.out.lt), (Hz3.out.below hb), Hl3.out, (Hz3.out.blk.imp id Nat.ne_of_lt)⟩)
    · go_simp
      have hb := below1 W' (.cells #[.bool false, .slice none 0 0] 47)
      refine hK _ _ ⟨(Hxv.out.below hb).c0, (Hxv.out.below hb).c1, (Hxo.out.below hb).c0, (Hxo.out.below hb).c1⟩ ?_
      exact wpJ_same (by kernel_rfl) (by kernel_rfl) (N3y t1 k1 n1 t2 k2 n2 t3 k3 n3 W'.heap.size _ ⟨(Hxo.out.below hb), (Hxv.out.below hb), (Below.on hbw hb), (Below.on hbu hb), (Box.new W' _ _ _), hbw.size, hbu.size, (Nat.ne_of_gt Hxo.out.lt), (Nat.ne_of_gt Hxv.out.lt), (Hz3.out.below hb), Hl3.out, (Hz3.out.blk.imp id Nat.ne_of_lt)⟩)
  have N2xy : ∀ (t1 : Bool) (k1 n1 : Nat) (t2 : Bool) (k2 n2 : Nat) (gx : Nat) (gy : Nat) (W' : World), Box W' go (.bool s2) (.slice (some ⟨g2, 0, none⟩) m2 m2) ∧ Box W' gv (.bool s4) (.slice (some ⟨g4, 0, none⟩) m4 m4) ∧ Below w.heap.size w W' ∧ Below U.heap.size U W' ∧ Box W' gx (.bool false) (.slice none 0 0) ∧ w.heap.size ≤ gx ∧ U.heap.size ≤ gx ∧ gx ≠ go ∧ gx ≠ gv ∧ Box W' gy (.bool false) (.slice none 0 0) ∧ w.heap.size ≤ gy ∧ U.heap.size ≤ gy ∧ gy ≠ go ∧ gy ≠ gv ∧ gx ≠ gy ∧ ZR W' t2 (some ⟨k2, 0, none⟩) n2 (((2 ^ j : Nat) : Int) - 1) ∧ n2 ≤ 204 → WP 6 ((((L0.setIfInBounds 2 true).setIfInBounds 3 true).setIfInBounds 10 true).setIfInBounds 11 true) ((((a0.put (some 22) (.agg #[.bool t1, .slice (some ⟨k1, 0, none⟩) n1 n1])).put (some 23) (.agg #[.bool t2, .slice (some ⟨k2, 0, none⟩) n2 n2])).put (some 9) (.pointer (some ⟨gx, 0, none⟩))).put (some 10) (.pointer (some ⟨gy, 0, none⟩))) W' := by
    rintro t1 k1 n1 t2 k2 n2 gx gy W' ⟨xo, xv, hbw, hbu, xx, hgx, hux, dxo, dxv, xy, hgy, huy, dyo, dyv, dd, z2, l2⟩
    subst hWP hL ha
    have Hxo := Hid.mk9 xo
    have Hxv := Hid.mk9 xv
    have Hxx := Hid.mk9 xx
    have Hhgx := Hid.mk9 hgx
    have Hhux := Hid.mk9 hux
    have Hdxo := Hid.mk9 dxo
    have Hdxv := Hid.mk9 dxv
    have Hxy := Hid.mk9 xy
    have Hhgy := Hid.mk9 hgy
    have Hhuy := Hid.mk9 huy
    have Hdyo := Hid.mk9 dyo
    have Hdyv := Hid.mk9 dyv
    have Hdd := Hid.mk9 dd
    have Hz2 := Hid.mk9 z2
    have Hl2 := Hid.mk9 l2
    clear xo xv xx hgx hux dxo dxv xy hgy huy dyo dyv dd z2 l2
    go_simp
    refine wpJ_on 4 rfl fun KJ hK => ?_
    go_simp
    refine (rmul04 s4 t2 (ZV.out.below hbu) Hz2.out (by have := HL4.out; omega) (by have := Hl2.out; omega)).mono ?_
    rintro e W2 ⟨v, rfl, hv, hb⟩
    obtain ⟨t3, k3, n3, rfl, hg, hz, hl⟩ := hv
    refine hK _ _ ⟨(Hxv.out.below hb).c0, (Hxv.out.below hb).c1, (Hxo.out.below hb).c0, (Hxo.out.below hb).c1⟩ ?_
    exact wpJ_same (by kernel_rfl) (by kernel_rfl) (N3xy t1 k1 n1 t2 k2 n2 t3 k3 n3 gx gy W2 ⟨(Hxo.out.below hb), (Hxv.out.below hb), (Below.on hbw hb), (Below.on hbu hb), (Hxx.out.below hb), Hhgx.out, Hhux.out, Hdxo.out, Hdxv.out, (Hxy.out.below hb), Hhgy.out, Hhuy.out, Hdyo.out, Hdyv.out, Hdd.out, hz, (by have h9 := hl; have := Hl2.out; have := HM2.out; have := HL4.out; omega), (.inr (Nat.ne_of_gt (Nat.lt_of_lt_of_le Hxx.out.lt hg))), (.inr (Nat.ne_of_gt (Nat.lt_of_lt_of_le Hxy.out.lt hg)))⟩)
  have N2x : ∀ (t1 : Bool) (k1 n1 : Nat) (t2 : Bool) (k2 n2 : Nat) (gx : Nat) (W' : World), Box W' go (.bool s2) (.slice (some ⟨g2, 0, none⟩) m2 m2) ∧ Box W' gv (.bool s4) (.slice (some ⟨g4, 0, none⟩) m4 m4) ∧ Below w.heap.size w W' ∧ Below U.heap.size U W' ∧ Box W' gx (.bool false) (.slice none 0 0) ∧ w.heap.size ≤ gx ∧ U.heap.size ≤ gx ∧ gx ≠ go ∧ gx ≠ gv ∧ ZR W' t2 (some ⟨k2, 0, none⟩) n2 (((2 ^ j : Nat) : Int) - 1) ∧ n2 ≤ 204 → WP 7 (((L0.setIfInBounds 2 true).setIfInBounds 3 true).setIfInBounds 10 true) (((a0.put (some 22) (.agg #[.bool t1, .slice (some ⟨k1, 0, none⟩) n1 n1])).put (some 23) (.agg #[.bool t2, .slice (some ⟨k2, 0, none⟩) n2 n2])).put (some 9) (.pointer (some ⟨gx, 0, none⟩))) W' := by
    rintro t1 k1 n1 t2 k2 n2 gx W' ⟨xo, xv, hbw, hbu, xx, hgx, hux, dxo, dxv, z2, l2⟩
    subst hWP hL ha
    have Hxo := Hid.mk9 xo
    have Hxv := Hid.mk9 xv
    have Hxx := Hid.mk9 xx
    have Hhgx := Hid.mk9 hgx
    have Hhux := Hid.mk9 hux
    have Hdxo := Hid.mk9 dxo
    have Hdxv := Hid.mk9 dxv
    have Hz2 := Hid.mk9 z2
    have Hl2 := Hid.mk9 l2
    clear xo xv xx hgx hux dxo dxv z2 l2
    go_simp
    refine wpJ_two (i := 4) (k := 11) (by kernel_rfl) rfl rfl (by kernel_rfl) (by kernel_rfl) (fun KJ hK => ?_) (fun KJ hK => ?_)
    · go_simp
      refine (rmul04 s4 t2 (ZV.out.below hbu) Hz2.out (by have := HL4.out; omega) (by have := Hl2.out; omega)).mono ?_
      rintro e W2 ⟨v, rfl, hv, hb⟩
      obtain ⟨t3, k3, n3, rfl, hg, hz, hl⟩ := hv
      refine hK _ _ ⟨(Hxv.out.below hb).c0, (Hxv.out.below hb).c1, (Hxo.out.below hb).c0, (Hxo.out.below hb).c1⟩ ?_
      exact wpJ_same (by kernel_rfl) (by kernel_rfl) (N3x t1 k1 n1 t2 k2 n2 t3 k3 n3 gx W2 ⟨(Hxo.out.below hb), (Hxv.out.below hb), (Below.on hbw hb), (Below.on hbu hb), (Hxx.out.below hb), Hhgx.out, Hhux.out, Hdxo.out, Hdxv.out, hz, (by have h9 := hl; have := Hl2.out; have := HM2.out; have := HL4.out; omega), (.inr (Nat.ne_of_gt (Nat.lt_of_lt_of_le Hxx.out.lt hg)))⟩)
    · go_simp
      have hb := below1 W' (.cells #[.bool false, .slice none 0 0] 47)
      refine hK _ _ ⟨(Hxv.out.below hb).c0, (Hxv.out.below hb).c1, (Hxo.out.below hb).c0, (Hxo.out.below hb).c1⟩ ?_
      exact wpJ_same (by kernel_rfl) (by kernel_rfl) (N2xy t1 k1 n1 t2 k2 n2 gx W'.heap.size _ ⟨(Hxo.out.below hb), (Hxv.out.below hb), (Below.on hbw hb), (Below.on hbu hb), (Hxx.out.below hb), Hhgx.out, Hhux.out, Hdxo.out, Hdxv.out, (Box.new W' _ _ _), hbw.size, hbu.size, (Nat.ne_of_gt Hxo.out.lt), (Nat.ne_of_gt Hxv.out.lt), (Nat.ne_of_lt Hxx.out.lt), (Hz2.out.below hb), Hl2.out⟩)
  have N2y : ∀ (t1 : Bool) (k1 n1 : Nat) (t2 : Bool) (k2 n2 : Nat) (gy : Nat) (W' : World), Box W' go (.bool s2) (.slice (some ⟨g2, 0, none⟩) m2 m2) ∧ Box W' gv (.bool s4) (.slice (some ⟨g4, 0, none⟩) m4 m4) ∧ Below w.heap.size w W' ∧ Below U.heap.size U W' ∧ Box W' gy (.bool false) (.slice none 0 0) ∧ w.heap.size ≤ gy ∧ U.heap.size ≤ gy ∧ gy ≠ go ∧ gy ≠ gv ∧ ZR W' t2 (some ⟨k2, 0, none⟩) n2 (((2 ^ j : Nat) : Int) - 1) ∧ n2 ≤ 204 → WP 7 (((L0.setIfInBounds 2 true).setIfInBounds 3 true).setIfInBounds 11 true) (((a0.put (some 22) (.agg #[.bool t1, .slice (some ⟨k1, 0, none⟩) n1 n1])).put (some 23) (.agg #[.bool t2, .slice (some ⟨k2, 0, none⟩) n2 n2])).put (some 10) (.pointer (some ⟨gy, 0, none⟩))) W' := by
    rintro t1 k1 n1 t2 k2 n2 gy W' ⟨xo, xv, hbw, hbu, xy, hgy, huy, dyo, dyv, z2, l2⟩
    subst hWP hL ha
    have Hxo := Hid.mk9 xo
    have Hxv := Hid.mk9 xv
    have Hxy := Hid.mk9 xy
    have Hhgy := Hid.mk9 hgy
    have Hhuy := Hid.mk9 huy
    have Hdyo := Hid.mk9 dyo
    have Hdyv := Hid.mk9 dyv
    have Hz2 := Hid.mk9 z2
    have Hl2 := Hid.mk9 l2
    clear xo xv xy hgy huy dyo dyv z2 l2
    go_simp
    refine wpJ_two (i := 4) (k := 10) (by kernel_rfl) rfl rfl (by kernel_rfl) (by kernel_rfl) (fun KJ hK => ?_) (fun KJ hK => ?_)
    · go_simp
      refine (rmul04 s4 t2 (ZV.out.below hbu) Hz2.out (by have := HL4.out; omega) (by have := Hl2.out; omega)).mono ?_
      rintro e W2 ⟨v, rfl, hv, hb⟩
      obtain ⟨t3, k3, n3, rfl, hg, hz, hl⟩ := hv
      refine hK _ _ ⟨(Hxv.out.below hb).c0, (Hxv.out.below hb).c1, (Hxo.out.below hb).c0, (Hxo.out.below hb).c1⟩ ?_
      exact wpJ_same (by kernel_rfl) (by kernel_rfl) (N3y t1 k1 n1 t2 k2 n2 t3 k3 n3 gy W2 ⟨(Hxo.out.below hb), (Hxv.out.below hb), (Below.on hbw hb), (Below.on hbu hb), (Hxy.out.below hb), Hhgy.out, Hhuy.out, Hdyo.out, Hdyv.out, hz, (by have h9 := hl; have := Hl2.out; have := HM2.out; have := HL4.out; omega), (.inr (Nat.ne_of_gt (Nat.lt_of_lt_of_le Hxy.out.lt hg)))⟩)
    · go_simp
      have hb := below1 W' (.cells #[.bool false, .slice none 0 0] 47)
      refine hK _ _ ⟨(Hxv.out.below hb).c0, (Hxv.out.below hb).c1, (Hxo.out.below hb).c0, (Hxo.out.below hb).c1⟩ ?_
      exact wpJ_same (by kernel_rfl) (by kernel_rfl) (N2xy t1 k1 n1 t2 k2 n2 W'.heap.size gy _ ⟨(Hxo.out.below hb), (Hxv.out.below hb), (Below.on hbw hb), (Below.on hbu hb), (Box.new W' _ _ _), hbw.size, hbu.size, (Nat.ne_of_gt Hxo.out.lt), (Nat.ne_of_gt Hxv.out.lt), (Hxy.out.below hb), Hhgy.out, Hhuy.out, Hdyo.out, Hdyv.out, (Nat.ne_of_gt Hxy.out.lt), (Hz2.out.below hb), Hl2.out⟩)
  have N2 : ∀ (t1 : Bool) (k1 n1 : Nat) (t2 : Bool) (k2 n2 : Nat) (W' : World), Box W' go (.bool s2) (.slice (some ⟨g2, 0, none⟩) m2 m2) ∧ Box W' gv (.bool s4) (.slice (some ⟨g4, 0, none⟩) m4 m4) ∧ Below w.heap.size w W' ∧ Below U.heap.size U W' ∧ ZR W' t2 (some ⟨k2, 0, none⟩) n2 (((2 ^ j : Nat) : Int) - 1) ∧ n2 ≤ 204 → WP 8 ((L0.setIfInBounds 2 true).setIfInBounds 3 true) ((a0.put (some 22) (.agg #[.bool t1, .slice (some ⟨k1, 0, none⟩) n1 n1])).put (some 23) (.agg #[.bool t2, .slice (some ⟨k2, 0, none⟩) n2 n2])) W' := by
    rintro t1 k1 n1 t2 k2 n2 W' ⟨xo, xv, hbw, hbu, z2, l2⟩
    subst hWP hL ha
    have Hxo := Hid.mk9 xo
    have Hxv := Hid.mk9 xv
    have Hz2 := Hid.mk9 z2
    have Hl2 := Hid.mk9 l2
    clear xo xv z2 l2
    go_simp
    refine wpJ_three (i := 4) (k := 10) (l := 11) (by kernel_rfl) rfl rfl rfl (by kernel_rfl) (by kernel_rfl) (by kernel_rfl) (fun KJ hK => ?_) (fun KJ hK => ?_) (fun KJ hK => ?_)
    · go_simp
      refine (rmul04 s4 t2 (ZV.out.below hbu) Hz2.out (by have := HL4.out; omega) (by have := Hl2.out; omega)).mono ?_
      rintro e W2 ⟨v, rfl, hv, hb⟩
      obtain ⟨t3, k3, n3, rfl, hg, hz, hl⟩ := hv
      refine hK _ _ ⟨(Hxv.out.below hb).c0, (Hxv.out.below hb).c1, (Hxo.out.below hb).c0, (Hxo.out.below hb).c1⟩ ?_
      exact wpJ_same (by kernel_rfl) (by kernel_rfl) (N3 t1 k1 n1 t2 k2 n2 t3 k3 n3 W2 ⟨(Hxo.out.below hb), (Hxv.out.below hb), (Below.on hbw hb), (Below.on hbu hb), hz, (by have h9 := hl; have := Hl2.out; have := HM2.out; have := HL4.out; omega)⟩)
    · go_simp
      have hb := below1 W' (.cells #[.bool false, .slice none 0 0] 47)
      refine hK _ _ ⟨(Hxv.out.below hb).c0, (Hxv.out.below hb).c1, (Hxo.out.below hb).c0, (Hxo.out.below hb).c1⟩ ?_
      exact wpJ_same (by kernel_rfl) (by kernel_rfl) (N2x t1 k1 n1 t2 k2 n2 W'.heap.size _ ⟨(Hxo.out.below hb), (Hxv.out.below hb), (Below.on hbw hb), (Below.on hbu hb), (Box.new W' _ _ _), hbw.size, hbu.size, (Nat.ne_of_gt Hxo.out.lt), (Nat.ne_of_gt Hxv.out.lt), (Hz2.out.below hb), Hl2.out⟩)
    · go_simp
      have hb := below1 W' (.cells #[.bool false, .slice none 0 0] 47)
      refine hK _ _ ⟨(Hxv.out.below hb).c0, (Hxv.out.below hb).c1, (Hxo.out.below hb).c0, (Hxo.out.below hb).c1⟩ ?_
      exact wpJ_same (by kernel_rfl) (by kernel_rfl) (N2y t1 k1 n1 t2 k2 n2 W'.heap.size _ ⟨(Hxo.out.below hb), (Hxv.out.below hb), (Below.on hbw hb), (Below.on hbu hb), (Box.new W' _ _ _), hbw.size, hbu.size, (Nat.ne_of_gt Hxo.out.lt), (Nat.ne_of_gt Hxv.out.lt), (Hz2.out.below hb), Hl2.out⟩)
  have N1xy : ∀ (t1 : Bool) (k1 n1 : Nat) (gx : Nat) (gy : Nat) (W' : World), Box W' go (.bool s2) (.slice (some ⟨g2, 0, none⟩) m2 m2) ∧ Box W' gv (.bool s4) (.slice (some ⟨g4, 0, none⟩) m4 m4) ∧ Below w.heap.size w W' ∧ Below U.heap.size U W' ∧ Box W' gx (.bool false) (.slice none 0 0) ∧ w.heap.size ≤ gx ∧ U.heap.size ≤ gx ∧ gx ≠ go ∧ gx ≠ gv ∧ Box W' gy (.bool false) (.slice none 0 0) ∧ w.heap.size ≤ gy ∧ U.heap.size ≤ gy ∧ gy ≠ go ∧ gy ≠ gv ∧ gx ≠ gy ∧ ZR W' t1 (some ⟨k1, 0, none⟩) n1 (1) ∧ n1 ≤ 3 → WP 7 (((L0.setIfInBounds 2 true).setIfInBounds 10 true).setIfInBounds 11 true) (((a0.put (some 22) (.agg #[.bool t1, .slice (some ⟨k1, 0, none⟩) n1 n1])).put (some 9) (.pointer (some ⟨gx, 0, none⟩))).put (some 10) (.pointer (some ⟨gy, 0, none⟩))) W' := by
    rintro t1 k1 n1 gx gy W' ⟨xo, xv, hbw, hbu, xx, hgx, hux, dxo, dxv, xy, hgy, huy, dyo, dyv, dd, z1, l1⟩
    subst hWP hL ha
    have Hxo := Hid.mk9 xo
    have Hxv := Hid.mk9 xv
    have Hxx := Hid.mk9 xx
    have Hhgx := Hid.mk9 hgx
    have Hhux := Hid.mk9 hux
    have Hdxo := Hid.mk9 dxo
    have Hdxv := Hid.mk9 dxv
    have Hxy := Hid.mk9 xy
    have Hhgy := Hid.mk9 hgy
    have Hhuy := Hid.mk9 huy
    have Hdyo := Hid.mk9 dyo
    have Hdyv := Hid.mk9 dyv
    have Hdd := Hid.mk9 dd
    have Hz1 := Hid.mk9 z1
    have Hl1 := Hid.mk9 l1
    clear xo xv xx hgx hux dxo dxv xy hgy huy dyo dyv dd z1 l1
    go_simp
    refine wpJ_on 3 rfl fun KJ hK => ?_
    go_simp
    refine (rsub04 s2 t1 (ZQ.out.below hbu) Hz1.out (by have := HM2.out; omega) (by have := Hl1.out; omega)).mono ?_
    rintro e W2 ⟨v, rfl, hv, hb⟩
    obtain ⟨t2, k2, n2, rfl, hg, hz, hl⟩ := hv
    refine hK _ _ ⟨(Hxv.out.below hb).c0, (Hxv.out.below hb).c1, (Hxo.out.below hb).c0, (Hxo.out.below hb).c1⟩ ?_
    exact wpJ_same (by kernel_rfl) (by kernel_rfl) (N2xy t1 k1 n1 t2 k2 n2 gx gy W2 ⟨(Hxo.out.below hb), (Hxv.out.below hb), (Below.on hbw hb), (Below.on hbu hb), (Hxx.out.below hb), Hhgx.out, Hhux.out, Hdxo.out, Hdxv.out, (Hxy.out.below hb), Hhgy.out, Hhuy.out, Hdyo.out, Hdyv.out, Hdd.out, hz, (by have h9 := hl; have := Hl1.out; have := HM2.out; have := HL4.out; omega)⟩)
  have N1x : ∀ (t1 : Bool) (k1 n1 : Nat) (gx : Nat) (W' : World), Box W' go (.bool s2) (.slice (some ⟨g2, 0, none⟩) m2 m2) ∧ Box W' gv (.bool s4) (.slice (some ⟨g4, 0, none⟩) m4 m4) ∧ Below w.heap.size w W' ∧ Below U.heap.size U W' ∧ Box W' gx (.bool false) (.slice none 0 0) ∧ w.heap.size ≤ gx ∧ U.heap.size ≤ gx ∧ gx ≠ go ∧ gx ≠ gv ∧ ZR W' t1 (some ⟨k1, 0, none⟩) n1 (1) ∧ n1 ≤ 3 → WP 8 ((L0.setIfInBounds 2 true).setIfInBounds 10 true) ((a0.put (some 22) (.agg #[.bool t1, .slice (some ⟨k1, 0, none⟩) n1 n1])).put (some 9) (.pointer (some ⟨gx, 0, none⟩))) W' := by
    rintro t1 k1 n1 gx W' ⟨xo, xv, hbw, hbu, xx, hgx, hux, dxo, dxv, z1, l1⟩
    subst hWP hL ha
    have Hxo := Hid.mk9 xo
    have Hxv := Hid.mk9 xv
    have Hxx := Hid.mk9 xx
    have Hhgx := Hid.mk9 hgx
    have Hhux := Hid.mk9 hux
    have Hdxo := Hid.mk9 dxo
    have Hdxv := Hid.mk9 dxv
    have Hz1 := Hid.mk9 z1
    have Hl1 := Hid.mk9 l1
    clear xo xv xx hgx hux dxo dxv z1 l1
    go_simp
    refine wpJ_two (i := 3) (k := 11) (by kernel_rfl) rfl rfl (by kernel_rfl) (by kernel_rfl) (fun KJ hK => ?_) (fun KJ hK => ?_)
    · go_simp
      refine (rsub04 s2 t1 (ZQ.out.below hbu) Hz1.out (by have := HM2.out; omega) (by have := Hl1.out; omega)).mono ?_
      rintro e W2 ⟨v, rfl, hv, hb⟩
      obtain ⟨t2, k2, n2, rfl, hg, hz, hl⟩ := hv
      refine hK _ _ ⟨(Hxv.out.below hb).c0, (Hxv.out.below hb).c1, (Hxo.out.below hb).c0, (Hxo.out.below hb).c1⟩ ?_
      exact wpJ_same (by kernel_rfl) (by kernel_rfl) (N2x t1 k1 n1 t2 k2 n2 gx W2 ⟨(Hxo.out.below hb), (Hxv.out.below hb), (Below.on hbw hb), (Below.on hbu hb), (Hxx.out.below hb), Hhgx.out, Hhux.out, Hdxo.out, Hdxv.out, hz, (by have h9 := hl; have := Hl1.out; have := HM2.out; have := HL4.out; omega)⟩)
    · go_simp
      have hb := below1 W' (.cells #[.bool false, .slice none 0 0] 47)
      refine hK _ _ ⟨(Hxv.out.below hb).c0, (Hxv.out.below hb).c1, (Hxo.out.below hb).c0, (Hxo.out.below hb).c1⟩ ?_
      exact wpJ_same (by kernel_rfl) (by kernel_rfl) (N1xy t1 k1 n1 gx W'.heap.size _ ⟨(Hxo.out.below hb), (Hxv.out.below hb), (Below.on hbw hb), (Below.on hbu hb), (Hxx.out.below hb), Hhgx.out, Hhux.out, Hdxo.out, Hdxv.out, (Box.new W' _ _ _), hbw.size, hbu.size, (Nat.ne_of_gt Hxo.out.lt), (Nat.ne_of_gt Hxv.out.lt), (Nat.ne_of_lt Hxx.out.lt), (Hz1.out.below hb), Hl1.out⟩)
  have N1y : ∀ (t1 : Bool) (k1 n1 : Nat) (gy : Nat) (W' : World), Box W' go (.bool s2) (.slice (some ⟨g2, 0, none⟩) m2 m2) ∧ Box W' gv (.bool s4) (.slice (some ⟨g4, 0, none⟩) m4 m4) ∧ Below w.heap.size w W' ∧ Below U.heap.size U W' ∧ Box W' gy (.bool false) (.slice none 0 0) ∧ w.heap.size ≤ gy ∧ U.heap.size ≤ gy ∧ gy ≠ go ∧ gy ≠ gv ∧ ZR W' t1 (some ⟨k1, 0, none⟩) n1 (1) ∧ n1 ≤ 3 → WP 8 ((L0.setIfInBounds 2 true).setIfInBounds 11 true) ((a0.put (some 22) (.agg #[.bool t1, .slice (some ⟨k1, 0, none⟩) n1 n1])).put (some 10) (.pointer (some ⟨gy, 0, none⟩))) W' := by
    rintro t1 k1 n1 gy W' ⟨xo, xv, hbw, hbu, xy, hgy, huy, dyo, dyv, z1, l1⟩
    subst hWP hL ha
    have Hxo := Hid.mk9 xo
    have Hxv := Hid.mk9 xv
    have Hxy := Hid.mk9 xy
    have Hhgy := Hid.mk9 hgy
    have Hhuy := Hid.mk9 huy
    have Hdyo := Hid.mk9 dyo
    have Hdyv := Hid.mk9 dyv
    have Hz1 := Hid.mk9 z1
    have Hl1 := Hid.mk9 l1
    clear xo xv xy hgy huy dyo dyv z1 l1
    go_simp
    refine wpJ_two (i := 3) (k := 10) (by kernel_rfl) rfl rfl (by kernel_rfl) (by kernel_rfl) (fun KJ hK => ?_) (fun KJ hK => ?_)
    · go_simp
      refine (rsub04 s2 t1 (ZQ.out.below hbu) Hz1.out (by have := HM2.out; omega) (by have := Hl1.out; omega)).mono ?_
      rintro e W2 ⟨v, rfl, hv, hb⟩
      obtain ⟨t2, k2, n2, rfl, hg, hz, hl⟩ := hv
      refine hK _ _ ⟨(Hxv.out.below hb).c0, (Hxv.out.below hb).c1, (Hxo.out.below hb).c0, (Hxo.out.below hb).c1⟩ ?_
      exact wpJ_same (by kernel_rfl) (by kernel_rfl) (N2y t1 k1 n1 t2 k2 n2 gy W2 ⟨(Hxo.out.below hb), (Hxv.out.below hb), (Below.on hbw hb), (Below.on hbu hb), (Hxy.out.below hb), Hhgy.out, Hhuy.out, Hdyo.out, Hdyv.out, hz, (by have h9 := hl; have := Hl1.out; have := HM2.out; have := HL4.out; omega)⟩)
    · go_simp
      have hb := below1 W' (.cells #[.bool false, .slice none 0 0] 47)
      refine hK _ _ ⟨(Hxv.out.below hb).c0, (Hxv.out.below hb).c1, (Hxo.out.below hb).c0, (Hxo.out.below hb).c1⟩ ?_
      exact wpJ_same (by kernel_rfl) (by kernel_rfl) (N1xy t1 k1 n1 W'.heap.size gy _ ⟨(Hxo.out.below hb), (Hxv.out.below hb), (Below.on hbw hb), (Below.on hbu hb), (Box.new W' _ _ _), hbw.size, hbu.size, (Nat.ne_of_gt Hxo.out.lt), (Nat.ne_of_gt Hxv.out.lt), (Hxy.out.below hb), Hhgy.out, Hhuy.out, Hdyo.out, Hdyv.out, (Nat.ne_of_gt Hxy.out.lt), (Hz1.out.below hb), Hl1.out⟩)
  have N1 : ∀ (t1 : Bool) (k1 n1 : Nat) (W' : World), Box W' go (.bool s2) (.slice (some ⟨g2, 0, none⟩) m2 m2) ∧ Box W' gv (.bool s4) (.slice (some ⟨g4, 0, none⟩) m4 m4) ∧ Below w.heap.size w W' ∧ Below U.heap.size U W' ∧ ZR W' t1 (some ⟨k1, 0, none⟩) n1 (1) ∧ n1 ≤ 3 → WP 9 (L0.setIfInBounds 2 true) (a0.put (some 22) (.agg #[.bool t1, .slice (some ⟨k1, 0, none⟩) n1 n1])) W' := by
    rintro t1 k1 n1 W' ⟨xo, xv, hbw, hbu, z1, l1⟩
    subst hWP hL ha
    have Hxo := Hid.mk9 xo
    have Hxv := Hid.mk9 xv
    have Hz1 := Hid.mk9 z1
    have Hl1 := Hid.mk9 l1
    clear xo xv z1 l1
    go_simp
    refine wpJ_three (i := 3) (k := 10) (l := 11) (by kernel_rfl) rfl rfl rfl (by kernel_rfl) (by kernel_rfl) (by kernel_rfl) (fun KJ hK => ?_) (fun KJ hK => ?_) (fun KJ hK => ?_)
    · go_simp
      refine (rsub04 s2 t1 (ZQ.out.below hbu) Hz1.out (by have := HM2.out; omega) (by have := Hl1.out; omega)).mono ?_
      rintro e W2 ⟨v, rfl, hv, hb⟩
      obtain ⟨t2, k2, n2, rfl, hg, hz, hl⟩ := hv
      refine hK _ _ ⟨(Hxv.out.below hb).c0, (Hxv.out.below hb).c1, (Hxo.out.below hb).c0, (Hxo.out.below hb).c1⟩ ?_
      exact wpJ_same (by kernel_rfl) (by kernel_rfl) (N2 t1 k1 n1 t2 k2 n2 W2 ⟨(Hxo.out.below hb), (Hxv.out.below hb), (Below.on hbw hb), (Below.on hbu hb), hz, (by have h9 := hl; have := Hl1.out; have := HM2.out; have := HL4.out; omega)⟩)
    · go_simp
      have hb := below1 W' (.cells #[.bool false, .slice none 0 0] 47)
      refine hK _ _ ⟨(Hxv.out.below hb).c0, (Hxv.out.below hb).c1, (Hxo.out.below hb).c0, (Hxo.out.below hb).c1⟩ ?_
      exact wpJ_same (by kernel_rfl) (by kernel_rfl) (N1x t1 k1 n1 W'.heap.size _ ⟨(Hxo.out.below hb), (Hxv.out.below hb), (Below.on hbw hb), (Below.on hbu hb), (Box.new W' _ _ _), hbw.size, hbu.size, (Nat.ne_of_gt Hxo.out.lt), (Nat.ne_of_gt Hxv.out.lt), (Hz1.out.below hb), Hl1.out⟩)
    · go_simp
      have hb := below1 W' (.cells #[.bool false, .slice none 0 0] 47)
      refine hK _ _ ⟨(Hxv.out.below hb).c0, (Hxv.out.below hb).c1, (Hxo.out.below hb).c0, (Hxo.out.below hb).c1⟩ ?_
      exact wpJ_same (by kernel_rfl) (by kernel_rfl) (N1y t1 k1 n1 W'.heap.size _ ⟨(Hxo.out.below hb), (Hxv.out.below hb), (Below.on hbw hb), (Below.on hbu hb), (Box.new W' _ _ _), hbw.size, hbu.size, (Nat.ne_of_gt Hxo.out.lt), (Nat.ne_of_gt Hxv.out.lt), (Hz1.out.below hb), Hl1.out⟩)
  have N0xy : ∀ (gx : Nat) (gy : Nat) (W' : World), Box W' go (.bool s2) (.slice (some ⟨g2, 0, none⟩) m2 m2) ∧ Box W' gv (.bool s4) (.slice (some ⟨g4, 0, none⟩) m4 m4) ∧ Below w.heap.size w W' ∧ Below U.heap.size U W' ∧ Box W' gx (.bool false) (.slice none 0 0) ∧ w.heap.size ≤ gx ∧ U.heap.size ≤ gx ∧ gx ≠ go ∧ gx ≠ gv ∧ Box W' gy (.bool false) (.slice none 0 0) ∧ w.heap.size ≤ gy ∧ U.heap.size ≤ gy ∧ gy ≠ go ∧ gy ≠ gv ∧ gx ≠ gy → WP 8 ((L0.setIfInBounds 10 true).setIfInBounds 11 true) ((a0.put (some 9) (.pointer (some ⟨gx, 0, none⟩))).put (some 10) (.pointer (some ⟨gy, 0, none⟩))) W' := by
    rintro gx gy W' ⟨xo, xv, hbw, hbu, xx, hgx, hux, dxo, dxv, xy, hgy, huy, dyo, dyv, dd⟩
    subst hWP hL ha
    have Hxo := Hid.mk9 xo
    have Hxv := Hid.mk9 xv
    have Hxx := Hid.mk9 xx
    have Hhgx := Hid.mk9 hgx
    have Hhux := Hid.mk9 hux
    have Hdxo := Hid.mk9 dxo
    have Hdxv := Hid.mk9 dxv
    have Hxy := Hid.mk9 xy
    have Hhgy := Hid.mk9 hgy
    have Hhuy := Hid.mk9 huy
    have Hdyo := Hid.mk9 dyo
    have Hdyv := Hid.mk9 dyv
    have Hdd := Hid.mk9 dd
    clear xo xv xx hgx hux dxo dxv xy hgy huy dyo dyv dd
    go_simp
    refine wpJ_on 2 rfl fun KJ hK => ?_
    go_simp
    refine (rof04 1 _ (by decide) (by decide)).mono ?_
    rintro e W2 ⟨t1, k1, n1, rfl, hz, hl, hb⟩
    refine hK _ _ ⟨(Hxv.out.below hb).c0, (Hxv.out.below hb).c1, (Hxo.out.below hb).c0, (Hxo.out.below hb).c1⟩ ?_
    exact wpJ_same (by kernel_rfl) (by kernel_rfl) (N1xy t1 k1 n1 gx gy W2 ⟨(Hxo.out.below hb), (Hxv.out.below hb), (Below.on hbw hb), (Below.on hbu hb), (Hxx.out.below hb), Hhgx.out, Hhux.out, Hdxo.out, Hdxv.out, (Hxy.out.below hb), Hhgy.out, Hhuy.out, Hdyo.out, Hdyv.out, Hdd.out, hz, (by have h9 := hl; have := HM2.out; have := HL4.out; omega)⟩)
  have N0x : ∀ (gx : Nat) (W' : World), Box W' go (.bool s2) (.slice (some ⟨g2, 0, none⟩) m2 m2) ∧ Box W' gv (.bool s4) (.slice (some ⟨g4, 0, none⟩) m4 m4) ∧ Below w.heap.size w W' ∧ Below U.heap.size U W' ∧ Box W' gx (.bool false) (.slice none 0 0) ∧ w.heap.size ≤ gx ∧ U.heap.size ≤ gx ∧ gx ≠ go ∧ gx ≠ gv → WP 9 (L0.setIfInBounds 10 true) (a0.put (some 9) (.pointer (some ⟨gx, 0, none⟩))) W' := by
    rintro gx W' ⟨xo, xv, hbw, hbu, xx, hgx, hux, dxo, dxv⟩
    subst hWP hL ha
    have Hxo := Hid.mk9 xo
    have Hxv := Hid.mk9 xv
    have Hxx := Hid.mk9 xx
    have Hhgx := Hid.mk9 hgx
    have Hhux := Hid.mk9 hux
    have Hdxo := Hid.mk9 dxo
    have Hdxv := Hid.mk9 dxv
    clear xo xv xx hgx hux dxo dxv
    go_simp
    refine wpJ_two (i := 2) (k := 11) (by kernel_rfl) rfl rfl (by kernel_rfl) (by kernel_rfl) (fun KJ hK => ?_) (fun KJ hK => ?_)
    · go_simp
      refine (rof04 1 _ (by decide) (by decide)).mono ?_
      rintro e W2 ⟨t1, k1, n1, rfl, hz, hl, hb⟩
      refine hK _ _ ⟨(Hxv.out.below hb).c0, (Hxv.out.below hb).c1, (Hxo.out.below hb).c0, (Hxo.out.below hb).c1⟩ ?_
      exact wpJ_same (by kernel_rfl) (by kernel_rfl) (N1x t1 k1 n1 gx W2 ⟨(Hxo.out.below hb), (Hxv.out.below hb), (Below.on hbw hb), (Below.on hbu hb), (Hxx.out.below hb), Hhgx.out, Hhux.out, Hdxo.out, Hdxv.out, hz, (by have h9 := hl; have := HM2.out; have := HL4.out; omega)⟩)
    · go_simp
      have hb := below1 W' (.cells #[.bool false, .slice none 0 0] 47)
      refine hK _ _ ⟨(Hxv.out.below hb).c0, (Hxv.out.below hb).c1, (Hxo.out.below hb).c0, (Hxo.out.below hb).c1⟩ ?_
      exact wpJ_same (by kernel_rfl) (by kernel_rfl) (N0xy gx W'.heap.size _ ⟨(Hxo.out.below hb), (Hxv.out.below hb), (Below.on hbw hb), (Below.on hbu hb), (Hxx.out.below hb), Hhgx.out, Hhux.out, Hdxo.out, Hdxv.out, (Box.new W' _ _ _), hbw.size, hbu.size, (Nat.ne_of_gt Hxo.out.lt), (Nat.ne_of_gt Hxv.out.lt), (Nat.ne_of_lt Hxx.out.lt)⟩)
  have N0y : ∀ (gy : Nat) (W' : World), Box W' go (.bool s2) (.slice (some ⟨g2, 0, none⟩) m2 m2) ∧ Box W' gv (.bool s4) (.slice (some ⟨g4, 0, none⟩) m4 m4) ∧ Below w.heap.size w W' ∧ Below U.heap.size U W' ∧ Box W' gy (.bool false) (.slice none 0 0) ∧ w.heap.size ≤ gy ∧ U.heap.size ≤ gy ∧ gy ≠ go ∧ gy ≠ gv → WP 9 (L0.setIfInBounds 11 true) (a0.put (some 10) (.pointer (some ⟨gy, 0, none⟩))) W' := by
    rintro gy W' ⟨xo, xv, hbw, hbu, xy, hgy, huy, dyo, dyv⟩
    subst hWP hL ha
    have Hxo := Hid.mk9 xo
    have Hxv := Hid.mk9 xv
    have Hxy := Hid.mk9 xy
    have Hhgy := Hid.mk9 hgy
    have Hhuy := Hid.mk9 huy
    have Hdyo := Hid.mk9 dyo
    have Hdyv := Hid.mk9 dyv
    clear xo xv xy hgy huy dyo dyv
    go_simp
    refine wpJ_two (i := 2) (k := 10) (by kernel_rfl) rfl rfl (by kernel_rfl) (by kernel_rfl) (fun KJ hK => ?_) (fun KJ hK => ?_)
    · go_simp
      refine (rof04 1 _ (by decide) (by decide)).mono ?_
      rintro e W2 ⟨t1, k1, n1, rfl, hz, hl, hb⟩
      refine hK _ _ ⟨(Hxv.out.below hb).c0, (Hxv.out.below hb).c1, (Hxo.out.below hb).c0, (Hxo.out.below hb).c1⟩ ?_
      exact wpJ_same (by kernel_rfl) (by kernel_rfl) (N1y t1 k1 n1 gy W2 ⟨(Hxo.out.below hb), (Hxv.out.below hb), (Below.on hbw hb), (Below.on hbu hb), (Hxy.out.below hb), Hhgy.out, Hhuy.out, Hdyo.out, Hdyv.out, hz, (by have h9 := hl; have := HM2.out; have := HL4.out; omega)⟩)
    · go_simp
      have hb := below1 W' (.cells #[.bool false, .slice none 0 0] 47)
      refine hK _ _ ⟨(Hxv.out.below hb).c0, (Hxv.out.below hb).c1, (Hxo.out.below hb).c0, (Hxo.out.below hb).c1⟩ ?_
      exact wpJ_same (by kernel_rfl) (by kernel_rfl) (N0xy W'.heap.size gy _ ⟨(Hxo.out.below hb), (Hxv.out.below hb), (Below.on hbw hb), (Below.on hbu hb), (Box.new W' _ _ _), hbw.size, hbu.size, (Nat.ne_of_gt Hxo.out.lt), (Nat.ne_of_gt Hxv.out.lt), (Hxy.out.below hb), Hhgy.out, Hhuy.out, Hdyo.out, Hdyv.out, (Nat.ne_of_gt Hxy.out.lt)⟩)
  have N0 : ∀ (W' : World), Box W' go (.bool s2) (.slice (some ⟨g2, 0, none⟩) m2 m2) ∧ Box W' gv (.bool s4) (.slice (some ⟨g4, 0, none⟩) m4 m4) ∧ Below w.heap.size w W' ∧ Below U.heap.size U W' → WP 10 L0 a0 W' := by
    rintro  W' ⟨xo, xv, hbw, hbu⟩
    subst hWP hL ha
    have Hxo := Hid.mk9 xo
    have Hxv := Hid.mk9 xv
    clear xo xv
    go_simp
    refine wpJ_three (i := 2) (k := 10) (l := 11) (by kernel_rfl) rfl rfl rfl (by kernel_rfl) (by kernel_rfl) (by kernel_rfl) (fun KJ hK => ?_) (fun KJ hK => ?_) (fun KJ hK => ?_)
    · go_simp
      refine (rof04 1 _ (by decide) (by decide)).mono ?_
      rintro e W2 ⟨t1, k1, n1, rfl, hz, hl, hb⟩
      refine hK _ _ ⟨(Hxv.out.below hb).c0, (Hxv.out.below hb).c1, (Hxo.out.below hb).c0, (Hxo.out.below hb).c1⟩ ?_
      exact wpJ_same (by kernel_rfl) (by kernel_rfl) (N1 t1 k1 n1 W2 ⟨(Hxo.out.below hb), (Hxv.out.below hb), (Below.on hbw hb), (Below.on hbu hb), hz, (by have h9 := hl; have := HM2.out; have := HL4.out; omega)⟩)
    · go_simp
      have hb := below1 W' (.cells #[.bool false, .slice none 0 0] 47)
      refine hK _ _ ⟨(Hxv.out.below hb).c0, (Hxv.out.below hb).c1, (Hxo.out.below hb).c0, (Hxo.out.below hb).c1⟩ ?_
      exact wpJ_same (by kernel_rfl) (by kernel_rfl) (N0x W'.heap.size _ ⟨(Hxo.out.below hb), (Hxv.out.below hb), (Below.on hbw hb), (Below.on hbu hb), (Box.new W' _ _ _), hbw.size, hbu.size, (Nat.ne_of_gt Hxo.out.lt), (Nat.ne_of_gt Hxv.out.lt)⟩)
    · go_simp
      have hb := below1 W' (.cells #[.bool false, .slice none 0 0] 47)
      refine hK _ _ ⟨(Hxv.out.below hb).c0, (Hxv.out.below hb).c1, (Hxo.out.below hb).c0, (Hxo.out.below hb).c1⟩ ?_
      exact wpJ_same (by kernel_rfl) (by kernel_rfl) (N0y W'.heap.size _ ⟨(Hxo.out.below hb), (Hxv.out.below hb), (Below.on hbw hb), (Below.on hbu hb), (Box.new W' _ _ _), hbw.size, hbu.size, (Nat.ne_of_gt Hxo.out.lt), (Nat.ne_of_gt Hxv.out.lt)⟩)
  exact N0 U ⟨Xo.out, Xv.out, hbw, hbu⟩
theorem acceptSound_w (hi lo : Nat) (hh : hi < 18446744073709551616) (hl : lo < 18446744073709551616) (e : Int) (w : World) : Calls Try.prog 6 #[U hi, U lo, .int .i64 e] w fun en w' => en = .returned (.bool true) ∧ Below w.heap.size w w' := by
  have H1 := ask_ok hi lo hh hl e
  cases hA : accB hi lo e with
  | false =>
    have hR : accN hi lo e = 0 := by unfold accN; rw [hA]; rfl
    rw [hA, hR] at H1
    clear hA hh hl hR
    go_enter Try.func6, Try.ntmps6
    go_wp2_with fail
    refine (awake25 _).mono ?_
    rintro e9 v1 ⟨rfl, hb1⟩
    go_wp2_with fail
    refine (H1 _).mono ?_
    rintro e9 v2 ⟨rfl, hb2⟩
    go_wp2_with fail
    go_ret
    exact ⟨rfl, Below.on hb1 hb2⟩
  | true =>
    have hR : accN hi lo e = hi := by unfold accN; rw [hA, if_pos rfl]
    rw [hA, hR] at H1
    obtain ⟨k, he, hk⟩ := accB_iff.1 hA
    have H2 := fun w => rfit25 hh hl e w
    rw [fit25_iff.2 ⟨k, he, hk.k1, hk.k2, hk.sz, hk.dd⟩] at H2
    have H3 := fun w => rsound25 hk e he w
    clear hA hh hl hR he hk
    go_enter Try.func6, Try.ntmps6
    go_wp2_with fail
    refine (awake25 _).mono ?_
    rintro e9 v1 ⟨rfl, hb1⟩
    go_wp2_with fail
    refine (H1 _).mono ?_
    rintro e9 v2 ⟨rfl, hb2⟩
    go_wp2_with fail
    refine (H2 _).mono ?_
    rintro e9 v3 ⟨rfl, hb3⟩
    go_wp2_with fail
    refine (H3 _).mono ?_
    rintro e9 v4 ⟨rfl, hb4⟩
    go_wp2_with fail
    go_ret
    exact ⟨rfl, Below.on (Below.on (Below.on hb1 hb2) hb3) hb4⟩
theorem acceptMust_w (hi lo : Nat) (hh : hi < 18446744073709551616) (hl : lo < 18446744073709551616) (e : Int) (w : World) : Calls Try.prog 7 #[U hi, U lo, .int .i64 e] w fun en w' => en = .returned (.bool true) ∧ Below w.heap.size w w' := by
  have H1 := ask_ok hi lo hh hl e
  have H2 := fun w => rfit25 hh hl e w
  cases hf : fit25 hi lo e with
  | false =>
    rw [hf] at H2
    generalize accN hi lo e = R at *
    generalize accB hi lo e = B at *
    clear hf hh hl
    go_enter Try.func7, Try.ntmps7
    go_wp2_with fail
    refine (awake25 _).mono ?_
    rintro e9 v1 ⟨rfl, hb1⟩
    go_wp2_with fail
    refine (H1 _).mono ?_
    rintro e9 v2 ⟨rfl, hb2⟩
    go_wp2_with fail
    refine (H2 _).mono ?_
    rintro e9 v3 ⟨rfl, hb3⟩
    go_wp2_with fail
    go_ret
    exact ⟨rfl, Below.on (Below.on hb1 hb2) hb3⟩
  | true =>
    rw [hf] at H2
    obtain ⟨k, he, k1, k2, sz, d⟩ := fit25_iff.1 hf
    have H3 := fun w => rmust25 k1 k2 sz d e he w
    cases hA : accB hi lo e with
    | false =>
      have hn : ¬ AccP hi lo k := fun h => by rw [accB_iff.2 ⟨k, he, h⟩] at hA; cases hA
      have HN : Hid (¬ AccP hi lo k) := hn
      rw [hA] at H1
      generalize accN hi lo e = R at *
      clear hf hh hl hA he k1 k2 sz d hn
      go_enter Try.func7, Try.ntmps7
      go_wp2_with fail
      refine (awake25 _).mono ?_
      rintro e9 v1 ⟨rfl, hb1⟩
      go_wp2_with fail
      refine (H1 _).mono ?_
      rintro e9 v2 ⟨rfl, hb2⟩
      go_wp2_with fail
      refine (H2 _).mono ?_
      rintro e9 v3 ⟨rfl, hb3⟩
      go_wp2_with fail
      refine (H3 _).mono ?_
      rintro e9 v4 ⟨⟨b, rfl, hbb⟩, hb4⟩
      obtain rfl : b = false := by
        cases b with
        | false => rfl
        | true => exact absurd (hbb rfl) HN.out
      clear hbb HN
      go_wp2_with fail
      go_ret
      exact ⟨rfl, Below.on (Below.on (Below.on hb1 hb2) hb3) hb4⟩
    | true =>
      have hR : accN hi lo e = hi := by unfold accN; rw [hA, if_pos rfl]
      rw [hA, hR] at H1
      obtain ⟨k9, he9, hk⟩ := accB_iff.1 hA
      have H4 := fun w => rsound25 hk e he9 w
      clear hf hh hl hA he k1 k2 sz d hR he9 hk
      go_enter Try.func7, Try.ntmps7
      go_wp2_with fail
      refine (awake25 _).mono ?_
      rintro e9 v1 ⟨rfl, hb1⟩
      go_wp2_with fail
      refine (H1 _).mono ?_
      rintro e9 v2 ⟨rfl, hb2⟩
      go_wp2_with fail
      refine (H2 _).mono ?_
      rintro e9 v3 ⟨rfl, hb3⟩
      go_wp2_with fail
      refine (H3 _).mono ?_
      rintro e9 v4 ⟨⟨b, rfl, hbb⟩, hb4⟩
      clear hbb
      cases b
      · go_wp2_with fail
        go_ret
        exact ⟨rfl, Below.on (Below.on (Below.on hb1 hb2) hb3) hb4⟩
      · go_wp2_with fail
        refine (H4 _).mono ?_
        rintro e9 v5 ⟨rfl, hb5⟩
        go_wp2_with fail
        go_ret
        exact ⟨rfl, Below.on (Below.on (Below.on (Below.on hb1 hb2) hb3) hb4) hb5⟩
theorem acceptSound_walk (hi : Nat) (hh : hi < B64) (lo : Nat) (hl : lo < B64) (e : Int) (_ : -9223372036854775808 ≤ e) (_ : e ≤ 9223372036854775807) {w : World} : Calls Try.prog 6 #[U hi, U lo, .int .i64 e] w fun en w' => en = .returned (.bool true) ∧ Below w.heap.size w w' := acceptSound_w hi lo (by rw [B64_eq] at hh; exact hh) (by rw [B64_eq] at hl; exact hl) e w
theorem acceptMust_walk (hi : Nat) (hh : hi < B64) (lo : Nat) (hl : lo < B64) (e : Int) (_ : -9223372036854775808 ≤ e) (_ : e ≤ 9223372036854775807) {w : World} : Calls Try.prog 7 #[U hi, U lo, .int .i64 e] w fun en w' => en = .returned (.bool true) ∧ Below w.heap.size w w' := acceptMust_w hi lo (by rw [B64_eq] at hh; exact hh) (by rw [B64_eq] at hl; exact hl) e w
end Go.Proofs.Ytoclnjbmhepcnaa
namespace Go.Proofs.Ytoclnjbmhepcnaa
open Go.RowKit
set_option maxRecDepth 20000
set_option maxHeartbeats 0
structure OwR (w : World) (hB : Nat) (lv : Value) (k : Nat) (es : List Nat) : Prop where
  row : w.ownsRow hB 22 1 lv k (cellsU es)
theorem OwR.below {w w' : World} {hB k : Nat} {lv : Value} {es : List Nat} (h : OwR w hB lv k es) (hb : Below w.heap.size w w') : OwR w' hB lv k es := by
  refine ⟨⟨h.row.1, ?_⟩⟩
  rcases h.row.2 with h2 | ⟨g, cap, cur, h2, h3, h4, h5⟩
  · exact .inl h2
  · have hg : g < w.heap.size := by
      rcases Nat.lt_or_ge g w.heap.size with h6 | h6
      · exact h6
      · rw [Array.getElem?_eq_none h6] at h4; cases h4
    exact .inr ⟨g, cap, cur, h2, h3, (hb.block _ hg).trans h4, h5⟩
theorem OwR.set {w : World} {hB k : Nat} {lv : Value} {es : List Nat} (h : OwR w hB lv k es) (g o : Nat) (v : Value) (hg : g < hB) : OwR (w.setCell ⟨g, o, none⟩ v) hB lv k es := ⟨ownsRow_setCell_below h.row (a := ⟨g, o, none⟩) hg v⟩
theorem OwR.cells {w : World} {hB k : Nat} {lv : Value} {es : List Nat} (h : OwR w hB lv k es) : ∃ p cap, lv = .slice p k cap ∧ ∀ j, j < k → ∃ g, p = some ⟨g, 0, none⟩ ∧ w.cell? ⟨g, j, none⟩ = some (U (es.getD j 0)) := by
  rcases h.row.2 with ⟨h1, h2⟩ | ⟨g, cap, cur, h1, h2, h3, h4⟩
  · exact ⟨none, 0, by rw [h1, h2], fun j hj => by omega⟩
  · refine ⟨_, cap, h1, fun j hj => ⟨g, rfl, ?_⟩⟩
    have h5 := h.row
    rw [h1] at h5
    rw [h5.cellAt j (by omega)]
    have hl : es.length = k := by have := h.row.1; unfold cellsU at this; rw [List.length_map] at this; omega
    unfold cellsU
    rw [List.getElem?_map, List.getElem?_eq_getElem (by omega), List.getD_eq_getElem?_getD, List.getElem?_eq_getElem (by omega)]
    rfl
theorem OwR.cap {w : World} {hB k c : Nat} {p : Option Addr} {es : List Nat} (h : OwR w hB (.slice p k c) k es) : k ≤ c := by
  rcases h.row.2 with ⟨h1, h2⟩ | ⟨g, cap, cur, h1, h2, h3, h4, _⟩
  · simp only [Value.slice.injEq] at h1; omega
  · simp only [Value.slice.injEq] at h1; omega
theorem OwR.lt {w : World} {hB k : Nat} {lv : Value} {es : List Nat} (h : OwR w hB lv k es) : ∀ b, lv.ownBlock = some b → hB ≤ b ∧ b < w.heap.size := h.row.lt
end Go.Proofs.Ytoclnjbmhepcnaa
