import Derived.Test.YtokoolhhfacboaaDoorJ10
import Derived.Laws.EntriesVeiled
import Derived.Laws.Bits64b
import Derived.Deep.RegionWith
import Derived.Test.YtokoolhhfacboaaDoorChecked
import Derived.Test.YtokoolhhfacboaaDoorMem
import Derived.Shelf.Strconv.Itoa0
import Derived.Test.YtokoolhhfacboaaDoorJ8
import Derived.BigQuiet
import Derived.Test.YtokoolhhfacboaaDoorJ9
import Derived.Laws.FloatArith
import Derived.Test.YtokoolhhfacboaaDoorVal
import Derived.Deep.Draws
import Derived.Laws.Externs
namespace Go.Proofs.YtokoolhhfacboaaDoor
open Go.RowKit Go.Shelf
set_option maxRecDepth 20000
set_option maxHeartbeats 0
def arkN (s : Nat) : Nat → Nat → Nat → Nat → Nat × Nat
  | 0, j, _, S => (S, j)
  | f + 1, j, P, S => bif Nat.beq P 0 then (S, j) else bif Nat.beq (j % 2) 0 then arkN s f (j + 1) (P / s) (S + P / (2 * j + 1)) else arkN s f (j + 1) (P / s) (S - P / (2 * j + 1))
def ark0 (n p : Nat) : Nat × Nat := arkN (n * n) p 0 (2 ^ p / n) 0
theorem arkN_zero (s f j S : Nat) : arkN s f j 0 S = (S, j) := by cases f <;> rfl
theorem arkN_even (s f j P S : Nat) (h : P ≠ 0) (hn : j % 2 = 0) : arkN s (f + 1) j P S = arkN s f (j + 1) (P / s) (S + P / (2 * j + 1)) := by
  show (bif Nat.beq P 0 then _ else bif Nat.beq (j % 2) 0 then _ else _) = _
  rw [show Nat.beq P 0 = false by cases P with | zero => exact absurd rfl h | succ n => rfl, hn]
  rfl
theorem arkN_odd (s f j P S : Nat) (h : P ≠ 0) (hn : j % 2 = 1) : arkN s (f + 1) j P S = arkN s f (j + 1) (P / s) (S - P / (2 * j + 1)) := by
  show (bif Nat.beq P 0 then _ else bif Nat.beq (j % 2) 0 then _ else _) = _
  rw [show Nat.beq P 0 = false by cases P with | zero => exact absurd rfl h | succ n => rfl, hn]
  rfl
theorem ak_next {P s g : Nat} (hs : 2 ≤ s) (h : P < 2 ^ (g + 1)) : P / s < 2 ^ g := by
  have h1 : P / s ≤ P / 2 := Nat.div_le_div_left hs (by decide)
  rw [Nat.pow_succ] at h
  omega
theorem ak_b {P S j p g : Nat} (h1 : P < 2 ^ (g + 1)) (h2 : j + (g + 1) = p) (h3 : S ≤ j * 2 ^ p) : S + P / (2 * j + 1) ≤ (j + 1) * 2 ^ p := by
  have h4 : P / (2 * j + 1) ≤ P := Nat.div_le_self _ _
  have h5 : P < 2 ^ p := Nat.lt_of_lt_of_le h1 (Nat.pow_le_pow_right (by decide) (by omega))
  rw [show (j + 1) * 2 ^ p = j * 2 ^ p + 2 ^ p from Nat.succ_mul j _]
  generalize P / (2 * j + 1) = z at *
  omega
theorem ak_k {S j p : Nat} (h : S ≤ j * 2 ^ p) (hn : j ≤ 1500) : S + (2 * j + 1) < 2 ^ (p + 20) := by
  have hp := Nat.two_pow_pos p
  have h4 : j * 2 ^ p ≤ 1500 * 2 ^ p := Nat.mul_le_mul_right _ hn
  rw [Nat.pow_add, show (2 : Nat) ^ 20 = 1048576 by decide]
  generalize 2 ^ p = X at *
  omega
theorem ak_o {P S j s : Nat} : P / s / (2 * (j + 1) + 1) ≤ S + P / (2 * j + 1) :=
  Nat.le_trans (Nat.le_trans (Nat.div_le_div_right (Nat.div_le_self _ _)) (Nat.div_le_div_left (by omega) (by omega))) (Nat.le_add_left _ _)
theorem kk1 {j i x : Nat} (h : i = 2 * j + 1) (h2 : x = 2 * (j + 1) + 1) (hb : j ≤ 1500) : IntKind.u64.wrap ((i : Int) + 2) = (x : Int) := by rw [IntKind.wrap_u64]; omega
theorem twoTo_ok (p : Nat) (hp : p < 100000) {w : World} :
    Calls Tryd.prog 21 #[.int .i64 p] w fun en w' => ∃ q l, en = .returned (.slice q l l) ∧ GO w.heap.size w' q l (2 ^ p) ∧ Below w.heap.size w w' := by
  have HP : Hid (p < 100000) := hp
  clear hp
  go_enter Tryd.func21, Tryd.ntmps21
  go_wp2_with fail
  have hbw : Below w.heap.size w w := Below.refl _ _
  refine (gn_word 1 (by decide)).mono ?_
  rintro e v1 ⟨p1, m1, rfl, hR, hb1⟩
  have GN1 : Hid (GN v1 p1 m1 1) := hR
  clear hR
  replace hbw := Below.on hbw hb1
  clear hb1
  go_wp2_with fail
  have HS1 : Hid (w.heap.size ≤ v1.heap.size) := hbw.size
  refine (gn_shl GN1.out p (by have := HP.out; omega) (K := p + 1) (by have := HP.out; omega) (by rw [Nat.mul_one]; exact Nat.pow_lt_pow_right (by decide) (by omega))).mono ?_
  rintro e v2 ⟨p2, m2, rfl, hR, hb2⟩
  have GN2 : Hid (GN v2 p2 m2 (2 ^ p * 1)) := hR.gn
  have GO2 : Hid (GO v1.heap.size v2 p2 m2 (2 ^ p * 1)) := hR
  clear hR
  replace GN1 : Hid (GN v2 p1 m1 1) := GN1.out.below hb2
  replace hbw := Below.on hbw hb2
  clear hb2
  go_wp2_with fail
  go_ret
  exact ⟨_, _, rfl, (GO2.out.mono HS1.out).cast (Nat.mul_one _), hbw⟩
theorem more_ok {p : Option Addr} {m a : Nat} {w : World} (h : GN w p m a) (x : Nat) (hx : x < B64) {K : Nat} (hK : K ≤ 100000) (hb : a + x < 2 ^ K) :
    Calls Tryd.prog 23 #[.slice p m m, U x] w fun en w' => ∃ q l, en = .returned (.slice q l l) ∧ GO w.heap.size w' q l (a + x) ∧ Below w.heap.size w w' := by
  have HA : Hid (GN w p m a) := h
  have HX : Hid (x < B64 ∧ K ≤ 100000 ∧ a + x < 2 ^ K) := ⟨hx, hK, hb⟩
  clear h hx hb hK
  go_enter Tryd.func23, Tryd.ntmps23
  go_wp2_with fail
  have hbw : Below w.heap.size w w := Below.refl _ _
  refine (gn_word x HX.out.1).mono ?_
  rintro e v1 ⟨p1, m1, rfl, hR, hb1⟩
  have GN1 : Hid (GN v1 p1 m1 x) := hR
  clear hR
  replace HA : Hid (GN v1 p m a) := HA.out.below hb1
  replace hbw := Below.on hbw hb1
  clear hb1
  go_wp2_with fail
  have HS1 : Hid (w.heap.size ≤ v1.heap.size) := hbw.size
  refine (gn_add HA.out GN1.out HX.out.2.1 HX.out.2.2).mono ?_
  rintro e v2 ⟨p2, m2, rfl, hR, hb2⟩
  have GN2 : Hid (GN v2 p2 m2 (a + x)) := hR.gn
  have GO2 : Hid (GO v1.heap.size v2 p2 m2 (a + x)) := hR
  clear hR
  replace HA : Hid (GN v2 p m a) := HA.out.below hb2
  replace GN1 : Hid (GN v2 p1 m1 x) := GN1.out.below hb2
  replace hbw := Below.on hbw hb2
  clear hb2
  go_wp2_with fail
  go_ret
  exact ⟨_, _, rfl, GO2.out.mono HS1.out, hbw⟩
theorem less_ok {p : Option Addr} {m a : Nat} {w : World} (h : GN w p m a) (x : Nat) (hx : x < B64) (hb : x ≤ a) :
    Calls Tryd.prog 36 #[.slice p m m, U x] w fun en w' => ∃ q l, en = .returned (.slice q l l) ∧ GO w.heap.size w' q l (a - x) ∧ Below w.heap.size w w' := by
  have HA : Hid (GN w p m a) := h
  have HX : Hid (x < B64 ∧ x ≤ a) := ⟨hx, hb⟩
  clear h hx hb
  go_enter Tryd.func36, Tryd.ntmps36
  go_wp2_with fail
  have hbw : Below w.heap.size w w := Below.refl _ _
  refine (gn_word x HX.out.1).mono ?_
  rintro e v1 ⟨p1, m1, rfl, hR, hb1⟩
  have GN1 : Hid (GN v1 p1 m1 x) := hR
  clear hR
  replace HA : Hid (GN v1 p m a) := HA.out.below hb1
  replace hbw := Below.on hbw hb1
  clear hb1
  go_wp2_with fail
  have HS1 : Hid (w.heap.size ≤ v1.heap.size) := hbw.size
  refine (gn_sub HA.out GN1.out HX.out.2).mono ?_
  rintro e v2 ⟨p2, m2, rfl, hR, hb2⟩
  have GN2 : Hid (GN v2 p2 m2 (a - x)) := hR.gn
  have GO2 : Hid (GO v1.heap.size v2 p2 m2 (a - x)) := hR
  clear hR
  replace HA : Hid (GN v2 p m a) := HA.out.below hb2
  replace GN1 : Hid (GN v2 p1 m1 x) := GN1.out.below hb2
  replace hbw := Below.on hbw hb2
  clear hb2
  go_wp2_with fail
  go_ret
  exact ⟨_, _, rfl, GO2.out.mono HS1.out, hbw⟩
theorem ark_ok (n p : Nat) (hn : 2 ≤ n) (hn2 : n ≤ 1000) (hp : p ≤ 1400) (hle : 2 * (ark0 n p).2 + 1 ≤ (ark0 n p).1) {w : World} : Calls Tryd.prog 27 #[U n, .int .i64 p] w fun en w' => ∃ p1 m1 p2 m2, en = .returned (.agg #[.slice p1 m1 m1, .slice p2 m2 m2]) ∧ GN w' p1 m1 ((ark0 n p).1 - (2 * (ark0 n p).2 + 1)) ∧ GN w' p2 m2 ((ark0 n p).1 + (2 * (ark0 n p).2 + 1)) ∧ (ark0 n p).1 + (2 * (ark0 n p).2 + 1) < 2 ^ (p + 20) ∧ Below w.heap.size w w' := by
  have HK : Hid (2 ≤ n ∧ n ≤ 1000 ∧ p ≤ 1400 ∧ 2 * (ark0 n p).2 + 1 ≤ (ark0 n p).1) := ⟨hn, hn2, hp, hle⟩
  have HNB : Hid (n < B64 ∧ n ≠ 0 ∧ n * n < 2 ^ 40 ∧ n * n ≠ 0 ∧ 2 ≤ n * n) := ⟨by show n < 18446744073709551616; omega, by omega, Nat.lt_of_le_of_lt (Nat.mul_le_mul hn2 hn2) (by decide), by have := Nat.mul_le_mul hn hn; omega, by have := Nat.mul_le_mul hn hn; omega⟩
  clear hn hn2 hp hle
  go_enter Tryd.func27, Tryd.ntmps27
  go_wp2_with fail
  obtain ⟨W0, hW0⟩ : ∃ W0, W0 = (w.alloc (.cells #[.slice none 0 0, .slice none 0 0] 48)) := ⟨_, rfl⟩
  have Xr : Hid (Box W0 (w.heap.size) (.slice none 0 0) (.slice none 0 0)) := by rw [hW0]; exact ⟨by go_simp, by go_simp, by go_simp, by go_simp⟩
  have hb0 : Below w.heap.size w W0 := by rw [hW0]; exact below1 w _
  rw [← hW0]
  clear hW0
  have hbw : Below w.heap.size w w := Below.refl _ _
  obtain ⟨gr, hgr⟩ : ∃ g, g = w.heap.size := ⟨_, rfl⟩
  have HGr : Hid (w.heap.size ≤ gr) := by rw [hgr]; show _ ≤ _; omega
  rw [← hgr] at Xr
  try rw [← hgr]
  clear hgr
  replace hbw := Below.on hbw hb0
  clear hb0
  refine (gn_word n HNB.out.1).mono ?_
  rintro e v1 ⟨p1, m1, rfl, hR, hb1⟩
  have GN1 : Hid (GN v1 p1 m1 n) := hR
  clear hR
  replace Xr : Hid _ := Xr.out.below hb1
  replace hbw := Below.on hbw hb1
  clear hb1
  go_wp2_with fail
  refine (gn_sqr GN1.out (K := 40) (by decide) HNB.out.2.2.1).mono ?_
  rintro e v2 ⟨p2, m2, rfl, hR, hb2⟩
  have GN2 : Hid (GN v2 p2 m2 (n * n)) := hR.gn
  clear hR
  replace Xr : Hid _ := Xr.out.below hb2
  replace GN1 : Hid (GN v2 p1 m1 n) := GN1.out.below hb2
  replace hbw := Below.on hbw hb2
  clear hb2
  go_wp2_with fail
  refine (twoTo_ok p (by have := HK.out.2.2.1; omega)).mono ?_
  rintro e v3 ⟨p3, m3, rfl, hR, hb3⟩
  have GN3 : Hid (GN v3 p3 m3 (2 ^ p)) := hR.gn
  clear hR
  replace Xr : Hid _ := Xr.out.below hb3
  replace GN1 : Hid (GN v3 p1 m1 n) := GN1.out.below hb3
  replace GN2 : Hid (GN v3 p2 m2 (n * n)) := GN2.out.below hb3
  replace hbw := Below.on hbw hb3
  clear hb3
  go_wp2_with fail
  refine (gn_divw GN3.out n HNB.out.1 HNB.out.2.1).mono ?_
  rintro e v4 ⟨p4, m4, r4, rfl, hR, hb4⟩
  have GN4 : Hid (GN v4 p4 m4 (2 ^ p / n)) := hR
  clear hR
  replace Xr : Hid _ := Xr.out.below hb4
  replace GN1 : Hid (GN v4 p1 m1 n) := GN1.out.below hb4
  replace GN2 : Hid (GN v4 p2 m2 (n * n)) := GN2.out.below hb4
  replace GN3 : Hid (GN v4 p3 m3 (2 ^ p)) := GN3.out.below hb4
  replace hbw := Below.on hbw hb4
  clear hb4
  clear GN1
  clear GN3
  go_wp2_with fail
  obtain ⟨pq, hpq⟩ : ∃ x, x = p2 := ⟨_, rfl⟩
  obtain ⟨mq, hmq⟩ : ∃ x, x = m2 := ⟨_, rfl⟩
  rw [← hpq, ← hmq] at GN2
  rw [← hpq, ← hmq]
  clear hpq hmq
  go_loopg [7, 10, 11] p (fun gk pv sv ov wr => ∃ (j P S : Nat) (p1 p2 : Option Addr) (a b : Nat), j + gk = p ∧ pv = .slice p1 a a ∧ sv = .slice p2 b b ∧ ov = .int .u64 ((2 * j + 1 : Nat) : Int) ∧ GN wr p1 a P ∧ GN wr p2 b S ∧ GN wr pq mq (n * n) ∧ arkN (n * n) gk j P S = ark0 n p ∧ P < 2 ^ gk ∧ S ≤ j * 2 ^ p ∧ (j % 2 = 1 → P / (2 * j + 1) ≤ S) ∧ Box wr gr (.slice none 0 0) (.slice none 0 0) ∧ Below w.heap.size w wr)
  case atStart => exact ⟨0, 2 ^ p / n, 0, p4, none, m4, 0, by omega, rfl, rfl, rfl, GN4.out, GN.nil _ _, GN2.out, rfl, Nat.div_lt_self (Nat.two_pow_pos p) (by have := HK.out.1; omega), Nat.zero_le _, fun h => by omega, Xr.out, hbw⟩
  case round =>
    obtain ⟨j, P, S, p1, p2, a, b, hig, rfl, rfl, rfl, xp, xs, xq, har, hPb, hSb, hod, xr, hbr⟩ := hrel
    clear GN2 GN4 Xr hbw
    have GNP : Hid (GN wr p1 a P) := xp
    have GNS : Hid (GN wr p2 b S) := xs
    have GNQ : Hid (GN wr pq mq (n * n)) := xq
    have Xr : Hid (Box wr gr (.slice none 0 0) (.slice none 0 0)) := xr
    have hbw := hbr
    have hz := xp.zero
    clear xp xs xq xr hbr
    by_cases ht : P = 0
    · obtain rfl : a = 0 := hz.2 ht
      subst ht
      rw [arkN_zero] at har
      have hjp : j ≤ 1400 := by have := HK.out; omega
      have HF : Hid (ark0 n p = (S, j) ∧ S + (2 * j + 1) < 2 ^ (p + 20) ∧ j ≤ 1400) := ⟨har.symm, ak_k hSb (by omega), hjp⟩
      have HB9 : Hid (2 * j + 1 < B64) := by show 2 * j + 1 < 18446744073709551616; omega
      obtain ⟨od, hodd⟩ : ∃ x, x = 2 * j + 1 := ⟨_, rfl⟩
      rw [← hodd]
      have HOD : Hid (od = 2 * j + 1) := hodd
      clear GNP GNQ hz har hPb hSb hig hod hjp hodd
      go_wp2_with fail
      have HW9 : Hid (w.heap.size ≤ wr.heap.size ∧ gr < wr.heap.size) := ⟨hbw.size, Xr.out.lt⟩
      have HLE : Hid (od ≤ S) := by have h1 := HK.out.2.2.2; rw [HF.out.1] at h1; rw [HOD.out]; exact h1
      have HSO : Hid (S + od < 2 ^ (p + 20) ∧ od < B64) := by rw [HOD.out]; exact ⟨HF.out.2.1, HB9.out⟩
      refine (less_ok GNS.out od HSO.out.2 HLE.out).mono ?_
      rintro e v20 ⟨p20, m20, rfl, hR, hb20⟩
      have HQ20 : Hid (wr.heap.size ≤ wr.heap.size) := Nat.le_refl _
      have GO20 : Hid (GO wr.heap.size v20 p20 m20 (S - od)) := hR.mono HQ20.out
      have HB20 : Hid (wr.heap.size ≤ v20.heap.size) := Nat.le_trans HQ20.out hb20.size
      clear hR
      replace Xr : Hid _ := Xr.out.below hb20
      replace GNS : Hid (GN v20 p2 b S) := GNS.out.below hb20
      replace hbw := Below.on hbw hb20
      clear hb20
      go_wp2_with fail
      refine (more_ok GNS.out od HSO.out.2 (K := p + 20) (by have := HK.out.2.2.1; omega) HSO.out.1).mono ?_
      rintro e v21 ⟨p21, m21, rfl, hR, hb21⟩
      have HQ21 : Hid (wr.heap.size ≤ v20.heap.size) := HB20.out
      have GO21 : Hid (GO wr.heap.size v21 p21 m21 (S + od)) := hR.mono HQ21.out
      have HB21 : Hid (wr.heap.size ≤ v21.heap.size) := Nat.le_trans HQ21.out hb21.size
      clear hR
      replace Xr : Hid _ := Xr.out.below hb21
      replace GNS : Hid (GN v21 p2 b S) := GNS.out.below hb21
      replace GO20 : Hid (GO wr.heap.size v21 p20 m20 (S - od)) := GO20.out.below hb21
      replace hbw := Below.on hbw hb21
      clear hb21
      obtain ⟨cr0, cr1, fr0, fr1⟩ := Xr.out
      have hner := Xr.out.lt
      go_wp2_with fail
      refine bodyPost_ret (v := .agg #[.slice p20 m20 m20, .slice p21 m21 m21]) (by rw [results_cell1 rfl]; go_simp) rfl ?_
      rw [HF.out.1]
      refine ⟨_, _, _, _, rfl, ?_, ?_, ?_, ?_⟩
      · rw [← HOD.out]; exact ((GO20.out.set _ _ _ HW9.out.2).set _ _ _ HW9.out.2).gn
      · rw [← HOD.out]; exact ((GO21.out.set _ _ _ HW9.out.2).set _ _ _ HW9.out.2).gn
      · rw [← HOD.out]; exact HSO.out.1
      · exact bSet (bSet (hbw) _ _ _ HGr.out) _ _ _ HGr.out
    · cases gk with
      | zero => rw [Nat.pow_zero] at hPb; omega
      | succ g =>
        have ha1 : (0 : Int) < (a : Int) := by have : a ≠ 0 := fun e => ht (hz.1 e); omega
        have hn9 := HK.out
        have hn13 : j ≤ 1400 := by omega
        obtain ⟨i2, hi2⟩ : ∃ i, i = 2 * j + 1 := ⟨_, rfl⟩
        obtain ⟨i3, hi3⟩ : ∃ i, i = 2 * (j + 1) + 1 := ⟨_, rfl⟩
        rw [← hi2]
        have HT : Hid (j + (g + 1) = p ∧ P < 2 ^ (g + 1) ∧ S ≤ j * 2 ^ p ∧ (j % 2 = 1 → P / (2 * j + 1) ≤ S) ∧ j ≤ 1400 ∧ i2 = 2 * j + 1 ∧ i3 = 2 * (j + 1) + 1 ∧ P ≠ 0) := ⟨hig, hPb, hSb, hod, hn13, hi2, hi3, ht⟩
        have HR : Hid (arkN (n * n) (g + 1) j P S = ark0 n p) := har
        have KQ : Hid (IntKind.u64.wrap ((i2 : Int) + 2) = (i3 : Int)) := kk1 hi2 hi3 (by omega)
        have hm4 : i2 % 4 = 1 ∨ i2 % 4 = 3 := by omega
        have HM4 : Hid (i2 % 4 = 1 → j % 2 = 0) := by show _ → _; omega
        have HM5 : Hid (i2 % 4 = 3 → j % 2 = 1) := by show _ → _; omega
        have HI9 : Hid (i2 < B64 ∧ i2 ≠ 0) := ⟨by show i2 < 18446744073709551616; omega, by omega⟩
        clear hz hPb hSb hod hig har hn9 hn13 hi2 hi3 ht
        go_wp2_with fail
        refine (gn_divw GNP.out i2 HI9.out.1 HI9.out.2).mono ?_
        rintro e v21 ⟨p21, m21, r21, rfl, hR, hb21⟩
        have GN21 : Hid (GN v21 p21 m21 (P / i2)) := hR
        clear hR
        replace Xr : Hid _ := Xr.out.below hb21
        replace GNP : Hid (GN v21 p1 a P) := GNP.out.below hb21
        replace GNS : Hid (GN v21 p2 b S) := GNS.out.below hb21
        replace GNQ : Hid (GN v21 pq mq (n * n)) := GNQ.out.below hb21
        replace hbw := Below.on hbw hb21
        clear hb21
        rcases hm4 with hm | hm
        · have h4 : (i2 : Int) % 4 = 1 := by omega
          have HMM : Hid (j % 2 = 0) := HM4.out hm
          clear hm
          go_wp2_with fail
          refine (gn_add GNS.out GN21.out (K := p + 20) (by have := HK.out.2.2.1; omega) (by have h1 := HT.out; have h2 := ak_k (ak_b h1.2.1 h1.1 h1.2.2.1) (by have := h1.2.2.2.2.1; omega); rw [h1.2.2.2.2.2.1]; exact Nat.lt_of_le_of_lt (Nat.le_add_right _ _) h2)).mono ?_
          rintro e v22 ⟨p22, m22, rfl, hR, hb22⟩
          have GN22 : Hid (GN v22 p22 m22 (S + P / i2)) := hR.gn
          clear hR
          replace Xr : Hid _ := Xr.out.below hb22
          replace GNP : Hid (GN v22 p1 a P) := GNP.out.below hb22
          replace GNS : Hid (GN v22 p2 b S) := GNS.out.below hb22
          replace GNQ : Hid (GN v22 pq mq (n * n)) := GNQ.out.below hb22
          replace GN21 : Hid (GN v22 p21 m21 (P / i2)) := GN21.out.below hb22
          replace hbw := Below.on hbw hb22
          clear hb22
          go_wp2_with fail
          refine (gn_quo GNP.out GNQ.out HNB.out.2.2.2.1).mono ?_
          rintro e v23 ⟨p23, m23, p23x, m23x, rfl, hR, hb23⟩
          have GN23 : Hid (GN v23 p23 m23 (P / (n * n))) := hR
          clear hR
          replace Xr : Hid _ := Xr.out.below hb23
          replace GNP : Hid (GN v23 p1 a P) := GNP.out.below hb23
          replace GNS : Hid (GN v23 p2 b S) := GNS.out.below hb23
          replace GNQ : Hid (GN v23 pq mq (n * n)) := GNQ.out.below hb23
          replace GN21 : Hid (GN v23 p21 m21 (P / i2)) := GN21.out.below hb23
          replace GN22 : Hid (GN v23 p22 m22 (S + P / i2)) := GN22.out.below hb23
          replace hbw := Below.on hbw hb23
          clear hb23
          have kq := KQ.out
          go_wp2_with fail
          clear kq h4
          go_roundg g
          case measure => omega
          case rel =>
            have h1 := HT.out
            rw [h1.2.2.2.2.2.1] at GN22
            refine ⟨j + 1, P / (n * n), S + P / (2 * j + 1), p23, p22, m23, m22, by omega, rfl, rfl, congrArg (Value.int .u64) (by rw [h1.2.2.2.2.2.2.1]), GN23.out, GN22.out, GNQ.out, ?_, ak_next HNB.out.2.2.2.2 h1.2.1, ak_b h1.2.1 h1.1 h1.2.2.1, fun _ => ak_o, Xr.out, hbw⟩
            rw [← arkN_even (n * n) g j P S h1.2.2.2.2.2.2.2 HMM.out]
            exact HR.out
        · have h4 : (i2 : Int) % 4 = 3 := by omega
          have HMM : Hid (j % 2 = 1) := HM5.out hm
          clear hm
          go_wp2_with fail
          refine (gn_sub GNS.out GN21.out (by have h1 := HT.out; rw [h1.2.2.2.2.2.1]; exact h1.2.2.2.1 HMM.out)).mono ?_
          rintro e v22 ⟨p22, m22, rfl, hR, hb22⟩
          have GN22 : Hid (GN v22 p22 m22 (S - P / i2)) := hR.gn
          clear hR
          replace Xr : Hid _ := Xr.out.below hb22
          replace GNP : Hid (GN v22 p1 a P) := GNP.out.below hb22
          replace GNS : Hid (GN v22 p2 b S) := GNS.out.below hb22
          replace GNQ : Hid (GN v22 pq mq (n * n)) := GNQ.out.below hb22
          replace GN21 : Hid (GN v22 p21 m21 (P / i2)) := GN21.out.below hb22
          replace hbw := Below.on hbw hb22
          clear hb22
          go_wp2_with fail
          refine (gn_quo GNP.out GNQ.out HNB.out.2.2.2.1).mono ?_
          rintro e v23 ⟨p23, m23, p23x, m23x, rfl, hR, hb23⟩
          have GN23 : Hid (GN v23 p23 m23 (P / (n * n))) := hR
          clear hR
          replace Xr : Hid _ := Xr.out.below hb23
          replace GNP : Hid (GN v23 p1 a P) := GNP.out.below hb23
          replace GNS : Hid (GN v23 p2 b S) := GNS.out.below hb23
          replace GNQ : Hid (GN v23 pq mq (n * n)) := GNQ.out.below hb23
          replace GN21 : Hid (GN v23 p21 m21 (P / i2)) := GN21.out.below hb23
          replace GN22 : Hid (GN v23 p22 m22 (S - P / i2)) := GN22.out.below hb23
          replace hbw := Below.on hbw hb23
          clear hb23
          have kq := KQ.out
          go_wp2_with fail
          clear kq h4
          go_roundg g
          case measure => omega
          case rel =>
            have h1 := HT.out
            rw [h1.2.2.2.2.2.1] at GN22
            refine ⟨j + 1, P / (n * n), S - P / (2 * j + 1), p23, p22, m23, m22, by omega, rfl, rfl, congrArg (Value.int .u64) (by rw [h1.2.2.2.2.2.2.1]), GN23.out, GN22.out, GNQ.out, ?_, ak_next HNB.out.2.2.2.2 h1.2.1, Nat.le_trans (Nat.sub_le _ _) (Nat.le_trans h1.2.2.1 (Nat.mul_le_mul_right _ (by omega))), fun h => by have := HMM.out; omega, Xr.out, hbw⟩
            rw [← arkN_odd (n * n) g j P S h1.2.2.2.2.2.2.2 HMM.out]
            exact HR.out
theorem times_ok {p q : Option Addr} {m n a b : Nat} {w : World} (h : GN w p m a) (k : GN w q n b) (v : Nat) (hv : v < B64) {K : Nat} (hK : K ≤ 100000) (h1 : a * v < 2 ^ K) (h2 : b * v < 2 ^ K) :
    Calls Tryd.prog 28 #[.agg #[.slice p m m, .slice q n n], U v] w fun en w' => ∃ p1 m1 p2 m2, en = .returned (.agg #[.slice p1 m1 m1, .slice p2 m2 m2]) ∧ GN w' p1 m1 (a * v) ∧ GN w' p2 m2 (b * v) ∧ Below w.heap.size w w' := by
  have HA : Hid (GN w p m a) := h
  have HB : Hid (GN w q n b) := k
  have HX : Hid (v < B64 ∧ K ≤ 100000 ∧ a * v < 2 ^ K ∧ b * v < 2 ^ K) := ⟨hv, hK, h1, h2⟩
  clear h k hv hK h1 h2
  go_enter Tryd.func28, Tryd.ntmps28
  go_wp2_with fail
  obtain ⟨W0, hW0⟩ : ∃ W0, W0 = ((w.alloc (.cells #[.slice p m m, .slice q n n] 48)).alloc (.cells #[.slice none 0 0, .slice none 0 0] 48)) := ⟨_, rfl⟩
  have Xb : Hid (Box W0 (w.heap.size) (.slice p m m) (.slice q n n)) := by rw [hW0]; exact ⟨by go_simp, by go_simp, by go_simp, by go_simp⟩
  have Xr : Hid (Box W0 (w.heap.size + 1) (.slice none 0 0) (.slice none 0 0)) := by rw [hW0]; exact ⟨by go_simp, by go_simp, by go_simp, by go_simp⟩
  have hb0 : Below w.heap.size w W0 := by rw [hW0]; exact below2 w _ _
  rw [← hW0]
  clear hW0
  have hbw : Below w.heap.size w w := Below.refl _ _
  obtain ⟨gr, hgr⟩ : ∃ g, g = w.heap.size + 1 := ⟨_, rfl⟩
  have HGr : Hid (w.heap.size ≤ gr) := by rw [hgr]; show _ ≤ _; omega
  rw [← hgr] at Xr
  try rw [← hgr]
  obtain ⟨gb, hgb⟩ : ∃ g, g = w.heap.size := ⟨_, rfl⟩
  have HGb : Hid (w.heap.size ≤ gb) := by rw [hgb]; show _ ≤ _; omega
  rw [← hgb] at Xb
  try rw [← hgb]
  have HGD : Hid (gb ≠ gr ∧ gr ≠ gb) := by rw [hgb, hgr]; exact ⟨by omega, by omega⟩
  clear hgb hgr
  replace HA : Hid (GN W0 p m a) := HA.out.below hb0
  replace HB : Hid (GN W0 q n b) := HB.out.below hb0
  replace hbw := Below.on hbw hb0
  clear hb0
  obtain ⟨hgd0, hgd1⟩ := HGD.out
  have HW9 : Hid (gr < W0.heap.size) := Xr.out.lt
  refine (gn_mulw HA.out v HX.out.1 HX.out.2.1 HX.out.2.2.1).mono ?_
  rintro e v1 ⟨p1, m1, rfl, hR, hb1⟩
  have GO1 : Hid (GO W0.heap.size v1 p1 m1 (a * v)) := hR.mono (Nat.le_refl _)
  have HB1 : Hid (W0.heap.size ≤ v1.heap.size) := Nat.le_trans (Nat.le_refl _) hb1.size
  clear hR
  replace Xb : Hid _ := Xb.out.below hb1
  replace Xr : Hid _ := Xr.out.below hb1
  replace HA : Hid (GN v1 p m a) := HA.out.below hb1
  replace HB : Hid (GN v1 q n b) := HB.out.below hb1
  replace hbw := Below.on hbw hb1
  clear hb1
  obtain ⟨cb0, cb1, fb0, fb1⟩ := Xb.out
  have hneb := Xb.out.lt
  go_wp2_with fail
  clear cb0 cb1 fb0 fb1 hneb
  refine (gn_mulw HB.out v HX.out.1 HX.out.2.1 HX.out.2.2.2).mono ?_
  rintro e v2 ⟨p2, m2, rfl, hR, hb2⟩
  have GO2 : Hid (GO W0.heap.size v2 p2 m2 (b * v)) := hR.mono HB1.out
  have HB2 : Hid (W0.heap.size ≤ v2.heap.size) := Nat.le_trans HB1.out hb2.size
  clear hR
  replace Xb : Hid _ := Xb.out.below hb2
  replace Xr : Hid _ := Xr.out.below hb2
  replace HA : Hid (GN v2 p m a) := HA.out.below hb2
  replace HB : Hid (GN v2 q n b) := HB.out.below hb2
  replace GO1 : Hid (GO W0.heap.size v2 p1 m1 (a * v)) := GO1.out.below hb2
  replace hbw := Below.on hbw hb2
  clear hb2
  obtain ⟨cr0, cr1, fr0, fr1⟩ := Xr.out
  have hner := Xr.out.lt
  go_wp2_with fail
  refine bodyPost_ret (v := .agg #[.slice p1 m1 m1, .slice p2 m2 m2]) (by rw [results_cell1 rfl]; go_simp) rfl ⟨_, _, _, _, rfl, ((GO1.out.set _ _ _ HW9.out).set _ _ _ HW9.out).gn, ((GO2.out.set _ _ _ HW9.out).set _ _ _ HW9.out).gn, ?_⟩
  exact bSet (bSet (hbw) _ _ _ HGr.out) _ _ _ HGr.out
def kA1 (w : Nat) : Nat := (ark0 5 w).1 - (2 * (ark0 5 w).2 + 1)
def kA2 (w : Nat) : Nat := (ark0 5 w).1 + (2 * (ark0 5 w).2 + 1)
def kC1 (w : Nat) : Nat := (ark0 239 w).1 - (2 * (ark0 239 w).2 + 1)
def kC2 (w : Nat) : Nat := (ark0 239 w).1 + (2 * (ark0 239 w).2 + 1)
def kLo (w : Nat) : Nat := kA1 w * 16 - kC2 w * 4
def kHi (w : Nat) : Nat := kA2 w * 16 - kC1 w * 4
structure KPi (w : Nat) : Prop where
  c5 : 2 * (ark0 5 w).2 + 1 ≤ (ark0 5 w).1
  c9 : 2 * (ark0 239 w).2 + 1 ≤ (ark0 239 w).1
  lo : kC2 w * 4 ≤ kA1 w * 16
  hi : kC1 w * 4 ≤ kA2 w * 16
theorem kAle (w : Nat) : kA1 w ≤ kA2 w := by unfold kA1 kA2; omega
theorem kCle (w : Nat) : kC1 w ≤ kC2 w := by unfold kC1 kC2; omega
theorem kb {x a w : Nat} (v : Nat) (hv : v ≤ 16) (h : a < 2 ^ (w + 20)) (hx : x ≤ a) : x * v < 2 ^ (w + 26) := by
  rw [show w + 26 = w + 20 + 6 by omega, Nat.pow_add _ (w + 20) 6]
  refine Nat.lt_of_le_of_lt (Nat.mul_le_mul hx hv) ?_
  generalize 2 ^ (w + 20) = X at *
  omega
theorem pi_ok (n : Nat) (hn : n ≤ 1400) (hP : KPi n) {w : World} :
    Calls Tryd.prog 20 #[.int .i64 n] w fun en w' => ∃ p1 m1 p2 m2, en = .returned (.agg #[.slice p1 m1 m1, .slice p2 m2 m2]) ∧ GN w' p1 m1 (kLo n) ∧ GN w' p2 m2 (kHi n) ∧ Below w.heap.size w w' := by
  have HN : Hid (n ≤ 1400 ∧ KPi n) := ⟨hn, hP⟩
  clear hn hP
  go_enter Tryd.func20, Tryd.ntmps20
  go_wp2_with fail
  obtain ⟨W0, hW0⟩ : ∃ W0, W0 = (w.alloc (.cells #[.slice none 0 0, .slice none 0 0] 48)) := ⟨_, rfl⟩
  have Xr : Hid (Box W0 (w.heap.size) (.slice none 0 0) (.slice none 0 0)) := by rw [hW0]; exact ⟨by go_simp, by go_simp, by go_simp, by go_simp⟩
  have hb0 : Below w.heap.size w W0 := by rw [hW0]; exact below1 w _
  rw [← hW0]
  clear hW0
  have hbw : Below w.heap.size w w := Below.refl _ _
  obtain ⟨gr, hgr⟩ : ∃ g, g = w.heap.size := ⟨_, rfl⟩
  have HGr : Hid (w.heap.size ≤ gr) := by rw [hgr]; show _ ≤ _; omega
  rw [← hgr] at Xr
  try rw [← hgr]
  clear hgr
  replace hbw := Below.on hbw hb0
  clear hb0
  refine (ark_ok 5 n (by decide) (by decide) HN.out.1 HN.out.2.c5).mono ?_
  rintro e v1 ⟨p1, m1, q1, l1, rfl, hR1, hR2, hR3, hb1⟩
  have GNa1 : Hid (GN v1 p1 m1 (kA1 n)) := hR1
  have GNb1 : Hid (GN v1 q1 l1 (kA2 n)) := hR2
  have HB1 : Hid (kA2 n < 2 ^ (n + 20)) := hR3
  clear hR3
  clear hR1 hR2
  replace Xr : Hid _ := Xr.out.below hb1
  replace hbw := Below.on hbw hb1
  clear hb1
  go_wp2_with fail
  refine (times_ok GNa1.out GNb1.out 16 (by decide) (K := n + 26) (by have := HN.out.1; omega) (kb 16 (by decide) HB1.out (kAle n)) (kb 16 (by decide) HB1.out (Nat.le_refl _))).mono ?_
  rintro e v2 ⟨p2, m2, q2, l2, rfl, hR1, hR2, hb2⟩
  have GNa2 : Hid (GN v2 p2 m2 (kA1 n * 16)) := hR1
  have GNb2 : Hid (GN v2 q2 l2 (kA2 n * 16)) := hR2
  clear hR1 hR2
  replace Xr : Hid _ := Xr.out.below hb2
  replace GNa1 : Hid (GN v2 p1 m1 (kA1 n)) := GNa1.out.below hb2
  replace GNb1 : Hid (GN v2 q1 l1 (kA2 n)) := GNb1.out.below hb2
  replace hbw := Below.on hbw hb2
  clear hb2
  go_wp2_with fail
  refine (ark_ok 239 n (by decide) (by decide) HN.out.1 HN.out.2.c9).mono ?_
  rintro e v3 ⟨p3, m3, q3, l3, rfl, hR1, hR2, hR3, hb3⟩
  have GNa3 : Hid (GN v3 p3 m3 (kC1 n)) := hR1
  have GNb3 : Hid (GN v3 q3 l3 (kC2 n)) := hR2
  have HB3 : Hid (kC2 n < 2 ^ (n + 20)) := hR3
  clear hR3
  clear hR1 hR2
  replace Xr : Hid _ := Xr.out.below hb3
  replace GNa1 : Hid (GN v3 p1 m1 (kA1 n)) := GNa1.out.below hb3
  replace GNb1 : Hid (GN v3 q1 l1 (kA2 n)) := GNb1.out.below hb3
  replace GNa2 : Hid (GN v3 p2 m2 (kA1 n * 16)) := GNa2.out.below hb3
  replace GNb2 : Hid (GN v3 q2 l2 (kA2 n * 16)) := GNb2.out.below hb3
  replace hbw := Below.on hbw hb3
  clear hb3
  go_wp2_with fail
  refine (times_ok GNa3.out GNb3.out 4 (by decide) (K := n + 26) (by have := HN.out.1; omega) (kb 4 (by decide) HB3.out (kCle n)) (kb 4 (by decide) HB3.out (Nat.le_refl _))).mono ?_
  rintro e v4 ⟨p4, m4, q4, l4, rfl, hR1, hR2, hb4⟩
  have GNa4 : Hid (GN v4 p4 m4 (kC1 n * 4)) := hR1
  have GNb4 : Hid (GN v4 q4 l4 (kC2 n * 4)) := hR2
  clear hR1 hR2
  replace Xr : Hid _ := Xr.out.below hb4
  replace GNa1 : Hid (GN v4 p1 m1 (kA1 n)) := GNa1.out.below hb4
  replace GNb1 : Hid (GN v4 q1 l1 (kA2 n)) := GNb1.out.below hb4
  replace GNa2 : Hid (GN v4 p2 m2 (kA1 n * 16)) := GNa2.out.below hb4
  replace GNb2 : Hid (GN v4 q2 l2 (kA2 n * 16)) := GNb2.out.below hb4
  replace GNa3 : Hid (GN v4 p3 m3 (kC1 n)) := GNa3.out.below hb4
  replace GNb3 : Hid (GN v4 q3 l3 (kC2 n)) := GNb3.out.below hb4
  replace hbw := Below.on hbw hb4
  clear hb4
  go_wp2_with fail
  obtain ⟨Wg, hWg⟩ : ∃ W9, W9 = ((v4.alloc (.cells #[.slice p2 m2 m2, .slice q2 l2 l2] 48)).alloc (.cells #[.slice p4 m4 m4, .slice q4 l4 l4] 48)) := ⟨_, rfl⟩
  have Xg0 : Hid (Box Wg (v4.heap.size) (.slice p2 m2 m2) (.slice q2 l2 l2)) := by rw [hWg]; exact ⟨by go_simp, by go_simp, by go_simp, by go_simp⟩
  have Xs0 : Hid (Box Wg (v4.heap.size + 1) (.slice p4 m4 m4) (.slice q4 l4 l4)) := by rw [hWg]; exact ⟨by go_simp, by go_simp, by go_simp, by go_simp⟩
  have hbn : Below v4.heap.size v4 Wg := by rw [hWg]; exact below2 v4 _ _
  rw [← hWg]
  clear hWg
  obtain ⟨gs, hgs⟩ : ∃ g, g = v4.heap.size + 1 := ⟨_, rfl⟩
  have HGs : Hid (w.heap.size ≤ gs) := by rw [hgs]; have := hbw.size; show _ ≤ _; omega
  rw [← hgs] at Xs0
  try rw [← hgs]
  obtain ⟨gg, hgg⟩ : ∃ g, g = v4.heap.size := ⟨_, rfl⟩
  have HGg : Hid (w.heap.size ≤ gg) := by rw [hgg]; have := hbw.size; show _ ≤ _; omega
  rw [← hgg] at Xg0
  try rw [← hgg]
  clear hgg hgs
  replace Xr : Hid _ := Xr.out.below hbn
  replace GNa1 : Hid (GN Wg p1 m1 (kA1 n)) := GNa1.out.below hbn
  replace GNb1 : Hid (GN Wg q1 l1 (kA2 n)) := GNb1.out.below hbn
  replace GNa2 : Hid (GN Wg p2 m2 (kA1 n * 16)) := GNa2.out.below hbn
  replace GNb2 : Hid (GN Wg q2 l2 (kA2 n * 16)) := GNb2.out.below hbn
  replace GNa3 : Hid (GN Wg p3 m3 (kC1 n)) := GNa3.out.below hbn
  replace GNb3 : Hid (GN Wg q3 l3 (kC2 n)) := GNb3.out.below hbn
  replace GNa4 : Hid (GN Wg p4 m4 (kC1 n * 4)) := GNa4.out.below hbn
  replace GNb4 : Hid (GN Wg q4 l4 (kC2 n * 4)) := GNb4.out.below hbn
  replace hbw := Below.on hbw hbn
  clear hbn
  have Xg := Xg0
  clear Xg0
  have Xs := Xs0
  clear Xs0
  clear GNa1
  clear GNb1
  clear GNa3
  clear GNb3
  have HW9 : Hid (gr < Wg.heap.size) := Xr.out.lt
  refine (gn_sub GNa2.out GNb4.out HN.out.2.lo).mono ?_
  rintro e v5 ⟨p5, m5, rfl, hR, hb5⟩
  have GO5 : Hid (GO Wg.heap.size v5 p5 m5 (kLo n)) := hR.mono (Nat.le_refl _)
  have HB5 : Hid (Wg.heap.size ≤ v5.heap.size) := Nat.le_trans (Nat.le_refl _) hb5.size
  clear hR
  replace Xr : Hid _ := Xr.out.below hb5
  replace Xg : Hid _ := Xg.out.below hb5
  replace Xs : Hid _ := Xs.out.below hb5
  replace GNa2 : Hid (GN v5 p2 m2 (kA1 n * 16)) := GNa2.out.below hb5
  replace GNb2 : Hid (GN v5 q2 l2 (kA2 n * 16)) := GNb2.out.below hb5
  replace GNa4 : Hid (GN v5 p4 m4 (kC1 n * 4)) := GNa4.out.below hb5
  replace GNb4 : Hid (GN v5 q4 l4 (kC2 n * 4)) := GNb4.out.below hb5
  replace hbw := Below.on hbw hb5
  clear hb5
  obtain ⟨cg0, cg1, fg0, fg1⟩ := Xg.out
  have hneg := Xg.out.lt
  obtain ⟨cs0, cs1, fs0, fs1⟩ := Xs.out
  have hnes := Xs.out.lt
  go_wp2_with fail
  clear cg0 cg1 fg0 fg1 hneg
  clear cs0 cs1 fs0 fs1 hnes
  refine (gn_sub GNb2.out GNa4.out HN.out.2.hi).mono ?_
  rintro e v6 ⟨p6, m6, rfl, hR, hb6⟩
  have GO6 : Hid (GO Wg.heap.size v6 p6 m6 (kHi n)) := hR.mono HB5.out
  have HB6 : Hid (Wg.heap.size ≤ v6.heap.size) := Nat.le_trans HB5.out hb6.size
  clear hR
  replace Xr : Hid _ := Xr.out.below hb6
  replace Xg : Hid _ := Xg.out.below hb6
  replace Xs : Hid _ := Xs.out.below hb6
  replace GNa2 : Hid (GN v6 p2 m2 (kA1 n * 16)) := GNa2.out.below hb6
  replace GNb2 : Hid (GN v6 q2 l2 (kA2 n * 16)) := GNb2.out.below hb6
  replace GNa4 : Hid (GN v6 p4 m4 (kC1 n * 4)) := GNa4.out.below hb6
  replace GNb4 : Hid (GN v6 q4 l4 (kC2 n * 4)) := GNb4.out.below hb6
  replace GO5 : Hid (GO Wg.heap.size v6 p5 m5 (kLo n)) := GO5.out.below hb6
  replace hbw := Below.on hbw hb6
  clear hb6
  obtain ⟨cr0, cr1, fr0, fr1⟩ := Xr.out
  have hner := Xr.out.lt
  go_wp2_with fail
  refine bodyPost_ret (v := .agg #[.slice p5 m5 m5, .slice p6 m6 m6]) (by rw [results_cell1 rfl]; go_simp) rfl ⟨_, _, _, _, rfl, ((GO5.out.set _ _ _ HW9.out).set _ _ _ HW9.out).gn, ((GO6.out.set _ _ _ HW9.out).set _ _ _ HW9.out).gn, ?_⟩
  exact bSet (bSet (hbw) _ _ _ HGr.out) _ _ _ HGr.out
structure KInv (p V : Nat) : Prop where
  pi : KPi (p + 64)
  l0 : kLo (p + 64) ≠ 0
  h0 : kHi (p + 64) ≠ 0
  fl : 2 ^ (2 * (p + 64) + 1) / kHi (p + 64) / 2 ^ 64 = V
  fh : (2 ^ (2 * (p + 64) + 1) / kLo (p + 64) + 1) / 2 ^ 64 = V
theorem ky1 {n x : Nat} (h : x = 2 * n) (hb : n ≤ 1400) : wrap64 (2 * (n : Int)) = (x : Int) := by subst h; simp only [wrap64]; omega
theorem ky2 {x y : Nat} (h : y = x + 1) (hb : x ≤ 2800) : wrap64 ((x : Int) + 1) = (y : Int) := by subst h; simp only [wrap64]; omega
theorem ky3 {p n : Nat} (h : n = p + 64) (hb : p ≤ 1300) : wrap64 ((p : Int) + 64) = (n : Int) := by subst h; simp only [wrap64]; omega
theorem kq {x y : Nat} (h3 : 1 ≤ x) : 2 ^ x / y + 1 < 2 ^ (x + 1) := by
  have h1 : 2 ^ x / y ≤ 2 ^ x := Nat.div_le_self _ _
  have h2 := Nat.two_pow_pos x
  rw [Nat.pow_succ]
  have : 2 ≤ 2 ^ x := by
    have := Nat.pow_le_pow_right (show 1 ≤ 2 by decide) h3
    omega
  omega
theorem inverse_ok (n : Nat) (hn : n ≤ 1400) (hP : KPi n) (hl : kLo n ≠ 0) (hh : kHi n ≠ 0) {w : World} :
    Calls Tryd.prog 12 #[.int .i64 n] w fun en w' => ∃ p1 m1 p2 m2, en = .returned (.agg #[.slice p1 m1 m1, .slice p2 m2 m2]) ∧ GN w' p1 m1 (2 ^ (2 * n + 1) / kHi n) ∧ GN w' p2 m2 (2 ^ (2 * n + 1) / kLo n + 1) ∧ Below w.heap.size w w' := by
  have HN : Hid (n ≤ 1400 ∧ KPi n ∧ kLo n ≠ 0 ∧ kHi n ≠ 0) := ⟨hn, hP, hl, hh⟩
  obtain ⟨x, hx⟩ : ∃ x, x = 2 * n := ⟨_, rfl⟩
  obtain ⟨y, hy⟩ : ∃ y, y = x + 1 := ⟨_, rfl⟩
  have HXY : Hid (y = 2 * n + 1) := by show y = _; omega
  have hx2 : x ≤ 2800 := by omega
  have k1 := ky1 hx hn
  have k2 := ky2 hy hx2
  clear hn hP hl hh hx hy hx2
  go_enter Tryd.func12, Tryd.ntmps12
  go_wp2_with fail
  obtain ⟨W0, hW0⟩ : ∃ W0, W0 = (w.alloc (.cells #[.slice none 0 0, .slice none 0 0] 48)) := ⟨_, rfl⟩
  have Xr : Hid (Box W0 (w.heap.size) (.slice none 0 0) (.slice none 0 0)) := by rw [hW0]; exact ⟨by go_simp, by go_simp, by go_simp, by go_simp⟩
  have hb0 : Below w.heap.size w W0 := by rw [hW0]; exact below1 w _
  rw [← hW0]
  clear hW0
  have hbw : Below w.heap.size w w := Below.refl _ _
  obtain ⟨gr, hgr⟩ : ∃ g, g = w.heap.size := ⟨_, rfl⟩
  have HGr : Hid (w.heap.size ≤ gr) := by rw [hgr]; show _ ≤ _; omega
  rw [← hgr] at Xr
  try rw [← hgr]
  clear hgr
  replace hbw := Below.on hbw hb0
  clear hb0
  refine (pi_ok n HN.out.1 HN.out.2.1).mono ?_
  rintro e v1 ⟨p1, m1, q1, l1, rfl, hR1, hR2, hb1⟩
  have GNa1 : Hid (GN v1 p1 m1 (kLo n)) := hR1
  have GNb1 : Hid (GN v1 q1 l1 (kHi n)) := hR2
  clear hR1 hR2
  replace Xr : Hid _ := Xr.out.below hb1
  replace hbw := Below.on hbw hb1
  clear hb1
  go_wp2_with fail
  have Xb0 : Hid (Box (v1.alloc (.cells #[.slice p1 m1 m1, .slice q1 l1 l1] 48)) v1.heap.size (.slice p1 m1 m1) (.slice q1 l1 l1)) := Box.new v1 _ _ _
  have hbn : Below v1.heap.size v1 (v1.alloc (.cells #[.slice p1 m1 m1, .slice q1 l1 l1] 48)) := below1 v1 _
  generalize v1.alloc (.cells #[.slice p1 m1 m1, .slice q1 l1 l1] 48) = Wb at *
  have HGb : Hid (w.heap.size ≤ v1.heap.size) := hbw.size
  replace Xr : Hid _ := Xr.out.below hbn
  replace GNa1 : Hid (GN Wb p1 m1 (kLo n)) := GNa1.out.below hbn
  replace GNb1 : Hid (GN Wb q1 l1 (kHi n)) := GNb1.out.below hbn
  replace hbw := Below.on hbw hbn
  clear hbn
  generalize v1.heap.size = gb at *
  have Xb := Xb0
  clear Xb0
  refine (twoTo_ok y (by have h1 := HXY.out; have h2 := HN.out.1; clear k1 k2; omega)).mono ?_
  rintro e v2 ⟨p2, m2, rfl, hR, hb2⟩
  have GN2 : Hid (GN v2 p2 m2 (2 ^ y)) := hR.gn
  clear hR
  replace Xr : Hid _ := Xr.out.below hb2
  replace Xb : Hid _ := Xb.out.below hb2
  replace GNa1 : Hid (GN v2 p1 m1 (kLo n)) := GNa1.out.below hb2
  replace GNb1 : Hid (GN v2 q1 l1 (kHi n)) := GNb1.out.below hb2
  replace hbw := Below.on hbw hb2
  clear hb2
  obtain ⟨cb0, cb1, fb0, fb1⟩ := Xb.out
  have hneb := Xb.out.lt
  go_wp2_with fail
  clear cb0 cb1 fb0 fb1 hneb
  have HW9 : Hid (gr < v2.heap.size) := Xr.out.lt
  refine (gn_quoO GN2.out GNb1.out HN.out.2.2.2).mono ?_
  rintro e v3 ⟨p3, m3, p3x, m3x, rfl, hR, hb3⟩
  have GO3 : Hid (GO v2.heap.size v3 p3 m3 (2 ^ y / kHi n)) := hR.mono (Nat.le_refl _)
  have HB3 : Hid (v2.heap.size ≤ v3.heap.size) := Nat.le_trans (Nat.le_refl _) hb3.size
  clear hR
  replace Xr : Hid _ := Xr.out.below hb3
  replace Xb : Hid _ := Xb.out.below hb3
  replace GNa1 : Hid (GN v3 p1 m1 (kLo n)) := GNa1.out.below hb3
  replace GNb1 : Hid (GN v3 q1 l1 (kHi n)) := GNb1.out.below hb3
  replace GN2 : Hid (GN v3 p2 m2 (2 ^ y)) := GN2.out.below hb3
  replace hbw := Below.on hbw hb3
  clear hb3
  obtain ⟨cb0, cb1, fb0, fb1⟩ := Xb.out
  have hneb := Xb.out.lt
  go_wp2_with fail
  clear cb0 cb1 fb0 fb1 hneb
  refine (gn_quoO GN2.out GNa1.out HN.out.2.2.1).mono ?_
  rintro e v4 ⟨p4, m4, p4x, m4x, rfl, hR, hb4⟩
  have GO4 : Hid (GO v2.heap.size v4 p4 m4 (2 ^ y / kLo n)) := hR.mono HB3.out
  have HB4 : Hid (v2.heap.size ≤ v4.heap.size) := Nat.le_trans HB3.out hb4.size
  clear hR
  replace Xr : Hid _ := Xr.out.below hb4
  replace Xb : Hid _ := Xb.out.below hb4
  replace GNa1 : Hid (GN v4 p1 m1 (kLo n)) := GNa1.out.below hb4
  replace GNb1 : Hid (GN v4 q1 l1 (kHi n)) := GNb1.out.below hb4
  replace GN2 : Hid (GN v4 p2 m2 (2 ^ y)) := GN2.out.below hb4
  replace GO3 : Hid (GO v2.heap.size v4 p3 m3 (2 ^ y / kHi n)) := GO3.out.below hb4
  replace hbw := Below.on hbw hb4
  clear hb4
  obtain ⟨cb0, cb1, fb0, fb1⟩ := Xb.out
  have hneb := Xb.out.lt
  go_wp2_with fail
  clear cb0 cb1 fb0 fb1 hneb
  refine (more_ok GO4.out.gn 1 (by decide) (K := y + 1) (by have h1 := HXY.out; have h2 := HN.out.1; clear k1 k2; omega) (kq (by have h1 := HXY.out; clear k1 k2; omega))).mono ?_
  rintro e v5 ⟨p5, m5, rfl, hR, hb5⟩
  have GO5 : Hid (GO v2.heap.size v5 p5 m5 (2 ^ y / kLo n + 1)) := hR.mono HB4.out
  have HB5 : Hid (v2.heap.size ≤ v5.heap.size) := Nat.le_trans HB4.out hb5.size
  clear hR
  replace Xr : Hid _ := Xr.out.below hb5
  replace Xb : Hid _ := Xb.out.below hb5
  replace GNa1 : Hid (GN v5 p1 m1 (kLo n)) := GNa1.out.below hb5
  replace GNb1 : Hid (GN v5 q1 l1 (kHi n)) := GNb1.out.below hb5
  replace GN2 : Hid (GN v5 p2 m2 (2 ^ y)) := GN2.out.below hb5
  replace GO3 : Hid (GO v2.heap.size v5 p3 m3 (2 ^ y / kHi n)) := GO3.out.below hb5
  replace GO4 : Hid (GO v2.heap.size v5 p4 m4 (2 ^ y / kLo n)) := GO4.out.below hb5
  replace hbw := Below.on hbw hb5
  clear hb5
  obtain ⟨cr0, cr1, fr0, fr1⟩ := Xr.out
  have hner := Xr.out.lt
  go_wp2_with fail
  refine bodyPost_ret (v := .agg #[.slice p3 m3 m3, .slice p5 m5 m5]) (by rw [results_cell1 rfl]; go_simp) rfl ?_
  rw [← HXY.out]
  refine ⟨_, _, _, _, rfl, ((GO3.out.set _ _ _ HW9.out).set _ _ _ HW9.out).gn, ((GO5.out.set _ _ _ HW9.out).set _ _ _ HW9.out).gn, ?_⟩
  exact bSet (bSet (hbw) _ _ _ HGr.out) _ _ _ HGr.out
theorem wrong_ok (p : Nat) (h1 : 1 ≤ p) (h2 : p ≤ 70000) (w : World) : Calls Tryd.prog 10 #[.int .i64 p] w fun en w' => en = .returned (.bool false) ∧ w' = w := by
  have k1 : decide ((p : Int) < 1) = false := decide_eq_false (by omega)
  have k2 : decide ((70000 : Int) < (p : Int)) = false := decide_eq_false (by omega)
  have k3 : ¬ (p : Int) < 1 := by omega
  have k4 : ¬ (p : Int) ≤ 0 := by omega
  clear h1 h2
  go_enter Tryd.func10, Tryd.ntmps10
  go_wp2_with fail
  go_ret
  first | exact ⟨rfl, rfl⟩ | (refine ⟨?_, rfl⟩; congr 2; simp; omega)
theorem floor_ok (p V : Nat) (hp : p ≤ 1300) (hK : KInv p V) {w : World} : Calls Tryd.prog 11 #[.int .i64 p, .func (.func 12) #[] #[]] w fun en w' => ∃ q m, en = .returned (.slice q m m) ∧ GN w' q m V ∧ Below w.heap.size w w' := by
  have HN : Hid (p ≤ 1300 ∧ KInv p V) := ⟨hp, hK⟩
  obtain ⟨n, hn⟩ : ∃ n, n = p + 64 := ⟨_, rfl⟩
  have HE : Hid (n = p + 64) := hn
  have k1 := ky3 hn hp
  clear hp hK hn
  go_enter Tryd.func11, Tryd.ntmps11
  go_wp2_with fail
  have hbw : Below w.heap.size w w := Below.refl _ _
  refine wp_loop_rounds 1 ?_
  rw [rounds_succ]
  go_wp2_with fail
  have HI : Hid (n ≤ 1400 ∧ KPi n ∧ kLo n ≠ 0 ∧ kHi n ≠ 0) := by have h1 := HN.out; rw [HE.out]; exact ⟨by clear k1; omega, h1.2.pi, h1.2.l0, h1.2.h0⟩
  refine (inverse_ok n HI.out.1 HI.out.2.1 HI.out.2.2.1 HI.out.2.2.2).mono ?_
  rintro e v1 ⟨p1, m1, q1, l1, rfl, hR1, hR2, hb1⟩
  have GNa1 : Hid (GN v1 p1 m1 (2 ^ (2 * n + 1) / kHi n)) := hR1
  have GNb1 : Hid (GN v1 q1 l1 (2 ^ (2 * n + 1) / kLo n + 1)) := hR2
  clear hR1 hR2
  replace hbw := Below.on hbw hb1
  clear hb1
  go_wp2_with fail
  have Xb0 : Hid (Box (v1.alloc (.cells #[.slice p1 m1 m1, .slice q1 l1 l1] 48)) v1.heap.size (.slice p1 m1 m1) (.slice q1 l1 l1)) := Box.new v1 _ _ _
  have hbn : Below v1.heap.size v1 (v1.alloc (.cells #[.slice p1 m1 m1, .slice q1 l1 l1] 48)) := below1 v1 _
  generalize v1.alloc (.cells #[.slice p1 m1 m1, .slice q1 l1 l1] 48) = Wb at *
  have HGb : Hid (w.heap.size ≤ v1.heap.size) := hbw.size
  replace GNa1 : Hid (GN Wb p1 m1 (2 ^ (2 * n + 1) / kHi n)) := GNa1.out.below hbn
  replace GNb1 : Hid (GN Wb q1 l1 (2 ^ (2 * n + 1) / kLo n + 1)) := GNb1.out.below hbn
  replace hbw := Below.on hbw hbn
  clear hbn
  generalize v1.heap.size = gb at *
  have Xb := Xb0
  clear Xb0
  refine (gn_shr GNa1.out 64 (by decide)).mono ?_
  rintro e v2 ⟨p2, m2, rfl, hR, hb2⟩
  have GN2 : Hid (GN v2 p2 m2 (2 ^ (2 * n + 1) / kHi n / 2 ^ 64)) := hR.gn
  clear hR
  replace Xb : Hid _ := Xb.out.below hb2
  replace GNa1 : Hid (GN v2 p1 m1 (2 ^ (2 * n + 1) / kHi n)) := GNa1.out.below hb2
  replace GNb1 : Hid (GN v2 q1 l1 (2 ^ (2 * n + 1) / kLo n + 1)) := GNb1.out.below hb2
  replace hbw := Below.on hbw hb2
  clear hb2
  obtain ⟨cb0, cb1, fb0, fb1⟩ := Xb.out
  have hneb := Xb.out.lt
  go_wp2_with fail
  clear cb0 cb1 fb0 fb1 hneb
  refine (gn_shr GNb1.out 64 (by decide)).mono ?_
  rintro e v3 ⟨p3, m3, rfl, hR, hb3⟩
  have GN3 : Hid (GN v3 p3 m3 ((2 ^ (2 * n + 1) / kLo n + 1) / 2 ^ 64)) := hR.gn
  clear hR
  replace Xb : Hid _ := Xb.out.below hb3
  replace GNa1 : Hid (GN v3 p1 m1 (2 ^ (2 * n + 1) / kHi n)) := GNa1.out.below hb3
  replace GNb1 : Hid (GN v3 q1 l1 (2 ^ (2 * n + 1) / kLo n + 1)) := GNb1.out.below hb3
  replace GN2 : Hid (GN v3 p2 m2 (2 ^ (2 * n + 1) / kHi n / 2 ^ 64)) := GN2.out.below hb3
  replace hbw := Below.on hbw hb3
  clear hb3
  obtain ⟨cb0, cb1, fb0, fb1⟩ := Xb.out
  have hneb := Xb.out.lt
  go_wp2_with fail
  clear cb0 cb1 fb0 fb1 hneb
  have HV : Hid (2 ^ (2 * n + 1) / kHi n / 2 ^ 64 = V ∧ (2 ^ (2 * n + 1) / kLo n + 1) / 2 ^ 64 = V) := by rw [HE.out]; exact ⟨HN.out.2.fl, HN.out.2.fh⟩
  rw [HV.out.1] at GN2
  rw [HV.out.2] at GN3
  refine (gn_cmp GN2.out GN3.out).mono ?_
  rintro e v4 ⟨rfl, hb4⟩
  rw [cmpN_eq (rfl : V = V)]
  replace Xb : Hid _ := Xb.out.below hb4
  replace GNa1 : Hid (GN v4 p1 m1 (2 ^ (2 * n + 1) / kHi n)) := GNa1.out.below hb4
  replace GNb1 : Hid (GN v4 q1 l1 (2 ^ (2 * n + 1) / kLo n + 1)) := GNb1.out.below hb4
  replace GN2 : Hid (GN v4 p2 m2 V) := GN2.out.below hb4
  replace GN3 : Hid (GN v4 p3 m3 V) := GN3.out.below hb4
  replace hbw := Below.on hbw hb4
  clear hb4
  go_wp2_with fail
  go_ret
  exact ⟨_, _, rfl, GN2.out, hbw⟩
theorem floorInv_ok (p V : Nat) (h1 : 1 ≤ p) (hp : p ≤ 1300) (hK : KInv p V) {w : World} : Calls Tryd.prog 5 #[.int .i64 p] w fun en w' => ∃ q m, en = .returned (.tuple #[.slice q m m, .int .i64 0]) ∧ GN w' q m V ∧ Below w.heap.size w w' := by
  have HN : Hid (1 ≤ p ∧ p ≤ 1300 ∧ KInv p V) := ⟨h1, hp, hK⟩
  clear h1 hp hK
  go_enter Tryd.func5, Tryd.ntmps5
  go_wp2_with fail
  have hbw : Below w.heap.size w w := Below.refl _ _
  refine (wrong_ok p HN.out.1 (by have := HN.out.2.1; omega) _).mono ?_
  rintro e v9 ⟨rfl, hw⟩
  obtain rfl := hw.symm
  clear hw
  go_wp2_with fail
  refine (floor_ok p V HN.out.2.1 HN.out.2.2).mono ?_
  rintro e v1 ⟨p1, m1, rfl, hR, hb1⟩
  have GN1 : Hid (GN v1 p1 m1 V) := hR
  clear hR
  replace hbw := Below.on hbw hb1
  clear hb1
  go_wp2_with fail
  go_ret2
  exact ⟨_, _, rfl, GN1.out, hbw⟩
end Go.Proofs.YtokoolhhfacboaaDoor
namespace Go.Proofs.YtokoolhhfacboaaDoor
open Go.RowKit
set_option maxRecDepth 20000
set_option maxHeartbeats 0
theorem results_ct {fn : Func} {p q : Tmp} {ty : TypeId} (h : fn.results = #[.cell p ty, .tmp q]) (tmps : Array Value) (P : Program) (w : World) :
    (results fn tmps).run P w = ((asAddr (tmps.getD p undef)).run P w).andThen fun a w₁ => ((loadVar ty a).run P w₁).andThen fun v w₂ => .ok (.tuple #[v, tmps.getD q undef]) w₂ := by
  simp only [results, h]
  simp [Sem.run_bind, Result.andThen]

structure B3 (W : World) (g : Nat) (v0 v1 v2 : Value) : Prop where
  c0 : W.cell? ⟨g, 0, none⟩ = some v0
  c1 : W.cell? ⟨g, 1, none⟩ = some v1
  c2 : W.cell? ⟨g, 2, none⟩ = some v2
  f0 : W.frozen? ⟨g, 0, none⟩ = false
  f1 : W.frozen? ⟨g, 1, none⟩ = false
  f2 : W.frozen? ⟨g, 2, none⟩ = false
theorem B3.below {W W' : World} {g : Nat} {v0 v1 v2 : Value} (h : B3 W g v0 v1 v2) (hb : Below W.heap.size W W') : B3 W' g v0 v1 v2 := by
  have hl : g < W.heap.size := World.block_lt_of_cell? W _ h.c0
  exact ⟨(hb.cell (p := ⟨g, 0, none⟩) hl).trans h.c0, (hb.cell (p := ⟨g, 1, none⟩) hl).trans h.c1, (hb.cell (p := ⟨g, 2, none⟩) hl).trans h.c2,
    (hb.frozen (p := ⟨g, 0, none⟩) hl).trans h.f0, (hb.frozen (p := ⟨g, 1, none⟩) hl).trans h.f1, (hb.frozen (p := ⟨g, 2, none⟩) hl).trans h.f2⟩
theorem B3.new (w : World) (ty : TypeId) (v0 v1 v2 : Value) : B3 (w.alloc (.cells #[v0, v1, v2] ty)) w.heap.size v0 v1 v2 :=
  ⟨by go_simp, by go_simp, by go_simp, by go_simp, by go_simp, by go_simp⟩
theorem B3.lt {W : World} {g : Nat} {v0 v1 v2 : Value} (h : B3 W g v0 v1 v2) : g < W.heap.size := World.block_lt_of_cell? W _ h.c0
end Go.Proofs.YtokoolhhfacboaaDoor
namespace Go.Proofs.YtokoolhhfacboaaDoor
open Go.RowKit Go.Shelf
set_option maxRecDepth 20000
set_option maxHeartbeats 0
structure B5q (W : World) (g : Nat) (v0 v1 v2 v3 v4 : Value) : Prop where
  c0 : W.cell? ⟨g, 0, none⟩ = some v0
  c1 : W.cell? ⟨g, 1, none⟩ = some v1
  c2 : W.cell? ⟨g, 2, none⟩ = some v2
  c3 : W.cell? ⟨g, 3, none⟩ = some v3
  c4 : W.cell? ⟨g, 4, none⟩ = some v4
  f0 : W.frozen? ⟨g, 0, none⟩ = false
  f1 : W.frozen? ⟨g, 1, none⟩ = false
  f2 : W.frozen? ⟨g, 2, none⟩ = false
  f3 : W.frozen? ⟨g, 3, none⟩ = false
  f4 : W.frozen? ⟨g, 4, none⟩ = false
theorem B5q.below {W W' : World} {g : Nat} {v0 v1 v2 v3 v4 : Value} (h : B5q W g v0 v1 v2 v3 v4) (hb : Below W.heap.size W W') : B5q W' g v0 v1 v2 v3 v4 := by
  have hl : g < W.heap.size := World.block_lt_of_cell? W _ h.c0
  exact ⟨(hb.cell (p := ⟨g, 0, none⟩) hl).trans h.c0, (hb.cell (p := ⟨g, 1, none⟩) hl).trans h.c1, (hb.cell (p := ⟨g, 2, none⟩) hl).trans h.c2, (hb.cell (p := ⟨g, 3, none⟩) hl).trans h.c3, (hb.cell (p := ⟨g, 4, none⟩) hl).trans h.c4,
    (hb.frozen (p := ⟨g, 0, none⟩) hl).trans h.f0, (hb.frozen (p := ⟨g, 1, none⟩) hl).trans h.f1, (hb.frozen (p := ⟨g, 2, none⟩) hl).trans h.f2, (hb.frozen (p := ⟨g, 3, none⟩) hl).trans h.f3, (hb.frozen (p := ⟨g, 4, none⟩) hl).trans h.f4⟩
theorem B5q.new (w : World) (ty : TypeId) (v0 v1 v2 v3 v4 : Value) : B5q (w.alloc (.cells #[v0, v1, v2, v3, v4] ty)) w.heap.size v0 v1 v2 v3 v4 :=
  ⟨by go_simp, by go_simp, by go_simp, by go_simp, by go_simp, by go_simp, by go_simp, by go_simp, by go_simp, by go_simp⟩
theorem B5q.lt {W : World} {g : Nat} {v0 v1 v2 v3 v4 : Value} (h : B5q W g v0 v1 v2 v3 v4) : g < W.heap.size := World.block_lt_of_cell? W _ h.c0
theorem B5q.drew {W : World} {g : Nat} {v0 v1 v2 v3 v4 : Value} (h : B5q W g v0 v1 v2 v3 v4) : B5q W.drew g v0 v1 v2 v3 v4 := ⟨h.c0, h.c1, h.c2, h.c3, h.c4, h.f0, h.f1, h.f2, h.f3, h.f4⟩
theorem B3.drew {W : World} {g : Nat} {v0 v1 v2 : Value} (h : B3 W g v0 v1 v2) : B3 W.drew g v0 v1 v2 := ⟨h.c0, h.c1, h.c2, h.f0, h.f1, h.f2⟩
structure FrIs (B : Nat) (w : World) (s : Bool) (a d : Nat) (p : Option Addr) (m : Nat) (zs : List Nat) (x : Bool) (hf : Int) : Prop where
  own : Own B w p m zs
  nf : Nf B64 zs (a / d)
  le : m ≤ 8192
  ex : x = decide (a % d ≠ 0)
  hf : HfIs (a % d) d hf
  lim : a < LIM
theorem FrIs.below {B : Nat} {w w' : World} {s : Bool} {a d : Nat} {p : Option Addr} {m : Nat} {zs : List Nat} {x : Bool} {hf : Int} (h : FrIs B w s a d p m zs x hf) (hb : Below w.heap.size w w') : FrIs B w' s a d p m zs x hf :=
  ⟨h.own.below hb, h.nf, h.le, h.ex, h.hf, h.lim⟩
theorem FrIs.up {B : Nat} {w : World} {s : Bool} {a d : Nat} {p : Option Addr} {m : Nat} {zs : List Nat} {hf : Int} (h : FrIs B w s a d p m zs true hf) : a / d + 1 < LIM := by
  have := ce_le (of_decide_eq_true h.ex.symm)
  have := h.lim
  omega
theorem FrIs.half {B : Nat} {w : World} {s : Bool} {a d : Nat} {p : Option Addr} {m : Nat} {zs : List Nat} {x : Bool} {hf : Int} (h : FrIs B w s a d p m zs x hf) (hd : 0 < d) (h0 : 0 ≤ hf) : x = true := by
  rw [h.ex]
  refine decide_eq_true ?_
  rcases h.hf with ⟨_, e⟩ | ⟨e, _⟩ | ⟨e, _⟩ <;> omega
def GeW (B : Nat) (w : World) : Prop := B ≤ w.heap.size
theorem GeW.below {B : Nat} {w w' : World} (h : GeW B w) (hb : Below w.heap.size w w') : GeW B w' := Nat.le_trans h hb.size
theorem Num.drewN {w : World} {p : Option Addr} {m c : Nat} {xs : List Nat} {a : Nat} (h : Num w p m c xs a) (r : Nat) : Num (w.drewN r) p m c xs a := ⟨h.at_.drewN r, h.nf, h.le⟩
structure Row32 (w : World) (g off n : Nat) (xs : List Nat) : Prop where
  len : xs.length = n
  dig : Dig B32 xs
  cell : ∀ j, j < n → w.cell? ⟨g, off + j, none⟩ = some (V (xs.getD j 0))
  frozen : ∀ j, j < n → w.frozen? ⟨g, off + j, none⟩ = false
theorem Row32.at_ {w : World} {g off n c : Nat} {xs : List Nat} (h : Row32 w g off n xs) (hc : n ≤ c) (hb : c ≤ maxLen) : At32 w (some ⟨g, off, none⟩) n c xs :=
  ⟨h.len, hc, hb, h.dig, .inr ⟨g, off, rfl, h.cell⟩⟩
theorem Row32.set {w : World} {g off n : Nat} {xs : List Nat} (h : Row32 w g off n xs) (k y : Nat) (hk : k < n) (hy : y < B32) : Row32 (w.setCell ⟨g, off + k, none⟩ (V y)) g off n (xs.set k y) := by
  refine ⟨by rw [List.length_set]; exact h.len, h.dig.set k hy, fun j hj => ?_, fun j hj => by rw [World.frozen?_setCell]; exact h.frozen j hj⟩
  rw [getD_set xs k y j (by rw [h.len]; exact hk)]
  by_cases e : j = k
  · subst e; rw [if_pos rfl]; exact World.cell?_setCell_same _ _ _ (h.cell j hj)
  · rw [if_neg e]
    exact (World.cell?_setCell_other _ _ _ _ (by intro e2; apply e; have := congrArg Addr.off e2; simp at this; omega)).trans (h.cell j hj)
theorem Row32.drewN {w : World} {g off n : Nat} {xs : List Nat} (h : Row32 w g off n xs) (q : Nat) : Row32 (w.drewN q) g off n xs := ⟨h.len, h.dig, h.cell, h.frozen⟩
theorem Row32.drew {w : World} {g off n : Nat} {xs : List Nat} (h : Row32 w g off n xs) : Row32 w.drew g off n xs := ⟨h.len, h.dig, h.cell, h.frozen⟩
theorem Blk32.frozen {w : World} {g : Nat} {xs : List Nat} (h : Blk32 w g xs) (j : Nat) : w.frozen? ⟨g, j, none⟩ = false := frozen_of_row w g j _ _ h
theorem Blk32.row {w : World} {g : Nat} {xs : List Nat} (h : Blk32 w g xs) (hd : Dig B32 xs) : Row32 w g 0 xs.length xs :=
  ⟨rfl, hd, fun j hj => by rw [Nat.zero_add]; exact h.cell j hj, fun j _ => h.frozen _⟩
theorem Row32.win {w : World} {g m : Nat} {rs : List Nat} (h : Row32 w g 0 m rs) (a l : Nat) (ha : a + l ≤ m) : Row32 w g a l ((rs.drop a).take l) := by
  have hl := h.len
  refine ⟨by simp; omega, (h.dig.drop a).take l, fun j hj => ?_, fun j hj => ?_⟩
  · have e : ((rs.drop a).take l).getD j 0 = rs.getD (a + j) 0 := by
      rw [List.getD_eq_getElem?_getD, List.getD_eq_getElem?_getD, List.getElem?_take, if_pos hj, List.getElem?_drop]
    rw [e]
    have := h.cell (a + j) (by omega)
    rw [Nat.zero_add] at this; exact this
  · have := h.frozen (a + j) (by omega)
    rw [Nat.zero_add] at this; exact this
theorem Row32.put {w w' : World} {g m a l : Nat} {rs ws : List Nat} (h : Row32 w g 0 m rs) (hwr : Wr g a l w w') (hr : Row32 w' g a l ws) (ha : a + l ≤ m) : Row32 w' g 0 m (winPut rs ws a) := by
  have hl := h.len; have hwl := hr.len
  have hle : a + ws.length ≤ rs.length := by omega
  refine ⟨by rw [winPut_len rs ws a hle]; exact hl, ?_, fun j hj => ?_, fun j hj => ?_⟩
  · unfold winPut; exact ((h.dig.take a).append hr.dig).append (h.dig.drop _)
  · rw [winPut_get rs ws a j hle, Nat.zero_add]
    by_cases hc : a ≤ j ∧ j < a + ws.length
    · rw [if_pos hc]
      have := hr.cell (j - a) (by omega)
      rw [show a + (j - a) = j by omega] at this; exact this
    · rw [if_neg hc, hwr.cell g j (by omega)]
      have := h.cell j hj
      rw [Nat.zero_add] at this; exact this
  · rw [hwr.frozen]; exact h.frozen j hj
theorem win_take32 (rs : List Nat) (a m : Nat) (h : a + m ≤ rs.length) : valB B32 rs = valB B32 (rs.take a) + B32 ^ a * (valB B32 ((rs.drop a).take m) + B32 ^ m * valB B32 (rs.drop (a + m))) := by
  rw [valB_split B32 rs a (by omega), valB_split B32 (rs.drop a) m (by rw [List.length_drop]; omega), List.drop_drop]

structure RMulRel (w : World) (g off m : Nat) (zs ys : List Nat) (v k cy : Nat) (dk : List Nat) (wr : World) : Prop where
  wrs : Wr g off m w wr
  row : Row32 wr g off m dk
  hi : dk.drop k = zs.drop k
  car : cy < B32
  sum : valB B32 (dk.take k) + B32 ^ k * cy = valB B32 (zs.take k) + valB B32 (ys.take k) * v
theorem RMulRel.step {w : World} {g off m : Nat} {zs ys : List Nat} {v k cy : Nat} {dk : List Nat} {wr : World} (h : RMulRel w g off m zs ys v k cy dk wr) (hk : k < m)
    {x z l d : Nat} (hz : z = dk.getD k 0) (hx : x = ys.getD k 0) (hs : x * v + z + cy = l + B32 * d) (hl : l < B32) (hd : d < B32) :
    RMulRel w g off m zs ys v (k + 1) d (dk.set k l) (wr.setCell ⟨g, off + k, none⟩ (V l)) := by
  have hlen := h.row.len
  refine ⟨h.wrs.setCell (off + k) ⟨by omega, by omega⟩ _, h.row.set k l hk hl, ?_, hd, ?_⟩
  · rw [drop_set_lt]; exact drop_succ_of_drop h.hi
  · have hzz : z = zs.getD k 0 := hz.trans (getD_of_drop h.hi)
    rw [take_set_succ dk k l (by omega), valB_snoc, List.length_take, hlen, Nat.min_eq_left (by omega), valB_take_any _ zs k, valB_take_any _ ys k, ← hzz, ← hx, Nat.pow_succ, Nat.add_mul]
    have e1 := h.sum
    have e2 : B32 ^ k * (x * v + z + cy) = B32 ^ k * (l + B32 * d) := by rw [hs]
    rw [Nat.mul_add, Nat.mul_add, Nat.mul_add, ← Nat.mul_assoc] at e2
    have e3 : B32 ^ k * x * v = B32 ^ k * (x * v) := Nat.mul_assoc _ _ _
    have e4 : B32 ^ k * B32 * d = B32 ^ k * (B32 * d) := Nat.mul_assoc _ _ _
    rw [e3, e4]
    rw [← Nat.mul_assoc] at e2
    generalize B32 ^ k * x * v = X0 at *
    generalize B32 ^ k * (x * v) = X1 at *
    generalize B32 ^ k * B32 * d = X2 at *
    generalize B32 ^ k * (B32 * d) = X3 at *
    generalize B32 ^ k * z = X4 at *
    generalize B32 ^ k * cy = X5 at *
    generalize B32 ^ k * l = X6 at *
    omega

theorem RMulRel.drewN {w : World} {g off m : Nat} {zs ys : List Nat} {v k cy : Nat} {dk : List Nat} {wr : World} (h : RMulRel w g off m zs ys v k cy dk wr) (q : Nat) : RMulRel w g off m zs ys v k cy dk (wr.drewN q) :=
  ⟨h.wrs.drewN q, h.row.drewN q, h.hi, h.car, h.sum⟩
theorem valB_set_zero (b : Nat) (xs : List Nat) (k y : Nat) (hk : k < xs.length) (h0 : xs.getD k 0 = 0) : valB b (xs.set k y) = valB b xs + b ^ k * y := by
  have h1 := valB_split b xs k (by omega)
  have h2 := valB_split b (xs.set k y) k (by simp; omega)
  rw [drop_set_at xs k y hk, take_set_at, valB_cons] at h2
  rw [valB_drop b xs k hk, h0] at h1
  rw [h2, h1, Nat.mul_add, Nat.zero_add]
  omega
theorem valB_drop_zero {b : Nat} (hb : 0 < b) {xs : List Nat} {k : Nat} (h : valB b (xs.drop k) = 0) : xs.getD k 0 = 0 ∧ valB b (xs.drop (k + 1)) = 0 := by
  by_cases hk : k < xs.length
  · rw [valB_drop b xs k hk] at h
    have h1 : b * valB b (xs.drop (k + 1)) = 0 := by omega
    refine ⟨by omega, ?_⟩
    rcases Nat.mul_eq_zero.1 h1 with e | e
    · omega
    · exact e
  · refine ⟨?_, ?_⟩
    · rw [List.getD_eq_getElem?_getD, List.getElem?_eq_none (by omega)]; rfl
    · rw [List.drop_of_length_le (by omega)]; rfl
structure RMulO (w : World) (g N m : Nat) (xs ys : List Nat) (i : Nat) (ps : List Nat) (wr : World) : Prop where
  bel : Below g w wr
  row : Row32 wr g 0 N ps
  val : valB B32 ps = valB B32 (xs.take i) * valB B32 ys
  zero : valB B32 (ps.drop (i + m)) = 0
theorem rmul_abs {P Y x T Z D V cy B m : Nat} (h1 : V = T + P * Z) (h2 : D + B ^ m * cy = Z + Y * x) : T + P * D + P * B ^ m * cy = V + P * (Y * x) := by
  have e1 : P * (D + B ^ m * cy) = P * (Z + Y * x) := by rw [h2]
  rw [Nat.mul_add, Nat.mul_add, ← Nat.mul_assoc] at e1
  omega
theorem RMulO.step {w : World} {g N m n : Nat} {xs ys : List Nat} {i : Nat} {ps : List Nat} {wr wr' : World} (h : RMulO w g N m xs ys i ps wr) (hi : i < n) (hN : N = n + m) (hx : xs.length = n) (hy : ys.length = m) {x cy : Nat} {dk : List Nat} (ex : x = xs.getD i 0) (hR : RMulRel wr g i m ((ps.drop i).take m) ys x m cy dk wr') :
    RMulO w g N m xs ys (i + 1) ((winPut ps dk i).set (i + m) cy) (wr'.setCell ⟨g, i + m, none⟩ (V cy)) := by
  have hl := h.row.len; have hdl := hR.row.len
  have hle : i + dk.length ≤ ps.length := by omega
  have hrow := h.row.put hR.wrs hR.row (by omega)
  have hz := valB_drop_zero B32_pos h.zero
  have hsum := hR.sum
  have t1 : dk.take m = dk := List.take_of_length_le (by omega)
  have t2 : ((ps.drop i).take m).take m = (ps.drop i).take m := by rw [List.take_take, Nat.min_self]
  have t3 : ys.take m = ys := List.take_of_length_le (by omega)
  rw [t1, t2, t3] at hsum
  have hv := win_take32 ps i m (by omega)
  rw [h.zero, Nat.mul_zero, Nat.add_zero] at hv
  have hv1 : valB B32 (winPut ps dk i) = valB B32 (ps.take i) + B32 ^ i * valB B32 dk := by
    rw [valB_split B32 (winPut ps dk i) i (by rw [winPut_len ps dk i hle]; omega), winPut_take ps dk i hle, winPut_drop ps dk i hle, valB_append, hdl, h.zero, Nat.mul_zero, Nat.add_zero]
  have hg0 : (winPut ps dk i).getD (i + m) 0 = 0 := by
    rw [winPut_get ps dk i (i + m) hle, if_neg (by omega)]; exact hz.1
  refine ⟨(h.bel.trans (hR.wrs.below (Nat.le_refl _))).trans (((Wr.refl g 0 N wr').setCell (i + m) ⟨by omega, by omega⟩ (V cy)).below (Nat.le_refl _)), ?_, ?_, ?_⟩
  · have := hrow.set (i + m) cy (by omega) hR.car
    rw [Nat.zero_add] at this; exact this
  · rw [valB_set_zero B32 _ (i + m) cy (by rw [winPut_len ps dk i hle]; omega) hg0, hv1, Nat.pow_add, rmul_abs hv hsum, h.val, valB_take_succ B32 xs i (by omega), ← ex, Nat.add_mul, Nat.mul_assoc, Nat.mul_comm (valB B32 ys) x]
  · rw [show i + 1 + m = i + m + 1 by omega, drop_set_lt]
    have e : (winPut ps dk i).drop (i + m + 1) = ps.drop (i + m + 1) := by
      have e1 : (winPut ps dk i).drop (i + m) = ps.drop (i + m) := by
        have := congrArg (List.drop dk.length) (winPut_drop ps dk i hle)
        rw [List.drop_drop, List.drop_left, hdl] at this
        exact this
      have := congrArg (List.drop 1) e1
      rw [List.drop_drop, List.drop_drop] at this; exact this
    rw [e]; exact hz.2
structure RAddR (w : World) (g N M : Nat) (xs ys : List Nat) (i cy : Nat) (ss : List Nat) (wr : World) : Prop where
  bel : Below g w wr
  own : wr.ownsRow g 88 1 (.slice (some ⟨g, 0, none⟩) i N) i (cellsV ss)
  len : ss.length = i
  dig : Dig B32 ss
  car : cy ≤ 1
  fin : i ≤ M + 1
  last : i = M + 1 → cy = 0
  sum : valB B32 ss + B32 ^ i * cy = valB B32 (xs.take i) + valB B32 (ys.take i)
theorem RAddR.at_ {w : World} {g N M : Nat} {xs ys : List Nat} {i cy : Nat} {ss : List Nat} {wr : World} (h : RAddR w g N M xs ys i cy ss wr) : At32 wr (some ⟨g, 0, none⟩) i N ss := by
  rcases h.own.2 with ⟨h', _⟩ | ⟨g', cap', cur, h', hbase, hgc, hcap', hmx, hsz, htake⟩
  · simp at h'
  · simp only [Value.slice.injEq, Option.some.injEq, Addr.mk.injEq, and_true, true_and] at h'
    obtain ⟨rfl, rfl⟩ := h'
    refine ⟨h.len, hcap', hmx, h.dig, .inr ⟨g, 0, rfl, fun jj hj => ?_⟩⟩
    rw [Nat.zero_add, cell_of_row wr g jj _ _ _ hgc]
    have e1 := cellsV_get ss jj (by rw [h.len]; exact hj)
    rw [← htake, Nat.mul_one, List.getElem?_take, if_pos hj] at e1
    rw [← Array.getElem?_toList]; exact e1
theorem Box.put {W : World} {g : Nat} {v0 v1 : Value} (h : Box W g v0 v1) (u0 u1 : Value) : Box ((W.setCell ⟨g, 0, none⟩ u0).setCell ⟨g, 1, none⟩ u1) g u0 u1 := by
  obtain ⟨c0, c1, f0, f1⟩ := h
  exact ⟨by go_simp, by go_simp, by go_simp, by go_simp⟩
structure ZN (w : World) (s : Bool) (p : Option Addr) (m c : Nat) (z : Int) : Prop where
  ex : ∃ xs, Num w p m c xs z.natAbs
  sg : s = decide (z < 0)
theorem ZN.below {w w' : World} {s : Bool} {p : Option Addr} {m c : Nat} {z : Int} (h : ZN w s p m c z) (hb : Below w.heap.size w w') : ZN w' s p m c z := by
  obtain ⟨xs, hx⟩ := h.ex
  exact ⟨⟨xs, hx.below hb⟩, h.sg⟩
theorem ZN.iv {w : World} {s : Bool} {p : Option Addr} {m c : Nat} {z : Int} (h : ZN w s p m c z) : iv s z.natAbs = z := by rw [h.sg]; exact iv_abs z
theorem ZN.lim {w : World} {s : Bool} {p : Option Addr} {m c : Nat} {z : Int} (h : ZN w s p m c z) : z.natAbs < LIM := by
  obtain ⟨xs, hx⟩ := h.ex
  exact hx.lim
theorem ZN.le {w : World} {s : Bool} {p : Option Addr} {m c : Nat} {z : Int} (h : ZN w s p m c z) : m ≤ 8192 := by
  obtain ⟨xs, hx⟩ := h.ex
  exact hx.le
theorem ZN.cast {w : World} {s : Bool} {p : Option Addr} {m c : Nat} {z z' : Int} (h : ZN w s p m c z) (e : z = z') : ZN w s p m c z' := e ▸ h
theorem ZN.of {w : World} {p : Option Addr} {m c : Nat} {xs : List Nat} {a : Nat} {t : Bool} (h : Num w p m c xs a) (ht : t = true → 0 < a) : ZN w t p m c (Go.Proofs.YtokoolhhfacboaaDoor.iv t a) :=
  ⟨⟨xs, by rw [iv_natAbs]; exact h⟩, by
    cases t
    · rw [iv_f]; exact (decide_eq_false (Int.not_lt.2 (Int.natCast_nonneg _))).symm
    · rw [iv_t]; have := ht rfl; exact (decide_eq_true (by omega)).symm⟩
def Got (w' : World) (e : Ending) (z : Int) : Prop := ∃ s p m, e = .returned (.tuple #[ZV s p m m, .int .i64 0]) ∧ ZN w' s p m m z
theorem AnsZ.zn {B : Nat} {w' : World} {v : Value} {z : Int} (h : AnsZ B w' v z) : ∃ s p m, v = ZV s p m m ∧ ZN w' s p m m z := by
  obtain ⟨p, m, zs, rfl, ho, hn, hm⟩ := h
  exact ⟨_, p, m, rfl, ⟨zs, Num.of ho hn hm⟩, rfl⟩
theorem AnsI.zn {B : Nat} {w' : World} {e : Ending} {z : Int} (h : AnsI B w' e z) : (z.natAbs < LIM ∧ Got w' e z) ∨ (LIM ≤ z.natAbs ∧ e = .returned (.tuple #[ZV false none 0 0, .int .i64 5])) := by
  rcases h with ⟨hl, p, m, zs, rfl, ho, hn, hm⟩ | ⟨hl, rfl⟩
  · exact .inl ⟨hl, _, p, m, rfl, ⟨zs, Num.of ho hn hm⟩, rfl⟩
  · exact .inr ⟨hl, rfl⟩
variable {w : World} {s t : Bool} {p q : Option Addr} {m c n d : Nat} {x y : Int}
structure B3q (W : World) (g : Nat) (v0 v1 v2 : Value) : Prop where
  c0 : W.cell? ⟨g, 0, none⟩ = some v0
  c1 : W.cell? ⟨g, 1, none⟩ = some v1
  c2 : W.cell? ⟨g, 2, none⟩ = some v2
  f0 : W.frozen? ⟨g, 0, none⟩ = false
  f1 : W.frozen? ⟨g, 1, none⟩ = false
  f2 : W.frozen? ⟨g, 2, none⟩ = false
theorem B3q.lt {w : World} {g : Nat} {a b c : Value} (h : B3q w g a b c) : g < w.heap.size := World.block_lt_of_cell? w _ h.c0
theorem B3q.below {W W' : World} {g : Nat} {v0 v1 v2 : Value} (h : B3q W g v0 v1 v2) (hb : Below W.heap.size W W') : B3q W' g v0 v1 v2 := by
  have hl : g < W.heap.size := World.block_lt_of_cell? W _ h.c0
  exact ⟨(hb.cell (p := ⟨g, 0, none⟩) hl).trans h.c0, (hb.cell (p := ⟨g, 1, none⟩) hl).trans h.c1, (hb.cell (p := ⟨g, 2, none⟩) hl).trans h.c2, (hb.frozen (p := ⟨g, 0, none⟩) hl).trans h.f0, (hb.frozen (p := ⟨g, 1, none⟩) hl).trans h.f1, (hb.frozen (p := ⟨g, 2, none⟩) hl).trans h.f2⟩
theorem B3q.new (w : World) (ty : TypeId) (v0 v1 v2 : Value) : B3q (w.alloc (.cells #[v0, v1, v2] ty)) w.heap.size v0 v1 v2 := ⟨by go_simp, by go_simp, by go_simp, by go_simp, by go_simp, by go_simp⟩
def DFm (z e : Int) : Prop := (z = 0 ∧ e = 0) ∨ (z % 2 = 1 ∧ -1048576 ≤ e ∧ e ≤ 1048576)
structure DN (w : World) (s : Bool) (p : Option Addr) (m c : Nat) (e z : Int) : Prop where
  zn : ZN w s p m c z
  fm : DFm z e
theorem DN.below {w w' : World} {s : Bool} {p : Option Addr} {m c : Nat} {e z : Int} (h : DN w s p m c e z) (hb : Below w.heap.size w w') : DN w' s p m c e z := ⟨h.zn.below hb, h.fm⟩
def dv (z e : Int) : Int := z * ((2 ^ (e + 4194304).toNat : Nat) : Int)
end Go.Proofs.YtokoolhhfacboaaDoor
namespace Go.Proofs.YtokoolhhfacboaaDoor
open Go.RowKit
set_option maxRecDepth 20000
set_option maxHeartbeats 0
def Fl (p : Nat) (x : Int) : Prop := ∃ q : Nat, ((2 ^ q : Nat) : Int) ∣ x ∧ x.natAbs ≤ 2 ^ (p + q)
structure Rn (p : Nat) (x s : Int) : Prop where
  fl : Fl p s
  near : ∀ z, Fl p z → (s - x).natAbs ≤ (z - x).natAbs

theorem p2pos (n : Nat) : 0 < 2 ^ n := Nat.pow_pos (by omega)
theorem p2le {a b : Nat} (h : a ≤ b) : 2 ^ a ≤ 2 ^ b := Nat.pow_le_pow_right (by omega) h
theorem Fl.zero (p : Nat) : Fl p 0 := ⟨0, ⟨0, by omega⟩, by simp⟩
theorem Fl.neg {p : Nat} {x : Int} (h : Fl p x) : Fl p (-x) := by
  obtain ⟨q, h1, h2⟩ := h
  exact ⟨q, Int.dvd_neg.2 h1, by rw [Int.natAbs_neg]; exact h2⟩
theorem place {p : Nat} (hp : 1 ≤ p) (x : Int) : ∃ m : Nat, x.natAbs < 2 ^ (p + m) ∧ (m = 0 ∨ 2 ^ (p - 1 + m) ≤ x.natAbs) := by
  by_cases h0 : x.natAbs = 0
  · exact ⟨0, by rw [h0]; exact p2pos _, .inl rfl⟩
  · have h1 : 2 ^ x.natAbs.log2 ≤ x.natAbs := Nat.log2_self_le h0
    have h2 : x.natAbs < 2 ^ (x.natAbs.log2 + 1) := Nat.lt_log2_self
    refine ⟨x.natAbs.log2 + 1 - p, Nat.lt_of_lt_of_le h2 (p2le (by omega)), ?_⟩
    by_cases h3 : x.natAbs.log2 + 1 - p = 0
    · exact .inl h3
    · refine .inr (Nat.le_trans (p2le ?_) h1)
      omega
theorem Rn.ex {p : Nat} {x s : Int} (h : Rn p x s) (hx : Fl p x) : s = x := by
  have := h.near x hx
  omega
theorem Rn.neg {p : Nat} {x s : Int} (h : Rn p x s) : Rn p (-x) (-s) := by
  refine ⟨h.fl.neg, fun z hz => ?_⟩
  have := h.near (-z) hz.neg
  omega
theorem Rn.lo {p : Nat} {x s z : Int} (h : Rn p x s) (hz : Fl p z) (hx : z ≤ x) : z ≤ s := by
  have := h.near z hz
  omega
theorem Rn.hi {p : Nat} {x s z : Int} (h : Rn p x s) (hz : Fl p z) (hx : x ≤ z) : s ≤ z := by
  have := h.near z hz
  omega
def vs (H s : Nat) : Nat := (s - (s / H - 1) * H) * 2 ^ (s / H - 1)
theorem vs_zero (H : Nat) : vs H 0 = 0 := by unfold vs; simp
def gR (H : Nat) (r : Int) : Int := if r < 0 then -(vs H r.natAbs : Int) else (vs H r.natAbs : Int)
def rkS (S b : Nat) : Int := if S ≤ b then -((b % S : Nat) : Int) else ((b % S : Nat) : Int)
def svS (S H b : Nat) : Int := gR H (rkS S b)
theorem svS_eq (S H b : Nat) : svS S H b = if S ≤ b then -(vs H (b % S) : Int) else (vs H (b % S) : Int) := by
  have hz := vs_zero H
  unfold svS gR rkS
  by_cases h : S ≤ b
  · rw [if_pos h, if_pos h]
    by_cases h0 : b % S = 0
    · rw [h0, hz]; simp [hz]
    · rw [if_pos (by omega), Int.natAbs_neg, Int.natAbs_natCast]
  · rw [if_neg h, if_neg h, if_neg (by omega), Int.natAbs_natCast]
def ux (b : Nat) : Int := svS 9223372036854775808 4503599627370496 b
theorem ux_eq (b : Nat) : ux b = if 9223372036854775808 ≤ b then -(vs 4503599627370496 (b % 9223372036854775808) : Int) else (vs 4503599627370496 (b % 9223372036854775808) : Int) := svS_eq _ _ _
structure Fin64 (b : Nat) : Prop where
  lt : b < 18446744073709551616
  fin : b % 9223372036854775808 < 9218868437227405312
theorem Fin64.fl {b : Nat} (_h : Fin64 b) : Fl 53 (ux b) := by
  have h1 : Fl 53 (vs 4503599627370496 (b % 9223372036854775808) : Int) := by
    unfold vs
    refine ⟨b % 9223372036854775808 / 4503599627370496 - 1, ⟨((b % 9223372036854775808 - (b % 9223372036854775808 / 4503599627370496 - 1) * 4503599627370496 : Nat) : Int), by rw [Int.natCast_mul, Int.mul_comm]⟩, ?_⟩
    rw [Int.natAbs_natCast, Nat.pow_add]
    refine Nat.mul_le_mul_right _ ?_
    rw [show 2 ^ 53 = 9007199254740992 by decide]
    omega
  rw [ux_eq]
  split
  · exact h1.neg
  · exact h1
end Go.Proofs.YtokoolhhfacboaaDoor
