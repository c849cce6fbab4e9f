import Derived.Test.YtpnpdngfjgdgfaaJ8
import Derived.Deep.LoopGhost
import Derived.Laws.Cover1
import Derived.Deep.RegionWith
import Derived.Deep.RegionLaw
import Derived.Test.YtpnpdngfjgdgfaaJ7
import Derived.Laws.ResultCell
import Derived.Deep.DeepCutAuto
namespace Go.Proofs.Ytpnpdngfjgdgfaa
open Go.RowKit Go.Shelf
set_option maxRecDepth 20000
set_option maxHeartbeats 0
theorem rsub04 {p q : Option Addr} {m n : Nat} {w : World} {x y : Int} (s t : Bool) (h : ZR w s p m x) (k : ZR w t q n y) (hm : m ≤ 50000) (hn : n ≤ 50000) :
    Calls Try.prog 48 #[.agg #[.bool s, .slice p m m], .agg #[.bool t, .slice q n n]] w fun e w' => ∃ v, e = .returned v ∧ GotR w.heap.size w' v (x - y) (max m n + 1) ∧ Below w.heap.size w w' := by
  have HA : Hid (ZR w s p m x) := h
  have HB : Hid (ZR w t q n y) := k
  have HM : Hid (m ≤ 50000 ∧ n ≤ 50000) := ⟨hm, hn⟩
  clear h k hm hn
  go_enter Try.func48, Try.ntmps48
  go_wp2_with fail
  obtain ⟨W0, hW0⟩ : ∃ W0, W0 = (((w.alloc (.cells #[.bool s, .slice p m m] 43)).alloc (.cells #[.bool t, .slice q n n] 43)).alloc (.cells #[.bool false, .slice none 0 0] 43)) := ⟨_, rfl⟩
  have Xa : Hid (Box W0 (w.heap.size) (.bool s) (.slice p m m)) := by rw [hW0]; exact ⟨by go_simp, by go_simp, by go_simp, by go_simp⟩
  have Xb : Hid (Box W0 (w.heap.size + 1) (.bool t) (.slice q n n)) := by rw [hW0]; exact ⟨by go_simp, by go_simp, by go_simp, by go_simp⟩
  have Xr : Hid (Box W0 (w.heap.size + 1 + 1) (.bool false) (.slice none 0 0)) := by rw [hW0]; exact ⟨by go_simp, by go_simp, by go_simp, by go_simp⟩
  have hb0 : Below w.heap.size w W0 := by rw [hW0]; exact below3 w _ _ _
  rw [← hW0]
  clear hW0
  have hbw : Below w.heap.size w w := Below.refl _ _
  obtain ⟨gr, hgr⟩ : ∃ g, g = w.heap.size + 1 + 1 := ⟨_, rfl⟩
  have HGr : Hid (w.heap.size ≤ gr) := by rw [hgr]; show _ ≤ _; omega
  rw [← hgr] at Xr
  try rw [← hgr]
  obtain ⟨gb, hgb⟩ : ∃ g, g = w.heap.size + 1 := ⟨_, rfl⟩
  have HGb : Hid (w.heap.size ≤ gb) := by rw [hgb]; show _ ≤ _; omega
  rw [← hgb] at Xb
  try rw [← hgb]
  obtain ⟨ga, hga⟩ : ∃ g, g = w.heap.size := ⟨_, rfl⟩
  have HGa : Hid (w.heap.size ≤ ga) := by rw [hga]; show _ ≤ _; omega
  rw [← hga] at Xa
  try rw [← hga]
  have HGD : Hid (ga ≠ gb ∧ ga ≠ gr ∧ gb ≠ ga ∧ gb ≠ gr ∧ gr ≠ ga ∧ gr ≠ gb) := by rw [hga, hgb, hgr]; exact ⟨by omega, by omega, by omega, by omega, by omega, by omega⟩
  clear hga hgb hgr
  replace HA : Hid _ := HA.out.below hb0
  replace HB : Hid _ := HB.out.below hb0
  replace hbw := Below.on hbw hb0
  clear hb0
  obtain ⟨W1, hW1⟩ : ∃ W1, W1 = W0.drew := ⟨_, rfl⟩
  have hbd : Below W0.heap.size W0 W1 := by rw [hW1]; exact bDrew1 (Below.refl _ _)
  replace Xa : Hid _ := Xa.out.below hbd
  replace Xb : Hid _ := Xb.out.below hbd
  replace Xr : Hid _ := Xr.out.below hbd
  replace HA : Hid _ := HA.out.below hbd
  replace HB : Hid _ := HB.out.below hbd
  replace hbw := Below.on hbw hbd
  clear hbd
  have HJ : Hid ((fun W' : World => W'.cell? ⟨ga, 0, none⟩ = some (.bool s) ∧ W'.cell? ⟨ga, 1, none⟩ = some (.slice p m m) ∧ W'.cell? ⟨gb, 0, none⟩ = some (.bool t) ∧ W'.cell? ⟨gb, 1, none⟩ = some (.slice q n n)) W1) := ⟨Xa.out.c0, Xa.out.c1, Xb.out.c0, Xb.out.c1⟩
  refine wp_region_J (fun W' => W'.cell? ⟨ga, 0, none⟩ = some (.bool s) ∧ W'.cell? ⟨ga, 1, none⟩ = some (.slice p m m) ∧ W'.cell? ⟨gb, 0, none⟩ = some (.bool t) ∧ W'.cell? ⟨gb, 1, none⟩ = some (.slice q n n)) (by kernel_rfl) ?_
  rw [← hW1]
  clear hW1
  refine wpJ_tq 0 rfl HJ.out ?_
  refine wpJ_tq 1 rfl HJ.out ?_
  refine wpJ_on 2 rfl fun KJ hK => ?_
  go_simp
  refine (rflip_any t HB.out (by have := HM.out; omega)).mono ?_
  rintro e w2 ⟨v, rfl, hv, hb2⟩
  obtain ⟨s2, g2, m2, rfl, hg2, hz2, hl2⟩ := hv
  replace Xa : Hid _ := Xa.out.below hb2
  replace Xb : Hid _ := Xb.out.below hb2
  replace Xr : Hid _ := Xr.out.below hb2
  replace HA : Hid _ := HA.out.below hb2
  replace HB : Hid _ := HB.out.below hb2
  replace hbw := Below.on hbw hb2
  clear hb2
  have ZB : Hid (ZR w2 s2 (some ⟨g2, 0, none⟩) m2 (-y)) := hz2
  have HL2 : Hid (m2 ≤ n) := hl2
  have HRL : Hid (gr < w2.heap.size) := Xr.out.lt
  have HBS : Hid (w.heap.size ≤ w2.heap.size) := hbw.size
  clear hg2 hz2 hl2
  refine hK _ _ ⟨Xa.out.c0, Xa.out.c1, Xb.out.c0, Xb.out.c1⟩ ?_
  clear hK
  refine wpJ_on 3 rfl fun KJ hK => ?_
  go_simp
  refine (radd04 s s2 HA.out ZB.out HM.out.1 (Nat.le_trans HL2.out HM.out.2)).mono ?_
  rintro e w3 ⟨v, rfl, hv, hb3⟩
  rw [← Int.sub_eq_add_neg] at hv
  replace Xa : Hid _ := Xa.out.below hb3
  replace Xb : Hid _ := Xb.out.below hb3
  replace Xr : Hid _ := Xr.out.below hb3
  replace HA : Hid _ := HA.out.below hb3
  replace HB : Hid _ := HB.out.below hb3
  replace ZB : Hid _ := ZB.out.below hb3
  replace hbw := Below.on hbw hb3
  clear hb3
  have HLL : Hid (max m m2 + 1 ≤ max m n + 1) := by have := HL2.out; show _ ≤ _; omega
  obtain ⟨s9, g9, m9, rfl, hg9, hz9, hl9⟩ := hv
  have ZA : Hid (ZR w3 s9 (some ⟨g9, 0, none⟩) m9 (x - y)) := hz9
  have HL : Hid (m9 ≤ max m n + 1) := by have := hl9; have := HLL.out; show m9 ≤ _; omega
  have HGE : Hid (gr < g9) := Nat.lt_of_lt_of_le HRL.out hg9
  have HGB : Hid (w.heap.size ≤ g9) := Nat.le_trans HBS.out hg9
  clear hg9 hz9 hl9
  refine hK _ _ ⟨Xa.out.c0, Xa.out.c1, Xb.out.c0, Xb.out.c1⟩ ?_
  clear hK
  obtain ⟨cr0, cr1, fr0, fr1⟩ := Xr.out
  have hner := Xr.out.lt
  obtain ⟨ca0, ca1, fa0, fa1⟩ := Xa.out
  have hnea := Xa.out.lt
  obtain ⟨cb0, cb1, fb0, fb1⟩ := Xb.out
  have hneb := Xb.out.lt
  obtain ⟨hgd0, hgd1, hgd2, hgd3, hgd4, hgd5⟩ := HGD.out
  refine wpJ_on 4 rfl fun KJ hK => ?_
  go_simp
  have HJ2 : Hid ((fun W' : World => W'.cell? ⟨ga, 0, none⟩ = some (.bool s) ∧ W'.cell? ⟨ga, 1, none⟩ = some (.slice p m m) ∧ W'.cell? ⟨gb, 0, none⟩ = some (.bool t) ∧ W'.cell? ⟨gb, 1, none⟩ = some (.slice q n n)) ((w3.setCell ⟨gr, 0, none⟩ (.bool s9)).setCell ⟨gr, 1, none⟩ (.slice (some ⟨g9, 0, none⟩) m9 m9))) := ⟨by go_simp, by go_simp, by go_simp, by go_simp⟩
  refine hK _ _ HJ2.out ?_
  clear hK HJ
  have HJ := HJ2
  clear HJ2
  refine wpJ_done (by kernel_rfl) ?_ _
  clear HJ
  go_wp2_with fail
  refine bodyPost_ret (v := .agg #[.bool s9, .slice (some ⟨g9, 0, none⟩) m9 m9]) (by rw [results_cell1 rfl]; go_simp) rfl ⟨_, rfl, ⟨s9, g9, m9, rfl, HGB.out, ?_, HL.out⟩, ?_⟩
  · have := HGE.out
    exact (ZA.out.set _ _ _ (by omega)).set _ _ _ (by omega)
  · exact bSet (bSet hbw _ _ _ HGr.out) _ _ _ HGr.out
theorem rsign04 {p : Option Addr} {m : Nat} {w : World} {z : Int} (s : Bool) (h : ZR w s p m z) :
    Calls Try.prog 38 #[.agg #[.bool s, .slice p m m]] w fun e w' => e = .returned (.int .i64 (sgnI z)) ∧ Below w.heap.size w w' := by
  have hz := h.zero
  have hsg := h.sg
  obtain ⟨sg, hs⟩ : ∃ sg, sg = sgnI z := ⟨_, rfl⟩
  rw [← hs]
  by_cases hm : m = 0
  · have hv : sg = 0 := by rw [hs, hz.1 hm]; rfl
    subst hv
    subst hm
    clear h hz hsg hs
    go_enter Try.func38, Try.ntmps38
    go_wp2_with fail
    go_ret
    exact ⟨rfl, below1 w _⟩
  · have hm0 : ((m : Int) == 0) = false := by simp; omega
    have hz0 : z ≠ 0 := fun e => hm (hz.2 e)
    cases s
    · have hv : sg = 1 := by rw [hs]; unfold sgnI; have := of_decide_eq_false hsg.symm; rw [if_neg this, if_neg hz0]
      subst hv
      clear h hz hsg hs hz0
      go_enter Try.func38, Try.ntmps38
      go_wp2_with fail
      go_ret
      exact ⟨rfl, below1 w _⟩
    · have hv : sg = -1 := by rw [hs]; unfold sgnI; have := of_decide_eq_true hsg.symm; rw [if_pos this]
      subst hv
      clear h hz hsg hs hz0
      go_enter Try.func38, Try.ntmps38
      go_wp2_with fail
      go_ret
      exact ⟨rfl, below1 w _⟩
theorem sgn_cmp (x y : Int) : sgnI (x - y) = cmpI x y := by
  unfold sgnI cmpI
  rcases Int.lt_trichotomy x y with h | h | h
  · rw [if_pos (by omega), if_pos h]
  · rw [if_neg (by omega), if_pos (by omega), if_neg (by omega), if_pos h]
  · rw [if_neg (by omega), if_neg (by omega), if_neg (by omega), if_neg (by omega)]
theorem rcmp04 {p q : Option Addr} {m n : Nat} {w : World} {x y : Int} (s t : Bool) (h : ZR w s p m x) (k : ZR w t q n y) (hm : m ≤ 50000) (hn : n ≤ 50000) :
    Calls Try.prog 33 #[.agg #[.bool s, .slice p m m], .agg #[.bool t, .slice q n n]] w fun e w' => e = .returned (.int .i64 (cmpI x y)) ∧ Below w.heap.size w w' := by
  have HA : Hid (ZR w s p m x) := h
  have HB : Hid (ZR w t q n y) := k
  have HM : Hid (m ≤ 50000 ∧ n ≤ 50000) := ⟨hm, hn⟩
  clear h k hm hn
  rw [← sgn_cmp]
  go_enter Try.func33, Try.ntmps33
  go_wp2_with fail
  obtain ⟨W0, hW0⟩ : ∃ W0, W0 = ((w.alloc (.cells #[.bool s, .slice p m m] 43)).alloc (.cells #[.bool t, .slice q n n] 43)) := ⟨_, rfl⟩
  have Xa : Hid (Box W0 (w.heap.size) (.bool s) (.slice p m m)) := by rw [hW0]; exact ⟨by go_simp, by go_simp, by go_simp, by go_simp⟩
  have Xb : Hid (Box W0 (w.heap.size + 1) (.bool t) (.slice q n n)) := by rw [hW0]; exact ⟨by go_simp, by go_simp, by go_simp, by go_simp⟩
  have hb0 : Below w.heap.size w W0 := by rw [hW0]; exact below2 w _ _
  rw [← hW0]
  clear hW0
  have hbw : Below w.heap.size w w := Below.refl _ _
  obtain ⟨gb, hgb⟩ : ∃ g, g = w.heap.size + 1 := ⟨_, rfl⟩
  have HGb : Hid (w.heap.size ≤ gb) := by rw [hgb]; show _ ≤ _; omega
  rw [← hgb] at Xb
  try rw [← hgb]
  obtain ⟨ga, hga⟩ : ∃ g, g = w.heap.size := ⟨_, rfl⟩
  have HGa : Hid (w.heap.size ≤ ga) := by rw [hga]; show _ ≤ _; omega
  rw [← hga] at Xa
  try rw [← hga]
  have HGD : Hid (ga ≠ gb ∧ gb ≠ ga) := by rw [hga, hgb]; exact ⟨by omega, by omega⟩
  clear hga hgb
  replace HA : Hid _ := HA.out.below hb0
  replace HB : Hid _ := HB.out.below hb0
  replace hbw := Below.on hbw hb0
  clear hb0
  refine (rsub04 s t HA.out HB.out HM.out.1 HM.out.2).mono ?_
  rintro e w2 ⟨v, rfl, hv, hb2⟩
  obtain ⟨s2, g2, m2, rfl, hg2, hz2, hl2⟩ := hv
  replace Xa : Hid _ := Xa.out.below hb2
  replace Xb : Hid _ := Xb.out.below hb2
  replace HA : Hid _ := HA.out.below hb2
  replace HB : Hid _ := HB.out.below hb2
  replace hbw := Below.on hbw hb2
  clear hb2
  have ZB : Hid (ZR w2 s2 (some ⟨g2, 0, none⟩) m2 (x - y)) := hz2
  clear hg2 hz2 hl2
  go_wp2_with fail
  refine (rsign04 s2 ZB.out).mono ?_
  rintro e v3 ⟨rfl, hb3⟩
  obtain ⟨sv, hsv⟩ : ∃ sv, sv = sgnI (x - y) := ⟨_, rfl⟩
  rw [← hsv]
  have HSV : Hid (sv = sgnI (x - y)) := hsv
  clear hsv
  replace Xa : Hid _ := Xa.out.below hb3
  replace Xb : Hid _ := Xb.out.below hb3
  replace HA : Hid _ := HA.out.below hb3
  replace HB : Hid _ := HB.out.below hb3
  replace ZB : Hid _ := ZB.out.below hb3
  replace hbw := Below.on hbw hb3
  clear hb3
  go_wp2_with fail
  go_ret
  exact ⟨by rw [← HSV.out]; rfl, hbw⟩
def NewAt (B : Nat) (w : World) (p : Option Addr) (m c : Nat) (us : List Nat) : Prop := At w p m c us ∧ (m = 0 ∨ ∃ g, p = some ⟨g, 0, none⟩ ∧ B ≤ g)
theorem NewAt.below {B : Nat} {w w' : World} {p : Option Addr} {m c : Nat} {us : List Nat} (h : NewAt B w p m c us) (hb : Below w.heap.size w w') : NewAt B w' p m c us := ⟨h.1.below hb, h.2⟩
theorem NewAt.mono {B B' : Nat} {w : World} {p : Option Addr} {m c : Nat} {us : List Nat} (h : NewAt B w p m c us) (hB : B' ≤ B) : NewAt B' w p m c us :=
  ⟨h.1, h.2.imp id (fun ⟨g, e, k⟩ => ⟨g, e, Nat.le_trans hB k⟩)⟩
theorem NewAt.set {B : Nat} {w : World} {p : Option Addr} {m c : Nat} {us : List Nat} (h : NewAt B w p m c us) {r : Nat} (hr : r < B) (o : Nat) (v : Value) : NewAt B (w.setCell ⟨r, o, none⟩ v) p m c us := by
  refine ⟨?_, h.2⟩
  rcases h.2 with h0 | ⟨g, rfl, hg⟩
  · subst h0
    obtain rfl : us = [] := List.eq_nil_of_length_eq_zero h.1.len
    exact At.empty _ _ _ h.1.big
  · exact h.1.setOther _ _ _ (by omega)
def DocZ (z : Int) (s : Bool) (us : List Nat) (er : Int) : Prop :=
  (z.natAbs < LIM ∧ s = decide (z < 0) ∧ Nf B64 us z.natAbs ∧ er = 0) ∨ (LIM ≤ z.natAbs ∧ s = false ∧ us = [] ∧ er = 5)
theorem DocZ.inj {z : Int} {s s' : Bool} {us us' : List Nat} {er er' : Int} (h : DocZ z s us er) (k : DocZ z s' us' er') : s = s' ∧ us = us' ∧ er = er' := by
  rcases h with ⟨h0, rfl, h1, rfl⟩ | ⟨h0, rfl, rfl, rfl⟩ <;> rcases k with ⟨k0, rfl, k1, rfl⟩ | ⟨k0, rfl, rfl, rfl⟩
  · exact ⟨rfl, h1.inj B64_one k1, rfl⟩
  · omega
  · omega
  · exact ⟨rfl, rfl, rfl⟩
def formZ (s : Bool) (xs : List Nat) : Bool := formB xs && !(s && decide (xs = []))
def OneZ (r : Int → Int) (sx : Bool) (xs : List Nat) (s : Bool) (us : List Nat) (er : Int) : Prop :=
  (formZ sx xs = false ∧ s = false ∧ us = [] ∧ er = 2) ∨ (formZ sx xs = true ∧ DocZ (r (iv sx (valB B64 xs))) s us er)
def TwoZ (r : Int → Int → Int) (sx : Bool) (xs : List Nat) (sy : Bool) (ys : List Nat) (s : Bool) (us : List Nat) (er : Int) : Prop :=
  ((formZ sx xs && formZ sy ys) = false ∧ s = false ∧ us = [] ∧ er = 2) ∨ ((formZ sx xs && formZ sy ys) = true ∧ DocZ (r (iv sx (valB B64 xs)) (iv sy (valB B64 ys))) s us er)
theorem OneZ.inj {r : Int → Int} {sx : Bool} {xs : List Nat} {s s' : Bool} {us us' : List Nat} {er er' : Int} (h : OneZ r sx xs s us er) (k : OneZ r sx xs s' us' er') : s = s' ∧ us = us' ∧ er = er' := by
  rcases h with ⟨h0, rfl, rfl, rfl⟩ | ⟨h0, h1⟩ <;> rcases k with ⟨k0, rfl, rfl, rfl⟩ | ⟨k0, k1⟩
  · exact ⟨rfl, rfl, rfl⟩
  · rw [h0] at k0; cases k0
  · rw [h0] at k0; cases k0
  · exact h1.inj k1
theorem TwoZ.inj {r : Int → Int → Int} {sx sy : Bool} {xs ys : List Nat} {s s' : Bool} {us us' : List Nat} {er er' : Int} (h : TwoZ r sx xs sy ys s us er) (k : TwoZ r sx xs sy ys s' us' er') : s = s' ∧ us = us' ∧ er = er' := by
  rcases h with ⟨h0, rfl, rfl, rfl⟩ | ⟨h0, h1⟩ <;> rcases k with ⟨k0, rfl, rfl, rfl⟩ | ⟨k0, k1⟩
  · exact ⟨rfl, rfl, rfl⟩
  · rw [h0] at k0; cases k0
  · rw [h0] at k0; cases k0
  · exact h1.inj k1
end Go.Proofs.Ytpnpdngfjgdgfaa
namespace Go.Proofs.Ytpnpdngfjgdgfaa
open Go.RowKit
set_option maxRecDepth 20000
set_option maxHeartbeats 0
variable {P : Program} {md : Region.Mode} {ops : Array Oper} {Q : Exit → Act → World → Prop} {J : World → Prop}

theorem wpJ_two {i k : Nat} {oi ok : Oper} {fuel : Nat} {listed : Array Bool} {a : Act} {w : World} (hr : Region.ready md ops listed = [i, k]) (hi : ops[i]? = some oi) (hk : ops[k]? = some ok)
    (hwi : Region.wanted oi (yielded ops a.tmps) = true) (hwk : Region.wanted ok (yielded ops a.tmps) = true)
    (h1 : ∀ K : Act → World → Prop, (∀ a' w', J w' → wpJ P md ops Q J fuel (listed.setIfInBounds i true) a' w' → K a' w') → Oper.wp P oi a w K Q)
    (h2 : ∀ K : Act → World → Prop, (∀ a' w', J w' → wpJ P md ops Q J fuel (listed.setIfInBounds k true) a' w' → K a' w') → Oper.wp P ok a w K Q) : wpJ P md ops Q J (fuel + 1) listed a w := by
  refine ⟨fun h => (by rw [hr] at h; cases h), fun j hj => ?_⟩
  rw [hr] at hj
  rcases List.mem_cons.1 hj with rfl | hj
  · unfold wpOp
    simp only [hi, hwi, if_true]
    exact .inl (h1 _ fun a' w' h1 h2 => ⟨h1, h2⟩)
  · obtain rfl : j = k := by simpa using hj
    unfold wpOp
    simp only [hk, hwk, if_true]
    exact .inl (h2 _ fun a' w' h1 h2 => ⟨h1, h2⟩)
variable {P : Program} {md : Region.Mode} {ops : Array Oper} {Q : Exit → Act → World → Prop} {J : World → Prop}

theorem Oper.wp_monoQ {Q' : Exit → Act → World → Prop} (hQ : ∀ x a w, Q' x a w → Q x a w) {o : Oper} {a : Act} {w : World} {K : Act → World → Prop}
    (hh : o.wp P a w K Q') : o.wp P a w K Q := by
  have hL : LetsOut Q' → LetsOut Q := fun ⟨a, w, h⟩ => ⟨a, w, hQ _ _ _ h⟩
  unfold Oper.wp at *
  generalize (execOp a.eval o).run P w = r at *
  cases r with
  | ok n w' =>
    cases n <;> simp only [Oper.upon] at hh ⊢ <;>
      first
        | exact hh
        | exact Calls.mono hh (fun e w'' he => by cases e <;> first | exact he | exact hQ _ _ _ he | exact hL he)
  | halt x w' => cases x <;> simp only [Oper.upon] at hh ⊢ <;> first | exact hh | exact hQ _ _ _ hh
theorem wpJ_monoQ {Q' : Exit → Act → World → Prop} (hQ : ∀ x a w, Q' x a w → Q x a w) :
    ∀ (fuel : Nat) (listed : Array Bool) (a : Act) (w : World), wpJ P md ops Q' J fuel listed a w → wpJ P md ops Q J fuel listed a w
  | 0, _, _, _, h => ⟨h.1, hQ _ _ _ h.2⟩
  | fuel + 1, _, _, _, h => by
    have hL : LetsOut Q' → LetsOut Q := fun ⟨a, w, h⟩ => ⟨a, w, hQ _ _ _ h⟩
    refine ⟨fun e => hQ _ _ _ (h.1 e), fun i hi => ?_⟩
    have h1 := wpOp_mono (fun a' w' h' => And.intro h'.1 (wpJ_monoQ hQ fuel _ a' w' h'.2)) (h.2 i hi)
    unfold wpOp at *
    split
    · rename_i ho; simp only [ho] at h1; exact h1
    · rename_i o ho
      simp only [ho] at h1
      split
      · rename_i hw
        simp only [hw, if_true] at h1
        exact h1.imp (Oper.wp_monoQ hQ) (fun h => ⟨h.1, hL h.2⟩)
      · rename_i hw; simp only [hw] at h1; exact h1
theorem wpJ_cut (R : Act → World → Prop) {fuel : Nat} {listed : Array Bool} {a : Act} {w : World} (hR : ∀ a' w', R a' w' → Q .normal a' w')
    (h : wpJ P md ops (fun x a' w' => x = .normal ∧ R a' w') J fuel listed a w) : wpJ P md ops Q J fuel listed a w :=
  wpJ_monoQ (fun x a w ⟨hx, hr⟩ => by subst hx; exact hR _ _ hr) _ _ _ _ h
theorem wpJ_cutA (R : Act → Act → World → Prop) {fuel : Nat} {listed : Array Bool} {a : Act} {w : World} (hR : ∀ a' w', R a a' w' → Q .normal a' w')
    (h : wpJ P md ops (fun x a' w' => x = .normal ∧ R a a' w') J fuel listed a w) : wpJ P md ops Q J fuel listed a w := wpJ_cut (R a) hR h
end Go.Proofs.Ytpnpdngfjgdgfaa
namespace Go.Proofs.Ytpnpdngfjgdgfaa
open Go.RowKit Go.Shelf
set_option maxRecDepth 20000
set_option maxHeartbeats 0
theorem divsmall_abs {L x d B V W q r : Nat} (h : V * d + L = W) (hq : L * B + x = q * d + r) : (q + B * V) * d + r = x + B * W := by
  rw [← h, Nat.add_mul, Nat.mul_add]
  have e : B * V * d = B * (V * d) := by rw [Nat.mul_assoc]
  rw [e]
  have e2 : B * L = L * B := Nat.mul_comm _ _
  omega
theorem drop_set_self (qs : List Nat) (j y : Nat) (h : j < qs.length) : (qs.set j y).drop j = y :: qs.drop (j + 1) := by
  rw [List.drop_eq_getElem_cons (by simpa using h), List.getElem_set_self, List.drop_set_of_lt (by omega)]

theorem bSet0 {B : Nat} {a w : World} (h : Below B a w) (g o : Nat) (v : Value) (hB : B ≤ g) : Below B a (w.setCell ⟨g, o, none⟩ v) :=
  h.trans ((Wr.refl g o 1 w).setCell o ⟨by omega, by omega⟩ v |>.below hB)
structure DSm (w : World) (g n d : Nat) (xs : List Nat) (k L : Nat) (qs : List Nat) (wr : World) : Prop where
  bel : Below w.heap.size w wr
  row : Row32 wr g 0 n qs
  lt : L < d
  val : valB B32 (qs.drop k) * d + L = valB B32 (xs.drop k)

theorem rdivsmall {p : Option Addr} {n c : Nat} {xs : List Nat} {w : World} (h : At32 w p n c xs) (hn : n ≤ 1099511627776) (d : Nat) (hd : 1 ≤ d) (hdb : d < B32) :
    Calls Try.prog 64 #[.slice p n c, .int .u32 d] w fun e w' => ∃ p' m' zs r, e = .returned (.tuple #[.slice p' m' m', .int .u32 r]) ∧ At32 w' p' m' m' zs ∧ Nf B32 zs (valB B32 xs / d) ∧ m' ≤ n ∧ Below w.heap.size w w' := by
  obtain ⟨i0, hi, hz0, hz1, hz2⟩ := info_parts Try.infoU32
  have HLX : Hid (xs.length = n) := h.len
  have hcap := h.cap; have hbig := h.big
  unfold maxLen at hbig
  have hd0 : ((d : Int) == 0) = false := by simp; omega
  have HDB : Hid (1 ≤ d ∧ d < B32) := ⟨hd, hdb⟩
  have hdw : IntKind.u64.wrap (d : Int) = (d : Int) := wrap_mod _ _ (by rw [B32_eq] at hdb; omega)
  clear hdb
  go_enter Try.func64, Try.ntmps64
  go_wp2_with (at_make; refine wpList_make_full _ rfl _ _ 41 rfl w.heap.size 64 i0 (.int .u32 0) 1 Try.underlying41 hi hz0 hz1 _ _ _ _ n rfl rfl (by omega) (by omega) (by rw [hz2]; omega) (by unfold maxLen; omega) (Nat.le_refl _) ?_; intro w1 hown hgrow; have hb := made_blk32 hown hgrow; clear hown hgrow)
  have HO : Hid (DSm w w.heap.size n d xs n 0 (List.replicate n 0) w1) := by
    have hr := hb.1.row (Dig.replicate B32 n B32_pos)
    rw [List.length_replicate] at hr
    refine ⟨hb.2, hr, by omega, ?_⟩
    rw [List.drop_of_length_le (by rw [List.length_replicate]; exact Nat.le_refl _), List.drop_of_length_le (by rw [HLX.out]; exact Nat.le_refl _)]
    simp [valB]
  clear hb
  go_loopg [7, 8] n (fun gk lv iv wr => ∃ (L : Nat) (z : Int) (qs : List Nat), lv = U L ∧ iv = .int .i64 z ∧ z = (gk : Int) - 1 ∧ gk ≤ n ∧ Hid (DSm w w.heap.size n d xs gk L qs wr))
  case atStart => exact ⟨0, (n : Int) - 1, _, rfl, rfl, rfl, Nat.le_refl _, HO⟩
  case round =>
    obtain ⟨L, z, qs, rfl, rfl, hz, hgn, HR⟩ := hrel
    cases gk with
    | zero =>
      obtain rfl : z = -1 := by omega
      have hR := HR.out
      have A32 : At32 wr (some ⟨w.heap.size, 0, none⟩) n n qs := hR.row.at_ (Nat.le_refl _) (by unfold maxLen; omega)
      have hv := hR.val
      rw [List.drop_zero, List.drop_zero] at hv
      have HV : Hid (valB B32 qs = valB B32 xs / d) := by
        show _ = _
        have h1 := hR.lt
        rw [← hv, Nat.mul_comm, Nat.mul_add_div (by omega), Nat.div_eq_of_lt h1, Nat.add_zero]
      have HNF : Hid (Nf B32 (trimL qs) (valB B32 xs / d)) := by
        have := Nf.trim hR.row.dig
        rw [HV.out] at this; exact this
      have hle := trimL_length_le qs
      have HLE : Hid ((trimL qs).length ≤ n) := by have := hR.row.len; show _ ≤ _; omega
      have hLw : IntKind.u32.wrap (L : Int) = (L : Int) := wrap32 L (by have := hR.lt; have := HDB.out.2; omega)
      have hbx := hR.bel
      clear hR hv hle hz HR
      go_wp2_with fail
      refine (rnorm_any A32 (by omega)).mono ?_
      rintro e w5 ⟨g5, rfl, hg5, hblk5, hb5⟩
      have hd5 := HNF.out.dig
      generalize trimL qs = us at *
      go_wp2_with fail
      go_ret2
      exact ⟨_, _, us, _, rfl, hblk5.at_ hd5 rfl (by have := HLE.out; unfold maxLen; omega), HNF.out, HLE.out, Below.on hbx hb5⟩
    | succ j =>
      obtain rfl : z = (j : Int) := by omega
      obtain ⟨g, off, rfl, hc⟩ := h.cells.resolve_left (by omega)
      obtain ⟨x, hx⟩ : ∃ x, x = xs.getD j 0 := ⟨_, rfl⟩
      have hcx0 : w.cell? ⟨g, off + j, none⟩ = some (V x) := by rw [hx]; exact hc j (by omega)
      have hcx : wr.cell? ⟨g, off + j, none⟩ = some (V x) := (HR.out.bel.cell (p := ⟨g, off + j, none⟩) (World.block_lt_of_cell? w _ hcx0)).trans hcx0
      have hxb : x < B32 := by rw [hx]; exact h.dig.getD B32_pos j
      have hjn : j < n := by omega
      have hct : wr.cell? ⟨w.heap.size, j, none⟩ = some (V (qs.getD j 0)) := by
        have := HR.out.row.cell j hjn
        rw [Nat.zero_add] at this; exact this
      have hft : wr.frozen? ⟨w.heap.size, j, none⟩ = false := by
        have := HR.out.row.frozen j hjn
        rw [Nat.zero_add] at this; exact this
      have hL := HR.out.lt
      have hdB := HDB.out.2
      rw [B32_eq] at hdB hxb
      obtain ⟨T, hT⟩ : ∃ T, T = L * 4294967296 + x := ⟨_, rfl⟩
      obtain ⟨lh, hlh⟩ : ∃ lh, lh = L * 4294967296 := ⟨_, rfl⟩
      have f1 : IntKind.u64.wrap ((L : Int) * 4294967296) = (lh : Int) := wrap_mod _ _ (by omega)
      have f2 : IntKind.u64.wrap ((lh : Int) + (x : Int)) = (T : Int) := wrap_mod _ _ (by omega)
      have fx : IntKind.u64.wrap (x : Int) = (x : Int) := wrap_mod _ _ (by omega)
      obtain ⟨Q, hQ⟩ : ∃ Q, Q = T / d := ⟨_, rfl⟩
      obtain ⟨R, hRr⟩ : ∃ R, R = T % d := ⟨_, rfl⟩
      have q1 : (T : Int).tdiv (d : Int) = (Q : Int) := by rw [hQ, Int.tdiv_eq_ediv_of_nonneg (Int.natCast_nonneg T)]; norm_cast
      have q2 : (T : Int) / (d : Int) = (Q : Int) := by rw [hQ]; norm_cast
      have r1 : (T : Int).tmod (d : Int) = (R : Int) := by rw [hRr, Int.tmod_eq_emod_of_nonneg (Int.natCast_nonneg T)]; norm_cast
      have r2 : (T : Int) % (d : Int) = (R : Int) := by rw [hRr]; norm_cast
      have hRd : R < d := by rw [hRr]; exact Nat.mod_lt _ hd
      have hQB : Q < B32 := by
        rw [hQ, B32_eq]
        refine Nat.div_lt_of_lt_mul ?_
        have : L * 4294967296 + 4294967296 ≤ d * 4294967296 := by
          have := Nat.mul_le_mul_right 4294967296 (show L + 1 ≤ d by omega)
          rw [Nat.add_mul] at this; omega
        omega
      have fq : IntKind.u32.wrap (Q : Int) = (Q : Int) := wrap32 Q hQB
      have fq2 : IntKind.u64.wrap (Q : Int) = (Q : Int) := wrap_mod _ _ (by rw [B32_eq] at hQB; omega)
      have fq3 : (Q : Int) % 4294967296 = (Q : Int) := by rw [B32_eq] at hQB; omega
      have hQR : L * B32 + x = Q * d + R := by rw [B32_eq, ← hT, hQ, hRr, Nat.mul_comm]; exact (Nat.div_add_mod T d).symm
      have HS : Hid (DSm w w.heap.size n d xs j R (qs.set j Q) (wr.setCell ⟨w.heap.size, j, none⟩ (V Q))) := by
        have hR := HR.out
        have hs := hR.row.set j Q hjn hQB
        rw [Nat.zero_add] at hs
        refine ⟨bSet0 hR.bel _ _ _ (Nat.le_refl _), hs, hRd, ?_⟩
        rw [drop_set_self qs j Q (by rw [hR.row.len]; exact hjn), valB_cons, valB_drop B32 xs j (by rw [HLX.out]; exact hjn), ← hx]
        exact divsmall_abs hR.val hQR
      clear hz HR hc hx hcx0 hQ hRr hT hlh hQR hL hdB hxb hRd hQB
      go_wp2_with fail
      go_roundg j
      case measure => omega
      case rel => exact ⟨R, (j : Int) - 1, qs.set j Q, rfl, rfl, rfl, by omega, HS⟩
structure WinRel32 (w : World) (g off n : Nat) (W D d b : Nat) (ws : List Nat) (wr : World) : Prop where
  wrs : Wr g off (n + 1) w wr
  row : Row32 wr g off (n + 1) ws
  db : d < B32
  bb : b ≤ 1
  ge : W / D ≤ d
  sum : valB B32 ws + D * d = W + B32 ^ (n + 1) * b
theorem WinRel32.done {w : World} {g off n W D d : Nat} {ws : List Nat} {wr : World} (h : WinRel32 w g off n W D d 0 ws wr) (hD : 0 < D) : d = W / D ∧ valB B32 ws = W % D := by
  have h1 := h.sum; have h2 := h.ge
  rw [Nat.mul_zero, Nat.add_zero] at h1
  have h3 : d ≤ W / D := (Nat.le_div_iff_mul_le hD).2 (by rw [Nat.mul_comm]; omega)
  have h4 : d = W / D := by omega
  refine ⟨h4, ?_⟩
  have h5 := Nat.div_add_mod W D
  rw [← h4] at h5
  omega
theorem At32.dropq {w : World} {g off n c : Nat} {xs : List Nat} (h : At32 w (some ⟨g, off, none⟩) n c xs) (k : Nat) (hk : k < n) : At32 w (some ⟨g, off + k, none⟩) (n - k) (c - k) (xs.drop k) := by
  refine ⟨by rw [List.length_drop, h.len], by have := h.cap; omega, by have := h.big; unfold maxLen at *; omega, h.dig.drop k, .inr ⟨g, off + k, rfl, fun j hj => ?_⟩⟩
  rcases h.cells with h0 | ⟨g', off', he, hc⟩
  · omega
  · simp only [Option.some.injEq, Addr.mk.injEq, and_true] at he
    obtain ⟨rfl, rfl⟩ := he
    have := hc (k + j) (by omega)
    rw [Nat.add_assoc, this]
    congr 2
    simp [List.getD_eq_getElem?_getD, List.getElem?_drop]
theorem drop_div32q {xs : List Nat} {v k : Nat} (hx : Nf B32 xs v) (hk : k ≤ xs.length) : valB B32 (xs.drop k) = v / B32 ^ k := by
  have h1 := valB_split B32 xs k hk
  have h2 := valB_lt B32_pos (hx.dig.take k)
  rw [List.length_take, Nat.min_eq_left hk] at h2
  rw [← hx.val, h1, Nat.add_mul_div_left _ _ (Nat.pow_pos B32_pos), Nat.div_eq_of_lt h2, Nat.zero_add]

theorem rfshr_any {p : Option Addr} {n c : Nat} {xs : List Nat} {v : Nat} {w : World} (h : At32 w p n c xs) (hx : Nf B32 xs v) (hn : n ≤ 16384) (N : Nat) (hN : 1 ≤ N) (hN2 : N ≤ 9223372036854775807) :
    Calls Try.prog 58 #[.slice p n c, .int .i64 N] w fun e w' => ∃ p' m' zs, e = .returned (.slice p' m' m') ∧ At32 w' p' m' m' zs ∧ Nf B32 zs (v / 2 ^ N) ∧ m' ≤ n ∧ Below w.heap.size w w' := by
  have HX : Hid (Nf B32 xs v) := hx
  have hl := h.len
  have cap := h.cap
  have big := h.big
  unfold maxLen at big
  obtain ⟨D, hD⟩ : ∃ D, D = N / 32 := ⟨_, rfl⟩
  obtain ⟨R, hR⟩ : ∃ R, R = N % 32 := ⟨_, rfl⟩
  have d1 : (N : Int).tdiv 32 = (D : Int) := by rw [Int.tdiv_eq_ediv_of_nonneg (by omega)]; omega
  have d2 : (N : Int).tmod 32 = (R : Int) := by rw [Int.tmod_eq_emod_of_nonneg (by omega)]; omega
  have hNp : ¬ (N : Int) ≤ 0 := by omega
  have hN0 : ¬ N = 0 := by omega
  have hR32 : R < 32 := by omega
  have hDb : D ≤ 288230376151711743 := by omega
  have hwD : IntKind.i64.wrap (D : Int) = (D : Int) := by simp [IntKind.wrap, IntKind.signed, IntKind.bits]; omega
  have HD : Hid (2 ^ N = B32 ^ D * 2 ^ R) := by show _ = _; rw [show B32 = 2 ^ 32 from rfl, ← Nat.pow_mul, ← Nat.pow_add]; congr 1; omega
  have HLX : Hid (xs.length = n) := hl
  clear hx hD hR hl
  by_cases hc : n ≤ D
  · have hci : (n : Int) ≤ (D : Int) := by omega
    have hcb : decide (n ≤ D) = true := decide_eq_true hc
    have HZ : Hid (v / 2 ^ N = 0) := by
      show _ = _
      rw [HD.out]
      refine Nat.div_eq_of_lt ?_
      have h1 := nf32_lt HX.out (K := D) (by rw [HLX.out]; exact hc)
      exact Nat.lt_of_lt_of_le h1 (Nat.le_mul_of_pos_right _ (Nat.pow_pos (by decide)))
    clear h
    go_enter Try.func58, Try.ntmps58
    go_wp2_with fail
    refine (rword0 w).mono ?_
    rintro e w1 ⟨g, rfl, hb⟩
    go_wp2_with fail
    go_ret
    exact ⟨_, 0, [], rfl, At32.empty _ _ 0 (by decide), by rw [HZ.out]; exact nf32_nilq, by omega, hb⟩
  · have hci : ¬ (n : Int) ≤ (D : Int) := by omega
    have hcb : decide (n ≤ D) = false := decide_eq_false hc
    have hDn : D < n := by omega
    have hDc : D < c := by omega
    have hDc2 : D ≤ c := by omega
    have hcD : ¬ c = D := by omega
    have hDn2 : D ≤ n := by omega
    obtain ⟨g, off, rfl, hcs⟩ := h.cells.resolve_left (by omega)
    have A1 : Hid (At32 w (some ⟨g, off + D, none⟩) (n - D) (c - D) (xs.drop D)) := h.dropq D hDn
    obtain ⟨d, hd⟩ : ∃ d, d = 2 ^ R := ⟨_, rfl⟩
    have hd1 : 1 ≤ d := by rw [hd]; exact Nat.pow_pos (by decide)
    have hdB : d < B32 := by rw [hd, show B32 = 2 ^ 32 from rfl]; exact Nat.pow_lt_pow_right (by decide) hR32
    have hdw : IntKind.u32.wrap (d : Int) = (d : Int) := wrap32 d hdB
    have hdI : (2 : Int) ^ R = (d : Int) := by rw [hd]; norm_cast
    have HV : Hid (valB B32 (xs.drop D) / d = v / 2 ^ N) := by
      show _ = _
      rw [HD.out, hd, drop_div32q HX.out (by rw [HLX.out]; omega), Nat.div_div_eq_div_mul]
    have A1d : Hid (At32 w.drew (some ⟨g, off + D, none⟩) (n - D) (c - D) (xs.drop D)) := A1.out.drewN 1
    have hbd : Below w.heap.size w w.drew := bDrew (Below.refl _ _)
    have HDD : Hid (1 ≤ d ∧ d < B32) := ⟨hd1, hdB⟩
    clear h hcs A1 hd hd1 hdB
    go_enter Try.func58, Try.ntmps58
    go_wp2_with fail
    (go_region_with (go_at_call 64; refine (rdivsmall A1d.out (by omega) d HDD.out.1 HDD.out.2).mono ?_; rintro e w1 ⟨p1, m1, z1, r1, rfl, hA1, hN1, hm1, hb1⟩; have A2 : Hid (At32 w1 p1 m1 m1 z1) := hA1; have N2 : Hid (Nf B32 z1 (v / 2 ^ N)) := (by rw [HV.out] at hN1; exact hN1); have hbw : Below w.heap.size w w1 := Below.on hbd hb1; have hm1' : m1 ≤ n := (by omega); clear hA1 hN1 hb1))
    all_goals
      (go_wp2_with fail
       go_ret
       exact ⟨p1, m1, z1, rfl, A2.out, N2.out, hm1', hbw⟩)
theorem Blk32.own {w : World} {g base : Nat} {xs : List Nat} (h : Blk32 w g xs) (hb : base ≤ g) (hm : xs.length ≤ maxLen) : w.ownsRow base 64 1 (.slice (some ⟨g, 0, none⟩) xs.length xs.length) xs.length (cellsV xs) :=
  ⟨by simp [cellsV], .inr ⟨g, xs.length, (cellsV xs).toArray, rfl, hb, h, Nat.le_refl _, hm, by simp [cellsV], by rw [Nat.mul_one]; exact List.take_of_length_le (by simp [cellsV])⟩⟩
structure RSmR (w : World) (g N : Nat) (xs : List Nat) (v c i cy : Nat) (ss : List Nat) (wr : World) : Prop where
  bel : Below g w wr
  own : wr.ownsRow g 64 1 (.slice (some ⟨g, 0, none⟩) i N) i (cellsV ss)
  len : ss.length = i
  dig : Dig B32 ss
  car : cy < B32
  sum : valB B32 ss + B32 ^ i * cy = valB B32 (xs.take i) * v + c
theorem rsm_step {xs ss : List Nat} {i cy x v c lo hh : Nat} (h : valB B32 ss + B32 ^ i * cy = valB B32 (xs.take i) * v + c) (hl : ss.length = i) (ex : x = xs.getD i 0) (hs : cy + x * v = lo + B32 * hh) :
    valB B32 (ss ++ [lo]) + B32 ^ (i + 1) * hh = valB B32 (xs.take (i + 1)) * v + c := by
  rw [valB_snoc, hl, valB_take_any _ xs i, ← ex, Nat.pow_succ, Nat.add_mul]
  have e1 : B32 ^ i * (cy + x * v) = B32 ^ i * (lo + B32 * hh) := by rw [hs]
  rw [Nat.mul_add, Nat.mul_add, ← Nat.mul_assoc, ← Nat.mul_assoc] at e1
  omega
theorem own_at32 {wr : World} {g i N : Nat} {ss : List Nat} (ho : wr.ownsRow g 64 1 (.slice (some ⟨g, 0, none⟩) i N) i (cellsV ss)) (hl : ss.length = i) (hd : Dig B32 ss) : At32 wr (some ⟨g, 0, none⟩) i N ss := by
  rcases ho.2 with ⟨h', _⟩ | ⟨g', cap', cur, h', hbase, hgc, hcap', hmx, hsz, htake⟩
  · simp at h'
  · simp only [Value.slice.injEq, Option.some.injEq, Addr.mk.injEq, and_true, true_and] at h'
    obtain ⟨rfl, rfl⟩ := h'
    refine ⟨hl, hcap', hmx, hd, .inr ⟨g, 0, rfl, fun jj hj => ?_⟩⟩
    rw [Nat.zero_add, cell_of_row wr g jj _ _ _ hgc]
    have e1 := cellsV_get ss jj (by rw [hl]; exact hj)
    rw [← htake, Nat.mul_one, List.getElem?_take, if_pos hj] at e1
    rw [← Array.getElem?_toList]; exact e1

theorem rsmall_any {p : Option Addr} {n c : Nat} {xs : List Nat} {a v u : Nat} {w : World} (h : At32 w p n c xs) (hx : Nf B32 xs a) (hn : n ≤ 4398046511104) (hv : v < B32) (hu : u < B32) :
    Calls Try.prog 50 #[.slice p n c, V v, V u] w fun e w' => ∃ g zs, e = .returned (.slice (some ⟨g, 0, none⟩) zs.length zs.length) ∧ Blk32 w' g zs ∧ Nf B32 zs (a * v + u) ∧ zs.length ≤ n + 1 ∧ Below w.heap.size w w' := by
  obtain ⟨i0, hi, hz0, hz1, hz2⟩ := info_parts Try.infoU32
  have HX : Hid (Nf B32 xs a) := hx
  have HLX : Hid (xs.length = n) := h.len
  have hcap := h.cap; have hbig := h.big
  unfold maxLen at hbig
  have huw : IntKind.u64.wrap (u : Int) = (u : Int) := wrap_mod _ _ (by rw [B32_eq] at hu; omega)
  clear hx
  go_enter Try.func50, Try.ntmps50
  go_wp2_with (at_make; refine wpList_make_own _ rfl _ _ 41 rfl w.heap.size 64 i0 (.int .u32 0) 1 Try.underlying41 hi hz0 hz1 _ _ _ (n + 1) rfl rfl (by omega) (by rw [hz2]; omega) (by unfold maxLen; omega) (Nat.le_refl _) ?_; intro w1 hown hgrow)
  have hb1 : Below w.heap.size w w1 := (Below.refl _ _).grown hgrow (Nat.le_refl _) (fun k hk => by simp at hk)
  have HO : Hid (RSmR w w.heap.size (n + 1) xs v u 0 u [] w1) := ⟨hb1, hown, rfl, Dig.nil _, hu, by simp [valB]⟩
  clear hown hgrow hb1
  obtain ⟨N, hN⟩ : ∃ N, N = n + 1 := ⟨_, rfl⟩
  rw [← hN] at HO ⊢
  have HN : Hid (N = n + 1) := hN
  clear hN
  go_loopg [7, 8, 9] n (fun gk sv cv iv wr => ∃ (i cy : Nat) (ss : List Nat), i + gk = n ∧ iv = .int .i64 i ∧ cv = U cy ∧ sv = .slice (some ⟨w.heap.size, 0, none⟩) i N ∧ Hid (RSmR w w.heap.size N xs v u i cy ss wr))
  case atStart => exact ⟨0, u, [], by omega, rfl, rfl, rfl, HO⟩
  case round =>
    obtain ⟨i, cy, ss, hig, rfl, rfl, rfl, HR⟩ := hrel
    have hcyb := HR.out.car
    cases gk with
    | zero =>
      obtain rfl : i = n := by omega
      have hni : ¬ i < i := by omega
      have hw32 : IntKind.u32.wrap (cy : Int) = (cy : Int) := wrap32 cy hcyb
      have HOA : Hid ((wr.alloc (.cells #[V cy] 64)).ownsRow w.heap.size 64 1 (.slice (some ⟨w.heap.size, 0, none⟩) i N) i (cellsV ss)) := HR.out.own.alloc _
      have hsp : i + 1 ≤ N := by have := HN.out; omega
      go_wp2_with (at_builtin; refine wpList_append_fits _ rfl (.tmp 40) (.tmp 43) 41 rfl w.heap.size 64 i0 1 Try.underlying41 hi hz1 w.heap.size i N (cellsV ss) rfl HOA.out ⟨wr.heap.size, 0, none⟩ 1 1 [V cy] rfl rfl (one_cell wr cy) (by intro u hu; simp at hu; subst hu; rfl) hsp ?_; intro w3 hw3 hgr3)
      have hR := HR.out
      have hbx : Below w.heap.size w w3 := (hR.bel.alloc hR.bel.size _).grown hgr3 (by have := hR.bel.size; simp; omega) (fun q hq => by simp at hq; omega)
      have e0 : cellsV (ss ++ [cy]) = cellsV ss ++ [V cy] := by unfold cellsV; rw [List.map_append]; rfl
      rw [← e0] at hw3
      have hl3 : (ss ++ [cy]).length = i + 1 := by simp [hR.len]
      have hd3 : Dig B32 (ss ++ [cy]) := hR.dig.append (Dig.cons hcyb (Dig.nil _))
      have A32 := own_at32 hw3 hl3 hd3
      have HNF : Hid (Nf B32 (trimL (ss ++ [cy])) (a * v + u)) := by
        have h1 := Nf.trim hd3
        have h2 := hR.sum
        rw [List.take_of_length_le (by rw [HLX.out]; omega), HX.out.val] at h2
        rw [valB_snoc, hR.len, h2] at h1; exact h1
      have hle := trimL_length_le (ss ++ [cy])
      have HLE : Hid ((trimL (ss ++ [cy])).length ≤ i + 1) := by show _ ≤ _; omega
      clear hw3 hgr3 e0 hl3 hd3 hle hR
      refine (rnorm_any A32 (by omega)).mono ?_
      rintro e w5 ⟨g5, rfl, hg5, hblk5, hb5⟩
      generalize trimL (ss ++ [cy]) = zs at *
      go_wp2_with fail
      go_ret
      exact ⟨g5, zs, rfl, hblk5, HNF.out, HLE.out, Below.on hbx hb5⟩
    | succ gg =>
      obtain ⟨g, off, rfl, hc⟩ := h.cells.resolve_left (by omega)
      obtain ⟨x, hxx⟩ : ∃ x, x = xs.getD i 0 := ⟨_, rfl⟩
      have hin : i < n := by omega
      have hcx0 : w.cell? ⟨g, off + i, none⟩ = some (V x) := by rw [hxx]; exact hc i hin
      have hcx : wr.cell? ⟨g, off + i, none⟩ = some (V x) := (HR.out.bel.cell (p := ⟨g, off + i, none⟩) (World.block_lt_of_cell? w _ hcx0)).trans hcx0
      have hxb : x < B32 := by rw [hxx]; exact HX.out.dig.getD B32_pos i
      have hxw : IntKind.u64.wrap (x : Int) = (x : Int) := wrap_mod _ _ (by rw [B32_eq] at hxb; omega)
      have hvw : IntKind.u64.wrap (v : Int) = (v : Int) := wrap_mod _ _ (by rw [B32_eq] at hv; omega)
      have HXE : Hid (x = xs.getD i 0) := hxx
      have hall := rmul_digit hxb hv B32_pos hcyb
      obtain ⟨xy, exy⟩ : ∃ xy, xy = x * v := ⟨_, rfl⟩
      rw [← exy] at hall
      rw [B64_eq] at hall
      have f1 : IntKind.u64.wrap ((x : Int) * (v : Int)) = (xy : Int) := by
        have e : ((x : Int) * (v : Int)) = ((x * v : Nat) : Int) := by simp
        rw [e, ← exy]; exact wrap_mod _ _ (by omega)
      obtain ⟨s2, es2⟩ : ∃ s2, s2 = cy + xy := ⟨_, rfl⟩
      have f3 : IntKind.u64.wrap ((cy : Int) + (xy : Int)) = (s2 : Int) := wrap_mod _ _ (by omega)
      have hs2 : s2 < 18446744073709551616 := by omega
      obtain ⟨lo, elo⟩ : ∃ lo, lo = s2 % B32 := ⟨_, rfl⟩
      obtain ⟨hh, ehh⟩ : ∃ hh, hh = s2 / B32 := ⟨_, rfl⟩
      have hlob : lo < B32 := by rw [elo]; exact Nat.mod_lt _ B32_pos
      have hhhb : hh < B32 := by rw [ehh]; exact Nat.div_lt_of_lt_mul (by rw [B32_two, B64_eq]; exact hs2)
      have f4 : bits .and .u64 (s2 : Int) 4294967295 = (lo : Int) := by rw [elo, B32_eq]; exact and32 s2 hs2
      have f5 : (s2 : Int) / 4294967296 = (hh : Int) := by rw [ehh, B32_eq]; exact div32 s2
      have f6 : IntKind.u32.wrap (lo : Int) = (lo : Int) := wrap32 lo hlob
      have HSUM : Hid (cy + x * v = lo + B32 * hh) := by
        have := Nat.mod_add_div s2 B32
        rw [← elo, ← ehh] at this
        show _ = _; omega
      have HOA : Hid ((wr.alloc (.cells #[V lo] 64)).ownsRow w.heap.size 64 1 (.slice (some ⟨w.heap.size, 0, none⟩) i N) i (cellsV ss)) := HR.out.own.alloc _
      have hsp : i + 1 ≤ N := by have := HN.out; omega
      clear hall exy es2 elo ehh hxx hcx0 hc
      go_wp2_with (at_builtin; refine wpList_append_fits _ rfl (.tmp 32) (.tmp 36) 41 rfl w.heap.size 64 i0 1 Try.underlying41 hi hz1 w.heap.size i N (cellsV ss) rfl HOA.out ⟨wr.heap.size, 0, none⟩ 1 1 [V lo] rfl rfl (one_cell wr lo) (by intro u hu; simp at hu; subst hu; rfl) hsp ?_; intro w3 hw3 hgr3)
      have HR3 : Hid (RSmR w w.heap.size N xs v u (i + 1) hh (ss ++ [lo]) w3) := by
        have hR := HR.out
        refine ⟨(hR.bel.alloc hR.bel.size _).grown hgr3 (by have := hR.bel.size; simp; omega) (fun q hq => by simp at hq; omega), ?_, by simp [hR.len], hR.dig.append (Dig.cons hlob (Dig.nil _)), hhhb, rsm_step hR.sum hR.len HXE.out HSUM.out⟩
        have e0 : cellsV (ss ++ [lo]) = cellsV ss ++ [V lo] := by unfold cellsV; rw [List.map_append]; rfl
        rw [e0]; exact hw3
      clear hw3 hgr3
      go_roundg gg
      case measure => omega
      case rel => exact ⟨i + 1, hh, ss ++ [lo], by omega, by go_num, rfl, rfl, HR3⟩
theorem wpList_make_room {P : Program} (w : World) {ops : Array Oper} {rest : List Oper} {o : Oper} {a : Act} {Q : Exit → Act → World → Prop}
    (hg : o.guard = none) (l c : Operand) (t : TypeId) (hop : o.op = Op.makeSlice t l c)
    (base : Nat) (e : TypeId) (i : TypeInfo) (z : Value) (size : Nat) (h1 : P.underlying t = some (.slice e)) (h2 : P.info? e = some i) (h3 : i.zero = some z) (h4 : i.size = size)
    (kl kc : IntKind) (L C : Int) (n m : Nat) (hl : a.eval l = .int kl L) (hc : a.eval c = .int kc C) (hL : L = (n : Int)) (hC : C = (m : Int)) (hnm : n ≤ m) (b2 : i.bytes * m ≤ 281474976710656) (b3 : m ≤ maxLen) (b4 : base ≤ w.heap.size)
    (hK : ∀ w', w'.ownsRow base e size (.slice (some ⟨w.heap.size, 0, none⟩) n m) n ((madeCells z.cells (m * size)).toList.take (n * size)) → w.grownBy w' none → wpList P ops Q rest (a.put o.dst (.slice (some ⟨w.heap.size, 0, none⟩) n m)) w') :
    wpList P ops Q (o :: rest) a w := by
  refine wpList_plain hg fun K hK' => ?_
  subst h4
  have h63' : (m : Int) ≤ 9223372036854775807 := by
    have h := b3
    simp [maxLen] at h
    omega
  have hb' : (i.bytes : Int) * (m : Int) ≤ 281474976710656 := by
    have h : ((i.bytes * m : Nat) : Int) ≤ 281474976710656 := by omega
    rwa [Int.natCast_mul] at h
  have hr := run_make (P := P) w t e i z h1 h2 h3 kl kc n m (by omega) (by omega) hb' h63'
  simp only [Int.toNat_natCast] at hr
  subst hL
  subst hC
  unfold Oper.wp
  simp [execOp, hop, hl, hc, hr, Result.andThen]
  refine hK' _ _ (hK _ ⟨?_, .inr ⟨_, m, _, rfl, b4, heap_alloc_new w _, hnm, b3, size_madeCells _ _, rfl⟩⟩ (World.grownBy_alloc w _ none))
  rw [List.length_take, Nat.min_eq_left]
  rw [Array.length_toList, size_madeCells]
  exact Nat.mul_le_mul_right _ hnm
theorem made_take (D M : Nat) (h : D ≤ M) : (madeCells (Value.cells (.int .u32 0)) (M * 1)).toList.take (D * 1) = cellsV (List.replicate D 0) := by
  rw [madeV, Nat.mul_one]
  unfold cellsV
  rw [List.map_replicate, List.map_replicate, List.take_replicate, Nat.min_eq_left h]
theorem valB_zeros (D : Nat) (zs : List Nat) : valB B32 (List.replicate D 0 ++ zs) = B32 ^ D * valB B32 zs := by
  rw [valB_append, valB_replicate, List.length_replicate, Nat.zero_add]

theorem own_below {w w' : World} {base g n m size : Nat} {e : TypeId} {xs : List Value} (h : w.ownsRow base e size (.slice (some ⟨g, 0, none⟩) n m) n xs) (hb : Below w.heap.size w w') (hg : g < w.heap.size) : w'.ownsRow base e size (.slice (some ⟨g, 0, none⟩) n m) n xs := by
  refine ⟨h.1, ?_⟩
  rcases h.2 with ⟨h', _⟩ | ⟨g', cap', cur, h', hbase, hgc, hr⟩
  · simp at h'
  · have h2 := h'
    simp only [Value.slice.injEq, Option.some.injEq, Addr.mk.injEq, and_true] at h2
    obtain ⟨rfl, _⟩ := h2
    exact .inr ⟨_, cap', cur, h', hbase, (hb.block _ hg).trans hgc, hr⟩
theorem blk_src {w : World} {g : Nat} {xs : List Nat} (h : Blk32 w g xs) : ∀ j u, (cellsV xs)[j]? = some u → w.cell? ((⟨g, 0, none⟩ : Addr).add j) = some u := by
  intro j u hu
  have hj : j < xs.length := by
    have := (List.getElem?_eq_some_iff.1 hu).1
    rwa [cellsV_length] at this
  have hadd : (⟨g, 0, none⟩ : Addr).add j = ⟨g, j, none⟩ := by unfold Addr.add; split <;> simp_all
  rw [hadd, h.cell j hj]
  rw [cellsV_get xs j hj] at hu
  exact hu

theorem rshl_any {p : Option Addr} {n c : Nat} {xs : List Nat} {a : Nat} {w : World} (h : At32 w p n c xs) (hx : Nf B32 xs a) (hn0 : 0 < n) (hn : n ≤ 16384) (N : Nat) (hN2 : N ≤ 524288) :
    Calls Try.prog 36 #[.slice p n c, .int .i64 N] w fun e w' => ∃ p' m' zs, e = .returned (.slice p' m' m') ∧ At32 w' p' m' m' zs ∧ Nf B32 zs (a * 2 ^ N) ∧ m' ≤ 40000 ∧ Below w.heap.size w w' := by
  obtain ⟨i0, hi, hz0, hz1, hz2⟩ := info_parts Try.infoU32
  have HX : Hid (Nf B32 xs a) := hx
  have HA : Hid (At32 w p n c xs) := h
  have HLX : Hid (xs.length = n) := h.len
  have cap := h.cap
  have big := h.big
  unfold maxLen at big
  have hne : ((n : Int) == 0) = false := by simp; omega
  clear hx h
  by_cases hN0 : N = 0
  · subst hN0
    go_enter Try.func36, Try.ntmps36
    go_wp2_with fail
    refine (rnorm_any HA.out (by omega)).mono ?_
    rw [trimL_of_Top HX.out.top]
    rintro e w1 ⟨g, rfl, hg, hb, hbl⟩
    have HB : Hid (Blk32 w1 g xs) := hb
    rw [HLX.out]
    clear hb
    go_wp2_with fail
    go_ret
    exact ⟨_, n, xs, rfl, HB.out.at_ HX.out.dig HLX.out (by unfold maxLen; omega), by rw [Nat.pow_zero, Nat.mul_one]; exact HX.out, by omega, hbl⟩
  · obtain ⟨D, hD⟩ : ∃ D, D = N / 32 := ⟨_, rfl⟩
    obtain ⟨R, hR⟩ : ∃ R, R = N % 32 := ⟨_, rfl⟩
    have d1 : (N : Int).tdiv 32 = (D : Int) := by rw [Int.tdiv_eq_ediv_of_nonneg (by omega)]; omega
    have d2 : (N : Int).tmod 32 = (R : Int) := by rw [Int.tmod_eq_emod_of_nonneg (by omega)]; omega
    have hNp : ¬ (N : Int) ≤ 0 := by omega
    have hR32 : R < 32 := by omega
    have hDb : D ≤ 16384 := by omega
    have HD : Hid (2 ^ N = B32 ^ D * 2 ^ R) := by show _ = _; rw [show B32 = 2 ^ 32 from rfl, ← Nat.pow_mul, ← Nat.pow_add]; congr 1; omega
    obtain ⟨M, hM⟩ : ∃ M, M = D + n + 1 := ⟨_, rfl⟩
    have hMI : (D : Int) + (n : Int) + 1 = (M : Int) := by omega
    have HM : Hid (M = D + n + 1) := hM
    have hMb : M ≤ 33000 := by omega
    have hDM : D ≤ M := by omega
    obtain ⟨d, hd⟩ : ∃ d, d = 2 ^ R := ⟨_, rfl⟩
    have hd1 : 1 ≤ d := by rw [hd]; exact Nat.pow_pos (by decide)
    have hdB : d < B32 := by rw [hd, show B32 = 2 ^ 32 from rfl]; exact Nat.pow_lt_pow_right (by decide) hR32
    have hdw : IntKind.u32.wrap (d : Int) = (d : Int) := wrap32 d hdB
    have hdI : (2 : Int) ^ R = (d : Int) := by rw [hd]; norm_cast
    have HDD : Hid (d = 2 ^ R ∧ 1 ≤ d ∧ d < B32) := ⟨hd, hd1, hdB⟩
    clear hD hR hM hd hd1 hdB
    go_enter Try.func36, Try.ntmps36
    go_wp2_with (at_make; refine wpList_make_room _ rfl _ _ 41 rfl w.heap.size 64 i0 (.int .u32 0) 1 Try.underlying41 hi hz0 hz1 _ _ _ _ D M rfl rfl (by omega) (by omega) hDM (by rw [hz2]; omega) (by unfold maxLen; omega) (Nat.le_refl _) ?_; intro w1 hown hgrow)
    have hb1 : Below w.heap.size w w1 := (Below.refl _ _).grown hgrow (Nat.le_refl _) (fun k hk => by simp at hk)
    rw [made_take D M hDM] at hown
    have HO : Hid (w1.ownsRow w.heap.size 64 1 (.slice (some ⟨w.heap.size, 0, none⟩) D M) D (cellsV (List.replicate D 0))) := hown
    have HA1 : Hid (At32 w1 p n c xs) := HA.out.below hb1
    have HB1 : Hid (Below w.heap.size w w1) := hb1
    have HSZ : Hid (w.heap.size < w1.heap.size) := by
      rcases HO.out.2 with ⟨h', _⟩ | ⟨g', _, _, h', _, hgc, _⟩
      · simp at h'
      · simp only [Value.slice.injEq, Option.some.injEq, Addr.mk.injEq, and_true] at h'
        obtain ⟨rfl, _⟩ := h'
        exact (Array.getElem?_eq_some_iff.1 hgc).1
    clear hown hgrow hb1 HA
    rw [show Value.int IntKind.u32 (d : Int) = V d from rfl, show Value.int IntKind.u32 0 = V 0 from rfl]
    refine (rsmall_any HA1.out HX.out (by omega) HDD.out.2.2 (show 0 < B32 by decide)).mono ?_
    rintro e w2 ⟨g2, z2, rfl, hk2, hn2, hl2, hb2⟩
    rw [Nat.add_zero] at hn2
    have HO2 : Hid (w2.ownsRow w.heap.size 64 1 (.slice (some ⟨w.heap.size, 0, none⟩) D M) D (cellsV (List.replicate D 0))) := own_below HO.out hb2 HSZ.out
    have HK2 : Hid (Blk32 w2 g2 z2) := hk2
    have HN2 : Hid (Nf B32 z2 (a * d)) := hn2
    have HB2 : Hid (Below w.heap.size w w2) := Below.on HB1.out hb2
    obtain ⟨l2, hle2⟩ : ∃ l2, l2 = z2.length := ⟨_, rfl⟩
    have HL2 : Hid (z2.length = l2) := hle2.symm
    rw [← hle2] at hl2 ⊢
    have hsp : D + l2 ≤ M := by have := HM.out; omega
    clear hk2 hn2 hb2 hle2 HO HA1 HB1
    go_wp2_with (at_builtin; refine wpList_append_fits _ rfl (.tmp 24) (.tmp 29) 41 rfl w.heap.size 64 i0 1 Try.underlying41 hi hz1 w.heap.size D M (cellsV (List.replicate D 0)) rfl HO2.out ⟨g2, 0, none⟩ l2 l2 (cellsV z2) rfl (by rw [cellsV_length, HL2.out, Nat.mul_one]) (blk_src HK2.out) (cellsV_one _) hsp ?_; intro w3 hw3 hgr3)
    have hd3 : Dig B32 (List.replicate D 0 ++ z2) := (Dig.replicate B32 D B32_pos).append HN2.out.dig
    have hl3 : (List.replicate D 0 ++ z2).length = D + l2 := by rw [List.length_append, List.length_replicate, HL2.out]
    have A3 : Hid (At32 w3 (some ⟨w.heap.size, 0, none⟩) (D + l2) M (List.replicate D 0 ++ z2)) := own_at32 (by rw [show cellsV (List.replicate D 0 ++ z2) = cellsV (List.replicate D 0) ++ cellsV z2 from by unfold cellsV; rw [List.map_append]]; exact hw3) hl3 hd3
    have HB3 : Hid (Below w.heap.size w w3) := HB2.out.grown hgr3 HB2.out.size (fun q hq => by simp at hq; omega)
    have NF3 : Hid (Nf B32 (trimL (List.replicate D 0 ++ z2)) (a * 2 ^ N)) := by
      have h1 := Nf.trim hd3
      rw [valB_zeros, HN2.out.val] at h1
      have e1 : B32 ^ D * (a * d) = a * 2 ^ N := by rw [HD.out, ← HDD.out.1, Nat.mul_left_comm]
      rw [e1] at h1; exact h1
    have hle3 : (trimL (List.replicate D 0 ++ z2)).length ≤ D + l2 := by have h1 := trimL_length_le (List.replicate D 0 ++ z2); omega
    clear hw3 hgr3 hl3 hd3
    refine (rnorm_any A3.out (by omega)).mono ?_
    rintro e w4 ⟨g4, rfl, hg4, hb4, hbl4⟩
    have A4 : Hid (At32 w4 (some ⟨g4, 0, none⟩) (trimL (List.replicate D 0 ++ z2)).length (trimL (List.replicate D 0 ++ z2)).length (trimL (List.replicate D 0 ++ z2))) := hb4.at_ NF3.out.dig rfl (by unfold maxLen; omega)
    have hbw4 := Below.on HB3.out hbl4
    generalize trimL (List.replicate D 0 ++ z2) = z4 at *
    clear hb4 hbl4 hg4
    go_wp2_with fail
    go_ret
    exact ⟨_, _, z4, rfl, A4.out, NF3.out, by omega, hbw4⟩
structure B5 (W : World) (g : Nat) (v0 v1 v2 v3 v4 : Value) : Prop where
  c0 : W.cell? ⟨g, 0, none⟩ = some v0
  c1 : W.cell? ⟨g, 1, none⟩ = some v1
  c2 : W.cell? ⟨g, 2, none⟩ = some v2
  c3 : W.cell? ⟨g, 3, none⟩ = some v3
  c4 : W.cell? ⟨g, 4, none⟩ = some v4
  f0 : W.frozen? ⟨g, 0, none⟩ = false
  f1 : W.frozen? ⟨g, 1, none⟩ = false
  f2 : W.frozen? ⟨g, 2, none⟩ = false
  f3 : W.frozen? ⟨g, 3, none⟩ = false
  f4 : W.frozen? ⟨g, 4, none⟩ = false
theorem B5.below {W W' : World} {g : Nat} {v0 v1 v2 v3 v4 : Value} (h : B5 W g v0 v1 v2 v3 v4) (hb : Below W.heap.size W W') : B5 W' g v0 v1 v2 v3 v4 := by
  have hl : g < W.heap.size := World.block_lt_of_cell? W _ h.c0
  exact ⟨(hb.cell (p := ⟨g, 0, none⟩) hl).trans h.c0, (hb.cell (p := ⟨g, 1, none⟩) hl).trans h.c1, (hb.cell (p := ⟨g, 2, none⟩) hl).trans h.c2, (hb.cell (p := ⟨g, 3, none⟩) hl).trans h.c3, (hb.cell (p := ⟨g, 4, none⟩) hl).trans h.c4,
    (hb.frozen (p := ⟨g, 0, none⟩) hl).trans h.f0, (hb.frozen (p := ⟨g, 1, none⟩) hl).trans h.f1, (hb.frozen (p := ⟨g, 2, none⟩) hl).trans h.f2, (hb.frozen (p := ⟨g, 3, none⟩) hl).trans h.f3, (hb.frozen (p := ⟨g, 4, none⟩) hl).trans h.f4⟩
theorem B5.new (w : World) (ty : TypeId) (v0 v1 v2 v3 v4 : Value) : B5 (w.alloc (.cells #[v0, v1, v2, v3, v4] ty)) w.heap.size v0 v1 v2 v3 v4 :=
  ⟨by go_simp, by go_simp, by go_simp, by go_simp, by go_simp, by go_simp, by go_simp, by go_simp, by go_simp, by go_simp⟩
theorem DocIs.inj {v : Nat} {us us' : List Nat} {f f' : Int} (h : DocIs v us f) (k : DocIs v us' f') : us = us' ∧ f = f' := by
  rcases h with ⟨h1, h2, rfl⟩ | ⟨h1, rfl, rfl⟩ <;> rcases k with ⟨k1, k2, rfl⟩ | ⟨k1, rfl, rfl⟩
  · exact ⟨h2.inj B64_one k2, rfl⟩
  · omega
  · omega
  · exact ⟨rfl, rfl⟩
theorem DocIs.er {v : Nat} {us : List Nat} {f : Int} (h : DocIs v us f) : f = 0 ∨ f = 5 := by
  rcases h with ⟨_, _, rfl⟩ | ⟨_, _, rfl⟩ <;> simp
structure Op5 where
  k : Int
  pa : Option Addr
  na : Nat
  ca : Nat
  xa : List Nat
  pb : Option Addr
  nb : Nat
  cb : Nat
  xb : List Nat
  nn : Int
  wd : Nat
structure Scr (w : World) (P : Option Addr) (N C : Nat) (its : List Op5) : Prop where
  len : its.length = N
  cap : N ≤ C
  big : C ≤ maxLen
  ats : ∀ t ∈ its, At w t.pa t.na t.ca t.xa ∧ At w t.pb t.nb t.cb t.xb ∧ t.na ≤ 17592186044416 ∧ t.nb ≤ 17592186044416 ∧ t.wd < B64 ∧ -9223372036854775808 ≤ t.nn ∧ t.nn ≤ 9223372036854775807
  cells : N = 0 ∨ ∃ g off, P = some ⟨g, off, none⟩ ∧ ∀ i (h : i < its.length), w.cell? ⟨g, off + i * 5, none⟩ = some (.int .i64 its[i].k) ∧ w.cell? ⟨g, off + i * 5 + 1, none⟩ = some (.slice its[i].pa its[i].na its[i].ca) ∧
    w.cell? ⟨g, off + i * 5 + 2, none⟩ = some (.slice its[i].pb its[i].nb its[i].cb) ∧ w.cell? ⟨g, off + i * 5 + 3, none⟩ = some (.int .i64 its[i].nn) ∧ w.cell? ⟨g, off + i * 5 + 4, none⟩ = some (U its[i].wd)
theorem Scr.below {w w' : World} {P : Option Addr} {N C : Nat} {its : List Op5} (h : Scr w P N C its) (hb : Below w.heap.size w w') : Scr w' P N C its := by
  refine ⟨h.len, h.cap, h.big, fun t ht => ?_, ?_⟩
  · obtain ⟨h1, h2, h3⟩ := h.ats t ht
    exact ⟨h1.below hb, h2.below hb, h3⟩
  · rcases h.cells with h0 | ⟨g, off, hP, hc⟩
    · exact .inl h0
    · refine .inr ⟨g, off, hP, fun i hi => ?_⟩
      obtain ⟨h0, h1, h2, h3, h4⟩ := hc i hi
      have hl : g < w.heap.size := World.block_lt_of_cell? w _ h0
      exact ⟨(hb.cell (p := ⟨g, off + i * 5, none⟩) hl).trans h0, (hb.cell (p := ⟨g, off + i * 5 + 1, none⟩) hl).trans h1, (hb.cell (p := ⟨g, off + i * 5 + 2, none⟩) hl).trans h2,
        (hb.cell (p := ⟨g, off + i * 5 + 3, none⟩) hl).trans h3, (hb.cell (p := ⟨g, off + i * 5 + 4, none⟩) hl).trans h4⟩
def ShIs (r : Nat → Nat → Nat) (xs : List Nat) (t : Int) (us : List Nat) (f : Int) : Prop :=
  (t < 0 ∧ us = [] ∧ f = 1) ∨ (0 ≤ t ∧ formB xs = false ∧ us = [] ∧ f = 2) ∨ (0 ≤ t ∧ formB xs = true ∧ DocIs (r (valB B64 xs) t.toNat) us f)
theorem ShIs.inj {r : Nat → Nat → Nat} {xs : List Nat} {t : Int} {us us' : List Nat} {f f' : Int} (h : ShIs r xs t us f) (k : ShIs r xs t us' f') : us = us' ∧ f = f' := by
  rcases h with ⟨h1, rfl, rfl⟩ | ⟨h1, h2, rfl, rfl⟩ | ⟨h1, h2, h3⟩ <;> rcases k with ⟨k1, rfl, rfl⟩ | ⟨k1, k2, rfl, rfl⟩ | ⟨k1, k2, k3⟩
  · exact ⟨rfl, rfl⟩
  · omega
  · omega
  · omega
  · exact ⟨rfl, rfl⟩
  · rw [k2] at h2; simp at h2
  · omega
  · rw [k2] at h2; simp at h2
  · exact h3.inj k3
theorem ShIs.er {r : Nat → Nat → Nat} {xs us : List Nat} {t f : Int} (h : ShIs r xs t us f) : f = 0 ∨ f = 1 ∨ f = 2 ∨ f = 3 ∨ f = 4 ∨ f = 5 := by
  rcases h with ⟨_, _, rfl⟩ | ⟨_, _, _, rfl⟩ | ⟨_, _, ⟨_, _, rfl⟩ | ⟨_, _, rfl⟩⟩ <;> simp
theorem rshr_all {p : Option Addr} {n c : Nat} {xs : List Nat} {v : Nat} {w : World} (h : At32 w p n c xs) (hx : Nf B32 xs v) (hn : n ≤ 16384) (N : Nat) (hN2 : N ≤ 9223372036854775807) :
    Calls Try.prog 58 #[.slice p n c, .int .i64 N] w fun e w' => ∃ p' m' zs, e = .returned (.slice p' m' m') ∧ At32 w' p' m' m' zs ∧ Nf B32 zs (v / 2 ^ N) ∧ m' ≤ n ∧ Below w.heap.size w w' := by
  rcases Nat.eq_zero_or_pos N with h0 | h0
  · subst h0
    have HX : Hid (Nf B32 xs v) := hx
    have HA : Hid (At32 w p n c xs) := h
    clear h hx
    go_enter Try.func58, Try.ntmps58
    go_wp2_with fail
    refine (rnorm_any HA.out (by omega)).mono ?_
    rw [trimL_of_Top HX.out.top]
    rintro e w1 ⟨g, rfl, hg, hb, hbl⟩
    have HB : Hid (Blk32 w1 g xs) := hb
    rw [HA.out.len]
    clear hb
    go_wp2_with fail
    go_ret
    exact ⟨_, n, xs, rfl, HB.out.at_ HX.out.dig HA.out.len (by unfold maxLen; omega), by rw [Nat.pow_zero, Nat.div_one]; exact HX.out, by omega, hbl⟩
  · exact rfshr_any h hx hn N h0 hN2
theorem rshl_nil {p : Option Addr} {c : Nat} {w : World} (hc : c ≤ maxLen) (k : Int) :
    Calls Try.prog 36 #[.slice p 0 c, .int .i64 k] w fun e w' => ∃ g, e = .returned (.slice (some ⟨g, 0, none⟩) 0 0) ∧ At32 w' (some ⟨g, 0, none⟩) 0 0 [] ∧ Below w.heap.size w w' := by
  have HC : Hid (c ≤ maxLen) := hc
  clear hc
  by_cases h0 : k ≤ 0
  · have h1 : ¬ 0 < k := by omega
    go_enter Try.func36, Try.ntmps36
    go_wp2_with fail
    refine (rnorm_any (At32.empty w p c HC.out) (by omega)).mono ?_
    rintro e w1 ⟨g, rfl, hg, hblk, hb⟩
    go_wp2_with fail
    go_ret
    exact ⟨g, rfl, At32.empty _ _ _ (by decide), hb⟩
  · have h1 : 0 < k := by omega
    go_enter Try.func36, Try.ntmps36
    go_wp2_with fail
    refine (rnorm_any (At32.empty w p c HC.out) (by omega)).mono ?_
    rintro e w1 ⟨g, rfl, hg, hblk, hb⟩
    go_wp2_with fail
    go_ret
    exact ⟨g, rfl, At32.empty _ _ _ (by decide), hb⟩
theorem rshl_all {p : Option Addr} {n : Nat} {xs : List Nat} {a : Nat} {w : World} (h : At32 w p n n xs) (hx : Nf B32 xs a) (hn : n ≤ 16384) (k : Nat) (hk : k ≤ 524288 ∨ a = 0) :
    Calls Try.prog 36 #[.slice p n n, .int .i64 k] w fun e w' => ∃ p' m' zs, e = .returned (.slice p' m' m') ∧ At32 w' p' m' m' zs ∧ Nf B32 zs (a * 2 ^ k) ∧ m' ≤ 40000 ∧ Below w.heap.size w w' := by
  rcases Nat.eq_zero_or_pos n with h0 | h0
  · subst h0
    have ha : a = 0 := (hx.zero_iff B32_one).1 (List.eq_nil_of_length_eq_zero h.len)
    refine (rshl_nil (by unfold maxLen; omega) (k : Int)).mono ?_
    rintro e w' ⟨g, he, hA, hb⟩
    exact ⟨_, 0, [], he, hA, by rw [ha, Nat.zero_mul]; exact Nf.nil _, by omega, hb⟩
  · refine rshl_any h hx h0 hn k (hk.resolve_right fun e => ?_)
    have := (hx.zero_iff B32_one).2 e
    rw [this] at h
    have := h.len
    simp at this
    omega
theorem iv_mul_nat (s : Bool) (a k : Nat) : iv s (a * k) = iv s a * (k : Int) := by cases s <;> simp [iv, Int.neg_mul]
theorem rshl04 {p : Option Addr} {m : Nat} {w : World} {x : Int} (s : Bool) (h : ZR w s p m x) (hm : m ≤ 16384) (k : Nat) (hk : k ≤ 524288 ∨ x = 0) :
    Calls Try.prog 67 #[.agg #[.bool s, .slice p m m], .int .i64 k] w fun e w' => ∃ v, e = .returned v ∧ GotR w.heap.size w' v (x * 2 ^ k) (40000) ∧ Below w.heap.size w w' := by
  have HA : Hid (ZR w s p m x) := h
  have HM : Hid (m ≤ 16384 ∧ (k ≤ 524288 ∨ x = 0)) := ⟨hm, hk⟩
  have HZV : Hid (iv s (x.natAbs * 2 ^ k) = x * 2 ^ k) := by show _ = _; rw [iv_mul_nat, h.iv]; rfl
  obtain ⟨xs, hAx, hNx⟩ := h.ex
  have HNX : Hid (Nf B32 xs x.natAbs) := hNx
  have AX : Hid (At32 w p m m xs) := hAx
  clear h hm hk hAx hNx
  go_enter Try.func67, Try.ntmps67
  go_wp2_with fail
  obtain ⟨W0, hW0⟩ : ∃ W0, W0 = ((w.alloc (.cells #[.bool s, .slice p m m] 43)).alloc (.cells #[.bool false, .slice none 0 0] 43)) := ⟨_, rfl⟩
  have Xa : Hid (Box W0 (w.heap.size) (.bool s) (.slice p m m)) := by rw [hW0]; exact ⟨by go_simp, by go_simp, by go_simp, by go_simp⟩
  have Xr : Hid (Box W0 (w.heap.size + 1) (.bool false) (.slice none 0 0)) := by rw [hW0]; exact ⟨by go_simp, by go_simp, by go_simp, by go_simp⟩
  have hb0 : Below w.heap.size w W0 := by rw [hW0]; exact below2 w _ _
  rw [← hW0]
  clear hW0
  have hbw : Below w.heap.size w w := Below.refl _ _
  obtain ⟨gr, hgr⟩ : ∃ g, g = w.heap.size + 1 := ⟨_, rfl⟩
  have HGr : Hid (w.heap.size ≤ gr) := by rw [hgr]; show _ ≤ _; omega
  rw [← hgr] at Xr
  try rw [← hgr]
  obtain ⟨ga, hga⟩ : ∃ g, g = w.heap.size := ⟨_, rfl⟩
  have HGa : Hid (w.heap.size ≤ ga) := by rw [hga]; show _ ≤ _; omega
  rw [← hga] at Xa
  try rw [← hga]
  have HGD : Hid (ga ≠ gr ∧ gr ≠ ga) := by rw [hga, hgr]; exact ⟨by omega, by omega⟩
  clear hga hgr
  replace AX : Hid _ := AX.out.below hb0
  replace hbw := Below.on hbw hb0
  clear hb0
  obtain ⟨W1, hW1⟩ : ∃ W1, W1 = W0.drew := ⟨_, rfl⟩
  have hbd : Below W0.heap.size W0 W1 := by rw [hW1]; exact bDrew1 (Below.refl _ _)
  replace Xa : Hid _ := Xa.out.below hbd
  replace Xr : Hid _ := Xr.out.below hbd
  replace AX : Hid _ := AX.out.below hbd
  replace hbw := Below.on hbw hbd
  clear hbd
  have HJ : Hid ((fun W' : World => W'.cell? ⟨ga, 0, none⟩ = some (.bool s) ∧ W'.cell? ⟨ga, 1, none⟩ = some (.slice p m m)) W1) := ⟨Xa.out.c0, Xa.out.c1⟩
  refine wp_region_J (fun W' => W'.cell? ⟨ga, 0, none⟩ = some (.bool s) ∧ W'.cell? ⟨ga, 1, none⟩ = some (.slice p m m)) (by kernel_rfl) ?_
  rw [← hW1]
  clear hW1
  refine wpJ_tq 0 rfl HJ.out ?_
  refine wpJ_tq 1 rfl HJ.out ?_
  refine wpJ_tq 2 rfl HJ.out ?_
  refine wpJ_tq 3 rfl HJ.out ?_
  refine wpJ_tq 4 rfl HJ.out ?_
  refine wpJ_on 5 rfl fun KJ hK => ?_
  go_simp
  refine (rshl_all AX.out HNX.out HM.out.1 k (by have := HM.out.2; omega)).mono ?_
  rintro e v2 ⟨p2, m2, z2, rfl, hA2, hN2, hl2, hb2⟩
  replace Xa : Hid _ := Xa.out.below hb2
  replace Xr : Hid _ := Xr.out.below hb2
  replace AX : Hid _ := AX.out.below hb2
  replace hbw := Below.on hbw hb2
  clear hb2
  have A2 : Hid (At32 v2 p2 m2 m2 z2) := hA2
  have N2 : Hid (Nf B32 z2 (x.natAbs * 2 ^ k) ∧ m2 ≤ 40000) := ⟨hN2, hl2⟩
  clear hA2 hN2 hl2
  refine hK _ _ ⟨Xa.out.c0, Xa.out.c1⟩ ?_
  clear hK
  have HRB : Hid (gr < v2.heap.size ∧ w.heap.size ≤ v2.heap.size) := ⟨Xr.out.lt, hbw.size⟩
  refine wpJ_on 6 rfl fun KJ hK => ?_
  go_simp
  refine (rmk_any s A2.out N2.out.1 (by have := N2.out.2; omega)).mono ?_
  rintro e v3 ⟨v, rfl, hv, hb3⟩
  rw [HZV.out] at hv
  obtain ⟨s9, g9, m9, rfl, hg9, hz9, hl9⟩ := hv
  have HN9 : Hid (v2.heap.size ≤ g9) := hg9
  replace Xa : Hid _ := Xa.out.below hb3
  replace Xr : Hid _ := Xr.out.below hb3
  replace AX : Hid _ := AX.out.below hb3
  replace A2 : Hid _ := A2.out.below hb3
  replace hbw := Below.on hbw hb3
  clear hb3
  have Z9 : Hid (ZR v3 s9 (some ⟨g9, 0, none⟩) m9 (x * 2 ^ k)) := hz9
  have HL9 : Hid (m9 ≤ 40000) := Nat.le_trans hl9 N2.out.2
  clear hg9 hz9 hl9
  refine hK _ _ ⟨Xa.out.c0, Xa.out.c1⟩ ?_
  clear hK
  obtain ⟨cr0, cr1, fr0, fr1⟩ := Xr.out
  have hner := Xr.out.lt
  obtain ⟨ca0, ca1, fa0, fa1⟩ := Xa.out
  have hnea := Xa.out.lt
  obtain ⟨hgd0, hgd1⟩ := HGD.out
  refine wpJ_on 7 rfl fun KJ hK => ?_
  go_simp
  have HJ2 : Hid ((fun W' : World => W'.cell? ⟨ga, 0, none⟩ = some (.bool s) ∧ W'.cell? ⟨ga, 1, none⟩ = some (.slice p m m)) ((v3.setCell ⟨gr, 0, none⟩ (.bool s9)).setCell ⟨gr, 1, none⟩ (.slice (some ⟨g9, 0, none⟩) m9 m9))) := ⟨by go_simp, by go_simp⟩
  refine hK _ _ HJ2.out ?_
  clear hK HJ
  have HJ := HJ2
  clear HJ2
  refine wpJ_done (by kernel_rfl) ?_ _
  clear HJ
  go_wp2_with fail
  refine bodyPost_ret (v := .agg #[.bool s9, .slice (some ⟨g9, 0, none⟩) m9 m9]) (by rw [results_cell1 rfl]; go_simp) rfl ⟨_, rfl, ⟨s9, g9, m9, rfl, Nat.le_trans HRB.out.2 HN9.out, ?_, HL9.out⟩, ?_⟩
  · have := HN9.out; have := HRB.out.1
    exact (Z9.out.set _ _ _ (by omega)).set _ _ _ (by omega)
  · exact bSet (bSet hbw _ _ _ HGr.out) _ _ _ HGr.out
abbrev F64t : Value := FV 9223372036854775808 53 (-1074) 971 9218868437227405312 9221120237041090561
theorem rparts_64nt (s : Nat) (hs : 4503599627370496 ≤ s) (hs9 : s < 9223372036854775808) (w : World) : Calls Try.prog 56 #[F64t, U s] w fun e w' => e = .returned (.tuple #[U (s - (s / 4503599627370496 - 1) * 4503599627370496), .int .i64 ((-1074) + ((s / 4503599627370496 - 1 : Nat) : Int))]) ∧ Below w.heap.size w w' := by
  obtain ⟨z, hz⟩ : ∃ z, z = s / 4503599627370496 := ⟨_, rfl⟩
  obtain ⟨r, hr⟩ : ∃ r, r = s % 4503599627370496 := ⟨_, rfl⟩
  have d1 : (s : Int).tdiv 4503599627370496 = (z : Int) := by rw [Int.tdiv_eq_ediv_of_nonneg (by omega)]; omega
  have d2 : (s : Int).tmod 4503599627370496 = (r : Int) := by rw [Int.tmod_eq_emod_of_nonneg (by omega)]; omega
  have d3 : IntKind.u64.wrap (z : Int) = (z : Int) := by rw [IntKind.wrap_u64]; omega
  have d4 : IntKind.u64.wrap (r : Int) = (r : Int) := by rw [IntKind.wrap_u64]; omega
  have hzb : ((z : Int) == 0) = false := by simp; omega
  obtain ⟨y, hy⟩ : ∃ y, y = s - (z - 1) * 4503599627370496 := ⟨_, rfl⟩
  obtain ⟨x, hx⟩ : ∃ x : Int, x = (-1074) + ((z - 1 : Nat) : Int) := ⟨_, rfl⟩
  obtain ⟨x1, hx1⟩ : ∃ x1 : Int, x1 = (-1074) + (z : Int) := ⟨_, rfl⟩
  rw [← hz, ← hy, ← hx]
  have d5 : IntKind.u64.wrap (4503599627370496 + (r : Int)) = (y : Int) := by rw [IntKind.wrap_u64]; omega
  have d6 : IntKind.i64.wrap (z : Int) = (z : Int) := by simp [IntKind.wrap, IntKind.signed, IntKind.bits]; omega
  have d7 : IntKind.i64.wrap ((-1074) + (z : Int)) = x1 := by rw [hx1]; simp [IntKind.wrap, IntKind.signed, IntKind.bits]; omega
  have d8 : IntKind.i64.wrap (x1 - 1) = x := by simp [IntKind.wrap, IntKind.signed, IntKind.bits]; omega
  clear hz hr hs hs9 hy hx hx1
  go_enter Try.func56, Try.ntmps56
  go_wp2_with fail
  go_quiet (fail)
  go_wp2_with fail
  go_quiet (fail)
  go_wp2_with fail
  go_ret2
  exact ⟨rfl, bwDrewN (bwDrewN (bwAlloc w _) _) _⟩
theorem rparts_640t (s : Nat) (hs : s < 4503599627370496) (w : World) : Calls Try.prog 56 #[F64t, U s] w fun e w' => e = .returned (.tuple #[U s, .int .i64 (-1074)]) ∧ Below w.heap.size w w' := by
  obtain ⟨z, hz⟩ : ∃ z, z = s / 4503599627370496 := ⟨_, rfl⟩
  obtain ⟨r, hr⟩ : ∃ r, r = s % 4503599627370496 := ⟨_, rfl⟩
  have d1 : (s : Int).tdiv 4503599627370496 = (z : Int) := by rw [Int.tdiv_eq_ediv_of_nonneg (by omega)]; omega
  have d2 : (s : Int).tmod 4503599627370496 = (r : Int) := by rw [Int.tmod_eq_emod_of_nonneg (by omega)]; omega
  have d3 : IntKind.u64.wrap (z : Int) = (z : Int) := by rw [IntKind.wrap_u64]; omega
  have d4 : IntKind.u64.wrap (r : Int) = (r : Int) := by rw [IntKind.wrap_u64]; omega
  have hz0 : z = 0 := by omega
  have hrs : r = s := by omega
  subst hz0
  subst hrs
  clear hz hr hs
  go_enter Try.func56, Try.ntmps56
  go_wp2_with fail
  go_quiet (fail)
  go_wp2_with fail
  go_quiet (fail)
  go_wp2_with fail
  go_ret2
  exact ⟨rfl, bwDrewN (bwDrewN (bwAlloc w _) _) _⟩
theorem rparts_all64 (s : Nat) (hs9 : s < 9223372036854775808) (w : World) : Calls Try.prog 56 #[F64t, U s] w fun e w' => e = .returned (.tuple #[U (s - (s / 4503599627370496 - 1) * 4503599627370496), .int .i64 ((-1074) + ((s / 4503599627370496 - 1 : Nat) : Int))]) ∧ Below w.heap.size w w' := by
  by_cases h : s < 4503599627370496
  · have h1 : s / 4503599627370496 = 0 := Nat.div_eq_of_lt h
    rw [h1, show 0 - 1 = 0 from rfl, Nat.zero_mul, Nat.sub_zero, show ((-1074 : Int) + ((0 : Nat) : Int)) = -1074 from rfl]
    exact rparts_640t s h w
  · exact rparts_64nt s (by omega) (by omega) w
theorem zr_len9 {w : World} {s : Bool} {p : Option Addr} {m : Nat} {z : Int} (h : ZR w s p m z) {L : Nat} (hL : z.natAbs < 2 ^ L) : m ≤ L := by
  obtain ⟨zs, hA, hN⟩ := h.ex
  have h1 := (hN.len_le B32_one (k := L)).2 (Nat.lt_of_lt_of_le hL (Nat.pow_le_pow_left (by decide) L))
  rw [hA.len] at h1
  exact h1
theorem GotR.len9 {B : Nat} {w : World} {v : Value} {z : Int} {L L' : Nat} (h : GotR B w v z L) (hL : z.natAbs < 2 ^ L') : GotR B w v z L' := by
  obtain ⟨s, g, m, h1, h2, h3, _⟩ := h
  exact ⟨s, g, m, h1, h2, h3, zr_len9 h3 hL⟩
theorem svS_lt {S H : Nat} (b : Nat) {L a c : Nat} (hH : H ≤ 2 ^ a) (h0 : 0 < H) (hS : S ≤ c * H) (hS0 : 0 < S) (hL : a + c ≤ L) : (svS S H b).natAbs < 2 ^ L := by
  rw [svS_eq]
  have h1 : (if S ≤ b then -(vs H (b % S) : Int) else (vs H (b % S) : Int)).natAbs = vs H (b % S) := by split <;> omega
  rw [h1]
  have h2 : b % S < c * H := Nat.lt_of_lt_of_le (Nat.mod_lt _ hS0) hS
  have h3 : b % S / H < c := (Nat.div_lt_iff_lt_mul h0).2 h2
  have e1 := Nat.div_add_mod (b % S) H
  have e2 := Nat.mod_lt (b % S) h0
  rw [Nat.mul_comm] at e1
  have h4 : b % S - (b % S / H - 1) * H < 2 * H := by
    by_cases e3 : b % S / H = 0
    · rw [e3] at e1 ⊢; omega
    · rw [Nat.sub_mul]; omega
  unfold vs
  have h5 : 2 ^ (b % S / H - 1) ≤ 2 ^ (c - 1) := Nat.pow_le_pow_right (by decide) (by generalize b % S / H = t at h3 ⊢; omega)
  have h6 : 0 < 2 ^ (b % S / H - 1) := Nat.two_pow_pos _
  refine Nat.lt_of_lt_of_le (Nat.mul_lt_mul_of_pos_right h4 h6) (Nat.le_trans (Nat.mul_le_mul (Nat.mul_le_mul_left 2 hH) h5) ?_)
  rw [← Nat.pow_succ', ← Nat.pow_add]
  have h7 : 1 ≤ c := Nat.lt_of_le_of_lt (Nat.zero_le _) h3
  exact Nat.pow_le_pow_right (by decide) (by omega)
theorem rwhole_64 {b : Nat} (w : World) :
    Calls Try.prog 45 #[FV 9223372036854775808 53 (-1074) 971 9218868437227405312 9221120237041090561, U b] w fun en w' => ∃ v, en = .returned v ∧ GotR w.heap.size w' v (svS 9223372036854775808 4503599627370496 b) 2200 ∧ Below w.heap.size w w' := by
  obtain ⟨q, hq⟩ : ∃ q, q = b % 9223372036854775808 / 4503599627370496 - 1 := ⟨_, rfl⟩
  obtain ⟨man, hman⟩ : ∃ man, man = b % 9223372036854775808 - q * 4503599627370496 := ⟨_, rfl⟩
  obtain ⟨neg, hneg⟩ : ∃ neg, neg = decide (9223372036854775808 ≤ b) := ⟨_, rfl⟩
  obtain ⟨s, hs⟩ : ∃ s, s = b % 9223372036854775808 := ⟨_, rfl⟩
  have hv : iv neg (man * 2 ^ q) = svS 9223372036854775808 4503599627370496 b := by
    rw [svS_eq, hneg, show vs 4503599627370496 (b % 9223372036854775808) = man * 2 ^ q from by unfold vs; rw [← hq, ← hman]]
    by_cases h : 9223372036854775808 ≤ b
    · rw [if_pos h, decide_eq_true h]; rfl
    · rw [if_neg h, decide_eq_false h]; rfl
  have hq9 : q ≤ 2048 := by omega
  have e1 : IntKind.i64.wrap ((-1074 : Int) + (q : Int) - (-1074)) = (q : Int) := by simp [IntKind.wrap, IntKind.signed, IntKind.bits]; omega
  obtain ⟨ex, hex⟩ : ∃ ex : Int, ex = (-1074 : Int) + (q : Int) := ⟨_, rfl⟩
  rw [← hex] at e1
  have e2 : wrap64 (ex + 1074) = (q : Int) := by rw [hex]; simp only [wrap64]; omega
  have e3 : IntKind.i64.wrap (ex + 1074) = (q : Int) := by rw [hex]; simp [IntKind.wrap, IntKind.signed, IntKind.bits]; omega
  have HV : Hid (iv neg (man * 2 ^ q) = svS 9223372036854775808 4503599627370496 b ∧ q ≤ 2048 ∧ man < B64 ∧ b % 9223372036854775808 = s ∧ decide (9223372036854775808 ≤ b) = neg ∧ s < 9223372036854775808 ∧ s / 4503599627370496 - 1 = q ∧ s - q * 4503599627370496 = man ∧ (-1074 : Int) + (q : Int) = ex) := ⟨hv, hq9, by rw [B64_eq]; omega, hs.symm, hneg.symm, by omega, by rw [hs]; exact hq.symm, by rw [hs]; exact hman.symm, hex.symm⟩
  clear hq hman hneg hs hv hq9 hex
  go_enter Try.func45, Try.ntmps45
  go_wp2_with fail
  obtain ⟨W0, hW0⟩ : ∃ W0, W0 = ((w.alloc (.cells #[U 9223372036854775808, .int .i64 53, .int .i64 (-1074), .int .i64 971, U 9218868437227405312, U 9221120237041090561] 60)).alloc (.cells #[.bool false, .slice none 0 0] 43)) := ⟨_, rfl⟩
  have Xk : Hid (B6q W0 (w.heap.size) (U 9223372036854775808) (.int .i64 53) (.int .i64 (-1074)) (.int .i64 971) (U 9218868437227405312) (U 9221120237041090561)) := by rw [hW0]; exact ⟨by go_simp, by go_simp, by go_simp, by go_simp, by go_simp, by go_simp, by go_simp, by go_simp, by go_simp, by go_simp, by go_simp, by go_simp⟩
  have Xr : Hid (Box W0 (w.heap.size + 1) (.bool false) (.slice none 0 0)) := by rw [hW0]; exact ⟨by go_simp, by go_simp, by go_simp, by go_simp⟩
  have hb0 : Below w.heap.size w W0 := by rw [hW0]; exact below2 w _ _
  rw [← hW0]
  clear hW0
  have hbw : Below w.heap.size w w := Below.refl _ _
  obtain ⟨gr, hgr⟩ : ∃ g, g = w.heap.size + 1 := ⟨_, rfl⟩
  have HGr : Hid (w.heap.size ≤ gr) := by rw [hgr]; show _ ≤ _; omega
  rw [← hgr] at Xr
  try rw [← hgr]
  obtain ⟨gk, hgk⟩ : ∃ g, g = w.heap.size := ⟨_, rfl⟩
  have HGk : Hid (w.heap.size ≤ gk) := by rw [hgk]; show _ ≤ _; omega
  rw [← hgk] at Xk
  try rw [← hgk]
  have HGD : Hid (gk ≠ gr ∧ gr ≠ gk) := by rw [hgk, hgr]; exact ⟨by omega, by omega⟩
  clear hgk hgr
  replace hbw := Below.on hbw hb0
  clear hb0
  refine (cut_any (by decide) (by decide) b _).mono ?_
  rintro e v1 ⟨rfl, hb1⟩
  rw [HV.out.2.2.2.1, HV.out.2.2.2.2.1]
  replace Xk : Hid _ := Xk.out.below hb1
  replace Xr : Hid _ := Xr.out.below hb1
  replace hbw := Below.on hbw hb1
  clear hb1
  obtain ⟨ck0, ck1, ck2, ck3, ck4, ck5, fk0, fk1, fk2, fk3, fk4, fk5⟩ := Xk.out
  have hnek : gk < v1.heap.size := World.block_lt_of_cell? v1 _ ck0
  go_wp2_with fail
  clear ck0 ck1 ck2 ck3 ck4 ck5 fk0 fk1 fk2 fk3 fk4 fk5 hnek
  refine (rparts_all64 s HV.out.2.2.2.2.2.1 _).mono ?_
  rintro e v2 ⟨rfl, hb2⟩
  rw [HV.out.2.2.2.2.2.2.1, HV.out.2.2.2.2.2.2.2.1, HV.out.2.2.2.2.2.2.2.2]
  replace Xk : Hid _ := Xk.out.below hb2
  replace Xr : Hid _ := Xr.out.below hb2
  replace hbw := Below.on hbw hb2
  clear hb2
  obtain ⟨ck0, ck1, ck2, ck3, ck4, ck5, fk0, fk1, fk2, fk3, fk4, fk5⟩ := Xk.out
  have hnek : gk < v2.heap.size := World.block_lt_of_cell? v2 _ ck0
  go_wp2_with fail
  clear ck0 ck1 ck2 ck3 ck4 ck5 fk0 fk1 fk2 fk3 fk4 fk5 hnek
  obtain ⟨W1, hW1⟩ : ∃ W1, W1 = v2.drew := ⟨_, rfl⟩
  have hbd : Below v2.heap.size v2 W1 := by rw [hW1]; exact bDrew1 (Below.refl _ _)
  replace Xk : Hid _ := Xk.out.below hbd
  replace Xr : Hid _ := Xr.out.below hbd
  replace hbw := Below.on hbw hbd
  clear hbd
  have HJ : Hid ((fun W' : World => W'.cell? ⟨gk, 2, none⟩ = some (.int .i64 (-1074)) ∧ W'.cell? ⟨gk, 1, none⟩ = some (.int .i64 53)) W1) := ⟨Xk.out.c2, Xk.out.c1⟩
  refine wp_region_J (fun W' => W'.cell? ⟨gk, 2, none⟩ = some (.int .i64 (-1074)) ∧ W'.cell? ⟨gk, 1, none⟩ = some (.int .i64 53)) (by kernel_rfl) ?_
  rw [← hW1]
  clear hW1
  refine wpJ_tq 0 rfl HJ.out ?_
  refine wpJ_tq 1 rfl HJ.out ?_
  refine wpJ_tq 3 rfl HJ.out ?_
  refine wpJ_tq 4 rfl HJ.out ?_
  refine wpJ_tq 5 rfl HJ.out ?_
  refine wpJ_tq 6 rfl HJ.out ?_
  refine wpJ_on 2 rfl fun KJ hK => ?_
  go_simp
  refine (rword man HV.out.2.2.1 _).mono ?_
  rintro e v5 ⟨g5, z5, rfl, hl5, hA5, hN5, hb5⟩
  replace Xk : Hid _ := Xk.out.below hb5
  replace Xr : Hid _ := Xr.out.below hb5
  replace hbw := Below.on hbw hb5
  clear hb5
  have A5 : Hid (At32 v5 (some ⟨g5, 0, none⟩) z5.length z5.length z5) := hA5
  have N5 : Hid (Nf B32 z5 man ∧ z5.length ≤ 2) := ⟨hN5, hl5⟩
  clear hA5 hN5 hl5
  obtain ⟨l5, hl5⟩ : ∃ l5, l5 = z5.length := ⟨_, rfl⟩
  rw [← hl5] at A5 N5 ⊢
  clear hl5
  refine hK _ _ ⟨Xk.out.c2, Xk.out.c1⟩ ?_
  clear hK
  refine wpJ_on 7 rfl fun KJ hK => ?_
  go_simp
  refine (rshl_all A5.out N5.out.1 (by have := N5.out.2; omega) q (.inl (by have := HV.out.2.1; omega))).mono ?_
  rintro e v6 ⟨p6, m6, z6, rfl, hA6, hN6, hm6, hb6⟩
  replace Xk : Hid _ := Xk.out.below hb6
  replace Xr : Hid _ := Xr.out.below hb6
  replace A5 : Hid _ := A5.out.below hb6
  replace hbw := Below.on hbw hb6
  clear hb6
  clear A5
  have A6 : Hid (At32 v6 p6 m6 m6 z6) := hA6
  have N6 : Hid (Nf B32 z6 (man * 2 ^ q) ∧ m6 ≤ 40000) := ⟨hN6, hm6⟩
  clear hA6 hN6 hm6 N5
  refine hK _ _ ⟨Xk.out.c2, Xk.out.c1⟩ ?_
  clear hK
  have HRL : Hid (gr < v6.heap.size ∧ w.heap.size ≤ v6.heap.size) := ⟨Xr.out.lt, hbw.size⟩
  refine wpJ_on 8 rfl fun KJ hK => ?_
  go_simp
  refine (rmk_any neg A6.out N6.out.1 (by have := N6.out.2; omega)).mono ?_
  rintro e v7 ⟨v, rfl, hv, hb7⟩
  rw [HV.out.1] at hv
  obtain ⟨LL, hLL⟩ : ∃ LL : Nat, LL = 2200 := ⟨_, rfl⟩
  obtain ⟨s7, g7, m7, rfl, hg7, hz7, hl7⟩ := hv.len9 (L' := LL) (svS_lt b (a := 52) (c := 2048) (by decide) (by decide) (by decide) (by decide) (by omega))
  rw [hLL] at hl7
  clear hLL
  have HN7 : Hid (v6.heap.size ≤ g7) := hg7
  replace Xk : Hid _ := Xk.out.below hb7
  replace Xr : Hid _ := Xr.out.below hb7
  replace A6 : Hid _ := A6.out.below hb7
  replace hbw := Below.on hbw hb7
  clear hb7
  clear A6
  have Z7 : Hid (ZR v7 s7 (some ⟨g7, 0, none⟩) m7 (svS 9223372036854775808 4503599627370496 b)) := hz7
  have HL7 : Hid (m7 ≤ 2200) := hl7
  clear hv hg7 hz7 hl7 N6
  refine hK _ _ ⟨Xk.out.c2, Xk.out.c1⟩ ?_
  clear hK
  obtain ⟨cr0, cr1, fr0, fr1⟩ := Xr.out
  have hner := Xr.out.lt
  obtain ⟨ck0, ck1, ck2, ck3, ck4, ck5, fk0, fk1, fk2, fk3, fk4, fk5⟩ := Xk.out
  have hnek : gk < v7.heap.size := World.block_lt_of_cell? v7 _ ck0
  obtain ⟨hgd0, hgd1⟩ := HGD.out
  refine wpJ_on 9 rfl fun KJ hK => ?_
  go_simp
  have HJ2 : Hid ((fun W' : World => W'.cell? ⟨gk, 2, none⟩ = some (.int .i64 (-1074)) ∧ W'.cell? ⟨gk, 1, none⟩ = some (.int .i64 53)) ((v7.setCell ⟨gr, 0, none⟩ (.bool s7)).setCell ⟨gr, 1, none⟩ (.slice (some ⟨g7, 0, none⟩) m7 m7))) := ⟨by go_simp, by go_simp⟩
  refine hK _ _ HJ2.out ?_
  clear hK HJ
  have HJ := HJ2
  clear HJ2
  refine wpJ_done (by kernel_rfl) ?_ _
  clear HJ
  go_wp2_with fail
  refine bodyPost_ret (v := .agg #[.bool s7, .slice (some ⟨g7, 0, none⟩) m7 m7]) (by rw [results_cell1 rfl]; go_simp) rfl ⟨_, rfl, ⟨s7, g7, m7, rfl, Nat.le_trans HRL.out.2 HN7.out, ?_, HL7.out⟩, ?_⟩
  · have := HN7.out; have := HRL.out.1
    exact (Z7.out.set _ _ _ (by omega)).set _ _ _ (by omega)
  · exact bSet (bSet hbw _ _ _ HGr.out) _ _ _ HGr.out
theorem rsz (b : Nat) (w : World) : Calls Try.prog 28 #[U b] w fun e w' => e = .returned (U (b % 9223372036854775808)) ∧ w' = w := by
  go_enter Try.func28, Try.ntmps28
  go_wp2_with fail
  go_ret
  exact ⟨congrArg (fun z => Ending.returned (.int .u64 z)) (by omega), rfl⟩
theorem rfin (b : Nat) (w : World) : Calls Try.prog 32 #[U b] w fun e w' => e = .returned (.bool (decide (b % 9223372036854775808 < 9218868437227405312))) ∧ w' = w := by
  go_enter Try.func32, Try.ntmps32
  go_wp2_with fail
  refine (rsz b _).mono ?_
  rintro e w' ⟨rfl, rfl⟩
  go_wp2_with fail
  go_ret
  exact ⟨congrArg (fun z => Ending.returned (.bool z)) (decide_eq_decide.2 (by omega)), rfl⟩
theorem rpow19 (k : Nat) (e : Int) (he : e = (k : Int) - 1023) (hk : k ≤ 2046) (w : World) : Calls Try.prog 34 #[.int .i64 e] w fun e w' => e = .returned (U (k * 4503599627370496)) ∧ w' = w := by
  go_enter Try.func34, Try.ntmps34
  have h1 : wrap64 (e + 1023) = (k : Int) := by rw [he]; simp only [wrap64]; omega
  have h2 : IntKind.i64.wrap (e + 1023) = (k : Int) := by rw [he]; simp [IntKind.wrap, IntKind.signed, IntKind.bits]; omega
  have h3 : IntKind.u64.wrap (k : Int) = (k : Int) := by rw [IntKind.wrap_u64]; omega
  have h4 : IntKind.u64.wrap ((k : Int) * 4503599627370496) = ((k * 4503599627370496 : Nat) : Int) := by rw [IntKind.wrap_u64]; omega
  clear he
  go_wp2_with fail
  go_ret
  exact ⟨congrArg (fun z => Ending.returned (.int .u64 z)) (by omega), rfl⟩
theorem ratmost (b k : Nat) (e : Int) (he : e = (k : Int) - 1023) (hk : k ≤ 2046) (w : World) : Calls Try.prog 17 #[U b, .int .i64 e] w fun e w' => e = .returned (.bool (decide (b % 9223372036854775808 ≤ k * 4503599627370496))) ∧ w' = w := by
  have HE : Hid (e = (k : Int) - 1023) := he
  clear he
  go_enter Try.func17, Try.ntmps17
  go_wp2_with fail
  refine (rsz b _).mono ?_
  rintro e' w' ⟨rfl, rfl⟩
  go_wp2_with fail
  refine (rpow19 k e HE.out hk _).mono ?_
  rintro e' w' ⟨rfl, rfl⟩
  go_wp2_with fail
  go_ret
  exact ⟨congrArg (fun z => Ending.returned (.bool z)) (decide_eq_decide.2 (by omega)), rfl⟩
def same19 (a b : Nat) : Bool := decide (a = b) || (decide (a % 9223372036854775808 = 0) && decide (b % 9223372036854775808 = 0))
theorem rsame19 (a b : Nat) (w : World) : Calls Try.prog 20 #[U a, U b] w fun e w' => e = .returned (.bool (same19 a b)) ∧ w' = w := by
  have hz : ∀ x : Nat, (((x % 9223372036854775808 : Nat) : Int) == 0) = decide (x % 9223372036854775808 = 0) := fun x => by
    by_cases h : x % 9223372036854775808 = 0 <;> simp [h]; omega
  go_enter Try.func20, Try.ntmps20
  by_cases h1 : a = b
  · have c1 : ((a : Int) == (b : Int)) = true := by simp [h1]
    go_wp2_with fail
    go_ret
    exact ⟨by unfold same19; simp [h1], rfl⟩
  · have c1 : ((a : Int) == (b : Int)) = false := by simp; omega
    have c2 : ¬ ((a : Int) = (b : Int)) := by omega
    go_wp2_with fail
    refine (rsz a _).mono ?_
    rintro e w' ⟨rfl, rfl⟩
    by_cases h2 : a % 9223372036854775808 = 0
    · rw [h2]
      go_wp2_with fail
      refine (rsz b _).mono ?_
      rintro e w' ⟨rfl, rfl⟩
      go_wp2_with fail
      go_ret
      refine ⟨?_, rfl⟩
      unfold same19
      have c3 := hz b
      rw [decide_eq_false h1, decide_eq_true h2]
      exact congrArg (fun z => Ending.returned (.bool z)) (by simpa using c3)
    · have c3 : (((a % 9223372036854775808 : Nat) : Int) == 0) = false := by rw [hz]; exact decide_eq_false h2
      have c4 : ¬ (((a % 9223372036854775808 : Nat) : Int) = 0) := by omega
      have hs : same19 a b = false := by unfold same19; rw [decide_eq_false h1, decide_eq_false h2]; rfl
      have HS : Hid (same19 a b = false) := hs
      clear hs
      generalize a % 9223372036854775808 = z at *
      go_wp2_with fail
      go_ret
      rw [HS.out]
      exact ⟨rfl, rfl⟩
def AheadP (a b : Nat) : Prop := a % 9223372036854775808 ≤ 9209861237972664320 ∧ b % 9223372036854775808 ≤ 9209861237972664320 ∧ (a % 9223372036854775808 = 0 ∨ b % 9223372036854775808 ≤ a % 9223372036854775808)
theorem rahead (a b : Nat) (w : World) : Calls Try.prog 16 #[U a, U b] w fun e w' => (∃ r, e = .returned (.bool r) ∧ (r = true → AheadP a b)) ∧ w' = w := by
  go_enter Try.func16, Try.ntmps16
  go_wp2_with fail
  refine (ratmost a 2045 1022 (by omega) (by omega) _).mono ?_
  rintro e' w' ⟨rfl, rfl⟩
  by_cases h1 : a % 9223372036854775808 ≤ 2045 * 4503599627370496
  · rw [decide_eq_true h1]
    go_wp2_with fail
    refine (ratmost b 2045 1022 (by omega) (by omega) _).mono ?_
    rintro e' w' ⟨rfl, rfl⟩
    by_cases h2 : b % 9223372036854775808 ≤ 2045 * 4503599627370496
    · rw [decide_eq_true h2]
      go_wp2_with fail
      refine (rsz a _).mono ?_
      rintro e' w' ⟨rfl, rfl⟩
      by_cases h3 : a % 9223372036854775808 = 0
      · rw [h3]
        go_wp2_with fail
        go_ret
        exact ⟨⟨_, rfl, fun _ => ⟨by omega, by omega, .inl h3⟩⟩, rfl⟩
      · have c3 : (((a % 9223372036854775808 : Nat) : Int) == 0) = false := by simp; omega
        have c4 : ¬ (((a % 9223372036854775808 : Nat) : Int) = 0) := by omega
        obtain ⟨x, hx⟩ : ∃ x, x = a % 9223372036854775808 := ⟨_, rfl⟩
        obtain ⟨y, hy⟩ : ∃ y, y = b % 9223372036854775808 := ⟨_, rfl⟩
        have HX : Hid (x = a % 9223372036854775808 ∧ y = b % 9223372036854775808 ∧ x ≤ 9209861237972664320 ∧ y ≤ 9209861237972664320) := ⟨hx, hy, by omega, by omega⟩
        rw [← hx] at c3 c4 ⊢
        clear h1 h2 h3 hx hy
        go_wp2_with fail
        refine (rsz a _).mono ?_
        rintro e' w' ⟨rfl, rfl⟩
        rw [← HX.out.1]
        go_wp2_with fail
        refine (rsz b _).mono ?_
        rintro e' w' ⟨rfl, rfl⟩
        rw [← HX.out.2.1]
        go_wp2_with fail
        go_ret
        obtain ⟨h1, h2, h3, h4⟩ := HX.out
        refine ⟨⟨_, rfl, fun h => ⟨by omega, by omega, .inr ?_⟩⟩, rfl⟩
        have h5 := of_decide_eq_true h
        omega
    · rw [decide_eq_false h2]
      go_wp2_with fail
      go_ret
      exact ⟨⟨_, rfl, fun h => by cases h⟩, rfl⟩
  · rw [decide_eq_false h1]
    go_wp2_with fail
    go_ret
    exact ⟨⟨_, rfl, fun h => by cases h⟩, rfl⟩
theorem rdouble (w : World) :
    Calls Try.prog 46 #[] w fun en w' => en = .returned (FV 9223372036854775808 53 (-1074) 971 9218868437227405312 9221120237041090561) ∧ Below w.heap.size w w' := by
  go_enter Try.func46, Try.ntmps46
  go_wp2_with fail
  obtain ⟨W0, hW0⟩ : ∃ W0, W0 = (w.alloc (.cells #[.int .u64 0, .int .i64 0, .int .i64 0, .int .i64 0, .int .u64 0, .int .u64 0] 60)) := ⟨_, rfl⟩
  have Xr : Hid (B6q W0 (w.heap.size) (.int .u64 0) (.int .i64 0) (.int .i64 0) (.int .i64 0) (.int .u64 0) (.int .u64 0)) := by rw [hW0]; exact ⟨by go_simp, by go_simp, by go_simp, by go_simp, by go_simp, by go_simp, by go_simp, by go_simp, by go_simp, by go_simp, by go_simp, by go_simp⟩
  have hb0 : Below w.heap.size w W0 := by rw [hW0]; exact below1 w _
  rw [← hW0]
  clear hW0
  have hbw : Below w.heap.size w w := Below.refl _ _
  obtain ⟨gr, hgr⟩ : ∃ g, g = w.heap.size := ⟨_, rfl⟩
  have HGr : Hid (w.heap.size ≤ gr) := by rw [hgr]; show _ ≤ _; omega
  rw [← hgr] at Xr
  try rw [← hgr]
  clear hgr
  replace hbw := Below.on hbw hb0
  clear hb0
  refine (rof_64 _).mono ?_
  rintro e v1 ⟨rfl, hb1⟩
  replace Xr : Hid _ := Xr.out.below hb1
  replace hbw := Below.on hbw hb1
  clear hb1
  obtain ⟨cr0, cr1, cr2, cr3, cr4, cr5, fr0, fr1, fr2, fr3, fr4, fr5⟩ := Xr.out
  have hner : gr < v1.heap.size := World.block_lt_of_cell? v1 _ cr0
  go_wp2_with fail
  obtain ⟨V, hV⟩ : ∃ V, V = ((((((v1.setCell ⟨gr, 0, none⟩ (.int .u64 9223372036854775808)).setCell ⟨gr, 1, none⟩ (.int .i64 53)).setCell ⟨gr, 2, none⟩ (.int .i64 (-1074))).setCell ⟨gr, 3, none⟩ (.int .i64 971)).setCell ⟨gr, 4, none⟩ (.int .u64 9218868437227405312)).setCell ⟨gr, 5, none⟩ (.int .u64 9221120237041090561)) := ⟨_, rfl⟩
  have Y : B6q V gr (U 9223372036854775808) (.int .i64 53) (.int .i64 (-1074)) (.int .i64 971) (U 9218868437227405312) (U 9221120237041090561) := by rw [hV]; exact ⟨by go_simp, by go_simp, by go_simp, by go_simp, by go_simp, by go_simp, by go_simp, by go_simp, by go_simp, by go_simp, by go_simp, by go_simp⟩
  have hbV : Below w.heap.size w V := by rw [hV]; exact bSet (bSet (bSet (bSet (bSet (bSet hbw _ _ _ HGr.out) _ _ _ HGr.out) _ _ _ HGr.out) _ _ _ HGr.out) _ _ _ HGr.out) _ _ _ HGr.out
  rw [← hV]
  clear hV cr0 fr0 cr1 fr1 cr2 fr2 cr3 fr3 cr4 fr4 cr5 fr5 hner hbw Xr
  have hb2 := below1 V (.cells #[.int .u64 9223372036854775808, .int .i64 53, .int .i64 (-1074), .int .i64 971, .int .u64 9218868437227405312, .int .u64 9221120237041090561] 60)
  have Y2 := Y.below hb2
  have hb3 := Below.on hbV hb2
  generalize V.alloc (.cells #[.int .u64 9223372036854775808, .int .i64 53, .int .i64 (-1074), .int .i64 971, .int .u64 9218868437227405312, .int .u64 9221120237041090561] 60) = V2 at *
  obtain ⟨y0, y1, y2, y3, y4, y5, y6, y7, y8, y9, y10, y11⟩ := Y2
  refine bodyPost_ret (v := FV 9223372036854775808 53 (-1074) 971 9218868437227405312 9221120237041090561) (by rw [results_cell1 rfl]; go_simp) rfl ⟨rfl, hb3⟩
theorem runits {b : Nat} (w : World) :
    Calls Try.prog 30 #[U b] w fun en w' => ∃ v, en = .returned v ∧ GotR w.heap.size w' v (ux b) 2200 ∧ Below w.heap.size w w' := by
  go_enter Try.func30, Try.ntmps30
  go_wp2_with fail
  obtain ⟨W0, hW0⟩ : ∃ W0, W0 = (w.alloc (.cells #[.bool false, .slice none 0 0] 43)) := ⟨_, rfl⟩
  have Xr : Hid (Box W0 (w.heap.size) (.bool false) (.slice none 0 0)) := by rw [hW0]; exact ⟨by go_simp, by go_simp, by go_simp, by go_simp⟩
  have hb0 : Below w.heap.size w W0 := by rw [hW0]; exact below1 w _
  rw [← hW0]
  clear hW0
  have hbw : Below w.heap.size w w := Below.refl _ _
  obtain ⟨gr, hgr⟩ : ∃ g, g = w.heap.size := ⟨_, rfl⟩
  have HGr : Hid (w.heap.size ≤ gr) := by rw [hgr]; show _ ≤ _; omega
  rw [← hgr] at Xr
  try rw [← hgr]
  clear hgr
  replace hbw := Below.on hbw hb0
  clear hb0
  refine (rdouble _).mono ?_
  rintro e v1 ⟨rfl, hb1⟩
  replace Xr : Hid _ := Xr.out.below hb1
  replace hbw := Below.on hbw hb1
  clear hb1
  go_wp2_with fail
  have HRB : Hid (gr < v1.heap.size ∧ w.heap.size ≤ v1.heap.size) := ⟨Xr.out.lt, hbw.size⟩
  refine (rwhole_64 _).mono ?_
  rintro e v2 ⟨v, rfl, hv, hb2⟩
  obtain ⟨s2, g2, m2, rfl, hg2, hz2, hl2⟩ := hv
  have HN2 : Hid (v1.heap.size ≤ g2) := hg2
  have HB2 : Hid (v1.heap.size ≤ v2.heap.size) := hb2.size
  replace Xr : Hid _ := Xr.out.below hb2
  replace hbw := Below.on hbw hb2
  clear hb2
  have Z2 : Hid (ZR v2 s2 (some ⟨g2, 0, none⟩) m2 (ux b)) := hz2
  have HL2 : Hid (m2 ≤ 2200) := hl2
  clear hz2 hl2 hg2
  obtain ⟨cr0, cr1, fr0, fr1⟩ := Xr.out
  have hner := Xr.out.lt
  go_wp2_with fail
  refine bodyPost_ret (v := .agg #[.bool s2, .slice (some ⟨g2, 0, none⟩) m2 m2]) (by rw [results_cell1 rfl]; go_simp) rfl ⟨_, rfl, ⟨s2, g2, m2, rfl, Nat.le_trans HRB.out.2 HN2.out, ?_, HL2.out⟩, ?_⟩
  · have := HN2.out; have := HRB.out.1
    exact (Z2.out.set _ _ _ (by omega)).set _ _ _ (by omega)
  · exact bSet (bSet hbw _ _ _ HGr.out) _ _ _ HGr.out
theorem rfitst {p : Option Addr} {n c : Nat} {xs : List Nat} {w : World} (h : At32 w p n c xs) (hn : n ≤ 35184372088832) :
    Calls Try.prog 65 #[.slice p n c] w fun e w' => e = .returned (if valB B32 xs < B64 then .tuple #[U (valB B32 xs), .bool true] else .tuple #[.int .u64 0, .bool false]) ∧ Below w.heap.size w w' := by
  have H : Hid (At32 w p n c xs) := h
  clear h
  obtain ⟨rv, hrv⟩ : ∃ rv : Value, rv = (if valB B32 xs < B64 then .tuple #[U (valB B32 xs), .bool true] else .tuple #[.int .u64 0, .bool false]) := ⟨_, rfl⟩
  rw [← hrv]
  have HRV : Hid (rv = (if valB B32 xs < B64 then .tuple #[U (valB B32 xs), .bool true] else .tuple #[.int .u64 0, .bool false])) := hrv
  clear hrv
  go_enter Try.func65, Try.ntmps65
  go_wp2_with fail
  refine (rto_any H.out hn).mono ?_
  rintro e w1 ⟨g1, k1, N1, us, rfl, hg1, hA1, hn1, hb1⟩
  have hl := hA1.len
  match k1, us, hl with
  | 0, [], _ =>
    have HV : Hid (valB B32 xs = 0) := by show _ = _; rw [← hn1.val]; rfl
    clear hA1 hn1 hg1
    go_wp2_with fail
    go_ret2
    refine ⟨?_, hb1⟩
    rw [HRV.out, HV.out, if_pos (by rw [B64_eq]; decide)]
    rfl
  | 1, [u], _ =>
    have HV : Hid (valB B32 xs = u ∧ u < B64) := ⟨by rw [← hn1.val]; simp [valB], hA1.dig u (by simp)⟩
    have hc := hA1.cellAt 0 (by omega)
    have hc2 : w1.cell? ⟨g1, 0, none⟩ = some (U u) := hc
    have hlt := World.block_lt_of_cell? w1 _ hc2
    clear hA1 hn1 hg1 hc
    go_wp2_with fail
    go_ret2
    refine ⟨?_, hb1⟩
    rw [HRV.out, HV.out.1, if_pos HV.out.2]
    rfl
  | k + 2, us, hl =>
    have HV : Hid (¬ valB B32 xs < B64) := by
      intro hlt
      have := (hn1.len_le B64_one (k := 1)).2 (by rw [Nat.pow_one]; exact hlt)
      omega
    have h0 : (((k + 2 : Nat) : Int) == 0) = false := by simp; omega
    have h1 : (((k + 2 : Nat) : Int) == 1) = false := by simp; omega
    clear hA1 hn1 hg1
    go_wp2_with fail
    go_ret2
    refine ⟨?_, hb1⟩
    rw [HRV.out, if_neg HV.out]
    rfl
def szN (v : Nat) : Nat := (v.log2 - 52) * 4503599627370496 + v / 2 ^ (v.log2 - 52)
theorem log2_bits (v : Nat) : v.log2 - 52 = bitsN v - 53 := by
  unfold bitsN
  by_cases h : v = 0
  · subst h; simp
  · rw [if_neg h]; omega
theorem sz_lt (v : Nat) : v / 2 ^ (v.log2 - 52) < 9007199254740992 := by
  by_cases h : v = 0
  · subst h; simp
  · refine Nat.div_lt_of_lt_mul ?_
    have hu : v < 2 ^ (v.log2 + 1) := Nat.lt_log2_self
    refine Nat.lt_of_lt_of_le hu ?_
    rw [show (9007199254740992 : Nat) = 2 ^ 53 by decide, ← Nat.pow_add]
    exact p2le (by omega)
theorem rsizeN {p : Option Addr} {n c : Nat} {zs : List Nat} {v : Nat} {w : World} (h : At32 w p n c zs) (hx : Nf B32 zs v) (hn : n ≤ 16384) (hv : bitsN v ≤ 2099) :
    Calls Try.prog 59 #[FV 9223372036854775808 53 (-1074) 971 9218868437227405312 9221120237041090561, .slice p n c] w fun en w' => en = .returned (U (szN v)) ∧ Below w.heap.size w w' := by
  have hlt := sz_lt v
  have hlg := log2_bits v
  have hval : valB B32 zs = v := hx.val
  obtain ⟨t, ht⟩ : ∃ t, t = bitsN v := ⟨_, rfl⟩
  rw [hlg, ← ht] at hlt
  rw [← ht] at hv
  obtain ⟨d, hd⟩ : ∃ d, d = t - 53 := ⟨_, rfl⟩
  obtain ⟨m, hm⟩ : ∃ m, m = v / 2 ^ d := ⟨_, rfl⟩
  have hsz : szN v = d * 4503599627370496 + m := by unfold szN; rw [hlg, ← ht, ← hd, ← hm]
  rw [hsz]
  rw [← hd, ← hm] at hlt
  have HA : Hid (At32 w p n c zs) := h
  have HX : Hid (Nf B32 zs v ∧ n ≤ 16384 ∧ t = bitsN v ∧ m = v / 2 ^ d ∧ m < 9007199254740992) := ⟨hx, hn, ht, hm, hlt⟩
  obtain ⟨y, hy⟩ : ∃ y, y = d * 4503599627370496 := ⟨_, rfl⟩
  obtain ⟨r, hr⟩ : ∃ r, r = y + m := ⟨_, rfl⟩
  rw [← hy, ← hr]
  have e2 : IntKind.u64.wrap (d : Int) = (d : Int) := by rw [IntKind.wrap_u64]; omega
  have e3 : IntKind.u64.wrap ((d : Int) * 4503599627370496) = (y : Int) := by rw [IntKind.wrap_u64]; omega
  have e4 : IntKind.u64.wrap ((y : Int) + (m : Int)) = (r : Int) := by rw [IntKind.wrap_u64]; omega
  have h53 : t < 53 → m = v ∧ r = v := fun h => by
    have h1 : d = 0 := by omega
    have h2 : m = v := by rw [hm, h1, Nat.pow_zero, Nat.div_one]
    exact ⟨h2, by rw [hr, hy, h1, Nat.zero_mul, Nat.zero_add, h2]⟩
  have H53 : Hid (t < 53 → m = v ∧ r = v) := h53
  have e1 : 53 ≤ t → IntKind.i64.wrap ((t : Int) - 53) = (d : Int) := fun h => by simp [IntKind.wrap, IntKind.signed, IntKind.bits]; omega
  have e0 : 53 ≤ t → wrap64 ((t : Int) - 53) = (d : Int) := fun h => by simp only [wrap64]; omega
  have HE : Hid ((53 ≤ t → IntKind.i64.wrap ((t : Int) - 53) = (d : Int)) ∧ (53 ≤ t → wrap64 ((t : Int) - 53) = (d : Int)) ∧ d ≤ 2046) := ⟨e1, e0, by omega⟩
  have HVL : Hid (valB B32 zs = v) := hval
  clear h hx hn hv ht hd hm hsz hlt hlg hy hr h53 e1 e0 hval
  go_enter Try.func59, Try.ntmps59
  go_wp2_with fail
  obtain ⟨W0, hW0⟩ : ∃ W0, W0 = (w.alloc (.cells #[U 9223372036854775808, .int .i64 53, .int .i64 (-1074), .int .i64 971, U 9218868437227405312, U 9221120237041090561] 60)) := ⟨_, rfl⟩
  have Xk : Hid (B6q W0 (w.heap.size) (U 9223372036854775808) (.int .i64 53) (.int .i64 (-1074)) (.int .i64 971) (U 9218868437227405312) (U 9221120237041090561)) := by rw [hW0]; exact ⟨by go_simp, by go_simp, by go_simp, by go_simp, by go_simp, by go_simp, by go_simp, by go_simp, by go_simp, by go_simp, by go_simp, by go_simp⟩
  have hb0 : Below w.heap.size w W0 := by rw [hW0]; exact below1 w _
  rw [← hW0]
  clear hW0
  have hbw : Below w.heap.size w w := Below.refl _ _
  obtain ⟨gk, hgk⟩ : ∃ g, g = w.heap.size := ⟨_, rfl⟩
  have HGk : Hid (w.heap.size ≤ gk) := by rw [hgk]; show _ ≤ _; omega
  rw [← hgk] at Xk
  try rw [← hgk]
  clear hgk
  replace HA : Hid _ := HA.out.below hb0
  replace hbw := Below.on hbw hb0
  clear hb0
  refine (rbits_any HA.out HX.out.1 (by have := HX.out.2.1; omega)).mono ?_
  rintro e w1 ⟨rfl, hw⟩
  rw [← HX.out.2.2.1]
  obtain rfl := hw.symm
  clear hw
  by_cases h5 : t < 53
  · have c1 : decide ((t : Int) < 53) = true := decide_eq_true (by omega)
    have HT : Hid (t < 53) := h5
    clear h5
    obtain ⟨ck0, ck1, ck2, ck3, ck4, ck5, fk0, fk1, fk2, fk3, fk4, fk5⟩ := Xk.out
    have hnek : gk < W0.heap.size := World.block_lt_of_cell? W0 _ ck0
    go_wp2_with fail
    clear ck0 ck1 ck2 ck3 ck4 ck5 fk0 fk1 fk2 fk3 fk4 fk5 hnek
    refine (rfitst HA.out (by have := HX.out.2.1; omega)).mono ?_
    rintro e v3 ⟨rfl, hb3⟩
    rw [HVL.out, if_pos (show v < B64 by have h1 := (H53.out HT.out).1; have h2 := HX.out.2.2.2.2; rw [B64_eq]; omega)]
    replace Xk : Hid _ := Xk.out.below hb3
    replace HA : Hid _ := HA.out.below hb3
    replace hbw := Below.on hbw hb3
    clear hb3
    obtain ⟨ck0, ck1, ck2, ck3, ck4, ck5, fk0, fk1, fk2, fk3, fk4, fk5⟩ := Xk.out
    have hnek : gk < v3.heap.size := World.block_lt_of_cell? v3 _ ck0
    go_wp2_with fail
    clear ck0 ck1 ck2 ck3 ck4 ck5 fk0 fk1 fk2 fk3 fk4 fk5 hnek
    go_ret
    rw [(H53.out HT.out).2]
    exact ⟨rfl, hbw⟩
  · have c1 : decide ((t : Int) < 53) = false := decide_eq_false (by omega)
    have e1 := HE.out.1 (by omega)
    have e0 := HE.out.2.1 (by omega)
    clear h5
    obtain ⟨ck0, ck1, ck2, ck3, ck4, ck5, fk0, fk1, fk2, fk3, fk4, fk5⟩ := Xk.out
    have hnek : gk < W0.heap.size := World.block_lt_of_cell? W0 _ ck0
    go_wp2_with fail
    clear ck0 ck1 ck2 ck3 ck4 ck5 fk0 fk1 fk2 fk3 fk4 fk5 hnek
    refine (rshr_all HA.out HX.out.1 HX.out.2.1 d (by have := HE.out.2.2; omega)).mono ?_
    rintro e v3 ⟨p3, m3, z3, rfl, hA3, hN3, hm3, hb3⟩
    rw [← HX.out.2.2.2.1] at hN3
    replace Xk : Hid _ := Xk.out.below hb3
    replace HA : Hid _ := HA.out.below hb3
    replace hbw := Below.on hbw hb3
    clear hb3
    have A3 : Hid (At32 v3 p3 m3 m3 z3) := hA3
    have N3 : Hid (valB B32 z3 = m ∧ m3 ≤ n) := ⟨hN3.val, hm3⟩
    clear hA3 hN3 hm3
    obtain ⟨ck0, ck1, ck2, ck3, ck4, ck5, fk0, fk1, fk2, fk3, fk4, fk5⟩ := Xk.out
    have hnek : gk < v3.heap.size := World.block_lt_of_cell? v3 _ ck0
    go_wp2_with fail
    clear ck0 ck1 ck2 ck3 ck4 ck5 fk0 fk1 fk2 fk3 fk4 fk5 hnek
    refine (rfitst A3.out (by have := HX.out.2.1; have := N3.out.2; omega)).mono ?_
    rintro e v4 ⟨rfl, hb4⟩
    rw [N3.out.1, if_pos (show m < B64 by have h2 := HX.out.2.2.2.2; rw [B64_eq]; omega)]
    replace Xk : Hid _ := Xk.out.below hb4
    replace HA : Hid _ := HA.out.below hb4
    replace A3 : Hid _ := A3.out.below hb4
    replace hbw := Below.on hbw hb4
    clear hb4
    obtain ⟨ck0, ck1, ck2, ck3, ck4, ck5, fk0, fk1, fk2, fk3, fk4, fk5⟩ := Xk.out
    have hnek : gk < v4.heap.size := World.block_lt_of_cell? v4 _ ck0
    go_wp2_with fail
    clear ck0 ck1 ck2 ck3 ck4 ck5 fk0 fk1 fk2 fk3 fk4 fk5 hnek
    go_ret
    exact ⟨rfl, hbw⟩
theorem sgn_pos8 {x : Int} (h : 0 < x) : sgnI x = 1 := by
  unfold sgnI; rw [if_neg (by omega), if_neg (by omega)]
theorem bits_cmp {x y : Int} {k : Nat} (hx : 0 < x) (hy : 0 < y) : (bitsN x.natAbs + k < bitsN y.natAbs → x * 2 ^ k < y) ∧ (bitsN y.natAbs < bitsN x.natAbs + k → y < x * 2 ^ k) := by
  have h1 := bitsN_lt x.natAbs
  have h2 := bitsN_le x.natAbs (by omega)
  have h3 := bitsN_lt y.natAbs
  have h4 := bitsN_le y.natAbs (by omega)
  have h5 := bitsN_pos (a := x.natAbs) (by omega)
  have h6 := bitsN_pos (a := y.natAbs) (by omega)
  have hp : 0 < 2 ^ k := p2pos k
  have e1 : x * 2 ^ k = ((x.natAbs * 2 ^ k : Nat) : Int) := by
    rw [Int.natCast_mul, Int.natCast_pow]
    congr 1
    omega
  rw [e1]
  refine ⟨fun h => ?_, fun h => ?_⟩
  · have h7 : x.natAbs * 2 ^ k < 2 ^ (bitsN x.natAbs + k) := by rw [Nat.pow_add]; exact Nat.mul_lt_mul_of_pos_right h1 hp
    have h8 : 2 ^ (bitsN x.natAbs + k) ≤ 2 ^ (bitsN y.natAbs - 1) := p2le (by omega)
    omega
  · have h7 : 2 ^ (bitsN x.natAbs - 1 + k) ≤ x.natAbs * 2 ^ k := by rw [Nat.pow_add]; exact Nat.mul_le_mul_right _ h2
    have h8 : 2 ^ (bitsN y.natAbs) ≤ 2 ^ (bitsN x.natAbs - 1 + k) := p2le (by omega)
    omega
theorem cmp_lt {x y : Int} (h : x < y) : cmpI x y = -1 := by unfold cmpI; rw [if_pos h]
theorem cmp_gt {x y : Int} (h : y < x) : cmpI x y = 1 := by unfold cmpI; rw [if_neg (by omega), if_neg (by omega)]
theorem rhold_g {p q : Option Addr} {m n k : Nat} {w : World} {x y e f : Int} (s t : Bool) (h : ZR w s p m x) (k0 : ZR w t q n y) (hm : m ≤ 10000) (hn : n ≤ 10000) (hx : 0 < x) (hy : 0 < y) (hbx : bitsN x.natAbs ≤ 100000) (hby : bitsN y.natAbs ≤ 100000) (hk : 1 ≤ k ∧ k ≤ 5000) (he : -5000 ≤ e ∧ e ≤ 5000) (hf : -5000 ≤ f ∧ f ≤ 5000) (hef : e = f + (k : Int)) :
    Calls Try.prog 60 #[.agg #[.bool s, .slice p m m], .int .i64 e, .agg #[.bool t, .slice q n n], .int .i64 f] w fun en w' => en = .returned (.int .i64 (cmpI (x * 2 ^ k) y)) ∧ Below w.heap.size w w' := by
  obtain ⟨bx, hbxe⟩ : ∃ bx, bx = bitsN x.natAbs := ⟨_, rfl⟩
  obtain ⟨yb, hbye⟩ : ∃ yb, yb = bitsN y.natAbs := ⟨_, rfl⟩
  obtain ⟨tt, htt⟩ : ∃ tt : Int, tt = (bx : Int) + e := ⟨_, rfl⟩
  obtain ⟨uu, huu⟩ : ∃ uu : Int, uu = (yb : Int) + f := ⟨_, rfl⟩
  obtain ⟨rs, hrs⟩ : ∃ rs, rs = cmpI (x * 2 ^ k) y := ⟨_, rfl⟩
  rw [← hbxe] at hbx
  rw [← hbye] at hby
  rw [← hrs]
  have HA : Hid (ZR w s p m x) := h
  have HB : Hid (ZR w t q n y) := k0
  have HM : Hid (m ≤ 10000 ∧ n ≤ 10000 ∧ 0 < x ∧ 0 < y) := ⟨hm, hn, hx, hy⟩
  have HX : Hid (bx = bitsN x.natAbs ∧ yb = bitsN y.natAbs ∧ rs = cmpI (x * 2 ^ k) y ∧ k ≤ 5000) := ⟨hbxe, hbye, hrs, hk.2⟩
  have HLT : Hid (tt < uu → rs = -1) := fun h => by
    have := (bits_cmp (k := k) hx hy).1 (by rw [← hbxe, ← hbye]; omega)
    rw [hrs]; exact cmp_lt this
  have HGT : Hid (uu < tt → rs = 1) := fun h => by
    have := (bits_cmp (k := k) hx hy).2 (by rw [← hbxe, ← hbye]; omega)
    rw [hrs]; exact cmp_gt this
  have w1 : IntKind.i64.wrap ((bx : Int) + e) = tt := by rw [htt]; simp [IntKind.wrap, IntKind.signed, IntKind.bits]; omega
  have w2 : IntKind.i64.wrap ((yb : Int) + f) = uu := by rw [huu]; simp [IntKind.wrap, IntKind.signed, IntKind.bits]; omega
  have c3 : decide (f < e) = true := decide_eq_true (by omega)
  have w3 : IntKind.i64.wrap (e - f) = (k : Int) := by rw [show e - f = (k : Int) by omega]; simp [IntKind.wrap, IntKind.signed, IntKind.bits]; omega
  have w4 : wrap64 (e - f) = (k : Int) := by rw [show e - f = (k : Int) by omega]; simp only [wrap64]; omega
  clear h k0 hm hn hx hy hk he hf hef hbx hby hbxe hbye htt huu hrs
  go_enter Try.func60, Try.ntmps60
  go_wp2_with fail
  obtain ⟨W0, hW0⟩ : ∃ W0, W0 = ((w.alloc (.cells #[.bool s, .slice p m m] 43)).alloc (.cells #[.bool t, .slice q n n] 43)) := ⟨_, rfl⟩
  have Xm : Hid (Box W0 (w.heap.size) (.bool s) (.slice p m m)) := by rw [hW0]; exact ⟨by go_simp, by go_simp, by go_simp, by go_simp⟩
  have Xl : Hid (Box W0 (w.heap.size + 1) (.bool t) (.slice q n n)) := by rw [hW0]; exact ⟨by go_simp, by go_simp, by go_simp, by go_simp⟩
  have hb0 : Below w.heap.size w W0 := by rw [hW0]; exact below2 w _ _
  rw [← hW0]
  clear hW0
  have hbw : Below w.heap.size w w := Below.refl _ _
  obtain ⟨gl, hgl⟩ : ∃ g, g = w.heap.size + 1 := ⟨_, rfl⟩
  have HGl : Hid (w.heap.size ≤ gl) := by rw [hgl]; show _ ≤ _; omega
  rw [← hgl] at Xl
  try rw [← hgl]
  obtain ⟨gm, hgm⟩ : ∃ g, g = w.heap.size := ⟨_, rfl⟩
  have HGm : Hid (w.heap.size ≤ gm) := by rw [hgm]; show _ ≤ _; omega
  rw [← hgm] at Xm
  try rw [← hgm]
  have HGD : Hid (gm ≠ gl ∧ gl ≠ gm) := by rw [hgm, hgl]; exact ⟨by omega, by omega⟩
  clear hgm hgl
  replace HA : Hid _ := HA.out.below hb0
  replace HB : Hid _ := HB.out.below hb0
  replace hbw := Below.on hbw hb0
  clear hb0
  obtain ⟨W1, hW1⟩ : ∃ W1, W1 = W0.drew := ⟨_, rfl⟩
  have hbd : Below W0.heap.size W0 W1 := by rw [hW1]; exact bDrew1 (Below.refl _ _)
  replace Xm : Hid _ := Xm.out.below hbd
  replace Xl : Hid _ := Xl.out.below hbd
  replace HA : Hid _ := HA.out.below hbd
  replace HB : Hid _ := HB.out.below hbd
  replace hbw := Below.on hbw hbd
  clear hbd
  have HJ : Hid ((fun W' : World => W'.cell? ⟨gm, 0, none⟩ = some (.bool s) ∧ W'.cell? ⟨gm, 1, none⟩ = some (.slice p m m) ∧ W'.cell? ⟨gl, 0, none⟩ = some (.bool t) ∧ W'.cell? ⟨gl, 1, none⟩ = some (.slice q n n)) W1) := ⟨Xm.out.c0, Xm.out.c1, Xl.out.c0, Xl.out.c1⟩
  refine wp_region_J (fun W' => W'.cell? ⟨gm, 0, none⟩ = some (.bool s) ∧ W'.cell? ⟨gm, 1, none⟩ = some (.slice p m m) ∧ W'.cell? ⟨gl, 0, none⟩ = some (.bool t) ∧ W'.cell? ⟨gl, 1, none⟩ = some (.slice q n n)) (by kernel_rfl) ?_
  rw [← hW1]
  clear hW1
  refine wpJ_tq 0 rfl HJ.out ?_
  refine wpJ_tq 2 rfl HJ.out ?_
  refine wpJ_on 1 rfl fun KJ hK => ?_
  go_simp
  refine (rsign04 s HA.out).mono ?_
  rintro e v1 ⟨rfl, hb1⟩
  rw [sgn_pos8 HM.out.2.2.1]
  replace Xm : Hid _ := Xm.out.below hb1
  replace Xl : Hid _ := Xl.out.below hb1
  replace HA : Hid _ := HA.out.below hb1
  replace HB : Hid _ := HB.out.below hb1
  replace hbw := Below.on hbw hb1
  clear hb1
  refine hK _ _ ⟨Xm.out.c0, Xm.out.c1, Xl.out.c0, Xl.out.c1⟩ ?_
  clear hK
  refine wpJ_on 3 rfl fun KJ hK => ?_
  go_simp
  refine (rsign04 t HB.out).mono ?_
  rintro e v2 ⟨rfl, hb2⟩
  rw [sgn_pos8 HM.out.2.2.2]
  replace Xm : Hid _ := Xm.out.below hb2
  replace Xl : Hid _ := Xl.out.below hb2
  replace HA : Hid _ := HA.out.below hb2
  replace HB : Hid _ := HB.out.below hb2
  replace hbw := Below.on hbw hb2
  clear hb2
  clear HJ
  have HJ : Hid ((fun W' : World => W'.cell? ⟨gm, 0, none⟩ = some (.bool s) ∧ W'.cell? ⟨gm, 1, none⟩ = some (.slice p m m) ∧ W'.cell? ⟨gl, 0, none⟩ = some (.bool t) ∧ W'.cell? ⟨gl, 1, none⟩ = some (.slice q n n)) v2) := ⟨Xm.out.c0, Xm.out.c1, Xl.out.c0, Xl.out.c1⟩
  refine hK _ _ HJ.out ?_
  clear hK
  refine wpJ_tq 4 rfl HJ.out ?_
  refine wpJ_tq 5 rfl HJ.out ?_
  refine wpJ_tq 6 rfl HJ.out ?_
  refine wpJ_on 7 rfl fun KJ hK => ?_
  go_simp
  refine (rsign04 s HA.out).mono ?_
  rintro e v3 ⟨rfl, hb3⟩
  rw [sgn_pos8 HM.out.2.2.1]
  replace Xm : Hid _ := Xm.out.below hb3
  replace Xl : Hid _ := Xl.out.below hb3
  replace HA : Hid _ := HA.out.below hb3
  replace HB : Hid _ := HB.out.below hb3
  replace hbw := Below.on hbw hb3
  clear hb3
  clear HJ
  have HJ : Hid ((fun W' : World => W'.cell? ⟨gm, 0, none⟩ = some (.bool s) ∧ W'.cell? ⟨gm, 1, none⟩ = some (.slice p m m) ∧ W'.cell? ⟨gl, 0, none⟩ = some (.bool t) ∧ W'.cell? ⟨gl, 1, none⟩ = some (.slice q n n)) v3) := ⟨Xm.out.c0, Xm.out.c1, Xl.out.c0, Xl.out.c1⟩
  refine hK _ _ HJ.out ?_
  clear hK
  refine wpJ_tq 8 rfl HJ.out ?_
  refine wpJ_tq 9 rfl HJ.out ?_
  refine wpJ_done (by kernel_rfl) ?_ _
  clear HJ
  obtain ⟨cm0, cm1, fm0, fm1⟩ := Xm.out
  have hnem := Xm.out.lt
  obtain ⟨cl0, cl1, fl0, fl1⟩ := Xl.out
  have hnel := Xl.out.lt
  go_wp2_with fail
  clear cm0 cm1 fm0 fm1 hnem
  clear cl0 cl1 fl0 fl1 hnel
  refine (rsign04 s HA.out).mono ?_
  rintro e v4 ⟨rfl, hb4⟩
  rw [sgn_pos8 HM.out.2.2.1]
  replace Xm : Hid _ := Xm.out.below hb4
  replace Xl : Hid _ := Xl.out.below hb4
  replace HA : Hid _ := HA.out.below hb4
  replace HB : Hid _ := HB.out.below hb4
  replace hbw := Below.on hbw hb4
  clear hb4
  obtain ⟨cm0, cm1, fm0, fm1⟩ := Xm.out
  have hnem := Xm.out.lt
  obtain ⟨cl0, cl1, fl0, fl1⟩ := Xl.out
  have hnel := Xl.out.lt
  go_wp2_with fail
  clear cm0 cm1 fm0 fm1 hnem
  clear cl0 cl1 fl0 fl1 hnel
  obtain ⟨W2, hW2⟩ : ∃ W1, W1 = v4.drew := ⟨_, rfl⟩
  have hbd : Below v4.heap.size v4 W2 := by rw [hW2]; exact bDrew1 (Below.refl _ _)
  replace Xm : Hid _ := Xm.out.below hbd
  replace Xl : Hid _ := Xl.out.below hbd
  replace HA : Hid _ := HA.out.below hbd
  replace HB : Hid _ := HB.out.below hbd
  replace hbw := Below.on hbw hbd
  clear hbd
  have HJ : Hid ((fun W' : World => W'.cell? ⟨gm, 1, none⟩ = some (.slice p m m) ∧ W'.cell? ⟨gl, 1, none⟩ = some (.slice q n n)) W2) := ⟨Xm.out.c1, Xl.out.c1⟩
  refine wp_region_J (fun W' => W'.cell? ⟨gm, 1, none⟩ = some (.slice p m m) ∧ W'.cell? ⟨gl, 1, none⟩ = some (.slice q n n)) (by kernel_rfl) ?_
  rw [← hW2]
  clear hW2
  refine wpJ_tq 0 rfl HJ.out ?_
  refine wpJ_tq 1 rfl HJ.out ?_
  refine wpJ_tq 3 rfl HJ.out ?_
  refine wpJ_tq 5 rfl HJ.out ?_
  refine wpJ_tq 6 rfl HJ.out ?_
  go_simp
  refine wpJ_tq 8 rfl HJ.out ?_
  refine wpJ_on 2 rfl fun KJ hK => ?_
  go_simp
  obtain ⟨zs, hA, hN⟩ := HA.out.ex
  refine (rbits_any hA hN (by have := HM.out.1; omega)).mono ?_
  rintro e1 v5 ⟨rfl, hw⟩
  obtain rfl := hw.symm
  clear hw hA hN
  rw [← HX.out.1]
  clear HJ
  have HJ : Hid ((fun W' : World => W'.cell? ⟨gm, 1, none⟩ = some (.slice p m m) ∧ W'.cell? ⟨gl, 1, none⟩ = some (.slice q n n)) W2) := ⟨Xm.out.c1, Xl.out.c1⟩
  refine hK _ _ HJ.out ?_
  clear hK
  refine wpJ_tq 4 rfl HJ.out ?_
  refine wpJ_on 7 rfl fun KJ hK => ?_
  go_simp
  obtain ⟨zs, hA, hN⟩ := HB.out.ex
  refine (rbits_any hA hN (by have := HM.out.2.1; omega)).mono ?_
  rintro e1 v6 ⟨rfl, hw⟩
  obtain rfl := hw.symm
  clear hw hA hN
  rw [← HX.out.2.1]
  clear HJ
  have HJ : Hid ((fun W' : World => W'.cell? ⟨gm, 1, none⟩ = some (.slice p m m) ∧ W'.cell? ⟨gl, 1, none⟩ = some (.slice q n n)) W2) := ⟨Xm.out.c1, Xl.out.c1⟩
  refine hK _ _ HJ.out ?_
  clear hK
  refine wpJ_tq 9 rfl HJ.out ?_
  refine wpJ_tq 10 rfl HJ.out ?_
  refine wpJ_tq 11 rfl HJ.out ?_
  refine wpJ_done (by kernel_rfl) ?_ _
  clear HJ
  rcases Int.lt_trichotomy tt uu with h5 | h5 | h5
  · have c1 : decide (tt < uu) = true := decide_eq_true h5
    have HT : Hid (tt < uu) := h5
    clear h5
    obtain ⟨cm0, cm1, fm0, fm1⟩ := Xm.out
    have hnem := Xm.out.lt
    obtain ⟨cl0, cl1, fl0, fl1⟩ := Xl.out
    have hnel := Xl.out.lt
    go_wp2_with fail
    clear cm0 cm1 fm0 fm1 hnem
    clear cl0 cl1 fl0 fl1 hnel
    go_ret
    rw [HLT.out HT.out]
    exact ⟨rfl, hbw⟩
  · have c1 : decide (tt < uu) = false := decide_eq_false (by rw [h5]; exact Int.lt_irrefl _)
    have c2 : decide (uu < tt) = false := decide_eq_false (by rw [h5]; exact Int.lt_irrefl _)
    clear h5 HLT HGT
    go_wp2_with fail
    obtain ⟨W3, hW3⟩ : ∃ W1, W1 = W2.drew := ⟨_, rfl⟩
    have hbd : Below W2.heap.size W2 W3 := by rw [hW3]; exact bDrew1 (Below.refl _ _)
    replace Xm : Hid _ := Xm.out.below hbd
    replace Xl : Hid _ := Xl.out.below hbd
    replace HA : Hid _ := HA.out.below hbd
    replace HB : Hid _ := HB.out.below hbd
    replace hbw := Below.on hbw hbd
    clear hbd
    have HJ : Hid ((fun W' : World => W'.cell? ⟨gm, 0, none⟩ = some (.bool s) ∧ W'.cell? ⟨gm, 1, none⟩ = some (.slice p m m) ∧ W'.cell? ⟨gl, 0, none⟩ = some (.bool t) ∧ W'.cell? ⟨gl, 1, none⟩ = some (.slice q n n)) W3) := ⟨Xm.out.c0, Xm.out.c1, Xl.out.c0, Xl.out.c1⟩
    refine wp_region_J (fun W' => W'.cell? ⟨gm, 0, none⟩ = some (.bool s) ∧ W'.cell? ⟨gm, 1, none⟩ = some (.slice p m m) ∧ W'.cell? ⟨gl, 0, none⟩ = some (.bool t) ∧ W'.cell? ⟨gl, 1, none⟩ = some (.slice q n n)) (by kernel_rfl) ?_
    rw [← hW3]
    clear hW3
    refine wpJ_tq 0 rfl HJ.out ?_
    refine wpJ_tq 1 rfl HJ.out ?_
    refine wpJ_tq 2 rfl HJ.out ?_
    refine wpJ_tq 3 rfl HJ.out ?_
    refine wpJ_tq 5 rfl HJ.out ?_
    refine wpJ_on 4 rfl fun KJ hK => ?_
    go_simp
    refine (rshl04 s HA.out (by have := HM.out.1; omega) k (.inl (by have := HX.out.2.2.2; omega))).mono ?_
    rintro e v8 ⟨v, rfl, hv, hb8⟩
    obtain ⟨s8, g8, m8, rfl, hg8, hz8, hl8⟩ := hv
    have HN8 : Hid (W3.heap.size ≤ g8) := hg8
    have HB8 : Hid (W3.heap.size ≤ v8.heap.size) := hb8.size
    replace Xm : Hid _ := Xm.out.below hb8
    replace Xl : Hid _ := Xl.out.below hb8
    replace HA : Hid _ := HA.out.below hb8
    replace HB : Hid _ := HB.out.below hb8
    replace hbw := Below.on hbw hb8
    clear hb8
    have Z8 : Hid (ZR v8 s8 (some ⟨g8, 0, none⟩) m8 (x * 2 ^ k)) := hz8
    have HL8 : Hid (m8 ≤ 40000) := hl8
    clear hz8 hl8 hg8
    refine hK _ _ ⟨Xm.out.c0, Xm.out.c1, Xl.out.c0, Xl.out.c1⟩ ?_
    clear hK
    refine wpJ_on 6 rfl fun KJ hK => ?_
    go_simp
    refine (rcmp04 s8 t Z8.out HB.out (by have := HL8.out; omega) (by have := HM.out.2.1; omega)).mono ?_
    rintro e v9 ⟨rfl, hb9⟩
    rw [← HX.out.2.2.1]
    replace Xm : Hid _ := Xm.out.below hb9
    replace Xl : Hid _ := Xl.out.below hb9
    replace HA : Hid _ := HA.out.below hb9
    replace HB : Hid _ := HB.out.below hb9
    replace Z8 : Hid _ := Z8.out.below hb9
    replace hbw := Below.on hbw hb9
    clear hb9
    clear HJ
    have HJ : Hid ((fun W' : World => W'.cell? ⟨gm, 0, none⟩ = some (.bool s) ∧ W'.cell? ⟨gm, 1, none⟩ = some (.slice p m m) ∧ W'.cell? ⟨gl, 0, none⟩ = some (.bool t) ∧ W'.cell? ⟨gl, 1, none⟩ = some (.slice q n n)) v9) := ⟨Xm.out.c0, Xm.out.c1, Xl.out.c0, Xl.out.c1⟩
    refine hK _ _ HJ.out ?_
    clear hK
    refine wpJ_tq 7 rfl HJ.out ?_
    refine wpJ_done (by kernel_rfl) ?_ _
    clear HJ
    go_wp2_with fail
    go_ret
    exact ⟨rfl, hbw⟩
  · have c1 : decide (tt < uu) = false := decide_eq_false (Int.lt_asymm h5)
    have c2 : decide (uu < tt) = true := decide_eq_true h5
    have HT : Hid (uu < tt) := h5
    clear h5
    obtain ⟨cm0, cm1, fm0, fm1⟩ := Xm.out
    have hnem := Xm.out.lt
    obtain ⟨cl0, cl1, fl0, fl1⟩ := Xl.out
    have hnel := Xl.out.lt
    go_wp2_with fail
    clear cm0 cm1 fm0 fm1 hnem
    clear cl0 cl1 fl0 fl1 hnel
    go_ret
    rw [HGT.out HT.out]
    exact ⟨rfl, hbw⟩
end Go.Proofs.Ytpnpdngfjgdgfaa
