import Derived.Test.YtidggnjnlhjhlabGreatDoorJ11
import Derived.Test.YtidggnjnlhjhlabGreatDoorJ9
import Derived.Test.YtidggnjnlhjhlabGreatDoorJ10
import Derived.Test.YtidggnjnlhjhlabGreatDoorJ8
import Derived.Laws.Externs
namespace Go.Proofs.YtidggnjnlhjhlabGreatDoor
open Go.RowKit Go.Shelf
set_option maxRecDepth 20000
set_option maxHeartbeats 0
def cmpI (x y : Int) : Int := if x < y then -1 else if x = y then 0 else 1
theorem cmpI_nat (a b : Nat) : cmpI (a : Int) (b : Int) = cmpN a b := by
  unfold cmpI
  rcases Nat.lt_trichotomy a b with h | h | h
  · rw [if_pos (by omega), cmpN_lt h]
  · rw [if_neg (by omega), if_pos (by omega), cmpN_eq h]
  · rw [if_neg (by omega), if_neg (by omega), cmpN_gt h]
theorem cmpI_neg (a b : Nat) : cmpI (-(a : Int)) (-(b : Int)) = cmpN b a := by
  unfold cmpI
  rcases Nat.lt_trichotomy a b with h | h | h
  · rw [if_neg (by omega), if_neg (by omega), cmpN_gt h]
  · rw [if_neg (by omega), if_pos (by omega), cmpN_eq h.symm]
  · rw [if_pos (by omega), cmpN_lt h]
theorem Num.drewN {w : World} {p : Option Addr} {m c : Nat} {xs : List Nat} {a : Nat} (h : Num w p m c xs a) (r : Nat) : Num (w.drewN r) p m c xs a := ⟨h.at_.drewN r, h.nf, h.le⟩
theorem neg_any {p : Option Addr} {m c : Nat} {xs : List Nat} {a : Nat} {w : World} (s : Bool) (h : Num w p m c xs a) (hs : s = true → 0 < a) :
    Calls Tryz.prog 44 #[ZV s p m c] w fun e w' => ∃ v, e = .returned (.tuple #[v, .int .i64 0]) ∧ AnsZ w.heap.size w' v (iv (!s) a) ∧ Below w.heap.size w w' := by
  have H : Hid (Num w p m c xs a) := h
  have HS : Hid (s = true → 0 < a) := hs
  clear h hs
  go_enter Tryz.func44, Tryz.ntmps44
  go_wp2_with fail
  obtain ⟨W0, hW0⟩ : ∃ W0, W0 = ((w.alloc (.cells #[.bool s, .slice p m c] 31)).alloc (.cells #[.bool false, .slice none 0 0] 31)) := ⟨_, rfl⟩
  have Xx : Hid (Box W0 (w.heap.size) (.bool s) (.slice p m c)) := by rw [hW0]; exact ⟨by go_simp, by go_simp, by go_simp, by go_simp⟩
  have Xr : Hid (Box W0 (w.heap.size + 1) (.bool false) (.slice none 0 0)) := by rw [hW0]; exact ⟨by go_simp, by go_simp, by go_simp, by go_simp⟩
  have hb0 : Below w.heap.size w W0 := by rw [hW0]; exact below2 w _ _
  rw [← hW0]
  clear hW0
  have hbw : Below w.heap.size w w := Below.refl _ _
  obtain ⟨gr, hgr⟩ : ∃ g, g = w.heap.size + 1 := ⟨_, rfl⟩
  have HGr : Hid (w.heap.size ≤ gr) := by rw [hgr]; show _ ≤ _; omega
  rw [← hgr] at Xr
  try rw [← hgr]
  obtain ⟨gx, hgx⟩ : ∃ g, g = w.heap.size := ⟨_, rfl⟩
  have HGx : Hid (w.heap.size ≤ gx) := by rw [hgx]; show _ ≤ _; omega
  rw [← hgx] at Xx
  try rw [← hgx]
  have HGD : Hid (gx ≠ gr ∧ gr ≠ gx) := by rw [hgx, hgr]; exact ⟨by omega, by omega⟩
  clear hgx hgr
  replace H : Hid _ := H.out.below hb0
  replace hbw := Below.on hbw hb0
  clear hb0
  refine (numform_t s H.out HS.out).mono ?_
  rintro e w1 ⟨rfl, hb1⟩
  replace Xx : Hid _ := Xx.out.below hb1
  replace Xr : Hid _ := Xr.out.below hb1
  replace H : Hid _ := H.out.below hb1
  replace hbw := Below.on hbw hb1
  clear hb1
  obtain ⟨cx0, cx1, fx0, fx1⟩ := Xx.out
  have hnex := Xx.out.lt
  go_wp2_with fail
  clear cx0 cx1 fx0 fx1 hnex
  have hrl : gr < w1.heap.size := Xr.out.lt
  have HRL : Hid (gr < w1.heap.size ∧ w.heap.size ≤ w1.heap.size) := ⟨hrl, hbw.size⟩
  clear hrl
  refine (norm_any H.out.at_).mono ?_
  rintro e w2 ⟨ha, hb2⟩
  rw [H.out.nf.val] at ha
  obtain ⟨p2, m2, z2, rfl, ho2, hn2, hm2⟩ := ha.ok H.out.lim
  clear ha
  replace Xx : Hid _ := Xx.out.below hb2
  replace Xr : Hid _ := Xr.out.below hb2
  replace H : Hid _ := H.out.below hb2
  replace hbw := Below.on hbw hb2
  clear hb2
  have HO2 : Hid (Own w1.heap.size w2 p2 m2 z2) := ho2
  have HN2 : Hid (Nf B64 z2 a ∧ m2 ≤ 8192) := ⟨hn2, hm2⟩
  clear ho2 hn2 hm2
  obtain ⟨cx0, cx1, fx0, fx1⟩ := Xx.out
  have hnex := Xx.out.lt
  go_wp2_with fail
  clear cx0 cx1 fx0 fx1 hnex
  refine (signed_any (!s) p2 m2 m2 w2).mono ?_
  rintro e w3 ⟨rfl, hb3⟩
  replace Xx : Hid _ := Xx.out.below hb3
  replace Xr : Hid _ := Xr.out.below hb3
  replace H : Hid _ := H.out.below hb3
  replace HO2 : Hid (Own w1.heap.size w3 p2 m2 z2) := HO2.out.below hb3
  replace hbw := Below.on hbw hb3
  clear hb3
  obtain ⟨b, hb⟩ : ∃ b, b = ((!s) && decide (0 < m2)) := ⟨_, rfl⟩
  rw [← hb]
  have HBB : Hid (b = ((!s) && decide (0 < m2))) := hb
  clear hb
  obtain ⟨cr0, cr1, fr0, fr1⟩ := Xr.out
  have hner := Xr.out.lt
  go_wp2_with fail
  refine bodyPost_ret (v := .tuple #[ZV b p2 m2 m2, .int .i64 0]) (by rw [results_cell_tmp rfl]; go_simp) rfl ⟨_, rfl, ?_, ?_⟩
  · rw [HBB.out]
    exact AnsZ.mk (!s) (own_set2 HO2.out HRL.out.1 HRL.out.2 _ _) HN2.out.1 HN2.out.2
  · exact bSet (bSet hbw _ _ _ HGr.out) _ _ _ HGr.out
theorem nshl_any {p : Option Addr} {m c : Nat} {xs : List Nat} {a : Nat} {w : World} (s : Bool) (h : Num w p m c xs a) (hs : s = true → 0 < a) (n : Nat) (hn : n ≤ 9223372036854775807) :
    Calls Tryz.prog 71 #[ZV s p m c, .int .i64 n] w fun e w' => AnsI w.heap.size w' e (iv s (2 ^ n * a)) ∧ Below w.heap.size w w' := by
  have H : Hid (Num w p m c xs a) := h
  have HS : Hid (s = true → 0 < a) := hs
  clear h hs
  have HN : Hid (n ≤ 9223372036854775807) := hn
  have c0 : decide ((n : Int) < 0) = false := decide_eq_false (by omega)
  clear hn
  go_enter Tryz.func71, Tryz.ntmps71
  go_wp2_with fail
  obtain ⟨W0, hW0⟩ : ∃ W0, W0 = ((w.alloc (.cells #[.bool s, .slice p m c] 31)).alloc (.cells #[.bool false, .slice none 0 0] 31)) := ⟨_, rfl⟩
  have Xx : Hid (Box W0 (w.heap.size) (.bool s) (.slice p m c)) := by rw [hW0]; exact ⟨by go_simp, by go_simp, by go_simp, by go_simp⟩
  have Xr : Hid (Box W0 (w.heap.size + 1) (.bool false) (.slice none 0 0)) := by rw [hW0]; exact ⟨by go_simp, by go_simp, by go_simp, by go_simp⟩
  have hb0 : Below w.heap.size w W0 := by rw [hW0]; exact below2 w _ _
  rw [← hW0]
  clear hW0
  have hbw : Below w.heap.size w w := Below.refl _ _
  obtain ⟨gr, hgr⟩ : ∃ g, g = w.heap.size + 1 := ⟨_, rfl⟩
  have HGr : Hid (w.heap.size ≤ gr) := by rw [hgr]; show _ ≤ _; omega
  rw [← hgr] at Xr
  try rw [← hgr]
  obtain ⟨gx, hgx⟩ : ∃ g, g = w.heap.size := ⟨_, rfl⟩
  have HGx : Hid (w.heap.size ≤ gx) := by rw [hgx]; show _ ≤ _; omega
  rw [← hgx] at Xx
  try rw [← hgx]
  have HGD : Hid (gx ≠ gr ∧ gr ≠ gx) := by rw [hgx, hgr]; exact ⟨by omega, by omega⟩
  clear hgx hgr
  replace H : Hid _ := H.out.below hb0
  replace hbw := Below.on hbw hb0
  clear hb0
  refine (numform_t s H.out HS.out).mono ?_
  rintro e w1 ⟨rfl, hb1⟩
  replace Xx : Hid _ := Xx.out.below hb1
  replace Xr : Hid _ := Xr.out.below hb1
  replace H : Hid _ := H.out.below hb1
  replace hbw := Below.on hbw hb1
  clear hb1
  clear c0
  obtain ⟨cx0, cx1, fx0, fx1⟩ := Xx.out
  have hnex := Xx.out.lt
  go_wp2_with fail
  clear cx0 cx1 fx0 fx1 hnex
  have hrl : gr < w1.heap.size := Xr.out.lt
  have HRL : Hid (gr < w1.heap.size ∧ w.heap.size ≤ w1.heap.size) := ⟨hrl, hbw.size⟩
  clear hrl
  obtain ⟨v, hv⟩ : ∃ v, v = 2 ^ n * a := ⟨_, rfl⟩
  have HV : Hid (v = 2 ^ n * a) := hv
  refine (shl_nf H.out.at_ H.out.nf H.out.le n HN.out).mono ?_
  rintro e w2 ⟨ha, hb2⟩
  rw [← hv] at ha
  clear hv
  replace Xx : Hid _ := Xx.out.below hb2
  replace Xr : Hid _ := Xr.out.below hb2
  replace H : Hid _ := H.out.below hb2
  replace hbw := Below.on hbw hb2
  clear hb2
  rcases ha with ⟨hl, p2, m2, z2, rfl, ho2, hn2, hm2⟩ | ⟨hl, rfl⟩
  · have HL : Hid (v < LIM) := hl
    clear hl
    have HO2 : Hid (Own w1.heap.size w2 p2 m2 z2) := ho2
    have HN2 : Hid (Nf B64 z2 v ∧ m2 ≤ 8192) := ⟨hn2, hm2⟩
    clear ho2 hn2 hm2
    obtain ⟨cx0, cx1, fx0, fx1⟩ := Xx.out
    have hnex := Xx.out.lt
    go_wp2_with fail
    clear cx0 cx1 fx0 fx1 hnex
    refine (signed_any s p2 m2 m2 w2).mono ?_
    rintro e w3 ⟨rfl, hb3⟩
    replace Xx : Hid _ := Xx.out.below hb3
    replace Xr : Hid _ := Xr.out.below hb3
    replace H : Hid _ := H.out.below hb3
    replace HO2 : Hid (Own w1.heap.size w3 p2 m2 z2) := HO2.out.below hb3
    replace hbw := Below.on hbw hb3
    clear hb3
    obtain ⟨b, hb⟩ : ∃ b, b = (s && decide (0 < m2)) := ⟨_, rfl⟩
    rw [← hb]
    have HBB : Hid (b = (s && decide (0 < m2))) := hb
    clear hb
    obtain ⟨cr0, cr1, fr0, fr1⟩ := Xr.out
    have hner := Xr.out.lt
    go_wp2_with fail
    refine bodyPost_ret (v := .tuple #[ZV b p2 m2 m2, .int .i64 0]) (by rw [results_cell_tmp rfl]; go_simp) rfl ⟨.inl ⟨by rw [iv_natAbs, ← HV.out]; exact HL.out, p2, m2, z2, ?_, ?_, ?_, HN2.out.2⟩, ?_⟩
    · rw [HBB.out, iv_lt, ← HV.out, HN2.out.1.lenpos HO2.out.len]
    · exact own_set2 HO2.out HRL.out.1 HRL.out.2 _ _
    · rw [iv_natAbs, ← HV.out]; exact HN2.out.1
    · exact bSet (bSet hbw _ _ _ HGr.out) _ _ _ HGr.out
  · have HL : Hid (LIM ≤ v) := hl
    clear hl
    obtain ⟨cx0, cx1, fx0, fx1⟩ := Xx.out
    have hnex := Xx.out.lt
    go_wp2_with fail
    clear cx0 cx1 fx0 fx1 hnex
    refine (signed_any s none 0 0 w2).mono ?_
    rintro e w3 ⟨rfl, hb3⟩
    replace Xx : Hid _ := Xx.out.below hb3
    replace Xr : Hid _ := Xr.out.below hb3
    replace H : Hid _ := H.out.below hb3
    replace hbw := Below.on hbw hb3
    clear hb3
    rw [show (s && decide (0 < 0)) = false from by simp]
    obtain ⟨cr0, cr1, fr0, fr1⟩ := Xr.out
    have hner := Xr.out.lt
    go_wp2_with fail
    refine bodyPost_ret (v := .tuple #[ZV false none 0 0, .int .i64 5]) (by rw [results_cell_tmp rfl]; go_simp) rfl ⟨.inr ⟨by rw [iv_natAbs, ← HV.out]; exact HL.out, rfl⟩, ?_⟩
    exact bSet (bSet hbw _ _ _ HGr.out) _ _ _ HGr.out
theorem ncmp_any {p q : Option Addr} {m c n d : Nat} {xs ys : List Nat} {a b : Nat} {w : World} (s t : Bool) (h : Num w p m c xs a) (hs : s = true → 0 < a) (k : Num w q n d ys b) (ht : t = true → 0 < b) :
    Calls Tryz.prog 61 #[ZV s p m c, ZV t q n d] w fun e w' => e = .returned (.tuple #[.int .i64 (cmpI (iv s a) (iv t b)), .int .i64 0]) ∧ Below w.heap.size w w' := by
  have H : Hid (Num w p m c xs a) := h
  have HS : Hid (s = true → 0 < a) := hs
  clear h hs
  have K : Hid (Num w q n d ys b) := k
  have HT : Hid (t = true → 0 < b) := ht
  clear k ht
  go_enter Tryz.func61, Tryz.ntmps61
  go_wp2_with fail
  obtain ⟨W0, hW0⟩ : ∃ W0, W0 = ((w.alloc (.cells #[.bool s, .slice p m c] 31)).alloc (.cells #[.bool t, .slice q n d] 31)) := ⟨_, rfl⟩
  have Xx : Hid (Box W0 (w.heap.size) (.bool s) (.slice p m c)) := by rw [hW0]; exact ⟨by go_simp, by go_simp, by go_simp, by go_simp⟩
  have Xy : Hid (Box W0 (w.heap.size + 1) (.bool t) (.slice q n d)) := by rw [hW0]; exact ⟨by go_simp, by go_simp, by go_simp, by go_simp⟩
  have hb0 : Below w.heap.size w W0 := by rw [hW0]; exact below2 w _ _
  rw [← hW0]
  clear hW0
  have hbw : Below w.heap.size w w := Below.refl _ _
  obtain ⟨gy, hgy⟩ : ∃ g, g = w.heap.size + 1 := ⟨_, rfl⟩
  have HGy : Hid (w.heap.size ≤ gy) := by rw [hgy]; show _ ≤ _; omega
  rw [← hgy] at Xy
  try rw [← hgy]
  obtain ⟨gx, hgx⟩ : ∃ g, g = w.heap.size := ⟨_, rfl⟩
  have HGx : Hid (w.heap.size ≤ gx) := by rw [hgx]; show _ ≤ _; omega
  rw [← hgx] at Xx
  try rw [← hgx]
  have HGD : Hid (gx ≠ gy ∧ gy ≠ gx) := by rw [hgx, hgy]; exact ⟨by omega, by omega⟩
  clear hgx hgy
  replace H : Hid _ := H.out.below hb0
  replace K : Hid _ := K.out.below hb0
  replace hbw := Below.on hbw hb0
  clear hb0
  refine (numform_t s H.out HS.out).mono ?_
  rintro e w1 ⟨rfl, hb1⟩
  replace Xx : Hid _ := Xx.out.below hb1
  replace Xy : Hid _ := Xy.out.below hb1
  replace H : Hid _ := H.out.below hb1
  replace K : Hid _ := K.out.below hb1
  replace hbw := Below.on hbw hb1
  clear hb1
  obtain ⟨cy0, cy1, fy0, fy1⟩ := Xy.out
  have hney := Xy.out.lt
  go_wp2_with fail
  clear cy0 cy1 fy0 fy1 hney
  refine (numform_t t K.out HT.out).mono ?_
  rintro e w2 ⟨rfl, hb2⟩
  replace Xx : Hid _ := Xx.out.below hb2
  replace Xy : Hid _ := Xy.out.below hb2
  replace H : Hid _ := H.out.below hb2
  replace K : Hid _ := K.out.below hb2
  replace hbw := Below.on hbw hb2
  clear hb2
  cases s <;> cases t
  · obtain ⟨cx0, cx1, fx0, fx1⟩ := Xx.out
    have hnex : gx < w2.heap.size := World.block_lt_of_cell? w2 _ cx0
    obtain ⟨cy0, cy1, fy0, fy1⟩ := Xy.out
    have hney := Xy.out.lt
    go_wp2_with fail
    clear cx0 cx1 fx0 fx1 hnex
    clear cy0 cy1 fy0 fy1 hney
    refine (cmp_wN H.out.at_ K.out.at_ H.out.nf K.out.nf).mono ?_
    rintro e w3 ⟨rfl, r, rfl⟩
    have hbr := bDrewN hbw r
    go_wp2_with fail
    go_ret2
    refine ⟨?_, hbr⟩
    show Ending.returned (.tuple #[.int .i64 (cmpN a b), .int .i64 0]) = _
    rw [iv_f, iv_f, cmpI_nat]
  · obtain ⟨cx0, cx1, fx0, fx1⟩ := Xx.out
    have hnex : gx < w2.heap.size := World.block_lt_of_cell? w2 _ cx0
    obtain ⟨cy0, cy1, fy0, fy1⟩ := Xy.out
    have hney := Xy.out.lt
    go_wp2_with fail
    clear cx0 cx1 fx0 fx1 hnex
    clear cy0 cy1 fy0 fy1 hney
    go_ret2
    refine ⟨?_, hbw⟩
    show Ending.returned (.tuple #[.int .i64 (1), .int .i64 0]) = _
    have := HT.out (by simp)
    rw [iv_f, iv_t, show cmpI (a : Int) (-(b : Int)) = 1 from by unfold cmpI; rw [if_neg (by omega), if_neg (by omega)]]
  · obtain ⟨cx0, cx1, fx0, fx1⟩ := Xx.out
    have hnex : gx < w2.heap.size := World.block_lt_of_cell? w2 _ cx0
    obtain ⟨cy0, cy1, fy0, fy1⟩ := Xy.out
    have hney := Xy.out.lt
    go_wp2_with fail
    clear cx0 cx1 fx0 fx1 hnex
    clear cy0 cy1 fy0 fy1 hney
    go_ret2
    refine ⟨?_, hbw⟩
    show Ending.returned (.tuple #[.int .i64 (-1), .int .i64 0]) = _
    have := HS.out (by simp)
    rw [iv_t, iv_f, show cmpI (-(a : Int)) (b : Int) = -1 from by unfold cmpI; rw [if_pos (by omega)]]
  · obtain ⟨cx0, cx1, fx0, fx1⟩ := Xx.out
    have hnex : gx < w2.heap.size := World.block_lt_of_cell? w2 _ cx0
    obtain ⟨cy0, cy1, fy0, fy1⟩ := Xy.out
    have hney := Xy.out.lt
    go_wp2_with fail
    clear cx0 cx1 fx0 fx1 hnex
    clear cy0 cy1 fy0 fy1 hney
    refine (cmp_wN K.out.at_ H.out.at_ K.out.nf H.out.nf).mono ?_
    rintro e w3 ⟨rfl, r, rfl⟩
    have hbr := bDrewN hbw r
    go_wp2_with fail
    go_ret2
    refine ⟨?_, hbr⟩
    show Ending.returned (.tuple #[.int .i64 (cmpN b a), .int .i64 0]) = _
    rw [iv_t, iv_t, cmpI_neg]
structure ZN (w : World) (s : Bool) (p : Option Addr) (m c : Nat) (z : Int) : Prop where
  ex : ∃ xs, Num w p m c xs z.natAbs
  sg : s = decide (z < 0)
theorem ZN.below {w w' : World} {s : Bool} {p : Option Addr} {m c : Nat} {z : Int} (h : ZN w s p m c z) (hb : Below w.heap.size w w') : ZN w' s p m c z := by
  obtain ⟨xs, hx⟩ := h.ex
  exact ⟨⟨xs, hx.below hb⟩, h.sg⟩
theorem ZN.iv {w : World} {s : Bool} {p : Option Addr} {m c : Nat} {z : Int} (h : ZN w s p m c z) : iv s z.natAbs = z := by rw [h.sg]; exact iv_abs z
theorem ZN.pos {w : World} {s : Bool} {p : Option Addr} {m c : Nat} {z : Int} (h : ZN w s p m c z) : s = true → 0 < z.natAbs := by rw [h.sg]; exact sgn_pos z
theorem ZN.lim {w : World} {s : Bool} {p : Option Addr} {m c : Nat} {z : Int} (h : ZN w s p m c z) : z.natAbs < LIM := by
  obtain ⟨xs, hx⟩ := h.ex
  exact hx.lim
theorem ZN.le {w : World} {s : Bool} {p : Option Addr} {m c : Nat} {z : Int} (h : ZN w s p m c z) : m ≤ 8192 := by
  obtain ⟨xs, hx⟩ := h.ex
  exact hx.le
theorem ZN.cast {w : World} {s : Bool} {p : Option Addr} {m c : Nat} {z z' : Int} (h : ZN w s p m c z) (e : z = z') : ZN w s p m c z' := e ▸ h
theorem ZN.of {w : World} {p : Option Addr} {m c : Nat} {xs : List Nat} {a : Nat} {t : Bool} (h : Num w p m c xs a) (ht : t = true → 0 < a) : ZN w t p m c (Go.Proofs.YtidggnjnlhjhlabGreatDoor.iv t a) :=
  ⟨⟨xs, by rw [iv_natAbs]; exact h⟩, by
    cases t
    · rw [iv_f]; exact (decide_eq_false (Int.not_lt.2 (Int.natCast_nonneg _))).symm
    · rw [iv_t]; have := ht rfl; exact (decide_eq_true (by omega)).symm⟩
def Got (w' : World) (e : Ending) (z : Int) : Prop := ∃ s p m, e = .returned (.tuple #[ZV s p m m, .int .i64 0]) ∧ ZN w' s p m m z
theorem AnsZ.zn {B : Nat} {w' : World} {v : Value} {z : Int} (h : AnsZ B w' v z) : ∃ s p m, v = ZV s p m m ∧ ZN w' s p m m z := by
  obtain ⟨p, m, zs, rfl, ho, hn, hm⟩ := h
  exact ⟨_, p, m, rfl, ⟨zs, Num.of ho hn hm⟩, rfl⟩
theorem AnsI.zn {B : Nat} {w' : World} {e : Ending} {z : Int} (h : AnsI B w' e z) : (z.natAbs < LIM ∧ Got w' e z) ∨ (LIM ≤ z.natAbs ∧ e = .returned (.tuple #[ZV false none 0 0, .int .i64 5])) := by
  rcases h with ⟨hl, p, m, zs, rfl, ho, hn, hm⟩ | ⟨hl, rfl⟩
  · exact .inl ⟨hl, _, p, m, rfl, ⟨zs, Num.of ho hn hm⟩, rfl⟩
  · exact .inr ⟨hl, rfl⟩
theorem AnsI.got {B : Nat} {w' : World} {e : Ending} {z : Int} (h : AnsI B w' e z) (hz : z.natAbs < LIM) : Got w' e z := by
  rcases h.zn with ⟨_, k⟩ | ⟨k, _⟩
  · exact k
  · omega
variable {w : World} {s t : Bool} {p q : Option Addr} {m c n d : Nat} {x y : Int}
theorem zadd (h : ZN w s p m c x) (k : ZN w t q n d y) : Calls Tryz.prog 51 #[ZV s p m c, ZV t q n d] w fun e w' => AnsI w.heap.size w' e (x + y) ∧ Below w.heap.size w w' := by
  obtain ⟨xs, hx⟩ := h.ex
  obtain ⟨ys, hy⟩ := k.ex
  have := nadd_any s t hx hy h.pos k.pos
  rwa [h.iv, k.iv] at this
theorem zmul (h : ZN w s p m c x) (k : ZN w t q n d y) : Calls Tryz.prog 52 #[ZV s p m c, ZV t q n d] w fun e w' => AnsI w.heap.size w' e (x * y) ∧ Below w.heap.size w w' := by
  obtain ⟨xs, hx⟩ := h.ex
  obtain ⟨ys, hy⟩ := k.ex
  have := nmul_any s t hx hy h.pos k.pos
  rwa [h.iv, k.iv] at this
theorem zcmp (h : ZN w s p m c x) (k : ZN w t q n d y) : Calls Tryz.prog 61 #[ZV s p m c, ZV t q n d] w fun e w' => e = .returned (.tuple #[.int .i64 (cmpI x y), .int .i64 0]) ∧ Below w.heap.size w w' := by
  obtain ⟨xs, hx⟩ := h.ex
  obtain ⟨ys, hy⟩ := k.ex
  have := ncmp_any s t hx h.pos hy k.pos
  rwa [h.iv, k.iv] at this
theorem zshl (h : ZN w s p m c x) (k : Nat) (hk : k ≤ 9223372036854775807) : Calls Tryz.prog 71 #[ZV s p m c, .int .i64 k] w fun e w' => AnsI w.heap.size w' e (x * 2 ^ k) ∧ Below w.heap.size w w' := by
  obtain ⟨xs, hx⟩ := h.ex
  have := nshl_any s hx h.pos k hk
  rwa [show Go.Proofs.YtidggnjnlhjhlabGreatDoor.iv s (2 ^ k * x.natAbs) = x * 2 ^ k from by
    have e := h.iv
    rw [show Go.Proofs.YtidggnjnlhjhlabGreatDoor.iv s (2 ^ k * x.natAbs) = Go.Proofs.YtidggnjnlhjhlabGreatDoor.iv s x.natAbs * 2 ^ k from by cases s <;> simp [Go.Proofs.YtidggnjnlhjhlabGreatDoor.iv, Int.mul_comm, Int.neg_mul], e]] at this
theorem zsign (h : ZN w s p m c x) : Calls Tryz.prog 48 #[ZV s p m c] w fun e w' => e = .returned (.int .i64 (sgnI x)) ∧ Below w.heap.size w w' := by
  obtain ⟨xs, hx⟩ := h.ex
  have := sign_any s hx
  rwa [h.iv] at this
theorem zform (h : ZN w s p m c x) : Calls Tryz.prog 62 #[ZV s p m c] w fun e w' => e = .returned (.bool true) ∧ Below w.heap.size w w' := by
  obtain ⟨xs, hx⟩ := h.ex
  exact numform_t s hx h.pos
def NewAt (B : Nat) (w : World) (p : Option Addr) (m c : Nat) (us : List Nat) : Prop := At w p m c us ∧ (m = 0 ∨ ∃ g, p = some ⟨g, 0, none⟩ ∧ B ≤ g)
theorem NewAt.below {B : Nat} {w w' : World} {p : Option Addr} {m c : Nat} {us : List Nat} (h : NewAt B w p m c us) (hb : Below w.heap.size w w') : NewAt B w' p m c us := ⟨h.1.below hb, h.2⟩
theorem NewAt.mono {B B' : Nat} {w : World} {p : Option Addr} {m c : Nat} {us : List Nat} (h : NewAt B w p m c us) (hB : B' ≤ B) : NewAt B' w p m c us :=
  ⟨h.1, h.2.imp id (fun ⟨g, e, k⟩ => ⟨g, e, Nat.le_trans hB k⟩)⟩
theorem NewAt.set {B : Nat} {w : World} {p : Option Addr} {m c : Nat} {us : List Nat} (h : NewAt B w p m c us) {r : Nat} (hr : r < B) (o : Nat) (v : Value) : NewAt B (w.setCell ⟨r, o, none⟩ v) p m c us := by
  refine ⟨?_, h.2⟩
  rcases h.2 with h0 | ⟨g, rfl, hg⟩
  · subst h0
    obtain rfl : us = [] := List.eq_nil_of_length_eq_zero h.1.len
    exact At.empty _ _ _ h.1.big
  · exact h.1.setOther _ _ _ (by omega)
def DocZ (z : Int) (s : Bool) (us : List Nat) (er : Int) : Prop :=
  (z.natAbs < LIM ∧ s = decide (z < 0) ∧ Nf B64 us z.natAbs ∧ er = 0) ∨ (LIM ≤ z.natAbs ∧ s = false ∧ us = [] ∧ er = 5)
theorem DocZ.inj {z : Int} {s s' : Bool} {us us' : List Nat} {er er' : Int} (h : DocZ z s us er) (k : DocZ z s' us' er') : s = s' ∧ us = us' ∧ er = er' := by
  rcases h with ⟨h0, rfl, h1, rfl⟩ | ⟨h0, rfl, rfl, rfl⟩ <;> rcases k with ⟨k0, rfl, k1, rfl⟩ | ⟨k0, rfl, rfl, rfl⟩
  · exact ⟨rfl, h1.inj B64_one k1, rfl⟩
  · omega
  · omega
  · exact ⟨rfl, rfl, rfl⟩
def formZ (s : Bool) (xs : List Nat) : Bool := formB xs && !(s && decide (xs = []))
def OneZ (r : Int → Int) (sx : Bool) (xs : List Nat) (s : Bool) (us : List Nat) (er : Int) : Prop :=
  (formZ sx xs = false ∧ s = false ∧ us = [] ∧ er = 2) ∨ (formZ sx xs = true ∧ DocZ (r (iv sx (valB B64 xs))) s us er)
def TwoZ (r : Int → Int → Int) (sx : Bool) (xs : List Nat) (sy : Bool) (ys : List Nat) (s : Bool) (us : List Nat) (er : Int) : Prop :=
  ((formZ sx xs && formZ sy ys) = false ∧ s = false ∧ us = [] ∧ er = 2) ∨ ((formZ sx xs && formZ sy ys) = true ∧ DocZ (r (iv sx (valB B64 xs)) (iv sy (valB B64 ys))) s us er)
theorem OneZ.inj {r : Int → Int} {sx : Bool} {xs : List Nat} {s s' : Bool} {us us' : List Nat} {er er' : Int} (h : OneZ r sx xs s us er) (k : OneZ r sx xs s' us' er') : s = s' ∧ us = us' ∧ er = er' := by
  rcases h with ⟨h0, rfl, rfl, rfl⟩ | ⟨h0, h1⟩ <;> rcases k with ⟨k0, rfl, rfl, rfl⟩ | ⟨k0, k1⟩
  · exact ⟨rfl, rfl, rfl⟩
  · rw [h0] at k0; cases k0
  · rw [h0] at k0; cases k0
  · exact h1.inj k1
theorem TwoZ.inj {r : Int → Int → Int} {sx sy : Bool} {xs ys : List Nat} {s s' : Bool} {us us' : List Nat} {er er' : Int} (h : TwoZ r sx xs sy ys s us er) (k : TwoZ r sx xs sy ys s' us' er') : s = s' ∧ us = us' ∧ er = er' := by
  rcases h with ⟨h0, rfl, rfl, rfl⟩ | ⟨h0, h1⟩ <;> rcases k with ⟨k0, rfl, rfl, rfl⟩ | ⟨k0, k1⟩
  · exact ⟨rfl, rfl, rfl⟩
  · rw [h0] at k0; cases k0
  · rw [h0] at k0; cases k0
  · exact h1.inj k1
end Go.Proofs.YtidggnjnlhjhlabGreatDoor
namespace Go.Proofs.YtidggnjnlhjhlabGreatDoor
open Go.RowKit
set_option maxRecDepth 20000
set_option maxHeartbeats 0
structure Pm64 (V : Int) (r : Nat) : Prop where
  fin : Fin64 r
  size : r % 9223372036854775808 = rg 1074 V.natAbs
  sign : V ≠ 0 → (9223372036854775808 ≤ r ↔ V < 0)
  rn : ∀ c, c = 1074 → Rn 53 V (ux r * ((2 ^ c : Nat) : Int))
theorem FlR.big {x y r : Nat} (h : FlR .mul x y r) (hx : Fin64 x) (hy : Fin64 y) (h1 : 1126 ≤ (ux x * ux y).natAbs.log2) (h2 : (ux x * ux y).natAbs.log2 ≤ 3169) : Pm64 (ux x * ux y) r := by
  have hr := fmul_any hx hy
  rw [← Int.natAbs_mul] at hr
  have hV0 : ux x * ux y ≠ 0 := fun h0 => by rw [h0] at h1; simp at h1
  rw [mul_sign hV0] at hr
  have hr := h.some _ hr
  generalize ux x * ux y = V at *
  obtain ⟨N, hN⟩ : ∃ N, N = V.natAbs := ⟨_, rfl⟩
  have hN0 : N ≠ 0 := by omega
  rw [← hN] at h1 h2 hr
  have hl : 2 ^ N.log2 ≤ N := Nat.log2_self_le hN0
  have hu : N < 2 ^ (N.log2 + 1) := Nat.lt_log2_self
  obtain ⟨L, hL⟩ : ∃ L, L = N.log2 - 52 := ⟨_, rfl⟩
  have hk1 : rne N L ≤ 9007199254740992 := by
    refine rne_le N L _ (Nat.le_of_lt (Nat.lt_of_lt_of_le hu ?_))
    rw [show 9007199254740992 = 2 ^ 53 by decide, ← Nat.pow_add]
    exact p2le (by omega)
  have hk2 : 4503599627370496 ≤ rne N L := by
    refine le_rne N L _ (Nat.le_trans ?_ hl)
    rw [show 4503599627370496 = 2 ^ 52 by decide, ← Nat.pow_add]
    exact p2le (by omega)
  have hg : rgc 1074 N = (L - 1074) * 4503599627370496 + rne N L := by
    unfold rgc
    rw [if_neg hN0, ← hL, Nat.max_eq_left (by omega), Nat.min_eq_left (by omega)]
  have hg2 : rg 1074 N = rgc 1074 N := by
    rw [hg]; unfold rg
    rw [if_neg hN0, ← hL, Nat.min_eq_left (by omega)]
  have hlt : rgc 1074 N < 9218868437227405312 := by rw [hg]; omega
  obtain ⟨wa, wb, wc⟩ := word_facts (decide (V < 0)) hlt
  rw [← hr] at wa wb wc
  refine ⟨⟨wa, by rw [wb]; exact hlt⟩, by rw [wb, ← hN, hg2], fun _ => ?_, fun c hc => ?_⟩
  · have e4 : Ieee.double.signWeight = 9223372036854775808 := by decide
    rw [hr]
    unfold Ieee.Format.word
    rw [e4]
    by_cases h2 : V < 0
    · simp [h2]
    · simp [h2]; omega
  · have hvs : vs 4503599627370496 (rgc 1074 N) * 2 ^ c = rne N L * 2 ^ L := by
      rw [hg, vs_at _ _ (.inr hk2) hk1, Nat.mul_assoc, ← Nat.pow_add, show L - 1074 + c = L by omega]
    have hR : Rn 53 (N : Int) ((rne N L * 2 ^ L : Nat) : Int) := by
      refine rn_mk (L := L) (by omega) ⟨rne N L, by rw [Int.natCast_mul, Int.mul_comm]⟩ ?_ (rne_err N L) (.inr ?_)
      · rw [Int.natAbs_natCast, Nat.pow_add]
        exact Nat.mul_le_mul_right _ hk1
      · rw [Int.natAbs_natCast]
        exact Nat.le_trans (p2le (by omega)) hl
    rw [wc]
    by_cases h3 : V < 0
    · rw [decide_eq_true h3, if_pos rfl, Int.neg_mul, ← Int.natCast_mul, hvs]
      have := hR.neg
      rw [hN, show -((V.natAbs : Nat) : Int) = V by omega, ← hN] at this
      exact this
    · rw [decide_eq_false h3]
      simp only [Bool.false_eq_true, if_false]
      rw [← Int.natCast_mul, hvs]
      rw [show (N : Int) = V by omega] at hR
      exact hR
theorem ux_split {c : Nat} (hc : c = 1074) : ux 4728779608772575232 = 134217729 * ((2 ^ c : Nat) : Int) := by
  have h1 : 4728779608772575232 / 4503599627370496 - 1 = c - 25 := by rw [hc]
  have h2 : 4728779608772575232 - (c - 25) * 4503599627370496 = 134217729 * 33554432 := by rw [hc]
  have h3 : 2 ^ c = 33554432 * 2 ^ (c - 25) := by
    rw [show (33554432 : Nat) = 2 ^ 25 by decide, ← Nat.pow_add]
    congr 1
    omega
  rw [ux_eq, if_neg (by decide)]
  unfold vs
  rw [show 4728779608772575232 % 9223372036854775808 = 4728779608772575232 by decide, h1, h2, h3, Nat.mul_assoc, Int.natCast_mul]
  rfl
theorem fin_split : Fin64 4728779608772575232 := ⟨by decide, by decide⟩
structure Hlv (a h l : Nat) (i : Nat) : Prop where
  lo : 2 ^ (52 + i) ≤ (ux a * ((2 ^ 53 : Nat) : Int)).natAbs
  hi : (ux a * ((2 ^ 53 : Nat) : Int)).natAbs < 2 ^ (53 + i)
  dh : ((2 ^ (27 + i) : Nat) : Int) ∣ ux h * ((2 ^ 53 : Nat) : Int)
  da : ((2 ^ i : Nat) : Int) ∣ ux a * ((2 ^ 53 : Nat) : Int)
  ll : (ux l * ((2 ^ 53 : Nat) : Int)).natAbs ≤ 2 ^ (26 + i)
  lh : (ux h * ((2 ^ 53 : Nat) : Int)).natAbs ≤ 2 ^ (53 + i)
  eq : ux l = ux a - ux h
  sm : 67108864 * (ux l).natAbs < (ux a).natAbs
theorem SPR.ok {a h l : Nat} (k : SPR a h l) (ha : a < 18446744073709551616) (ka : a % 9223372036854775808 ≤ 9088264048033660928) :
    Fin64 h ∧ Fin64 l ∧ ((ux a = 0 ∧ ux h = 0 ∧ ux l = 0) ∨ ∃ i, Hlv a h l i) := by
  obtain ⟨c, d, F1, F2, F3, F4⟩ := k
  have fa : Fin64 a := ⟨ha, by omega⟩
  obtain ⟨K, hK⟩ : ∃ K, K = 2044 := ⟨_, rfl⟩
  obtain ⟨J, hJ⟩ : ∃ J, J = 2017 := ⟨_, rfl⟩
  have ma : (ux a).natAbs ≤ 2 ^ (52 + J) := ux_pow (by omega)
  obtain ⟨M, hM⟩ : ∃ M, M = 2 ^ (52 + K) := ⟨_, rfl⟩
  obtain ⟨m3, m2⟩ := max_big hK hM
  have hMJ : M = 134217728 * 2 ^ (52 + J) := by
    rw [hM, show (134217728 : Nat) = 2 ^ 27 by decide, ← Nat.pow_add]
    congr 1
    omega
  have m4 : 2 ^ (54 + K) = 4 * M := by rw [show 54 + K = 53 + K + 1 by omega, p2succ, m2]; omega
  obtain ⟨q, hq⟩ : ∃ q, q = 1074 := ⟨_, rfl⟩
  have S1 := F1.mul fin_split fa (X := 134217729 * ux a) hq (by rw [ux_split hq, Int.mul_assoc, Int.mul_comm _ (ux a), ← Int.mul_assoc]) (by omega)
  have bc := S1.rn.bound (K := 53 + K) (by rw [m2]; omega)
  rw [m2] at bc
  have S2 := F2.sub S1.fin fa (by omega)
  have bd := S2.rn.bound (K := 54 + K) (by rw [m4]; omega)
  rw [m4] at bd
  have e2 := S2.rn.near1 (M := M) (by omega)
  have S3 := F3.sub S1.fin S2.fin (by omega)
  have bh := S3.rn.bound (K := 53 + K) (by rw [m2]; omega)
  rw [m2] at bh
  have S4 := F4.sub fa S3.fin (by omega)
  refine ⟨S3.fin, S4.fin, ?_⟩
  by_cases h0 : ux a = 0
  · have z1 := S1.rn
    rw [h0, Int.mul_zero] at z1
    have z1 := z1.ex (Fl.zero 53)
    have z2 := S2.rn
    rw [z1, h0, Int.sub_zero] at z2
    have z2 := z2.ex (Fl.zero 53)
    have z3 := S3.rn
    rw [z1, z2, Int.sub_zero] at z3
    have z3 := z3.ex (Fl.zero 53)
    have z4 := S4.rn
    rw [h0, z3, Int.sub_zero] at z4
    exact .inl ⟨h0, z3, z4.ex (Fl.zero 53)⟩
  · refine .inr ?_
    have hA : 2 ^ 53 ≤ (ux a * ((2 ^ 53 : Nat) : Int)).natAbs := by
      rw [abs_mul2]
      have := Nat.mul_le_mul_right (2 ^ 53) (show 1 ≤ (ux a).natAbs by omega)
      omega
    obtain ⟨i, i1, i2⟩ := place (show 1 ≤ 53 by omega) (ux a * ((2 ^ 53 : Nat) : Int))
    have i2 : 2 ^ (52 + i) ≤ (ux a * ((2 ^ 53 : Nat) : Int)).natAbs := by
      rcases i2 with h | h
      · subst h; exact Nat.le_trans (p2le (by omega)) hA
      · exact h
    have r1 := S1.rn.scale (by omega) 53
    have r2 := S2.rn.scale (by omega) 53
    have r3 := S3.rn.scale (by omega) 53
    have r4 := S4.rn.scale (by omega) 53
    rw [Int.mul_assoc] at r1
    rw [Int.sub_mul] at r2 r3 r4
    obtain ⟨v1, v2, v3, v4, v5, v6, v7⟩ := veltkamp i2 i1 (fa.fl.scale 53) r1 r2 r3 r4
    have e5 : ux l = ux a - ux h := by
      rw [← Int.sub_mul] at v5
      exact Int.eq_of_mul_eq_mul_right (by decide) v5
    refine ⟨i, i2, i1, v1, v2, by rw [v5]; exact v3, v4, e5, ?_⟩
    rw [← Int.sub_mul, abs_mul2, abs_mul2, ← Nat.mul_assoc] at v7
    rw [e5]
    exact Nat.lt_of_mul_lt_mul_right v7
theorem Fl.unscale {p : Nat} {x : Int} {t : Nat} (h : Fl p (x * ((2 ^ t : Nat) : Int))) : Fl p x := by
  obtain ⟨q, h1, h2⟩ := h
  have ht := p2pos t
  rw [abs_mul2] at h2
  rcases Nat.lt_or_ge q t with h3 | h3
  · refine Fl.small (Nat.le_of_mul_le_mul_right (Nat.le_trans h2 ?_) ht)
    rw [← Nat.pow_add]; exact p2le (by omega)
  · obtain ⟨r, rfl⟩ : ∃ r, q = r + t := ⟨q - t, by omega⟩
    refine ⟨r, ?_, ?_⟩
    · rw [Nat.pow_add, Int.natCast_mul] at h1
      exact Int.dvd_of_mul_dvd_mul_right (by omega) h1
    · refine Nat.le_of_mul_le_mul_right (c := 2 ^ t) ?_ ht
      rw [← Nat.pow_add, Nat.add_assoc]; exact h2
theorem dvd_mul2 {x y : Int} {m n : Nat} (hx : ((2 ^ m : Nat) : Int) ∣ x) (hy : ((2 ^ n : Nat) : Int) ∣ y) : ((2 ^ (m + n) : Nat) : Int) ∣ x * y := by
  rw [Nat.pow_add, Int.natCast_mul]; exact Int.mul_dvd_mul hx hy
theorem le_mul2 {x y : Int} {m n : Nat} (hx : x.natAbs ≤ 2 ^ m) (hy : y.natAbs ≤ 2 ^ n) : (x * y).natAbs ≤ 2 ^ (m + n) := by
  rw [Int.natAbs_mul, Nat.pow_add]; exact Nat.mul_le_mul hx hy
theorem half_prod {u v : Int} {m n k l c t : Nat} (hc : c = 1074) (ht : t = 1180) (du : ((2 ^ m : Nat) : Int) ∣ u * ((2 ^ 53 : Nat) : Int)) (dv : ((2 ^ n : Nat) : Int) ∣ v * ((2 ^ 53 : Nat) : Int)) (lu : (u * ((2 ^ 53 : Nat) : Int)).natAbs ≤ 2 ^ k) (lv : (v * ((2 ^ 53 : Nat) : Int)).natAbs ≤ 2 ^ l) (h1 : 1180 ≤ m + n) (h2 : k + l ≤ 53 + (m + n)) :
    ∃ X : Int, u * v = X * ((2 ^ c : Nat) : Int) ∧ Fl 53 X ∧ X * ((2 ^ t : Nat) : Int) = u * ((2 ^ 53 : Nat) : Int) * (v * ((2 ^ 53 : Nat) : Int)) := by
  have hm : u * ((2 ^ 53 : Nat) : Int) * (v * ((2 ^ 53 : Nat) : Int)) = u * v * ((2 ^ 106 : Nat) : Int) := by
    rw [show ((2 ^ 106 : Nat) : Int) = ((2 ^ 53 : Nat) : Int) * ((2 ^ 53 : Nat) : Int) from rfl, Int.mul_assoc, Int.mul_assoc, ← Int.mul_assoc _ v, Int.mul_comm _ v, Int.mul_assoc]
  have hd := dvd_mul2 du dv
  have hl := le_mul2 lu lv
  have hf : Fl 53 (u * ((2 ^ 53 : Nat) : Int) * (v * ((2 ^ 53 : Nat) : Int))) := ⟨m + n, hd, Nat.le_trans hl (p2le h2)⟩
  rw [hm] at hd hf
  have hd2 : ((2 ^ t : Nat) : Int) ∣ u * v * ((2 ^ 106 : Nat) : Int) := Int.dvd_trans (p2dvd (by omega)) hd
  have e1 : ((2 ^ t : Nat) : Int) = ((2 ^ c : Nat) : Int) * ((2 ^ 106 : Nat) : Int) := by rw [← Int.natCast_mul, ← Nat.pow_add, show c + 106 = t by omega]
  rw [e1] at hd2
  obtain ⟨X, hX0⟩ := Int.dvd_of_mul_dvd_mul_right (by decide) hd2
  have hX : u * v = X * ((2 ^ c : Nat) : Int) := by rw [hX0, Int.mul_comm]
  refine ⟨X, hX, ?_, ?_⟩
  · rw [hX, Int.mul_assoc, ← e1] at hf
    exact hf.unscale
  · rw [hm, hX, Int.mul_assoc, ← e1]
theorem Rn.near2 {x s : Int} {M : Nat} (h : Rn 53 x s) (hs : s.natAbs ≤ 32 * M) : (x - s).natAbs ≤ M := by
  have h1 := h.little (by omega)
  rw [show (2 : Nat) ^ 53 = 9007199254740992 by decide] at h1
  omega
theorem p2x4 (k : Nat) : 2 ^ (k + 2) = 4 * 2 ^ k := by rw [p2succ, p2succ]; omega
theorem p2x8 (k : Nat) : 2 ^ (k + 3) = 8 * 2 ^ k := by rw [p2succ, p2succ, p2succ]; omega
theorem p2x16 (k : Nat) : 2 ^ (k + 4) = 16 * 2 ^ k := by rw [p2succ, p2succ, p2succ, p2succ]; omega
theorem dek_small {x y a b : Int} {k l i j : Nat} (hx : x.natAbs ≤ 2 ^ k) (hy : y.natAbs ≤ 2 ^ l) (ha : 2 ^ (52 + i) ≤ a.natAbs) (hb : 2 ^ (52 + j) ≤ b.natAbs) (h : k + l + 2 ≤ 104 + (i + j)) : 4 * (x * y).natAbs ≤ (a * b).natAbs := by
  have h1 := le_mul2 hx hy
  have h2 : 2 ^ (104 + (i + j)) ≤ (a * b).natAbs := by
    rw [Int.natAbs_mul, show 104 + (i + j) = 52 + i + (52 + j) by omega, Nat.pow_add]; exact Nat.mul_le_mul ha hb
  have h3 : 4 * 2 ^ (k + l) ≤ 2 ^ (104 + (i + j)) := by
    rw [← p2x4]; exact p2le h
  omega
theorem TPR.ok {a b p e : Nat} (h : TPR a b p e) (ha : a < 18446744073709551616) (hb : b < 18446744073709551616) (ka : a % 9223372036854775808 ≤ 9088264048033660928) (kb : b % 9223372036854775808 ≤ 9088264048033660928)
    (hV : ux a * ux b = 0 ∨ ((∀ K, K = 1188 → 2 ^ K ≤ (ux a * ux b).natAbs) ∧ ∀ K, K = 3169 → (ux a * ux b).natAbs ≤ 2 ^ K)) :
    Fin64 p ∧ Fin64 e ∧ (∀ c, c = 1074 → (ux p + ux e) * ((2 ^ c : Nat) : Int) = ux a * ux b) ∧ (ux a * ux b = 0 → ux p = 0 ∧ ux e = 0) ∧ (ux a * ux b ≠ 0 → Pm64 (ux a * ux b) p) := by
  obtain ⟨ah, al, bh, bl, x1, e1, x2, e2, x3, e3, x4, F1, S1, S2, F2, F3, F4, F5, F6, F7, F8, F9⟩ := h
  have fa : Fin64 a := ⟨ha, by omega⟩
  have fb : Fin64 b := ⟨hb, by omega⟩
  obtain ⟨f1, f2, g1⟩ := S1.ok ha ka
  obtain ⟨f3, f4, g2⟩ := S2.ok hb kb
  obtain ⟨c, hc⟩ : ∃ c, c = 1074 := ⟨_, rfl⟩
  by_cases hV0 : ux a * ux b = 0
  · -- a nought among them
    have hz : ∀ {x y r : Nat}, FlR .mul x y r → Fin64 x → Fin64 y → ux x * ux y = 0 → Fin64 r ∧ ux r = 0 := fun F hx hy h0 => by
      have S := F.mul hx hy (X := 0) hc (by rw [h0, Int.zero_mul]) (by simp)
      exact ⟨S.fin, S.rn.ex (Fl.zero 53)⟩
    have hs : ∀ {x y r : Nat}, FlR .add x y r → Fin64 x → Fin64 y → ux x = 0 → ux y = 0 → Fin64 r ∧ ux r = 0 := fun F hx hy h0 h1 => by
      have S := F.add hx hy (by rw [h0, h1]; simp)
      have R := S.rn
      rw [h0, h1, Int.add_zero] at R
      exact ⟨S.fin, R.ex (Fl.zero 53)⟩
    have hd : ∀ {x y r : Nat}, FlR .sub x y r → Fin64 x → Fin64 y → ux x = 0 → ux y = 0 → Fin64 r ∧ ux r = 0 := fun F hx hy h0 h1 => by
      have S := F.sub hx hy (by rw [h0, h1]; simp)
      have R := S.rn
      rw [h0, h1, Int.sub_zero] at R
      exact ⟨S.fin, R.ex (Fl.zero 53)⟩
    have hab : ux ah * ux bh = 0 ∧ ux ah * ux bl = 0 ∧ ux al * ux bh = 0 ∧ ux al * ux bl = 0 := by
      rcases Int.mul_eq_zero.1 hV0 with h0 | h0
      · rcases g1 with ⟨_, z1, z2⟩ | ⟨i, g⟩
        · rw [z1, z2]; simp
        · have := g.sm; rw [h0] at this; simp at this
      · rcases g2 with ⟨_, z1, z2⟩ | ⟨i, g⟩
        · rw [z1, z2]; simp
        · have := g.sm; rw [h0] at this; simp at this
    obtain ⟨y0, z0⟩ := hz F1 fa fb hV0
    obtain ⟨y1, z1⟩ := hz F2 f1 f3 hab.1
    obtain ⟨y2, z2⟩ := hd F3 y1 y0 z1 z0
    obtain ⟨y3, z3⟩ := hz F4 f1 f4 hab.2.1
    obtain ⟨y4, z4⟩ := hs F5 y2 y3 z2 z3
    obtain ⟨y5, z5⟩ := hz F6 f2 f3 hab.2.2.1
    obtain ⟨y6, z6⟩ := hs F7 y4 y5 z4 z5
    obtain ⟨y7, z7⟩ := hz F8 f2 f4 hab.2.2.2
    obtain ⟨y8, z8⟩ := hs F9 y6 y7 z6 z7
    exact ⟨y0, y8, fun c _ => by rw [z0, z8, hV0, Int.add_zero, Int.zero_mul], fun _ => ⟨z0, z8⟩, fun h => absurd hV0 h⟩
  · have hVb := hV.resolve_left hV0
    rcases g1 with ⟨z, _⟩ | ⟨i, ga⟩
    · exact absurd (by rw [z, Int.zero_mul]) hV0
    rcases g2 with ⟨z, _⟩ | ⟨j, gb⟩
    · exact absurd (by rw [z, Int.mul_zero]) hV0
    obtain ⟨k1, hk1⟩ : ∃ K, K = 1188 := ⟨_, rfl⟩
    obtain ⟨k2, hk2⟩ : ∃ K, K = 3169 := ⟨_, rfl⟩
    obtain ⟨t, ht⟩ : ∃ t, t = 1180 := ⟨_, rfl⟩
    have hV1 := hVb.1 k1 hk1
    have hV2 := hVb.2 k2 hk2
    have hm : ux a * ((2 ^ 53 : Nat) : Int) * (ux b * ((2 ^ 53 : Nat) : Int)) = ux a * ux b * ((2 ^ 106 : Nat) : Int) := by
      rw [show ((2 ^ 106 : Nat) : Int) = ((2 ^ 53 : Nat) : Int) * ((2 ^ 53 : Nat) : Int) from rfl, Int.mul_assoc, Int.mul_assoc, ← Int.mul_assoc _ (ux b), Int.mul_comm _ (ux b), Int.mul_assoc]
    have hij : 1188 ≤ i + j := by
      have h1 := le_mul2 (Nat.le_of_lt ga.hi) (Nat.le_of_lt gb.hi)
      rw [hm, abs_mul2] at h1
      have h2 := Nat.le_trans (Nat.mul_le_mul_right (2 ^ 106) hV1) h1
      rw [← Nat.pow_add] at h2
      have h3 : k1 + 106 < 53 + i + (53 + j) + 1 := p2lt (Nat.lt_of_le_of_lt h2 (by rw [p2succ]; have := p2pos (53 + i + (53 + j)); omega))
      omega
    have dal : ((2 ^ i : Nat) : Int) ∣ ux al * ((2 ^ 53 : Nat) : Int) := by rw [ga.eq, Int.sub_mul]; exact Int.dvd_sub ga.da (Int.dvd_trans (p2dvd (by omega)) ga.dh)
    have dbl : ((2 ^ j : Nat) : Int) ∣ ux bl * ((2 ^ 53 : Nat) : Int) := by rw [gb.eq, Int.sub_mul]; exact Int.dvd_sub gb.da (Int.dvd_trans (p2dvd (by omega)) gb.dh)
    obtain ⟨X1, p1, q1, s1⟩ := half_prod hc ht ga.dh gb.dh ga.lh gb.lh (by omega) (by omega)
    obtain ⟨X2, p2, q2, s2⟩ := half_prod hc ht ga.dh dbl ga.lh gb.ll (by omega) (by omega)
    obtain ⟨X3, p3, q3, s3⟩ := half_prod hc ht dal gb.dh ga.ll gb.lh (by omega) (by omega)
    obtain ⟨X4, p4, q4, s4⟩ := half_prod hc ht dal dbl ga.ll gb.ll (by omega) (by omega)
    have b2 := dek_small ga.lh gb.ll ga.lo gb.lo (by omega)
    have b3 := dek_small ga.ll gb.lh ga.lo gb.lo (by omega)
    have b4 := dek_small ga.ll gb.ll ga.lo gb.lo (by omega)
    have hsum : ux a * ux b = ux ah * ux bh + ux ah * ux bl + ux al * ux bh + ux al * ux bl := by
      have h1 := ga.eq
      have h2 := gb.eq
      rw [show ux a = ux ah + ux al by omega, show ux b = ux bh + ux bl by omega, Int.add_mul, Int.mul_add, Int.mul_add]; omega
    have hW : ux a * ux b = (X1 + X2 + X3 + X4) * ((2 ^ c : Nat) : Int) := by rw [hsum, p1, p2, p3, p4, Int.add_mul, Int.add_mul, Int.add_mul]
    have hWt : ux a * ((2 ^ 53 : Nat) : Int) * (ux b * ((2 ^ 53 : Nat) : Int)) = (X1 + X2 + X3 + X4) * ((2 ^ t : Nat) : Int) := by
      rw [hm, hW, Int.mul_assoc, ← Int.natCast_mul, ← Nat.pow_add, show c + 106 = t by omega]
    have hcp := p2pos c
    have htp := p2pos t
    rw [hWt, ← s2, abs_mul2, abs_mul2, ← Nat.mul_assoc] at b2
    rw [hWt, ← s3, abs_mul2, abs_mul2, ← Nat.mul_assoc] at b3
    rw [hWt, ← s4, abs_mul2, abs_mul2, ← Nat.mul_assoc] at b4
    have b2 := Nat.le_of_mul_le_mul_right b2 htp
    have b3 := Nat.le_of_mul_le_mul_right b3 htp
    have b4 := Nat.le_of_mul_le_mul_right b4 htp
    obtain ⟨K, hK⟩ : ∃ K, K = 2044 := ⟨_, rfl⟩
    obtain ⟨M, hM⟩ : ∃ M, M = 2 ^ (52 + K) := ⟨_, rfl⟩
    obtain ⟨m3, m2⟩ := max_big hK hM
    obtain ⟨M0, hM0⟩ : ∃ M0, M0 = 2 ^ (48 + K) := ⟨_, rfl⟩
    have hMM : M = 16 * M0 := by rw [hM, hM0, ← p2x16]; congr 1; omega
    have hWb : (X1 + X2 + X3 + X4).natAbs ≤ 8 * M0 := by
      rw [hW, abs_mul2] at hV2
      refine Nat.le_of_mul_le_mul_right (Nat.le_trans hV2 (Nat.le_of_eq ?_)) hcp
      rw [hM0, ← p2x8, ← Nat.pow_add]
      congr 1
      omega
    have hl1 : k1 ≤ (ux a * ux b).natAbs.log2 := (Nat.le_log2 (by omega)).2 hV1
    have hl2 : (ux a * ux b).natAbs.log2 ≤ k2 := by
      refine Nat.le_of_lt_succ ((Nat.log2_lt (by omega)).2 (Nat.lt_of_le_of_lt hV2 ?_))
      rw [p2succ]; have := p2pos k2; omega
    have P1 := F1.big fa fb (by omega) (by omega)
    have hp := P1.rn c hc
    have bp : (ux p).natAbs ≤ 8 * M0 := by
      have h1 := hp.bound hV2
      rw [abs_mul2] at h1
      refine Nat.le_of_mul_le_mul_right (Nat.le_trans h1 (Nat.le_of_eq ?_)) hcp
      rw [hM0, ← p2x8, ← Nat.pow_add]
      congr 1
      omega
    have T1 := F2.mul f1 f3 hc p1 (by omega)
    have T2 := F4.mul f1 f4 hc p2 (by omega)
    have T3 := F6.mul f2 f3 hc p3 (by omega)
    have T4 := F8.mul f2 f4 hc p4 (by omega)
    have y1 := T1.rn.ex q1
    have y2 := T2.rn.ex q2
    have y3 := T3.rn.ex q3
    have y4 := T4.rn.ex q4
    have U1 := F3.sub T1.fin P1.fin (by omega)
    have v1 := U1.rn.bound (K := 53 + K) (by rw [m2]; omega)
    rw [m2] at v1
    have n1 := U1.rn.near2 (M := M0) (by omega)
    have U2 := F5.add U1.fin T2.fin (by omega)
    have v2 := U2.rn.bound (K := 53 + K) (by rw [m2]; omega)
    rw [m2] at v2
    have n2 := U2.rn.near2 (M := M0) (by omega)
    have U3 := F7.add U2.fin T3.fin (by omega)
    have v3 := U3.rn.bound (K := 53 + K) (by rw [m2]; omega)
    rw [m2] at v3
    have n3 := U3.rn.near2 (M := M0) (by omega)
    have U4 := F9.add U3.fin T4.fin (by omega)
    -- in units that make normals
    have r0 := hp.scale (by omega) 106
    rw [Int.mul_assoc (ux p), ← Int.natCast_mul, ← Nat.pow_add, show c + 106 = t by omega, ← hm] at r0
    have r1 := U1.rn.scale (by omega) t
    rw [y1, Int.sub_mul, s1] at r1
    have r2 := U2.rn.scale (by omega) t
    rw [y2, Int.add_mul, s2] at r2
    have r3 := U3.rn.scale (by omega) t
    rw [y3, Int.add_mul, s3] at r3
    have r4 := U4.rn.scale (by omega) t
    rw [y4, Int.add_mul, s4] at r4
    have D := dekker ga.lo ga.hi gb.lo gb.hi (by rw [ga.eq, Int.sub_mul]) (by rw [gb.eq, Int.sub_mul]) ga.da gb.da ga.dh gb.dh ga.ll gb.ll ga.lh gb.lh r0 r1 r2 r3 r4
    have hD := D.1
    rw [← Int.add_mul, hWt] at hD
    have hD := Int.eq_of_mul_eq_mul_right (by omega) hD
    exact ⟨P1.fin, U4.fin, fun c' hc' => by rw [hD, hW, hc', hc], fun h => absurd h hV0, fun _ => P1⟩
end Go.Proofs.YtidggnjnlhjhlabGreatDoor
namespace Go.Proofs.YtidggnjnlhjhlabGreatDoor
open Go.RowKit Go.Shelf
set_option maxRecDepth 20000
set_option maxHeartbeats 0
theorem Sm64.little {X : Int} {s e : Nat} (h : Sm64 X s) (he : ux s + ux e = X) : 9007199254740992 * (ux e).natAbs ≤ (ux s).natAbs := by
  have h1 := h.rn.little (by omega)
  rw [show X - ux s = ux e by omega, show (2 : Nat) ^ 53 = 9007199254740992 by decide] at h1
  exact h1
theorem Hid.mk9 {p : Prop} (h : p) : Hid p := h
theorem ZR.rn {w : World} {s : Bool} {p : Option Addr} {m : Nat} {z : Int} (h : ZR w s p m z) (hm : m ≤ 4000) : RN w p m z.natAbs := ⟨h.ex, hm⟩
end Go.Proofs.YtidggnjnlhjhlabGreatDoor
namespace Go.Proofs.YtidggnjnlhjhlabGreatDoor
open Go.RowKit
set_option maxRecDepth 20000
set_option maxHeartbeats 0
theorem ordI (x y : Int) : compare x y = if x < y then .lt else if x = y then .eq else .gt := rfl
theorem ordI_mul (x y : Int) {k : Nat} (hk : 0 < k) : compare (x * (k : Int)) (y * (k : Int)) = compare x y := by
  have hk' : (0 : Int) < (k : Int) := by omega
  rw [ordI, ordI]
  have h1 : (x * (k : Int) < y * (k : Int)) ↔ x < y := ⟨fun h => Int.lt_of_mul_lt_mul_right h (Int.le_of_lt hk'), fun h => Int.mul_lt_mul_of_pos_right h hk'⟩
  have h2 : (x * (k : Int) = y * (k : Int)) ↔ x = y := ⟨fun h => Int.eq_of_mul_eq_mul_right (by omega) h, fun h => by rw [h]⟩
  simp only [h1, h2]
theorem order_fin {a b : Nat} (ha : Fin64 a) (hb : Fin64 b) : Ieee.double.order a b = some (compare (ux a) (ux b)) := by
  obtain ⟨m, q, h1, h2⟩ := read_fin ha.lt ha.fin
  obtain ⟨n, r, h3, h4⟩ := read_fin hb.lt hb.fin
  unfold Ieee.Format.order
  rw [h1, h3, ux_of h2, ux_of h4]
  unfold Ieee.Datum.order
  dsimp only
  obtain ⟨d, hd⟩ : ∃ d, d = min q r := ⟨_, rfl⟩
  have e1 : (-1074 + (q : Int) - min (-1074 + (q : Int)) (-1074 + (r : Int))).toNat = q - d := by omega
  have e2 : (-1074 + (r : Int) - min (-1074 + (q : Int)) (-1074 + (r : Int))).toNat = r - d := by omega
  rw [e1, e2, ← ordI_mul _ _ (p2pos d), signed_up, signed_up, show q - d + d = q by omega, show r - d + d = r by omega]
def InfP (r : Nat) : Prop := r % 9223372036854775808 = 9218868437227405312
theorem three64 (r : Nat) (h : r < 18446744073709551616) : Fin64 r ∨ InfP r ∨ NanP r := by
  unfold InfP NanP
  rcases Nat.lt_trichotomy (r % 9223372036854775808) 9218868437227405312 with h1 | h1 | h1
  · exact .inl ⟨h, h1⟩
  · exact .inr (.inl h1)
  · exact .inr (.inr h1)
theorem read_inf {b : Nat} (h : InfP b) : Ieee.double.read b = .infinity (b / 9223372036854775808 % 2 == 1) := by
  have e1 : Ieee.double.leastPlace = -1074 := by decide
  have e2 : Ieee.double.binade = 4503599627370496 := by decide
  have e3 : Ieee.double.infRung = 9218868437227405312 := by decide
  have e4 : Ieee.double.signWeight = 9223372036854775808 := by decide
  unfold InfP at h
  unfold Ieee.Format.read
  rw [e1, e2, e3, e4]
  dsimp only
  rw [h]
  simp
theorem read_nan {b : Nat} (h : NanP b) : ∃ s m, Ieee.double.read b = .nan s m := by
  have e2 : Ieee.double.binade = 4503599627370496 := by decide
  have e3 : Ieee.double.infRung = 9218868437227405312 := by decide
  have e4 : Ieee.double.signWeight = 9223372036854775808 := by decide
  unfold NanP at h
  unfold Ieee.Format.read
  rw [e2, e3, e4]
  dsimp only
  rw [if_neg (by omega), if_neg (by omega), if_neg (by omega)]
  exact ⟨_, _, rfl⟩
theorem order_nan {a b : Nat} (h : NanP a ∨ NanP b) : Ieee.double.order a b = none := by
  unfold Ieee.Format.order
  rcases h with h | h
  · obtain ⟨s, m, hr⟩ := read_nan h; rw [hr]; rfl
  · obtain ⟨s, m, hr⟩ := read_nan h; rw [hr]
    cases Ieee.double.read a <;> rfl
theorem order_inf {a b : Nat} (h : InfP a) (hb : Fin64 b) : Ieee.double.order a b = some .lt ∨ Ieee.double.order a b = some .gt := by
  unfold Ieee.Format.order
  obtain ⟨n, r, h3, h4⟩ := read_fin hb.lt hb.fin
  rw [read_inf h, h3]
  unfold Ieee.Datum.order
  cases (a / 9223372036854775808 % 2 == 1)
  · exact .inr rfl
  · exact .inl rfl
def rv (X : Int) : Int := if X < 0 then -(vs 4503599627370496 (rg 0 X.natAbs) : Int) else (vs 4503599627370496 (rg 0 X.natAbs) : Int)
theorem sm_word2 {X : Int} {neg : Bool} (h1 : rg 0 X.natAbs < 9218868437227405312) (hn : X ≠ 0 → neg = decide (X < 0)) : Fin64 (Ieee.double.word neg (rg 0 X.natAbs)) ∧ ux (Ieee.double.word neg (rg 0 X.natAbs)) = rv X ∧ Rn 53 X (rv X) := by
  obtain ⟨a, b, c⟩ := word_facts neg h1
  have hc : ux (Ieee.double.word neg (rg 0 X.natAbs)) = rv X := by
    rw [c]
    unfold rv
    by_cases h0 : X = 0
    · subst h0
      have h3 : vs 4503599627370496 (rg 0 (Int.natAbs 0)) = 0 := by rw [show rg 0 (Int.natAbs 0) = 0 from rfl]; simp [vs]
      rw [h3]; cases neg <;> simp
    · rw [hn h0]; by_cases h3 : X < 0 <;> simp [h3]
  refine ⟨⟨a, by rw [b]; exact h1⟩, hc, ?_⟩
  have h2 := rg_rn X.natAbs h1
  unfold rv
  by_cases h3 : X < 0
  · rw [if_pos h3]
    have := h2.neg
    rw [show -((X.natAbs : Nat) : Int) = X by omega] at this
    exact this
  · rw [if_neg h3]
    rw [show ((X.natAbs : Nat) : Int) = X by omega] at h2
    exact h2
theorem rg_top (n : Nat) : rg 0 n ≤ 9218868437227405312 := by
  unfold rg
  split
  · omega
  · exact Nat.min_le_right ..
theorem fl_add_any {a b : Nat} (ha : Fin64 a) (hb : Fin64 b) : ∃ r, floatBits .add .f64 a b = some r ∧ ((Fin64 r ∧ ux r = rv (ux a + ux b) ∧ Rn 53 (ux a + ux b) (ux r)) ∨ InfP r) ∧ (rg 0 (ux a + ux b).natAbs < 9218868437227405312 ↔ Fin64 r) := by
  obtain ⟨m, q, h1, h2⟩ := read_fin ha.lt ha.fin
  obtain ⟨n, t, h3, h4⟩ := read_fin hb.lt hb.fin
  have hX : ux a + ux b = Ieee.signed (decide (9223372036854775808 ≤ a)) m q + Ieee.signed (decide (9223372036854775808 ≤ b)) n t := by rw [ux_of h2, ux_of h4]
  refine ⟨Ieee.double.word (if ux a + ux b = 0 then decide (9223372036854775808 ≤ a) && decide (9223372036854775808 ≤ b) else decide (ux a + ux b < 0)) (rg 0 (ux a + ux b).natAbs), ?_, ?_⟩
  · show ((Ieee.double.read a).sum (Ieee.double.read b)).map Ieee.double.write = _
    rw [h1, h3]
    exact sum_fin _ _ _ _ _ _ _ hX
  · rcases Nat.lt_or_ge (rg 0 (ux a + ux b).natAbs) 9218868437227405312 with h | h
    · obtain ⟨f1, f2, f3⟩ := sm_word2 (neg := if ux a + ux b = 0 then decide (9223372036854775808 ≤ a) && decide (9223372036854775808 ≤ b) else decide (ux a + ux b < 0)) h fun h0 => if_neg h0
      exact ⟨.inl ⟨f1, f2, by rw [f2]; exact f3⟩, fun _ => f1, fun _ => h⟩
    · have h5 : rg 0 (ux a + ux b).natAbs = 9218868437227405312 := Nat.le_antisymm (rg_top _) h
      have e4 : Ieee.double.signWeight = 9223372036854775808 := by decide
      have h6 : InfP (Ieee.double.word (if ux a + ux b = 0 then decide (9223372036854775808 ≤ a) && decide (9223372036854775808 ≤ b) else decide (ux a + ux b < 0)) (rg 0 (ux a + ux b).natAbs)) := by
        rw [h5]
        unfold InfP Ieee.Format.word
        rw [e4]
        cases (if ux a + ux b = 0 then decide (9223372036854775808 ≤ a) && decide (9223372036854775808 ≤ b) else decide (ux a + ux b < 0)) <;> simp
      refine ⟨.inr h6, fun h7 => absurd h7 (by omega), fun h7 => ?_⟩
      have h8 := h7.fin
      unfold InfP at h6
      omega
theorem fl_add_not {a b : Nat} (ha : Fin64 a) (hb : ¬ Fin64 b) (hlt : b < 18446744073709551616) : floatBits .add .f64 a b = none ∨ ∃ r, floatBits .add .f64 a b = some r ∧ InfP r := by
  obtain ⟨m, q, h1, h2⟩ := read_fin ha.lt ha.fin
  rcases three64 b hlt with h | h | h
  · exact absurd h hb
  · refine .inr ?_
    have e : floatBits .add .f64 a b = ((Ieee.double.read a).sum (Ieee.double.read b)).map Ieee.double.write := rfl
    rw [e, h1, read_inf h]
    cases (b / 9223372036854775808 % 2 == 1)
    · exact ⟨_, rfl, by unfold InfP; decide⟩
    · exact ⟨_, rfl, by unfold InfP; decide⟩
  · refine .inl ?_
    have e : floatBits .add .f64 a b = ((Ieee.double.read a).sum (Ieee.double.read b)).map Ieee.double.write := rfl
    obtain ⟨s, k, hr⟩ := read_nan h
    rw [e, h1, hr]; rfl
structure DdF (h l : Nat) : Prop where
  hi : Fin64 h
  lo : Fin64 l
  fit : rg 0 (ux h + ux l).natAbs < 9218868437227405312
  eq : rv (ux h + ux l) = ux h
theorem DdF.rn {h l : Nat} (d : DdF h l) : Rn 53 (ux h + ux l) (ux h) := by
  have := (sm_word2 (neg := decide (ux h + ux l < 0)) d.fit fun _ => rfl).2.2
  rw [d.eq] at this
  exact this
theorem form_iff {h l r : Nat} (hh : Fin64 h) (hl : l < 18446744073709551616) (F : FlR .add h l r) : Ieee.double.order r h = some .eq ↔ DdF h l := by
  by_cases hf : Fin64 l
  · obtain ⟨r', e1, e2, e3⟩ := fl_add_any hh hf
    obtain rfl : r = r' := F.some _ e1
    rcases e2 with ⟨f1, f2, f3⟩ | h6
    · rw [order_fin f1 hh, f2, ordI]
      constructor
      · intro h7
        refine ⟨hh, hf, e3.2 f1, ?_⟩
        split at h7
        · cases h7
        · split at h7
          · assumption
          · cases h7
      · intro d
        rw [if_neg (by rw [d.eq]; omega), if_pos d.eq]
    · constructor
      · intro h7
        rcases order_inf h6 hh with h8 | h8 <;> rw [h8] at h7 <;> cases h7
      · intro d
        have h8 := (e3.1 d.fit).fin
        unfold InfP at h6
        omega
  · constructor
    · intro h7
      rcases fl_add_not hh hf hl with h8 | ⟨r', h8, h9⟩
      · rw [order_nan (.inl (F.none h8))] at h7; cases h7
      · obtain rfl : r = r' := F.some _ h8
        rcases order_inf h9 hh with h8 | h8 <;> rw [h8] at h7 <;> cases h7
    · intro d
      exact absurd d.lo hf
theorem dd_order {h l h' l' : Nat} (d : DdF h l) (d' : DdF h' l') :
    compare (ux h + ux l) (ux h' + ux l') = if ux h = ux h' then compare (ux l) (ux l') else compare (ux h) (ux h') := by
  have key : ∀ {X X' H H' : Int}, Rn 53 X H → Rn 53 X' H' → H < H' → X ≤ X' := fun {X X' H H'} a a' hlt => by
    have h1 := a.2 H' a'.1
    have h2 := a'.2 H a.1
    omega
  have key2 : ∀ {a b c e : Nat}, DdF a b → DdF c e → ux a < ux c → ux a + ux b < ux c + ux e := fun {a b c e} x y hlt => by
    have h1 := key x.rn y.rn hlt
    rcases Int.lt_or_eq_of_le h1 with h2 | h2
    · exact h2
    · have h3 := x.eq
      rw [h2, y.eq] at h3
      omega
  by_cases he : ux h = ux h'
  · rw [if_pos he, ordI, ordI, he]
    simp only [Int.add_lt_add_iff_left, Int.add_right_inj]
  · rw [if_neg he, ordI, ordI]
    rcases Int.lt_or_gt_of_ne he with h1 | h1
    · rw [if_pos (key2 d d' h1), if_pos h1]
    · have h2 := key2 d' d h1
      rw [if_neg (by omega), if_neg (by omega), if_neg (by omega), if_neg (by omega)]
def flipS (b : Nat) : Nat := if 9223372036854775808 ≤ b then b - 9223372036854775808 else b + 9223372036854775808
theorem flip_ux {b : Nat} (hb : b < 18446744073709551616) : ux (flipS b) = -ux b ∧ flipS b < 18446744073709551616 ∧ flipS b % 9223372036854775808 = b % 9223372036854775808 := by
  rw [ux_eq, ux_eq]
  unfold flipS
  split
  · rename_i h
    rw [if_neg (by omega), show (b - 9223372036854775808) % 9223372036854775808 = b % 9223372036854775808 by omega]
    exact ⟨by omega, by omega, rfl⟩
  · rename_i h
    rw [if_pos (by omega), show (b + 9223372036854775808) % 9223372036854775808 = b % 9223372036854775808 by omega]
    exact ⟨by omega, by omega, rfl⟩
theorem rv_neg (X : Int) : rv (-X) = -rv X := by
  unfold rv
  rw [Int.natAbs_neg]
  rcases Int.lt_trichotomy X 0 with h | h | h
  · rw [if_neg (by omega), if_pos h]; omega
  · subst h
    have h3 : vs 4503599627370496 (rg 0 (Int.natAbs 0)) = 0 := by rw [show rg 0 (Int.natAbs 0) = 0 from rfl]; simp [vs]
    rw [h3]; simp
  · rw [if_pos (by omega), if_neg (by omega)]
theorem Fin64.flipS {b : Nat} (h : Fin64 b) : Fin64 (flipS b) := by
  obtain ⟨_, h2, h3⟩ := flip_ux h.lt
  exact ⟨h2, by rw [h3]; exact h.fin⟩
theorem DdF.neg {h l : Nat} (d : DdF h l) : DdF (flipS h) (flipS l) := by
  have h1 := (flip_ux d.hi.lt).1
  have h2 := (flip_ux d.lo.lt).1
  have h3 : ux (flipS h) + ux (flipS l) = -(ux h + ux l) := by rw [h1, h2]; omega
  refine ⟨d.hi.flipS, d.lo.flipS, ?_, ?_⟩
  · rw [h3, Int.natAbs_neg]; exact d.fit
  · rw [h3, rv_neg, d.eq, h1]
end Go.Proofs.YtidggnjnlhjhlabGreatDoor
namespace Go.Proofs.YtidggnjnlhjhlabGreatDoor
open Go.RowKit Go.Shelf
set_option maxRecDepth 20000
set_option maxHeartbeats 0
structure B3q (W : World) (g : Nat) (v0 v1 v2 : Value) : Prop where
  c0 : W.cell? ⟨g, 0, none⟩ = some v0
  c1 : W.cell? ⟨g, 1, none⟩ = some v1
  c2 : W.cell? ⟨g, 2, none⟩ = some v2
  f0 : W.frozen? ⟨g, 0, none⟩ = false
  f1 : W.frozen? ⟨g, 1, none⟩ = false
  f2 : W.frozen? ⟨g, 2, none⟩ = false
theorem B3q.lt {w : World} {g : Nat} {a b c : Value} (h : B3q w g a b c) : g < w.heap.size := World.block_lt_of_cell? w _ h.c0
theorem B3q.below {W W' : World} {g : Nat} {v0 v1 v2 : Value} (h : B3q W g v0 v1 v2) (hb : Below W.heap.size W W') : B3q W' g v0 v1 v2 := by
  have hl : g < W.heap.size := World.block_lt_of_cell? W _ h.c0
  exact ⟨(hb.cell (p := ⟨g, 0, none⟩) hl).trans h.c0, (hb.cell (p := ⟨g, 1, none⟩) hl).trans h.c1, (hb.cell (p := ⟨g, 2, none⟩) hl).trans h.c2, (hb.frozen (p := ⟨g, 0, none⟩) hl).trans h.f0, (hb.frozen (p := ⟨g, 1, none⟩) hl).trans h.f1, (hb.frozen (p := ⟨g, 2, none⟩) hl).trans h.f2⟩
theorem B3q.new (w : World) (ty : TypeId) (v0 v1 v2 : Value) : B3q (w.alloc (.cells #[v0, v1, v2] ty)) w.heap.size v0 v1 v2 := ⟨by go_simp, by go_simp, by go_simp, by go_simp, by go_simp, by go_simp⟩
abbrev DV (s : Bool) (p : Option Addr) (m c : Nat) (e : Int) : Value := .agg #[.bool s, .slice p m c, .int .i64 e]
def DFm (z e : Int) : Prop := (z = 0 ∧ e = 0) ∨ (z % 2 = 1 ∧ -1048576 ≤ e ∧ e ≤ 1048576)
structure DN (w : World) (s : Bool) (p : Option Addr) (m c : Nat) (e z : Int) : Prop where
  zn : ZN w s p m c z
  fm : DFm z e
theorem DN.below {w w' : World} {s : Bool} {p : Option Addr} {m c : Nat} {e z : Int} (h : DN w s p m c e z) (hb : Below w.heap.size w w') : DN w' s p m c e z := ⟨h.zn.below hb, h.fm⟩
def dv (z e : Int) : Int := z * ((2 ^ (e + 4194304).toNat : Nat) : Int)
theorem pow_pos_int (k : Nat) : ((2 ^ k : Nat) : Int) ≠ 0 := by
  have : 0 < 2 ^ k := Nat.pow_pos (by omega)
  intro h
  have := Int.ofNat.inj h
  omega
theorem dpow_split {a b : Nat} (h : a ≤ b) : ((2 ^ b : Nat) : Int) = ((2 ^ (b - a) : Nat) : Int) * ((2 ^ a : Nat) : Int) := by
  have : 2 ^ b = 2 ^ (b - a) * 2 ^ a := by rw [← Nat.pow_add, Nat.sub_add_cancel h]
  rw [this, Int.natCast_mul]
theorem dv_zero (e : Int) : dv 0 e = 0 := by unfold dv; rw [Int.zero_mul]
theorem dv_eq_zero {z e : Int} (h : dv z e = 0) : z = 0 := by
  unfold dv at h
  exact (Int.mul_eq_zero.1 h).resolve_right (pow_pos_int _)
theorem odd_ne {z z' : Int} {a b : Nat} (hz : z % 2 = 1) (h : z * ((2 ^ a : Nat) : Int) = z' * ((2 ^ b : Nat) : Int)) : b ≤ a := by
  refine Nat.le_of_not_lt fun hlt => ?_
  rw [dpow_split (Nat.le_of_lt hlt), ← Int.mul_assoc] at h
  have h1 := Int.eq_of_mul_eq_mul_right (pow_pos_int a) h
  obtain ⟨k, hk⟩ : ∃ k, b - a = k + 1 := ⟨b - a - 1, by omega⟩
  rw [hk, Nat.pow_succ, Int.natCast_mul] at h1
  have h2 : z = (z' * ((2 ^ k : Nat) : Int)) * 2 := by rw [h1, Int.mul_assoc]; rfl
  generalize z' * ((2 ^ k : Nat) : Int) = q at h2
  omega
theorem dv_inj {z e z' e' : Int} (h : DFm z e) (h' : DFm z' e') (hv : dv z e = dv z' e') : z = z' ∧ e = e' := by
  rcases h with ⟨rfl, rfl⟩ | ⟨h1, h2, h3⟩
  · rw [dv_zero] at hv
    have := dv_eq_zero hv.symm
    subst this
    rcases h' with ⟨_, rfl⟩ | ⟨k1, _⟩
    · exact ⟨rfl, rfl⟩
    · omega
  · rcases h' with ⟨rfl, rfl⟩ | ⟨k1, k2, k3⟩
    · rw [dv_zero] at hv
      have := dv_eq_zero hv
      subst this
      omega
    · unfold dv at hv
      have a1 := odd_ne h1 hv
      have a2 := odd_ne k1 hv.symm
      have he : e = e' := by omega
      subst he
      exact ⟨Int.eq_of_mul_eq_mul_right (pow_pos_int _) hv, rfl⟩
theorem dv_shift {z e f : Int} (h : f ≤ e) (hf : -4194304 ≤ f) : dv z e = dv (z * ((2 ^ (e - f).toNat : Nat) : Int)) f := by
  unfold dv
  rw [dpow_split (a := (f + 4194304).toNat) (b := (e + 4194304).toNat) (by omega), ← Int.mul_assoc, show (e + 4194304).toNat - (f + 4194304).toNat = (e - f).toNat from by omega]
theorem dv_add (x y e : Int) : dv (x + y) e = dv x e + dv y e := by unfold dv; rw [Int.add_mul]
theorem dv_neg (x e : Int) : dv (-x) e = - dv x e := by unfold dv; rw [Int.neg_mul]
theorem own_set3 {B b : Nat} {w' : World} {p : Option Addr} {m : Nat} {zs : List Nat} (h : Own B w' p m zs) {r : Nat} (hr : r < B) (hb : b ≤ B) (v0 v1 v2 : Value) : Own b (((w'.setCell ⟨r, 0, none⟩ v0).setCell ⟨r, 1, none⟩ v1).setCell ⟨r, 2, none⟩ v2) p m zs :=
  (((h.setOld _ _ _ hr).setOld _ _ _ hr).setOld _ _ _ hr).mono hb
def AnsD (B : Nat) (w' : World) (v : Value) (z e : Int) : Prop :=
  ∃ p m zs, v = DV (decide (z < 0)) p m m e ∧ Own B w' p m zs ∧ Nf B64 zs z.natAbs ∧ m ≤ 8192
theorem AnsD.dn {B : Nat} {w' : World} {v : Value} {z e : Int} (h : AnsD B w' v z e) (hf : DFm z e) : ∃ s p m, v = DV s p m m e ∧ DN w' s p m m e z := by
  obtain ⟨p, m, zs, rfl, ho, hn, hm⟩ := h
  exact ⟨_, p, m, rfl, ⟨⟨zs, Num.of ho hn hm⟩, rfl⟩, hf⟩
theorem tz_split {z : Int} {k : Nat} (hz : z ≠ 0) (h : TzO z.natAbs k) : fl (decide (z < 0)) z.natAbs (2 ^ k) % 2 = 1 ∧ fl (decide (z < 0)) z.natAbs (2 ^ k) * ((2 ^ k : Nat) : Int) = z ∧ (fl (decide (z < 0)) z.natAbs (2 ^ k)).natAbs ≤ z.natAbs := by
  rcases h with ⟨h0, _⟩ | ⟨_, h1, h2⟩
  · omega
  · have hd := Nat.div_add_mod z.natAbs (2 ^ k)
    rw [h1, Nat.add_zero, Nat.mul_comm] at hd
    have hle := Nat.div_le_self z.natAbs (2 ^ k)
    unfold fl
    rw [h1]
    generalize z.natAbs / 2 ^ k = q at *
    have hc : (q : Int) * ((2 ^ k : Nat) : Int) = (z.natAbs : Int) := by rw [← Int.natCast_mul, hd]
    by_cases hs : z < 0
    · rw [decide_eq_true hs]
      simp only [ne_eq, not_true_eq_false, decide_false, Bool.and_false, Bool.toNat_false, Nat.add_zero, iv, if_true]
      refine ⟨by omega, by rw [Int.neg_mul, hc]; omega, by omega⟩
    · rw [decide_eq_false hs]
      simp only [ne_eq, not_true_eq_false, decide_false, Bool.and_false, Bool.toNat_false, Nat.add_zero, iv]
      refine ⟨?_, ?_, ?_⟩
      · show (q : Int) % 2 = 1; omega
      · show (q : Int) * _ = z; rw [hc]; omega
      · show (q : Int).natAbs ≤ _; omega
theorem patternOf_64 (b : Nat) (hb : b < 2 * 9223372036854775808) (w : World) :
    Calls Tryz.prog 93 #[.int .i64 64, U b] w fun en w' => en = .returned (.tuple #[PV 64 53 (-1074) (decide (9223372036854775808 ≤ b)) (b % 9223372036854775808), .int .i64 0]) ∧ Below w.heap.size w w' := by
  have hl : bl_bitsN b ≤ 64 := bl_le (by omega)
  have e1 : bits BinOp.and IntKind.u64 (b : Int) 9223372036854775808 = _ := sign_and b 9223372036854775808 63 (by decide) (by decide) hb
  have e2 : bits BinOp.andNot IntKind.u64 (b : Int) 9223372036854775808 = _ := sign_andNot b 9223372036854775808 63 (by decide) (by decide) hb
  obtain ⟨z, hz⟩ : ∃ z, z = b % 9223372036854775808 := ⟨_, rfl⟩
  obtain ⟨s, hs⟩ : ∃ s, s = decide (9223372036854775808 ≤ b) := ⟨_, rfl⟩
  obtain ⟨y, hy⟩ : ∃ y, y = (if 9223372036854775808 ≤ b then 9223372036854775808 else 0) := ⟨_, rfl⟩
  rw [← hz] at e2 ⊢
  rw [← hy] at e1
  rw [← hs]
  have hys2 : ((y : Int) == 0) = !s := by
    rw [hy, hs]
    by_cases h : 9223372036854775808 ≤ b <;> simp [h]
  have hys : ((y : Int) != 0) = s := by simp [bne, hys2]
  obtain ⟨ln, hll⟩ : ∃ l, l = bl_bitsN b := ⟨_, rfl⟩
  rw [← hll] at hl
  have hltb : decide ((64 : Int) < (ln : Int)) = false := decide_eq_false (by omega)
  have HLL : Hid (bl_bitsN b = ln) := hll.symm
  have HBB : Hid (b < B64) := by show b < B64; rw [B64_eq]; omega
  clear hz hs hy hl hb hll
  go_enter Tryz.func93, Tryz.ntmps93
  go_wp2_with fail
  obtain ⟨W0, hW0⟩ : ∃ W0, W0 = (w.alloc (.cells #[.int .i64 0, .int .i64 0, .int .i64 0, .bool false, .int .u64 0] 93)) := ⟨_, rfl⟩
  have Xr : Hid (B5q W0 (w.heap.size) (.int .i64 0) (.int .i64 0) (.int .i64 0) (.bool false) (.int .u64 0)) := by rw [hW0]; exact ⟨by go_simp, by go_simp, by go_simp, by go_simp, by go_simp, by go_simp, by go_simp, by go_simp, by go_simp, by go_simp⟩
  have hb0 : Below w.heap.size w W0 := by rw [hW0]; exact below1 w _
  rw [← hW0]
  clear hW0
  have hbw : Below w.heap.size w w := Below.refl _ _
  obtain ⟨gr, hgr⟩ : ∃ g, g = w.heap.size := ⟨_, rfl⟩
  have HGr : Hid (w.heap.size ≤ gr) := by rw [hgr]; show _ ≤ _; omega
  rw [← hgr] at Xr
  try rw [← hgr]
  clear hgr
  replace hbw := Below.on hbw hb0
  clear hb0
  refine (of_64 _).mono ?_
  rintro e v1 ⟨rfl, hb1⟩
  replace Xr : Hid _ := Xr.out.below hb1
  replace hbw := Below.on hbw hb1
  clear hb1
  go_wp2_with fail
  have HDr : Hid (gr ≠ v1.heap.size) := Nat.ne_of_lt Xr.out.lt
  have Xg0 : Hid (B3q (v1.alloc (.cells #[.int .i64 64, .int .i64 53, .int .i64 (-1074)] 91)) v1.heap.size (.int .i64 64) (.int .i64 53) (.int .i64 (-1074))) := B3q.new v1 _ _ _ _
  have hbn : Below v1.heap.size v1 (v1.alloc (.cells #[.int .i64 64, .int .i64 53, .int .i64 (-1074)] 91)) := below1 v1 _
  generalize v1.alloc (.cells #[.int .i64 64, .int .i64 53, .int .i64 (-1074)] 91) = Wg at *
  have HGg : Hid (w.heap.size ≤ v1.heap.size) := hbw.size
  replace Xr : Hid _ := Xr.out.below hbn
  replace hbw := Below.on hbw hbn
  clear hbn
  generalize v1.heap.size = gg at *
  have Xg := Xg0
  clear Xg0
  obtain ⟨W3, hW3⟩ : ∃ W1, W1 = Wg.drew := ⟨_, rfl⟩
  have hbd : Below Wg.heap.size Wg W3 := by rw [hW3]; exact bDrew1 (Below.refl _ _)
  replace Xr : Hid _ := Xr.out.below hbd
  replace Xg : Hid _ := Xg.out.below hbd
  replace hbw := Below.on hbw hbd
  clear hbd
  have HJ : Hid ((fun W' : World => W'.cell? ⟨gg, 0, none⟩ = some (.int .i64 64)) W3) := Xg.out.c0
  refine wp_region_J (fun W' => W'.cell? ⟨gg, 0, none⟩ = some (.int .i64 64)) (by kernel_rfl) ?_
  rw [← hW3]
  clear hW3
  refine wpJ_tk 0 (v := ?v15x0) rfl ?hy15x0 HJ.out ?_
  case hy15x0 => (intro W' hJ; have j0 := hJ; go_simp; first | done | with_reducible rfl)
  refine wpJ_tk 2 (v := ?v16x2) rfl ?hy16x2 HJ.out ?_
  case hy16x2 => (intro W' hJ; have j0 := hJ; go_simp; first | done | with_reducible rfl)
  refine wpJ_tk 3 (v := ?v17x3) rfl ?hy17x3 HJ.out ?_
  case hy17x3 => (intro W' hJ; have j0 := hJ; go_simp; first | done | with_reducible rfl)
  refine wpJ_on 1 rfl fun KJ hK => ?_
  go_simp
  refine (bl_len_any b _ HBB.out).mono ?_
  rintro e2 v2 ⟨rfl, hw⟩
  obtain rfl := hw.symm
  clear hw
  rw [HLL.out]
  clear HJ
  have HJ : Hid ((fun W' : World => W'.cell? ⟨gg, 0, none⟩ = some (.int .i64 64)) W3) := Xg.out.c0
  refine hK _ _ HJ.out ?_
  clear hK
  refine wpJ_tk 4 (v := ?v18x4) rfl ?hy18x4 HJ.out ?_
  case hy18x4 => (intro W' hJ; have j0 := hJ; go_simp; first | done | with_reducible rfl)
  refine wpJ_done (by kernel_rfl) ?_ _
  clear HJ
  obtain ⟨cg0, cg1, cg2, fg0, fg1, fg2⟩ := Xg.out
  have hneg : gg < W3.heap.size := World.block_lt_of_cell? W3 _ cg0
  go_wp2_with fail
  clear cg0 cg1 cg2 fg0 fg1 fg2 hneg
  obtain ⟨W6, hW6⟩ : ∃ W1, W1 = W3.drew := ⟨_, rfl⟩
  have hbd : Below W3.heap.size W3 W6 := by rw [hW6]; exact bDrew1 (Below.refl _ _)
  replace Xr : Hid _ := Xr.out.below hbd
  replace Xg : Hid _ := Xg.out.below hbd
  replace hbw := Below.on hbw hbd
  clear hbd
  have HJ : Hid ((fun W' : World => W'.cell? ⟨gg, 0, none⟩ = some (.int .i64 64) ∧ W'.cell? ⟨gg, 1, none⟩ = some (.int .i64 53) ∧ W'.cell? ⟨gg, 2, none⟩ = some (.int .i64 (-1074))) W6) := ⟨Xg.out.c0, Xg.out.c1, Xg.out.c2⟩
  refine wp_region_J (fun W' => W'.cell? ⟨gg, 0, none⟩ = some (.int .i64 64) ∧ W'.cell? ⟨gg, 1, none⟩ = some (.int .i64 53) ∧ W'.cell? ⟨gg, 2, none⟩ = some (.int .i64 (-1074))) (by kernel_rfl) ?_
  rw [← hW6]
  clear hW6
  refine wpJ_tq 0 rfl HJ.out ?_
  refine wpJ_tq 1 rfl HJ.out ?_
  refine wpJ_tq 2 rfl HJ.out ?_
  refine wpJ_tq 6 rfl HJ.out ?_
  refine wpJ_tq 7 rfl HJ.out ?_
  refine wpJ_on 3 rfl fun KJ hK => ?_
  go_simp
  refine (sign_64 _).mono ?_
  rintro e v4 ⟨rfl, hb4⟩
  replace Xr : Hid _ := Xr.out.below hb4
  replace Xg : Hid _ := Xg.out.below hb4
  replace hbw := Below.on hbw hb4
  clear hb4
  clear HJ
  have HJ : Hid ((fun W' : World => W'.cell? ⟨gg, 0, none⟩ = some (.int .i64 64) ∧ W'.cell? ⟨gg, 1, none⟩ = some (.int .i64 53) ∧ W'.cell? ⟨gg, 2, none⟩ = some (.int .i64 (-1074))) v4) := ⟨Xg.out.c0, Xg.out.c1, Xg.out.c2⟩
  refine hK _ _ HJ.out ?_
  clear hK
  refine wpJ_tq 4 rfl HJ.out ?_
  refine wpJ_tq 5 rfl HJ.out ?_
  refine wpJ_on 8 rfl fun KJ hK => ?_
  go_simp
  refine (sign_64 _).mono ?_
  rintro e v5 ⟨rfl, hb5⟩
  replace Xr : Hid _ := Xr.out.below hb5
  replace Xg : Hid _ := Xg.out.below hb5
  replace hbw := Below.on hbw hb5
  clear hb5
  clear HJ
  have HJ : Hid ((fun W' : World => W'.cell? ⟨gg, 0, none⟩ = some (.int .i64 64) ∧ W'.cell? ⟨gg, 1, none⟩ = some (.int .i64 53) ∧ W'.cell? ⟨gg, 2, none⟩ = some (.int .i64 (-1074))) v5) := ⟨Xg.out.c0, Xg.out.c1, Xg.out.c2⟩
  refine hK _ _ HJ.out ?_
  clear hK
  refine wpJ_tq 9 rfl HJ.out ?_
  refine wpJ_tq 10 rfl HJ.out ?_
  obtain ⟨cr0, cr1, cr2, cr3, cr4, fr0, fr1, fr2, fr3, fr4⟩ := Xr.out
  have hner : gr < v5.heap.size := World.block_lt_of_cell? v5 _ cr0
  obtain ⟨cg0, cg1, cg2, fg0, fg1, fg2⟩ := Xg.out
  have hneg : gg < v5.heap.size := World.block_lt_of_cell? v5 _ cg0
  have qa := HDr.out
  have qb : gg ≠ gr := fun h => qa h.symm
  refine wpJ_on 11 rfl fun KJ hK => ?_
  go_simp
  have HJ2 : Hid ((fun W' : World => W'.cell? ⟨gg, 0, none⟩ = some (.int .i64 64) ∧ W'.cell? ⟨gg, 1, none⟩ = some (.int .i64 53) ∧ W'.cell? ⟨gg, 2, none⟩ = some (.int .i64 (-1074))) (((((v5.setCell ⟨gr, 0, none⟩ (.int .i64 64)).setCell ⟨gr, 1, none⟩ (.int .i64 53)).setCell ⟨gr, 2, none⟩ (.int .i64 (-1074))).setCell ⟨gr, 3, none⟩ (.bool s)).setCell ⟨gr, 4, none⟩ (U z))) := ⟨by go_simp, by go_simp, by go_simp⟩
  refine hK _ _ HJ2.out ?_
  clear hK HJ
  have HJ := HJ2
  clear HJ2
  refine wpJ_tq 12 rfl HJ.out ?_
  refine wpJ_done (by kernel_rfl) ?_ _
  clear HJ
  go_wp2_with fail
  refine bodyPost_ret (v := .tuple #[PV 64 53 (-1074) s z, .int .i64 0]) (by rw [results_ct rfl]; go_simp) rfl ⟨rfl, ?_⟩
  exact bSet (bSet (bSet (bSet (bSet hbw _ _ _ HGr.out) _ _ _ HGr.out) _ _ _ HGr.out) _ _ _ HGr.out) _ _ _ HGr.out
theorem vs_max {r : Nat} (h : r < 9218868437227405312) : vs 4503599627370496 r ≤ MaxU := by
  obtain ⟨K, hK⟩ : ∃ K, K = 2045 := ⟨_, rfl⟩
  rw [MaxU_eq hK]
  unfold vs
  refine Nat.mul_le_mul (by omega) (p2le (by omega))
theorem ux_pos {r : Nat} (h : r < 9223372036854775808) : ux r = (vs 4503599627370496 r : Int) := by
  rw [ux_eq, if_neg (by omega), Nat.mod_eq_of_lt h]
theorem ux_max : ux 9218868437227405311 = (MaxU : Int) := by
  rw [ux_pos (by decide)]
  have h : vs 4503599627370496 9218868437227405311 = MaxU := by decide +kernel
  rw [h]
theorem order_max {r : Nat} (h : r < 9218868437227405312) : FloatKind.f64.format.order r 9218868437227405311 = some .lt ∨ FloatKind.f64.format.order r 9218868437227405311 = some .eq := by
  have e : FloatKind.f64.format.order r 9218868437227405311 = Ieee.double.order r 9218868437227405311 := rfl
  rw [e, order_fin ⟨by omega, by omega⟩ ⟨by decide, by decide⟩, ux_max, ux_pos (by omega), ordI]
  have := vs_max h
  rcases Nat.lt_or_eq_of_le this with h1 | h1
  · rw [if_pos (by omega)]; exact .inl rfl
  · rw [if_neg (by omega), if_pos (by omega)]; exact .inr rfl
theorem order_inf_max : FloatKind.f64.format.order 9218868437227405312 9218868437227405311 = some .gt := by decide +kernel
theorem mabs (x : Nat) (hx : x < 18446744073709551616) (w : World) : Calls Tryz.prog 75 #[Fv x] w fun en w' => en = .returned (Fv (x % 9223372036854775808)) ∧ w' = w := by
  have bo1 : ∀ w, (callFunc 29 #[Fv x]).run Tryz.prog w = .ok (.value (.int .u64 (x : Int))) w := fun w => bitsOf x w
  have br3 : bits BinOp.andNot IntKind.u64 (x : Int) 9223372036854775808 = ((x % 9223372036854775808 : Nat) : Int) := sign_andNot x 9223372036854775808 63 (by decide) (by omega) (by omega)
  generalize x % 9223372036854775808 = y at br3 ⊢
  have fb2 : ∀ w, (callFunc 27 #[.int .u64 (y : Int)]).run Tryz.prog w = .ok (.value (Fv y)) w := fun w => frombits _ w
  go_enter Tryz.func75, Tryz.ntmps75
  go_wp2_with fail
  go_ret
  exact ⟨rfl, rfl⟩
theorem isinf (x : Nat) (hx : x < 18446744073709551616) (w : World) : Calls Tryz.prog 54 #[Fv x, .int .i64 0] w fun en w' => en = .returned (.bool (decide (x % 9223372036854775808 = 9218868437227405312))) ∧ w' = w := by
  have HX := mabs x hx
  generalize hy : x % 9223372036854775808 = y at HX ⊢
  have hc : ∃ o, FloatKind.f64.format.order y 9218868437227405311 = o ∧ (o == some .gt) = decide (y = 9218868437227405312) := by
    rcases Nat.lt_trichotomy y 9218868437227405312 with h | h | h
    · have : decide (y = 9218868437227405312) = false := decide_eq_false (by omega)
      rcases order_max h with h1 | h1
      · exact ⟨_, h1, by rw [this]; rfl⟩
      · exact ⟨_, h1, by rw [this]; rfl⟩
    · subst h; exact ⟨_, order_inf_max, by simp⟩
    · have : decide (y = 9218868437227405312) = false := decide_eq_false (by omega)
      exact ⟨none, order_nan (.inl (by unfold NanP; omega)), by rw [this]; rfl⟩
  obtain ⟨o, ho, hb⟩ := hc
  rw [← hb]
  clear hb hy hx
  go_enter Tryz.func54, Tryz.ntmps54
  go_wp2_with fail
  refine (HX _).mono ?_
  rintro e v9 ⟨rfl, hw⟩
  obtain rfl := hw.symm
  clear hw
  rcases o with _ | _ | _ | _
  all_goals
    go_wp2_with fail
    go_ret
    exact ⟨by kernel_rfl, rfl⟩
theorem isnan (x : Nat) (hx : x < 18446744073709551616) (w : World) : Calls Tryz.prog 55 #[Fv x] w fun en w' => en = .returned (.bool (decide (9218868437227405312 < x % 9223372036854775808))) ∧ w' = w := by
  have hc : ∃ o, FloatKind.f64.format.order x x = o ∧ (o != some .eq) = decide (9218868437227405312 < x % 9223372036854775808) := by
    rcases three64 x hx with h | h | h
    · refine ⟨_, order_fin h h, ?_⟩
      rw [ordI, if_neg (by omega), if_pos rfl, decide_eq_false (by have := h.fin; omega)]; rfl
    · refine ⟨some .eq, ?_, ?_⟩
      · show Ieee.double.order x x = _
        unfold Ieee.Format.order
        rw [read_inf h]
        unfold Ieee.Datum.order
        cases (x / 9223372036854775808 % 2 == 1) <;> rfl
      · unfold InfP at h
        rw [decide_eq_false (by omega)]; rfl
    · refine ⟨none, order_nan (.inl h), ?_⟩
      unfold NanP at h
      rw [decide_eq_true h]; rfl
  obtain ⟨o, ho, hb⟩ := hc
  rw [← hb]
  clear hb hx
  go_enter Tryz.func55, Tryz.ntmps55
  rcases o with _ | _ | _ | _
  all_goals
    go_wp2_with fail
    go_ret
    exact ⟨by kernel_rfl, rfl⟩
def finB (x : Nat) : Bool := decide (x % 9223372036854775808 < 9218868437227405312)
theorem ddfinite (x : Nat) (hx : x < 18446744073709551616) (w : World) : Calls Tryz.prog 35 #[Fv x] w fun en w' => en = .returned (.bool (finB x)) ∧ w' = w := by
  have H1 := isinf x hx
  have H2 := isnan x hx
  unfold finB
  generalize x % 9223372036854775808 = y at H1 H2 ⊢
  rcases Nat.lt_trichotomy y 9218868437227405312 with h | h | h
  · rw [decide_eq_true h]
    rw [decide_eq_false (show ¬ y = 9218868437227405312 by omega)] at H1
    rw [decide_eq_false (show ¬ 9218868437227405312 < y by omega)] at H2
    clear h hx
    go_enter Tryz.func35, Tryz.ntmps35
    go_wp2_with fail
    refine (H1 _).mono ?_
    rintro e v9 ⟨rfl, hw⟩
    obtain rfl := hw.symm
    clear hw
    go_wp2_with fail
    refine (H2 _).mono ?_
    rintro e v9 ⟨rfl, hw⟩
    obtain rfl := hw.symm
    clear hw
    go_wp2_with fail
    go_ret
    exact ⟨rfl, rfl⟩
  · rw [decide_eq_false (show ¬ y < 9218868437227405312 by omega)]
    rw [decide_eq_true h] at H1
    clear h hx H2
    go_enter Tryz.func35, Tryz.ntmps35
    go_wp2_with fail
    refine (H1 _).mono ?_
    rintro e v9 ⟨rfl, hw⟩
    obtain rfl := hw.symm
    clear hw
    go_wp2_with fail
    go_ret
    exact ⟨rfl, rfl⟩
  · rw [decide_eq_false (show ¬ y < 9218868437227405312 by omega)]
    rw [decide_eq_false (show ¬ y = 9218868437227405312 by omega)] at H1
    rw [decide_eq_true h] at H2
    clear h hx
    go_enter Tryz.func35, Tryz.ntmps35
    go_wp2_with fail
    refine (H1 _).mono ?_
    rintro e v9 ⟨rfl, hw⟩
    obtain rfl := hw.symm
    clear hw
    go_wp2_with fail
    refine (H2 _).mono ?_
    rintro e v9 ⟨rfl, hw⟩
    obtain rfl := hw.symm
    clear hw
    go_wp2_with fail
    go_ret
    exact ⟨rfl, rfl⟩
theorem finB_iff {x : Nat} (hx : x < 18446744073709551616) : finB x = true ↔ Fin64 x := by
  unfold finB
  rw [decide_eq_true_iff]
  exact ⟨fun h => ⟨hx, h⟩, fun h => h.fin⟩
def ddB (h l : Nat) : Bool := decide (h < 18446744073709551616) && decide (l < 18446744073709551616) && finB h && finB l && decide (rg 0 (ux h + ux l).natAbs < 9218868437227405312) && decide (rv (ux h + ux l) = ux h)
theorem ddB_iff {h l : Nat} : ddB h l = true ↔ DdF h l := by
  unfold ddB finB
  simp only [Bool.and_eq_true, decide_eq_true_iff]
  exact ⟨fun ⟨⟨⟨⟨⟨h1, h2⟩, h3⟩, h4⟩, h5⟩, h6⟩ => ⟨⟨h1, h3⟩, ⟨h2, h4⟩, h5, h6⟩, fun d => ⟨⟨⟨⟨⟨d.hi.lt, d.lo.lt⟩, d.hi.fin⟩, d.lo.fin⟩, d.fit⟩, d.eq⟩⟩
theorem ddB_not {h l : Nat} (hf : finB h = false) : ddB h l = false := by
  cases hb : ddB h l with
  | false => rfl
  | true =>
    have d := ddB_iff.1 hb
    have := (finB_iff d.hi.lt).2 d.hi
    rw [hf] at this
    cases this
theorem belowDn {B : Nat} {a w : World} (h : Below B a w) (n : Nat) : Below B a (w.drewN n) := ⟨h.os, h.tape, h.output, h.size, h.block⟩
theorem ddform (h l : Nat) (hh : h < 18446744073709551616) (hl : l < 18446744073709551616) (w : World) : Calls Tryz.prog 36 #[.agg #[Fv h, Fv l]] w fun en w' => en = .returned (.bool (ddB h l)) ∧ Below w.heap.size w w' := by
  have hSF : ∀ (w : World) (a : Addr) (b : Nat), (store a (Fv b)).run Tryz.prog w = stored Tryz.prog w a (Fv b) .plain := fun w a b => run_store _ w a (Fv b) _ rfl
  have H1 := ddfinite h hh
  cases hfb : finB h with
  | false =>
    rw [ddB_not hfb]
    rw [hfb] at H1
    clear hfb
    go_enter Tryz.func36, Tryz.ntmps36
    go_wp2_with fail
    refine (H1 _).mono ?_
    rintro e v9 ⟨rfl, hw⟩
    obtain rfl := hw.symm
    clear hw
    go_wp2_with fail
    go_ret
    exact ⟨rfl, bwAlloc w _⟩
  | true =>
    rw [hfb] at H1
    have hF := (finB_iff hh).1 hfb
    obtain ⟨r, n, hr, F⟩ := fop (P := Tryz.prog) .add (.inl rfl) 23 h l (w.alloc (Obj.cells #[Fv h, Fv l] 39))
    have hfm := form_iff hF hl F
    obtain ⟨o, ho⟩ : ∃ o, FloatKind.f64.format.order r h = o := ⟨_, rfl⟩
    have hb : ddB h l = (o == some .eq) := by
      rw [Bool.eq_iff_iff, ddB_iff, ← hfm, beq_iff_eq, ← ho]; rfl
    rw [hb]
    clear hb hfm F hF hfb hh hl
    go_enter Tryz.func36, Tryz.ntmps36
    go_wp2_with fail
    refine (H1 _).mono ?_
    rintro e v9 ⟨rfl, hw⟩
    obtain rfl := hw.symm
    clear hw
    rcases o with _ | _ | _ | _
    all_goals
      go_wp2_with fail
      go_ret
      exact ⟨by kernel_rfl, belowDn (bwAlloc w _) n⟩
end Go.Proofs.YtidggnjnlhjhlabGreatDoor
namespace Go.Proofs.YtidggnjnlhjhlabGreatDoor
open Go.RowKit
set_option maxRecDepth 20000
set_option maxHeartbeats 0
variable {P : Program} {md : Region.Mode} {ops : Array Oper} {Q : Exit → Act → World → Prop} {J : World → Prop} {L : Nat}

def ClosedL (md : Region.Mode) (ops : Array Oper) (listed : Array Bool) : Prop :=
  ∀ (k : Nat) (o : Oper), ops[k]? = some o → listed.getD k false = true → ∀ e ∈ o.after, Region.binds md e = true → listed.getD e.on false = true
theorem ClosedL.step {listed : Array Bool} (h : ClosedL md ops listed) {j : Nat} (hj : j ∈ Region.ready md ops listed) : ClosedL md ops (listed.setIfInBounds j true) := by
  intro k o ho hk e he hb
  obtain ⟨h0, oj, hoj, hall⟩ := mem_ready.1 hj
  by_cases hjk : j = k
  · subst hjk
    rw [hoj] at ho
    obtain rfl := Option.some.inj ho
    exact getD_set_true (hall e he hb)
  · rw [getD_set_ne false hjk] at hk
    exact getD_set_true (h k o ho hk e he hb)
end Go.Proofs.YtidggnjnlhjhlabGreatDoor
namespace Go.Proofs.YtidggnjnlhjhlabGreatDoor
open Go.RowKit Go.Shelf
set_option maxRecDepth 20000
set_option maxHeartbeats 0
def ordV : Ordering → Int
  | .lt => -1
  | .eq => 0
  | .gt => 1
theorem cisnan (x : Nat) (hx : Fin64 x) (w : World) : Calls Tryz.prog 58 #[Fv x] w fun en w' => en = .returned (.bool false) ∧ w' = w := by
  have ho : FloatKind.f64.format.order x x = some .eq := by
    show Ieee.double.order x x = _
    rw [order_fin hx hx, ordI, if_neg (by omega), if_pos rfl]
  clear hx
  go_enter Tryz.func58, Tryz.ntmps58
  go_wp2_with fail
  go_ret
  exact ⟨by kernel_rfl, rfl⟩
theorem ccompare (x y : Nat) (hx : Fin64 x) (hy : Fin64 y) (w : World) : Calls Tryz.prog 41 #[Fv x, Fv y] w fun en w' => en = .returned (.int .i64 (ordV (compare (ux x) (ux y)))) ∧ w' = w := by
  have N1 := cisnan x hx
  have N2 := cisnan y hy
  have ho : FloatKind.f64.format.order x y = some (compare (ux x) (ux y)) := order_fin hx hy
  generalize compare (ux x) (ux y) = o at ho ⊢
  clear hx hy
  go_enter Tryz.func41, Tryz.ntmps41
  go_wp2_with fail
  refine (N1 _).mono ?_
  rintro e v9 ⟨rfl, hw⟩
  obtain rfl := hw.symm
  clear hw
  go_wp2_with fail
  refine (N2 _).mono ?_
  rintro e v9 ⟨rfl, hw⟩
  obtain rfl := hw.symm
  clear hw
  rcases o with _ | _ | _
  all_goals
    go_wp2_with fail
    go_ret
    exact ⟨by kernel_rfl, rfl⟩
theorem stF (w : World) (a : Addr) (b : Nat) : (store a (Fv b)).run Tryz.prog w = stored Tryz.prog w a (Fv b) .plain := run_store _ w a (Fv b) _ rfl
theorem xorT (x : Nat) (h : x < 2 ^ 63) : x ^^^ 2 ^ 63 = 2 ^ 63 + x := by
  refine Nat.eq_of_testBit_eq fun j => ?_
  rw [Nat.testBit_xor, Nat.testBit_two_pow]
  rcases Nat.lt_trichotomy j 63 with hj | rfl | hj
  · rw [Nat.testBit_two_pow_add_gt hj, decide_eq_false (by omega)]; simp
  · rw [Nat.testBit_two_pow_add_eq]; simp
  · have h1 : 2 ^ 64 ≤ 2 ^ j := p2le (by omega)
    rw [Nat.testBit_lt_two_pow (show x < 2 ^ j by omega), Nat.testBit_lt_two_pow (show 2 ^ 63 + x < 2 ^ j by omega), decide_eq_false (by omega)]; rfl
theorem ngx_is (b : Nat) (hb : b < 18446744073709551616) : Op.negFloat .f64 b = flipS b := by
  unfold Op.negFloat flipS
  rw [show 2 ^ (FloatKind.f64.format.exponentBits + FloatKind.f64.format.fractionBits) = 2 ^ 63 from rfl]
  split
  · rename_i h
    have h1 : b = (b - 9223372036854775808) ^^^ 2 ^ 63 := by
      rw [xorT _ (by omega)]; omega
    generalize hc : b - 9223372036854775808 = c at h1 ⊢
    rw [h1, Nat.xor_assoc, Nat.xor_self, Nat.xor_zero]
  · rename_i h
    rw [xorT _ (by omega)]; omega
theorem ngS (b : Nat) (hb : b < 18446744073709551616) (w : World) : (Op.unary UnOp.neg (Fv b)).run Tryz.prog w = .ok (Fv (flipS b)) w := by
  rw [← ngx_is b hb]; rfl
theorem ddneg (h l : Nat) (hh : h < 18446744073709551616) (hl : l < 18446744073709551616) (w : World) : Calls Tryz.prog 23 #[.agg #[Fv h, Fv l]] w fun en w' => en = .returned (.agg #[Fv (flipS h), Fv (flipS l)]) ∧ Below w.heap.size w w' := by
  have hSF : ∀ (w : World) (a : Addr) (b : Nat), (store a (Fv b)).run Tryz.prog w = stored Tryz.prog w a (Fv b) .plain := stF
  have n1 := ngS h hh
  have n2 := ngS l hl
  go_enter Tryz.func23, Tryz.ntmps23
  go_wp2_with fail
  refine bodyPost_ret (v := .agg #[Fv (flipS h), Fv (flipS l)]) (by rw [results_cell1 rfl]; go_simp) rfl ⟨rfl, ?_⟩
  exact (bwAlloc w _).alloc (bwAlloc w _).size _
def cmpD (h l h' l' : Nat) : Int := if ddB h l && ddB h' l' then ordV (compare (ux h + ux l) (ux h' + ux l')) else 0
theorem cmpD_eq {h l h' l' : Nat} (d : DdF h l) (d' : DdF h' l') : cmpD h l h' l' = if compare (ux h) (ux h') = .eq then ordV (compare (ux l) (ux l')) else ordV (compare (ux h) (ux h')) := by
  unfold cmpD
  rw [ddB_iff.2 d, ddB_iff.2 d', dd_order d d', ordI (ux h) (ux h')]
  simp only [Bool.and_self, if_true]
  rcases Int.lt_trichotomy (ux h) (ux h') with h1 | h1 | h1
  · rw [if_neg (by omega), if_pos h1, if_neg (by decide)]
  · rw [h1]; simp
  · rw [if_neg (by omega), if_neg (by omega), if_neg (by omega), if_neg (by decide)]
theorem ddcmp (h l h' l' : Nat) (hh : h < 18446744073709551616) (hl : l < 18446744073709551616) (hh' : h' < 18446744073709551616) (hl' : l' < 18446744073709551616) (w : World) : Calls Tryz.prog 22 #[.agg #[Fv h, Fv l], .agg #[Fv h', Fv l']] w fun en w' => en = .returned (.int .i64 (cmpD h l h' l')) ∧ Below w.heap.size w w' := by
  have H1 := ddform h l hh hl
  have H2 := ddform h' l' hh' hl'
  cases hA : ddB h l with
  | false =>
    rw [show cmpD h l h' l' = 0 by unfold cmpD; rw [hA]; rfl]
    rw [hA] at H1
    clear hA H2 hh hl hh' hl'
    go_enter Tryz.func22, Tryz.ntmps22
    go_wp2_with fail
    obtain ⟨W0, hW0⟩ : ∃ W0, W0 = ((w.alloc (.cells #[Fv h, Fv l] 39)).alloc (.cells #[Fv h', Fv l'] 39)) := ⟨_, rfl⟩
    have Xa : Hid (Box W0 (w.heap.size) (Fv h) (Fv l)) := by rw [hW0]; exact ⟨by go_simp, by go_simp, by go_simp, by go_simp⟩
    have Xb : Hid (Box W0 (w.heap.size + 1) (Fv h') (Fv l')) := by rw [hW0]; exact ⟨by go_simp, by go_simp, by go_simp, by go_simp⟩
    have hb0 : Below w.heap.size w W0 := by rw [hW0]; exact below2 w _ _
    rw [← hW0]
    clear hW0
    have hbw : Below w.heap.size w w := Below.refl _ _
    obtain ⟨gb, hgb⟩ : ∃ g, g = w.heap.size + 1 := ⟨_, rfl⟩
    have HGb : Hid (w.heap.size ≤ gb) := by rw [hgb]; show _ ≤ _; omega
    rw [← hgb] at Xb
    try rw [← hgb]
    obtain ⟨ga, hga⟩ : ∃ g, g = w.heap.size := ⟨_, rfl⟩
    have HGa : Hid (w.heap.size ≤ ga) := by rw [hga]; show _ ≤ _; omega
    rw [← hga] at Xa
    try rw [← hga]
    have HGD : Hid (ga ≠ gb ∧ gb ≠ ga) := by rw [hga, hgb]; exact ⟨by omega, by omega⟩
    clear hga hgb
    replace hbw := Below.on hbw hb0
    clear hb0
    obtain ⟨hgd0, hgd1⟩ := HGD.out
    refine (H1 _).mono ?_
    rintro e v1 ⟨rfl, hb1⟩
    replace Xa : Hid _ := Xa.out.below hb1
    replace Xb : Hid _ := Xb.out.below hb1
    replace hbw := Below.on hbw hb1
    clear hb1
    obtain ⟨ca0, ca1, fa0, fa1⟩ := Xa.out
    have hnea := Xa.out.lt
    obtain ⟨cb0, cb1, fb0, fb1⟩ := Xb.out
    have hneb := Xb.out.lt
    go_wp2_with fail
    clear ca0 ca1 fa0 fa1 hnea
    clear cb0 cb1 fb0 fb1 hneb
    go_ret
    exact ⟨by kernel_rfl, hbw⟩
  | true =>
  cases hB : ddB h' l' with
  | false =>
    rw [show cmpD h l h' l' = 0 by unfold cmpD; rw [hA, hB]; rfl]
    rw [hA] at H1
    rw [hB] at H2
    clear hA hB hh hl hh' hl'
    go_enter Tryz.func22, Tryz.ntmps22
    go_wp2_with fail
    obtain ⟨W0, hW0⟩ : ∃ W0, W0 = ((w.alloc (.cells #[Fv h, Fv l] 39)).alloc (.cells #[Fv h', Fv l'] 39)) := ⟨_, rfl⟩
    have Xa : Hid (Box W0 (w.heap.size) (Fv h) (Fv l)) := by rw [hW0]; exact ⟨by go_simp, by go_simp, by go_simp, by go_simp⟩
    have Xb : Hid (Box W0 (w.heap.size + 1) (Fv h') (Fv l')) := by rw [hW0]; exact ⟨by go_simp, by go_simp, by go_simp, by go_simp⟩
    have hb0 : Below w.heap.size w W0 := by rw [hW0]; exact below2 w _ _
    rw [← hW0]
    clear hW0
    have hbw : Below w.heap.size w w := Below.refl _ _
    obtain ⟨gb, hgb⟩ : ∃ g, g = w.heap.size + 1 := ⟨_, rfl⟩
    have HGb : Hid (w.heap.size ≤ gb) := by rw [hgb]; show _ ≤ _; omega
    rw [← hgb] at Xb
    try rw [← hgb]
    obtain ⟨ga, hga⟩ : ∃ g, g = w.heap.size := ⟨_, rfl⟩
    have HGa : Hid (w.heap.size ≤ ga) := by rw [hga]; show _ ≤ _; omega
    rw [← hga] at Xa
    try rw [← hga]
    have HGD : Hid (ga ≠ gb ∧ gb ≠ ga) := by rw [hga, hgb]; exact ⟨by omega, by omega⟩
    clear hga hgb
    replace hbw := Below.on hbw hb0
    clear hb0
    obtain ⟨hgd0, hgd1⟩ := HGD.out
    refine (H1 _).mono ?_
    rintro e v1 ⟨rfl, hb1⟩
    replace Xa : Hid _ := Xa.out.below hb1
    replace Xb : Hid _ := Xb.out.below hb1
    replace hbw := Below.on hbw hb1
    clear hb1
    obtain ⟨ca0, ca1, fa0, fa1⟩ := Xa.out
    have hnea := Xa.out.lt
    obtain ⟨cb0, cb1, fb0, fb1⟩ := Xb.out
    have hneb := Xb.out.lt
    go_wp2_with fail
    clear ca0 ca1 fa0 fa1 hnea
    clear cb0 cb1 fb0 fb1 hneb
    refine (H2 _).mono ?_
    rintro e v2 ⟨rfl, hb2⟩
    replace Xa : Hid _ := Xa.out.below hb2
    replace Xb : Hid _ := Xb.out.below hb2
    replace hbw := Below.on hbw hb2
    clear hb2
    obtain ⟨ca0, ca1, fa0, fa1⟩ := Xa.out
    have hnea := Xa.out.lt
    obtain ⟨cb0, cb1, fb0, fb1⟩ := Xb.out
    have hneb := Xb.out.lt
    go_wp2_with fail
    clear ca0 ca1 fa0 fa1 hnea
    clear cb0 cb1 fb0 fb1 hneb
    go_ret
    exact ⟨by kernel_rfl, hbw⟩
  | true =>
    have d := ddB_iff.1 hA
    have d' := ddB_iff.1 hB
    rw [cmpD_eq d d']
    rw [hA] at H1
    rw [hB] at H2
    have C1 := ccompare h h' d.hi d'.hi
    have C2 := ccompare l l' d.lo d'.lo
    generalize compare (ux h) (ux h') = o at C1 ⊢
    generalize ordV (compare (ux l) (ux l')) = k at C2 ⊢
    clear d d' hA hB hh hl hh' hl'
    go_enter Tryz.func22, Tryz.ntmps22
    go_wp2_with fail
    obtain ⟨W0, hW0⟩ : ∃ W0, W0 = ((w.alloc (.cells #[Fv h, Fv l] 39)).alloc (.cells #[Fv h', Fv l'] 39)) := ⟨_, rfl⟩
    have Xa : Hid (Box W0 (w.heap.size) (Fv h) (Fv l)) := by rw [hW0]; exact ⟨by go_simp, by go_simp, by go_simp, by go_simp⟩
    have Xb : Hid (Box W0 (w.heap.size + 1) (Fv h') (Fv l')) := by rw [hW0]; exact ⟨by go_simp, by go_simp, by go_simp, by go_simp⟩
    have hb0 : Below w.heap.size w W0 := by rw [hW0]; exact below2 w _ _
    rw [← hW0]
    clear hW0
    have hbw : Below w.heap.size w w := Below.refl _ _
    obtain ⟨gb, hgb⟩ : ∃ g, g = w.heap.size + 1 := ⟨_, rfl⟩
    have HGb : Hid (w.heap.size ≤ gb) := by rw [hgb]; show _ ≤ _; omega
    rw [← hgb] at Xb
    try rw [← hgb]
    obtain ⟨ga, hga⟩ : ∃ g, g = w.heap.size := ⟨_, rfl⟩
    have HGa : Hid (w.heap.size ≤ ga) := by rw [hga]; show _ ≤ _; omega
    rw [← hga] at Xa
    try rw [← hga]
    have HGD : Hid (ga ≠ gb ∧ gb ≠ ga) := by rw [hga, hgb]; exact ⟨by omega, by omega⟩
    clear hga hgb
    replace hbw := Below.on hbw hb0
    clear hb0
    obtain ⟨hgd0, hgd1⟩ := HGD.out
    refine (H1 _).mono ?_
    rintro e v1 ⟨rfl, hb1⟩
    replace Xa : Hid _ := Xa.out.below hb1
    replace Xb : Hid _ := Xb.out.below hb1
    replace hbw := Below.on hbw hb1
    clear hb1
    obtain ⟨ca0, ca1, fa0, fa1⟩ := Xa.out
    have hnea := Xa.out.lt
    obtain ⟨cb0, cb1, fb0, fb1⟩ := Xb.out
    have hneb := Xb.out.lt
    go_wp2_with fail
    clear ca0 ca1 fa0 fa1 hnea
    clear cb0 cb1 fb0 fb1 hneb
    refine (H2 _).mono ?_
    rintro e v2 ⟨rfl, hb2⟩
    replace Xa : Hid _ := Xa.out.below hb2
    replace Xb : Hid _ := Xb.out.below hb2
    replace hbw := Below.on hbw hb2
    clear hb2
    obtain ⟨ca0, ca1, fa0, fa1⟩ := Xa.out
    have hnea := Xa.out.lt
    obtain ⟨cb0, cb1, fb0, fb1⟩ := Xb.out
    have hneb := Xb.out.lt
    go_wp2_with fail
    clear ca0 ca1 fa0 fa1 hnea
    clear cb0 cb1 fb0 fb1 hneb
    refine (C1 _).mono ?_
    rintro e v9 ⟨rfl, hw⟩
    obtain rfl := hw.symm
    clear hw
    rcases o with _ | _ | _
    · dsimp only [ordV]
      obtain ⟨ca0, ca1, fa0, fa1⟩ := Xa.out
      have hnea := Xa.out.lt
      obtain ⟨cb0, cb1, fb0, fb1⟩ := Xb.out
      have hneb := Xb.out.lt
      go_wp2_with fail
      clear ca0 ca1 fa0 fa1 hnea
      clear cb0 cb1 fb0 fb1 hneb
      go_ret
      exact ⟨by first | rfl | kernel_rfl, hbw⟩
    · dsimp only [ordV]
      obtain ⟨ca0, ca1, fa0, fa1⟩ := Xa.out
      have hnea := Xa.out.lt
      obtain ⟨cb0, cb1, fb0, fb1⟩ := Xb.out
      have hneb := Xb.out.lt
      go_wp2_with fail
      clear ca0 ca1 fa0 fa1 hnea
      clear cb0 cb1 fb0 fb1 hneb
      refine (C2 _).mono ?_
      rintro e v9 ⟨rfl, hw⟩
      obtain rfl := hw.symm
      clear hw
      obtain ⟨ca0, ca1, fa0, fa1⟩ := Xa.out
      have hnea := Xa.out.lt
      obtain ⟨cb0, cb1, fb0, fb1⟩ := Xb.out
      have hneb := Xb.out.lt
      go_wp2_with fail
      clear ca0 ca1 fa0 fa1 hnea
      clear cb0 cb1 fb0 fb1 hneb
      go_ret
      exact ⟨by first | rfl | kernel_rfl, hbw⟩
    · dsimp only [ordV]
      obtain ⟨ca0, ca1, fa0, fa1⟩ := Xa.out
      have hnea := Xa.out.lt
      obtain ⟨cb0, cb1, fb0, fb1⟩ := Xb.out
      have hneb := Xb.out.lt
      go_wp2_with fail
      clear ca0 ca1 fa0 fa1 hnea
      clear cb0 cb1 fb0 fb1 hneb
      go_ret
      exact ⟨by first | rfl | kernel_rfl, hbw⟩
theorem ddOf {x : Nat} (hx : Fin64 x) (w : World) :
    Calls Tryz.prog 15 #[Fv x] w fun en w' => en = .returned (.agg #[Fv x, Fv 0]) ∧ Below w.heap.size w w' := by
  have hSF : ∀ (w : World) (a : Addr) (b : Nat), (store a (Fv b)).run Tryz.prog w = stored Tryz.prog w a (Fv b) .plain := stF
  have H1 := ddfinite x hx.lt
  rw [(finB_iff hx.lt).2 hx] at H1
  clear hx
  go_enter Tryz.func15, Tryz.ntmps15
  go_wp2_with fail
  obtain ⟨W0, hW0⟩ : ∃ W0, W0 = (w.alloc (.cells #[Fv 0, Fv 0] 39)) := ⟨_, rfl⟩
  have Xr : Hid (Box W0 (w.heap.size) (Fv 0) (Fv 0)) := by rw [hW0]; exact ⟨by go_simp, by go_simp, by go_simp, by go_simp⟩
  have hb0 : Below w.heap.size w W0 := by rw [hW0]; exact below1 w _
  rw [← hW0]
  clear hW0
  have hbw : Below w.heap.size w w := Below.refl _ _
  obtain ⟨gr, hgr⟩ : ∃ g, g = w.heap.size := ⟨_, rfl⟩
  have HGr : Hid (w.heap.size ≤ gr) := by rw [hgr]; show _ ≤ _; omega
  rw [← hgr] at Xr
  try rw [← hgr]
  clear hgr
  replace hbw := Below.on hbw hb0
  clear hb0
  refine (H1 _).mono ?_
  rintro e v9 ⟨rfl, hw⟩
  obtain rfl := hw.symm
  clear hw
  obtain ⟨cr0, cr1, fr0, fr1⟩ := Xr.out
  have hner := Xr.out.lt
  go_wp2_with fail
  refine bodyPost_ret (v := .agg #[Fv x, Fv 0]) (by rw [results_cell1 rfl]; go_simp) rfl ⟨rfl, ?_⟩
  exact bSet (bSet (hbw) _ _ _ HGr.out) _ _ _ HGr.out
theorem ddpair (x y : Nat) (w : World) :
    Calls Tryz.prog 34 #[Fv x, Fv y] w fun en w' => en = .returned (.agg #[Fv x, Fv y]) ∧ Below w.heap.size w w' := by
  have hSF : ∀ (w : World) (a : Addr) (b : Nat), (store a (Fv b)).run Tryz.prog w = stored Tryz.prog w a (Fv b) .plain := stF
  go_enter Tryz.func34, Tryz.ntmps34
  go_wp2_with fail
  refine bodyPost_ret (v := .agg #[Fv x, Fv y]) (by rw [results_cell1 rfl]; go_simp) rfl ⟨rfl, below1 w _⟩
theorem DdF.of_sm {X : Int} {s r : Nat} (h : Sm64 X s) (hr : Fin64 r) (hx : ux s + ux r = X) : DdF s r := by
  have h1 : rg 0 X.natAbs < 9218868437227405312 := by rw [← h.size]; exact h.fin.fin
  refine ⟨h.fin, hr, by rw [hx]; exact h1, ?_⟩
  rw [hx]
  unfold rv
  rw [← h.size, ux_eq]
  by_cases h0 : X = 0
  · have h2 : s % 9223372036854775808 = 0 := by rw [h.size, h0]; rfl
    rw [h2, vs_zero, if_neg (by omega)]
    split <;> rfl
  · have h3 := h.sign h0
    by_cases h4 : X < 0
    · rw [if_pos h4, if_pos (h3.2 h4)]
    · rw [if_neg h4, if_neg (fun h5 => h4 (h3.1 h5))]
theorem ddSum_g (a b : Nat) (w : World) :
    Calls Tryz.prog 13 #[Fv a, Fv b] w fun en w' => ∃ s r, en = .returned (.agg #[Fv s, Fv r]) ∧ TSR a b s r ∧ Below w.heap.size w w' := by
  have hSF : ∀ (w : World) (a : Addr) (b : Nat), (store a (Fv b)).run Tryz.prog w = stored Tryz.prog w a (Fv b) .plain := stF
  go_enter Tryz.func13, Tryz.ntmps13
  go_wp2_with fail
  obtain ⟨W0, hW0⟩ : ∃ W0, W0 = (w.alloc (.cells #[Fv 0, Fv 0] 39)) := ⟨_, rfl⟩
  have Xr : Hid (Box W0 (w.heap.size) (Fv 0) (Fv 0)) := by rw [hW0]; exact ⟨by go_simp, by go_simp, by go_simp, by go_simp⟩
  have hb0 : Below w.heap.size w W0 := by rw [hW0]; exact below1 w _
  rw [← hW0]
  clear hW0
  have hbw : Below w.heap.size w w := Below.refl _ _
  obtain ⟨gr, hgr⟩ : ∃ g, g = w.heap.size := ⟨_, rfl⟩
  have HGr : Hid (w.heap.size ≤ gr) := by rw [hgr]; show _ ≤ _; omega
  rw [← hgr] at Xr
  try rw [← hgr]
  clear hgr
  replace hbw := Below.on hbw hb0
  clear hb0
  refine (twoSum a b _).mono ?_
  rintro e9 v9 ⟨s9, r9, n9, rfl, rfl, hR⟩
  have HR := Hid.mk9 hR
  clear hR
  have hbr := bDrewN (Below.refl W0.heap.size W0) n9
  generalize W0.drewN n9 = V1 at *
  replace Xr : Hid _ := Xr.out.below hbr
  replace hbw := Below.on hbw hbr
  clear hbr
  go_wp2_with fail
  refine (ddpair s9 r9 _).mono ?_
  rintro e v2 ⟨rfl, hb2⟩
  replace Xr : Hid _ := Xr.out.below hb2
  replace hbw := Below.on hbw hb2
  clear hb2
  obtain ⟨cr0, cr1, fr0, fr1⟩ := Xr.out
  have hner := Xr.out.lt
  go_wp2_with fail
  refine bodyPost_ret (v := .agg #[Fv s9, Fv r9]) (by rw [results_cell1 rfl]; go_simp) rfl ⟨s9, r9, rfl, HR.out, ?_⟩
  exact bSet (bSet (hbw) _ _ _ HGr.out) _ _ _ HGr.out
theorem sz_of {b K : Nat} (h : (ux b).natAbs < 2 ^ (52 + K)) : b % 9223372036854775808 < (K + 1) * 4503599627370496 := by
  rw [ux_abs] at h
  refine Nat.lt_of_not_le fun k => ?_
  have h1 := vs_le4 k
  have h2 := vs_at K 4503599627370496 (.inr (Nat.le_refl _)) (by decide)
  rw [show K * 4503599627370496 + 4503599627370496 = (K + 1) * 4503599627370496 by omega] at h2
  rw [h2] at h1
  rw [show 2 ^ (52 + K) = 4503599627370496 * 2 ^ K by rw [Nat.pow_add]] at h
  omega
theorem sz_le {a b : Nat} (h : (ux a).natAbs ≤ (ux b).natAbs) : a % 9223372036854775808 ≤ b % 9223372036854775808 := by
  rw [ux_abs, ux_abs] at h
  refine Nat.le_of_not_lt fun k => ?_
  have := vs_mono (H := 4503599627370496) (by decide) k
  omega
theorem sz_0 {a : Nat} (h : ux a = 0) : a % 9223372036854775808 = 0 := by
  have h1 : (ux a).natAbs = 0 := by rw [h]; rfl
  rw [ux_abs] at h1
  refine Nat.eq_zero_of_not_pos fun k => ?_
  have := vs_mono (H := 4503599627370496) (by decide) k
  rw [vs_zero] at this
  omega
def BigE : Nat := 1400
def BigU : Nat := 2 ^ BigE
theorem big_max {K M J : Nat} (hK : K = 2044) (hM : M = 1400) (hJ : J = 2043) : 64 * 2 ^ M < 2 ^ (52 + J) ∧ 2 ^ (52 + J) ≤ MaxU := by
  have h1 := (max_big hK rfl).1
  have h2 : 2 ^ (52 + J) ≤ 2 ^ (52 + K) := Nat.pow_le_pow_right (by decide) (by omega)
  have h3 : 64 * 2 ^ M < 2 ^ (52 + J) := by
    rw [show 64 * 2 ^ M = 2 ^ (6 + M) by rw [Nat.pow_add]]
    exact Nat.pow_lt_pow_right (by decide) (by omega)
  exact ⟨h3, by omega⟩
theorem BigU.sz6 {b : Nat} (h : (ux b).natAbs < 64 * BigU) : b % 9223372036854775808 ≤ 9209861237972664320 := by
  obtain ⟨J, hJ⟩ : ∃ J, J = 2043 := ⟨_, rfl⟩
  have h1 := (big_max (K := 2044) (M := BigE) rfl rfl hJ).1
  have h2 := sz_of (b := b) (K := J) (Nat.lt_trans h (by have h3 : BigU = 2 ^ BigE := rfl; rw [h3]; exact h1))
  rw [hJ] at h2
  omega
theorem BigU.sz {b : Nat} (h : (ux b).natAbs ≤ 32 * BigU) : b % 9223372036854775808 ≤ 9209861237972664320 :=
  BigU.sz6 (Nat.lt_of_le_of_lt h (Nat.mul_lt_mul_of_pos_right (by decide) (Nat.two_pow_pos BigE)))
theorem BigU.max {x : Int} (h : x.natAbs ≤ 64 * BigU) : x.natAbs ≤ MaxU := by
  have h1 := big_max (K := 2044) (M := BigE) rfl rfl rfl
  have h3 : BigU = 2 ^ BigE := rfl
  rw [h3] at h
  exact Nat.le_trans h (Nat.le_trans (Nat.le_of_lt h1.1) h1.2)
theorem fit_big {h : Nat} (k : h % 9223372036854775808 ≤ 5958262307011166208) : (ux h).natAbs ≤ BigU := by
  obtain ⟨K, hK⟩ : ∃ K, K = 1322 := ⟨_, rfl⟩
  have h1 := ux_pow (b := h) (K := K) (by omega)
  exact Nat.le_trans h1 (Nat.pow_le_pow_right (by decide) (by rw [hK]; decide))
theorem rn_two {x s : Int} (h : Rn 53 x s) : s.natAbs ≤ 2 * x.natAbs := by
  have := rn_rel h
  have := ab3 (a := s) (b := x)
  omega
theorem form_lo {h l : Nat} (d : DdF h l) (k : (ux h).natAbs ≤ BigU) : (ux l).natAbs ≤ BigU := by
  have := form_l d.rn
  omega
theorem sum_bd {x y : Int} {B C : Nat} (hx : x.natAbs ≤ B) (hy : y.natAbs ≤ C) : (x + y).natAbs ≤ B + C := by omega
structure Add1 (h l h' l' s1 r1 s2 r2 : Nat) : Prop where
  a : Sm64 (ux h + ux h') s1
  ar : Fin64 r1
  ae : ux s1 + ux r1 = ux h + ux h'
  b : Sm64 (ux l + ux l') s2
  br : Fin64 r2
  be : ux s2 + ux r2 = ux l + ux l'
  m1 : (ux s1).natAbs ≤ 4 * BigU
  m2 : (ux r1).natAbs ≤ BigU
  m3 : (ux s2).natAbs ≤ 4 * BigU
  m4 : (ux r2).natAbs ≤ BigU
theorem left_bd {x s r : Int} {B : Nat} (h : Rn 53 x s) (e : s + r = x) (hx : x.natAbs ≤ 2 * B) : s.natAbs ≤ 4 * B ∧ r.natAbs ≤ B := by
  have h1 := rn_rel h
  have h2 := rn_two h
  rw [ab4 e] at h1
  omega
theorem dda_1 {h l h' l' s1 r1 s2 r2 : Nat} (d : DdF h l) (d' : DdF h' l') (k : h % 9223372036854775808 ≤ 5958262307011166208) (k' : h' % 9223372036854775808 ≤ 5958262307011166208) (T1 : TSR h h' s1 r1) (T2 : TSR l l' s2 r2) : Add1 h l h' l' s1 r1 s2 r2 := by
  have a1 := fit_big k
  have a2 := fit_big k'
  have b1 := form_lo d a1
  have b2 := form_lo d' a2
  obtain ⟨c1, c2, c3⟩ := T1.ok d.hi.lt d'.hi.lt (BigU.sz (by omega)) (BigU.sz (by omega))
  obtain ⟨e1, e2, e3⟩ := T2.ok d.lo.lt d'.lo.lt (BigU.sz (by omega)) (BigU.sz (by omega))
  have f1 := left_bd (B := BigU) c1.rn c3 (by have := sum_bd a1 a2; omega)
  have f2 := left_bd (B := BigU) e1.rn e3 (by have := sum_bd b1 b2; omega)
  exact ⟨c1, c2, c3, e1, e2, e3, f1.1, f1.2, f2.1, f2.2⟩
theorem dda_2 {h l h' l' s1 r1 s2 r2 : Nat} (A : Add1 h l h' l' s1 r1 s2 r2) : ∃ c, floatBits .add .f64 r1 s2 = some c ∧ Sm64 (ux r1 + ux s2) c :=
  fl_add_fin A.ar A.b.fin (BigU.max (by have := sum_bd A.m2 A.m3; omega))
structure Add3 (s1 c s3 r3 : Nat) : Prop where
  a : Sm64 (ux s1 + ux c) s3
  ar : Fin64 r3
  ae : ux s3 + ux r3 = ux s1 + ux c
  m1 : (ux s3).natAbs ≤ 32 * BigU
  m2 : (ux r3).natAbs ≤ 16 * BigU
theorem dda_3 {h l h' l' s1 r1 s2 r2 c s3 r3 : Nat} (A : Add1 h l h' l' s1 r1 s2 r2) (C : Sm64 (ux r1 + ux s2) c) (T3 : TSR s1 c s3 r3) : Add3 s1 c s3 r3 := by
  have b1 := rn_two C.rn
  have b2 := sum_bd A.m2 A.m3
  have b3 : (ux c).natAbs ≤ 10 * BigU := by omega
  have m1 := A.m1
  obtain ⟨c1, c2, c3⟩ := T3.ok A.a.fin.lt C.fin.lt (BigU.sz (by omega)) (BigU.sz (by omega))
  have b4 := sum_bd m1 b3
  have f := left_bd (B := 7 * BigU) c1.rn c3 (by omega)
  exact ⟨c1, c2, c3, by omega, by omega⟩
theorem dda_4 {h l h' l' s1 r1 s2 r2 c s3 r3 : Nat} (A : Add1 h l h' l' s1 r1 s2 r2) (B : Add3 s1 c s3 r3) : ∃ w, floatBits .add .f64 r3 r2 = some w ∧ Sm64 (ux r3 + ux r2) w :=
  fl_add_fin B.ar A.br (BigU.max (by have := sum_bd B.m2 A.m4; omega))
theorem dda_5 {h l h' l' s1 r1 s2 r2 c s3 r3 v s4 r4 : Nat} (d : DdF h l) (d' : DdF h' l') (A : Add1 h l h' l' s1 r1 s2 r2) (C : Sm64 (ux r1 + ux s2) c) (B : Add3 s1 c s3 r3) (V : Sm64 (ux r3 + ux r2) v) (F : FSR s3 v s4 r4) :
    DdF s4 r4 ∧ 81129638414606681695789005144064 * (ux s4 + ux r4 - (ux h + ux l + (ux h' + ux l'))).natAbs ≤ 8 * (ux h + ux l + (ux h' + ux l')).natAbs := by
  have k := dd_add d.rn d'.rn d.lo.fl d'.lo.fl A.a.rn A.ae A.b.rn A.be C.rn B.a.rn B.ae (by have h := V.rn; rwa [Int.add_comm] at h)
  have b1 := rn_two V.rn
  have b2 := sum_bd B.m2 A.m4
  have m1 := B.m1
  have vb : (ux v).natAbs ≤ 34 * BigU := by omega
  have vs : v % 9223372036854775808 ≤ 9209861237972664320 := by
    rcases k.2 with h0 | h0
    · exact BigU.sz6 (Nat.lt_of_le_of_lt vb (Nat.mul_lt_mul_of_pos_right (by decide) (Nat.two_pow_pos BigE)))
    · exact BigU.sz (Nat.le_trans h0 m1)
  obtain ⟨c1, c2, c3⟩ := F.ok B.a.fin.lt V.fin.lt (BigU.sz m1) vs (k.2.elim (fun h0 => .inl (sz_0 h0)) (fun h0 => .inr (sz_le h0)))
  refine ⟨DdF.of_sm c1 c2 c3, ?_⟩
  rw [c3]; exact k.1
theorem ddAdd_f {h l h' l' : Nat} (d : DdF h l) (d' : DdF h' l') (k : h % 9223372036854775808 ≤ 5958262307011166208) (k' : h' % 9223372036854775808 ≤ 5958262307011166208) (w : World) :
    Calls Tryz.prog 17 #[.agg #[Fv h, Fv l], .agg #[Fv h', Fv l']] w fun en w' => ∃ s r, en = .returned (.agg #[Fv s, Fv r]) ∧ DdF s r ∧ 81129638414606681695789005144064 * (ux s + ux r - (ux h + ux l + (ux h' + ux l'))).natAbs ≤ 8 * (ux h + ux l + (ux h' + ux l')).natAbs ∧ Below w.heap.size w w' := by
  have hSF : ∀ (w : World) (a : Addr) (b : Nat), (store a (Fv b)).run Tryz.prog w = stored Tryz.prog w a (Fv b) .plain := stF
  have HD : Hid ((DdF h l ∧ DdF h' l') ∧ h % 9223372036854775808 ≤ 5958262307011166208 ∧ h' % 9223372036854775808 ≤ 5958262307011166208) := ⟨⟨d, d'⟩, k, k'⟩
  clear d d' k k'
  go_enter Tryz.func17, Tryz.ntmps17
  go_wp2_with fail
  obtain ⟨W0, hW0⟩ : ∃ W0, W0 = (((w.alloc (.cells #[Fv h, Fv l] 39)).alloc (.cells #[Fv h', Fv l'] 39)).alloc (.cells #[Fv 0, Fv 0] 39)) := ⟨_, rfl⟩
  have Xa : Hid (Box W0 (w.heap.size) (Fv h) (Fv l)) := by rw [hW0]; exact ⟨by go_simp, by go_simp, by go_simp, by go_simp⟩
  have Xb : Hid (Box W0 (w.heap.size + 1) (Fv h') (Fv l')) := by rw [hW0]; exact ⟨by go_simp, by go_simp, by go_simp, by go_simp⟩
  have Xr : Hid (Box W0 (w.heap.size + 1 + 1) (Fv 0) (Fv 0)) := by rw [hW0]; exact ⟨by go_simp, by go_simp, by go_simp, by go_simp⟩
  have hb0 : Below w.heap.size w W0 := by rw [hW0]; exact below3 w _ _ _
  rw [← hW0]
  clear hW0
  have hbw : Below w.heap.size w w := Below.refl _ _
  obtain ⟨gr, hgr⟩ : ∃ g, g = w.heap.size + 1 + 1 := ⟨_, rfl⟩
  have HGr : Hid (w.heap.size ≤ gr) := by rw [hgr]; show _ ≤ _; omega
  rw [← hgr] at Xr
  try rw [← hgr]
  obtain ⟨gb, hgb⟩ : ∃ g, g = w.heap.size + 1 := ⟨_, rfl⟩
  have HGb : Hid (w.heap.size ≤ gb) := by rw [hgb]; show _ ≤ _; omega
  rw [← hgb] at Xb
  try rw [← hgb]
  obtain ⟨ga, hga⟩ : ∃ g, g = w.heap.size := ⟨_, rfl⟩
  have HGa : Hid (w.heap.size ≤ ga) := by rw [hga]; show _ ≤ _; omega
  rw [← hga] at Xa
  try rw [← hga]
  have HGD : Hid (ga ≠ gb ∧ ga ≠ gr ∧ gb ≠ ga ∧ gb ≠ gr ∧ gr ≠ ga ∧ gr ≠ gb) := by rw [hga, hgb, hgr]; exact ⟨by omega, by omega, by omega, by omega, by omega, by omega⟩
  clear hga hgb hgr
  replace hbw := Below.on hbw hb0
  clear hb0
  obtain ⟨ca0, ca1, fa0, fa1⟩ := Xa.out
  have hnea := Xa.out.lt
  obtain ⟨cb0, cb1, fb0, fb1⟩ := Xb.out
  have hneb := Xb.out.lt
  go_wp2_with fail
  clear ca0 ca1 fa0 fa1 hnea
  clear cb0 cb1 fb0 fb1 hneb
  refine (twoSum h h' _).mono ?_
  rintro e9 v9 ⟨s1, r1, n9, rfl, rfl, hR1⟩
  have HR1 := Hid.mk9 hR1
  clear hR1
  have hbr := bDrewN (Below.refl W0.heap.size W0) n9
  generalize W0.drewN n9 = V1 at *
  replace Xa : Hid _ := Xa.out.below hbr
  replace Xb : Hid _ := Xb.out.below hbr
  replace Xr : Hid _ := Xr.out.below hbr
  replace hbw := Below.on hbw hbr
  clear hbr
  obtain ⟨ca0, ca1, fa0, fa1⟩ := Xa.out
  have hnea := Xa.out.lt
  obtain ⟨cb0, cb1, fb0, fb1⟩ := Xb.out
  have hneb := Xb.out.lt
  go_wp2_with fail
  clear ca0 ca1 fa0 fa1 hnea
  clear cb0 cb1 fb0 fb1 hneb
  refine (twoSum l l' _).mono ?_
  rintro e9 v9 ⟨s2, r2, n9, rfl, rfl, hR2⟩
  have HR2 := Hid.mk9 hR2
  clear hR2
  have hbr := bDrewN (Below.refl V1.heap.size V1) n9
  generalize V1.drewN n9 = V2 at *
  replace Xa : Hid _ := Xa.out.below hbr
  replace Xb : Hid _ := Xb.out.below hbr
  replace Xr : Hid _ := Xr.out.below hbr
  replace hbw := Below.on hbw hbr
  clear hbr
  have A1 := Hid.mk9 (dda_1 HD.out.1.1 HD.out.1.2 HD.out.2.1 HD.out.2.2 HR1.out HR2.out)
  obtain ⟨c, hc1, hc2⟩ := dda_2 A1.out
  have C2 := Hid.mk9 hc2
  have hcr : ∀ W : World, (binOp .add 23 (Fv r1) (Fv s2)).run Tryz.prog W = .ok (Fv c) W := fun W => run_float_arith W .add 23 .f64 r1 s2 c hc1
  clear hc1 hc2
  obtain ⟨ca0, ca1, fa0, fa1⟩ := Xa.out
  have hnea := Xa.out.lt
  obtain ⟨cb0, cb1, fb0, fb1⟩ := Xb.out
  have hneb := Xb.out.lt
  go_wp2_with fail
  clear ca0 ca1 fa0 fa1 hnea
  clear cb0 cb1 fb0 fb1 hneb
  refine (twoSum s1 c _).mono ?_
  rintro e9 v9 ⟨s3, r3, n9, rfl, rfl, hR3⟩
  have HR3 := Hid.mk9 hR3
  clear hR3
  have hbr := bDrewN (Below.refl V2.heap.size V2) n9
  generalize V2.drewN n9 = V3 at *
  replace Xa : Hid _ := Xa.out.below hbr
  replace Xb : Hid _ := Xb.out.below hbr
  replace Xr : Hid _ := Xr.out.below hbr
  replace hbw := Below.on hbw hbr
  clear hbr
  have A3 := Hid.mk9 (dda_3 A1.out C2.out HR3.out)
  obtain ⟨v, hv1, hv2⟩ := dda_4 A1.out A3.out
  have C4 := Hid.mk9 hv2
  have hvr : ∀ W : World, (binOp .add 23 (Fv r3) (Fv r2)).run Tryz.prog W = .ok (Fv v) W := fun W => run_float_arith W .add 23 .f64 r3 r2 v hv1
  clear hv1 hv2 hcr
  obtain ⟨ca0, ca1, fa0, fa1⟩ := Xa.out
  have hnea := Xa.out.lt
  obtain ⟨cb0, cb1, fb0, fb1⟩ := Xb.out
  have hneb := Xb.out.lt
  go_wp2_with fail
  clear ca0 ca1 fa0 fa1 hnea
  clear cb0 cb1 fb0 fb1 hneb
  refine (fastTwoSum s3 v _).mono ?_
  rintro e9 v9 ⟨s4, r4, n9, rfl, rfl, hR⟩
  have HR4 := Hid.mk9 (dda_5 HD.out.1.1 HD.out.1.2 A1.out C2.out A3.out C4.out hR)
  clear hR hvr
  have hbr := bDrewN (Below.refl V3.heap.size V3) n9
  generalize V3.drewN n9 = V4 at *
  replace Xa : Hid _ := Xa.out.below hbr
  replace Xb : Hid _ := Xb.out.below hbr
  replace Xr : Hid _ := Xr.out.below hbr
  replace hbw := Below.on hbw hbr
  clear hbr
  go_wp2_with fail
  refine (ddpair s4 r4 _).mono ?_
  rintro e v5 ⟨rfl, hb5⟩
  replace Xa : Hid _ := Xa.out.below hb5
  replace Xb : Hid _ := Xb.out.below hb5
  replace Xr : Hid _ := Xr.out.below hb5
  replace hbw := Below.on hbw hb5
  clear hb5
  obtain ⟨cr0, cr1, fr0, fr1⟩ := Xr.out
  have hner := Xr.out.lt
  go_wp2_with fail
  refine bodyPost_ret (v := .agg #[Fv s4, Fv r4]) (by rw [results_cell1 rfl]; go_simp) rfl ⟨s4, r4, rfl, HR4.out.1, HR4.out.2, ?_⟩
  exact bSet (bSet (hbw) _ _ _ HGr.out) _ _ _ HGr.out
end Go.Proofs.YtidggnjnlhjhlabGreatDoor
