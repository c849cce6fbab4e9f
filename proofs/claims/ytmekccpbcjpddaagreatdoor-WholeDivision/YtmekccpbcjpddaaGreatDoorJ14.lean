import Derived.Test.YtmekccpbcjpddaaGreatDoorJ13
import Derived.Test.YtmekccpbcjpddaaGreatDoorJ10
import Derived.Test.YtmekccpbcjpddaaGreatDoorJ12
namespace Go.Proofs.YtmekccpbcjpddaaGreatDoor
open Go.RowKit Go.Shelf
set_option maxRecDepth 20000
set_option maxHeartbeats 0
theorem own_set4 {B b : Nat} {w' : World} {p : Option Addr} {m : Nat} {zs : List Nat} (h : Own B w' p m zs) {r : Nat} (hr : r < B) (hb : b ≤ B) (v0 v1 v2 v3 : Value) : Own b ((((w'.setCell ⟨r, 0, none⟩ v0).setCell ⟨r, 1, none⟩ v1).setCell ⟨r, 2, none⟩ v2).setCell ⟨r, 3, none⟩ v3) p m zs :=
  ((((h.setOld _ _ _ hr).setOld _ _ _ hr).setOld _ _ _ hr).setOld _ _ _ hr).mono hb
theorem bSet4 {B : Nat} {a w : World} (h : Below B a w) (g : Nat) (v0 v1 v2 v3 : Value) (hB : B ≤ g) : Below B a ((((w.setCell ⟨g, 0, none⟩ v0).setCell ⟨g, 1, none⟩ v1).setCell ⟨g, 2, none⟩ v2).setCell ⟨g, 3, none⟩ v3) :=
  bSet (bSet (bSet (bSet h _ _ _ hB) _ _ _ hB) _ _ _ hB) _ _ _ hB
theorem divided_any {p q : Option Addr} {m c n d : Nat} {xs ys : List Nat} {a b : Nat} {w : World} (s t : Bool) (h : Num w p m c xs a) (hs : s = true → 0 < a) (k : Num w q n d ys b) (ht : t = true → 0 < b) (hb : b ≠ 0) :
    Calls Tryz.prog 61 #[ZV s p m c, ZV t q n d] w fun e w' => ∃ p' m' zs x hf, e = .returned (.tuple #[FR (s != t) p' m' m' x hf, .int .i64 0]) ∧ FrIs w.heap.size w' (s != t) a b p' m' zs x hf ∧ Below w.heap.size w w' := by
  have H : Hid (Num w p m c xs a) := h
  have HS : Hid (s = true → 0 < a) := hs
  have K : Hid (Num w q n d ys b) := k
  have HT : Hid (t = true → 0 < b) := ht
  have HB0 : Hid (b ≠ 0) := hb
  have HAL : Hid (a < LIM) := h.lim
  clear h hs k ht hb
  go_enter Tryz.func61, Tryz.ntmps61
  go_wp2_with fail
  obtain ⟨W0, hW0⟩ : ∃ W0, W0 = (((w.alloc (.cells #[.bool s, .slice p m c] 33)).alloc (.cells #[.bool t, .slice q n d] 33)).alloc (.cells #[.bool false, .slice none 0 0, .bool false, .int .i64 0] 81)) := ⟨_, rfl⟩
  have Xx : Hid (Box W0 (w.heap.size) (.bool s) (.slice p m c)) := by rw [hW0]; exact ⟨by go_simp, by go_simp, by go_simp, by go_simp⟩
  have Xy : Hid (Box W0 (w.heap.size + 1) (.bool t) (.slice q n d)) := by rw [hW0]; exact ⟨by go_simp, by go_simp, by go_simp, by go_simp⟩
  have Xr : Hid (B4q W0 (w.heap.size + 1 + 1) (.bool false) (.slice none 0 0) (.bool false) (.int .i64 0)) := by rw [hW0]; exact ⟨by go_simp, by go_simp, by go_simp, by go_simp, by go_simp, by go_simp, by go_simp, by go_simp⟩
  have hb0 : Below w.heap.size w W0 := by rw [hW0]; exact below3 w _ _ _
  rw [← hW0]
  clear hW0
  have hbw : Below w.heap.size w w := Below.refl _ _
  obtain ⟨gr, hgr⟩ : ∃ g, g = w.heap.size + 1 + 1 := ⟨_, rfl⟩
  have HGr : Hid (w.heap.size ≤ gr) := by rw [hgr]; show _ ≤ _; omega
  rw [← hgr] at Xr
  try rw [← hgr]
  obtain ⟨gy, hgy⟩ : ∃ g, g = w.heap.size + 1 := ⟨_, rfl⟩
  have HGy : Hid (w.heap.size ≤ gy) := by rw [hgy]; show _ ≤ _; omega
  rw [← hgy] at Xy
  try rw [← hgy]
  obtain ⟨gx, hgx⟩ : ∃ g, g = w.heap.size := ⟨_, rfl⟩
  have HGx : Hid (w.heap.size ≤ gx) := by rw [hgx]; show _ ≤ _; omega
  rw [← hgx] at Xx
  try rw [← hgx]
  have HGD : Hid (gx ≠ gy ∧ gx ≠ gr ∧ gy ≠ gx ∧ gy ≠ gr ∧ gr ≠ gx ∧ gr ≠ gy) := by rw [hgx, hgy, hgr]; exact ⟨by omega, by omega, by omega, by omega, by omega, by omega⟩
  clear hgx hgy hgr
  replace H : Hid _ := H.out.below hb0
  replace K : Hid _ := K.out.below hb0
  replace hbw := Below.on hbw hb0
  clear hb0
  refine (numform_t s H.out HS.out).mono ?_
  rintro e w1 ⟨rfl, hb1⟩
  replace Xx : Hid _ := Xx.out.below hb1
  replace Xy : Hid _ := Xy.out.below hb1
  replace Xr : Hid _ := Xr.out.below hb1
  replace H : Hid _ := H.out.below hb1
  replace K : Hid _ := K.out.below hb1
  replace hbw := Below.on hbw hb1
  clear hb1
  obtain ⟨cy0, cy1, fy0, fy1⟩ := Xy.out
  have hney := Xy.out.lt
  go_wp2_with fail
  clear cy0 cy1 fy0 fy1 hney
  refine (numform_t t K.out HT.out).mono ?_
  rintro e w2 ⟨rfl, hb2⟩
  replace Xx : Hid _ := Xx.out.below hb2
  replace Xy : Hid _ := Xy.out.below hb2
  replace Xr : Hid _ := Xr.out.below hb2
  replace H : Hid _ := H.out.below hb2
  replace K : Hid _ := K.out.below hb2
  replace hbw := Below.on hbw hb2
  clear hb2
  obtain ⟨cx0, cx1, fx0, fx1⟩ := Xx.out
  have hnex := Xx.out.lt
  obtain ⟨cy0, cy1, fy0, fy1⟩ := Xy.out
  have hney := Xy.out.lt
  go_wp2_with fail
  clear cx0 cx1 fx0 fx1 hnex
  clear cy0 cy1 fy0 fy1 hney
  have HRL : Hid (gr < w2.heap.size ∧ w.heap.size ≤ w2.heap.size) := ⟨Xr.out.lt, hbw.size⟩
  refine (quorem_any H.out.at_ K.out.at_ H.out.nf K.out.nf H.out.le K.out.le HB0.out).mono ?_
  rintro e w3 ⟨v1, v2, rfl, ⟨p3, m3, z3, rfl, ho3, hn3, hm3⟩, ⟨p4, m4, z4, rfl, ho4, hn4, hm4⟩, hb3⟩
  replace Xx : Hid _ := Xx.out.below hb3
  replace Xy : Hid _ := Xy.out.below hb3
  replace Xr : Hid _ := Xr.out.below hb3
  replace H : Hid _ := H.out.below hb3
  replace K : Hid _ := K.out.below hb3
  replace hbw := Below.on hbw hb3
  clear hb3
  have HO3 : Hid (Own w2.heap.size w3 p3 m3 z3) := ho3
  have N3 : Hid (Nf B64 z3 (a / b) ∧ m3 ≤ 8192) := ⟨hn3, hm3⟩
  clear ho3 hn3 hm3
  obtain ⟨r, hrr⟩ : ∃ r, r = a % b := ⟨_, rfl⟩
  have HRR : Hid (r = a % b) := hrr
  rw [← hrr] at hn4
  clear hrr
  have M4 : Hid (Num w3 p4 m4 m4 z4 r) := Num.of ho4 hn4 hm4
  clear ho4 hn4 hm4
  have HRB : Hid (r < b) := by show _ < _; rw [HRR.out]; exact Nat.mod_lt _ (Nat.pos_of_ne_zero HB0.out)
  obtain ⟨cy0, cy1, fy0, fy1⟩ := Xy.out
  have hney := Xy.out.lt
  go_wp2_with fail
  clear cy0 cy1 fy0 fy1 hney
  refine (sub_okN K.out.at_ M4.out.at_ K.out.nf M4.out.nf K.out.le M4.out.le (Nat.le_of_lt HRB.out)).mono ?_
  rintro e w5 ⟨⟨p5, m5, z5, rfl, ho5, hn5, hm5⟩, hb5⟩
  replace Xx : Hid _ := Xx.out.below hb5
  replace Xy : Hid _ := Xy.out.below hb5
  replace Xr : Hid _ := Xr.out.below hb5
  replace H : Hid _ := H.out.below hb5
  replace K : Hid _ := K.out.below hb5
  replace HO3 : Hid (Own w2.heap.size w5 p3 m3 z3) := HO3.out.below hb5
  replace M4 : Hid _ := M4.out.below hb5
  replace hbw := Below.on hbw hb5
  clear hb5
  have M5 : Hid (Num w5 p5 m5 m5 z5 (b - r)) := Num.of ho5 hn5 hm5
  clear ho5 hn5 hm5
  go_wp2_with fail
  have HCMP : Hid (HfIs r b (cmpN r (b - r))) := HfIs.cmp (Nat.le_of_lt HRB.out) _ (by unfold cmpN; rfl)
  obtain ⟨W6, hW6⟩ : ∃ W1, W1 = w5.drew := ⟨_, rfl⟩
  have hbd : Below w5.heap.size w5 W6 := by rw [hW6]; exact bDrew1 (Below.refl _ _)
  replace Xx : Hid _ := Xx.out.below hbd
  replace Xy : Hid _ := Xy.out.below hbd
  replace Xr : Hid _ := Xr.out.below hbd
  replace H : Hid _ := H.out.below hbd
  replace K : Hid _ := K.out.below hbd
  replace HO3 : Hid (Own w2.heap.size W6 p3 m3 z3) := HO3.out.below hbd
  replace M4 : Hid _ := M4.out.below hbd
  replace M5 : Hid _ := M5.out.below hbd
  replace hbw := Below.on hbw hbd
  clear hbd
  have HJ : Hid ((fun W' : World => W'.cell? ⟨gx, 0, none⟩ = some (.bool s) ∧ W'.cell? ⟨gy, 0, none⟩ = some (.bool t)) W6) := ⟨Xx.out.c0, Xy.out.c0⟩
  refine wp_region_J (fun W' => W'.cell? ⟨gx, 0, none⟩ = some (.bool s) ∧ W'.cell? ⟨gy, 0, none⟩ = some (.bool t)) (by kernel_rfl) ?_
  rw [← hW6]
  clear hW6
  refine wpJ_tq 0 rfl HJ.out ?_
  refine wpJ_tq 1 rfl HJ.out ?_
  refine wpJ_tq 2 rfl HJ.out ?_
  refine wpJ_tq 3 rfl HJ.out ?_
  refine wpJ_tq 4 rfl HJ.out ?_
  refine wpJ_tq 5 rfl HJ.out ?_
  refine wpJ_tq 6 rfl HJ.out ?_
  refine wpJ_tq 7 rfl HJ.out ?_
  refine wpJ_tq 8 rfl HJ.out ?_
  refine wpJ_tq 9 rfl HJ.out ?_
  refine wpJ_tq 10 rfl HJ.out ?_
  refine wpJ_tq 13 rfl HJ.out ?_
  refine wpJ_on 11 rfl fun KJ hK => ?_
  go_simp
  refine (cmp_wN M4.out.at_ M5.out.at_ M4.out.nf M5.out.nf).mono ?_
  rintro e w7 ⟨rfl, rd, rfl⟩
  obtain ⟨hf, hhf⟩ : ∃ hf, hf = cmpN r (b - r) := ⟨_, rfl⟩
  rw [← hhf]
  have HHF : Hid (HfIs r b hf) := by rw [hhf]; exact HCMP.out
  clear hhf HCMP
  have hbr := bDrewN (Below.refl W6.heap.size W6) rd
  generalize W6.drewN rd = W7 at *
  replace Xx : Hid _ := Xx.out.below hbr
  replace Xy : Hid _ := Xy.out.below hbr
  replace Xr : Hid _ := Xr.out.below hbr
  replace H : Hid _ := H.out.below hbr
  replace K : Hid _ := K.out.below hbr
  replace HO3 : Hid (Own w2.heap.size W7 p3 m3 z3) := HO3.out.below hbr
  replace M4 : Hid _ := M4.out.below hbr
  replace M5 : Hid _ := M5.out.below hbr
  replace hbw := Below.on hbw hbr
  clear hbr
  clear HJ
  have HJ : Hid ((fun W' : World => W'.cell? ⟨gx, 0, none⟩ = some (.bool s) ∧ W'.cell? ⟨gy, 0, none⟩ = some (.bool t)) W7) := ⟨Xx.out.c0, Xy.out.c0⟩
  refine hK _ _ HJ.out ?_
  clear hK
  refine wpJ_tq 12 rfl HJ.out ?_
  obtain ⟨cr0, cr1, cr2, cr3, fr0, fr1, fr2, fr3⟩ := Xr.out
  have hner : gr < W7.heap.size := World.block_lt_of_cell? W7 _ cr0
  refine wpJ_on 14 rfl fun KJ hK => ?_
  go_simp
  obtain ⟨cx0, cx1, fx0, fx1⟩ := Xx.out
  have hnex := Xx.out.lt
  obtain ⟨cy0, cy1, fy0, fy1⟩ := Xy.out
  have hney := Xy.out.lt
  have hd1 := HGD.out.1
  have hd2 := HGD.out.2.1
  have hd3 := HGD.out.2.2.1
  have hd4 := HGD.out.2.2.2.1
  have hd5 := HGD.out.2.2.2.2.1
  have hd6 := HGD.out.2.2.2.2.2
  have HJ2 : Hid ((fun W' : World => W'.cell? ⟨gx, 0, none⟩ = some (.bool s) ∧ W'.cell? ⟨gy, 0, none⟩ = some (.bool t)) ((((W7.setCell ⟨gr, 0, none⟩ (.bool (!(s == t)))).setCell ⟨gr, 1, none⟩ (.slice p3 m3 m3)).setCell ⟨gr, 2, none⟩ (.bool (decide (0 < m4)))).setCell ⟨gr, 3, none⟩ (.int .i64 hf))) := ⟨by go_simp, by go_simp⟩
  refine hK _ _ HJ2.out ?_
  clear hK
  clear HJ
  have HJ := HJ2
  clear HJ2
  refine wpJ_tq 15 rfl HJ.out ?_
  refine wpJ_done (by kernel_rfl) ?_ _
  clear HJ
  go_wp2_with fail
  refine bodyPost_ret (v := .tuple #[FR (s != t) p3 m3 m3 (decide (0 < m4)) hf, .int .i64 0]) (by rw [results_cell_tmp rfl]; go_simp; cases s <;> cases t <;> rfl) rfl ⟨p3, m3, z3, decide (0 < m4), hf, rfl, ⟨?_, N3.out.1, N3.out.2, ?_, ?_, HAL.out⟩, ?_⟩
  · exact own_set4 HO3.out HRL.out.1 HRL.out.2 _ _ _ _
  · rw [M4.out.nf.lenpos M4.out.at_.len, HRR.out]; exact decide_eq_decide.2 (by omega)
  · rw [← HRR.out]; exact HHF.out
  · exact bSet4 hbw _ _ _ _ _ HGr.out
theorem quorem_zero {p q : Option Addr} {n m c d : Nat} {xs ys : List Nat} {a b : Nat} {w : World} (h : At w p n c xs) (k : At w q m d ys) (hx : Nf B64 xs a) (hy : Nf B64 ys b) (hlx : n ≤ 8192) (hly : m ≤ 8192) (hb : b = 0) :
    Calls Tryz.prog 4 #[.slice p n c, .slice q m d] w fun e w' => e = .returned (.tuple #[.slice none 0 0, .slice none 0 0, .int .i64 4]) ∧ w' = w := by
  have hyn : ys = [] := (hy.zero_iff B64_one).2 hb
  have hm0 : m = 0 := by rw [← k.len, hyn]; rfl
  have fx := hx.form (by rw [h.len]; exact hlx)
  have fy := hy.form (by rw [k.len]; exact hly)
  have HA : Hid (At w p n c xs) := h
  have HB : Hid (At w q m d ys) := k
  clear h k hx hy hyn
  subst hm0
  go_enter Tryz.func4, Tryz.ntmps4
  go_wp2_with fail
  refine (form_true HA.out fx).mono ?_
  rintro e w' ⟨rfl, hw⟩
  obtain rfl := hw.symm
  clear hw
  go_wp2_with fail
  refine (form_true HB.out fy).mono ?_
  rintro e w' ⟨rfl, hw⟩
  obtain rfl := hw.symm
  clear hw
  go_wp2_with fail
  go_ret3
  exact ⟨rfl, rfl⟩
theorem divided_zero {p q : Option Addr} {m c n d : Nat} {xs ys : List Nat} {a b : Nat} {w : World} (s t : Bool) (h : Num w p m c xs a) (hs : s = true → 0 < a) (k : Num w q n d ys b) (ht : t = true → 0 < b) (hb : b = 0) :
    Calls Tryz.prog 61 #[ZV s p m c, ZV t q n d] w fun e w' => e = .returned (.tuple #[FR false none 0 0 false 0, .int .i64 4]) ∧ Below w.heap.size w w' := by
  have H : Hid (Num w p m c xs a) := h
  have HS : Hid (s = true → 0 < a) := hs
  have K : Hid (Num w q n d ys b) := k
  have HT : Hid (t = true → 0 < b) := ht
  have HB0 : Hid (b = 0) := hb
  clear h hs k ht hb
  go_enter Tryz.func61, Tryz.ntmps61
  go_wp2_with fail
  obtain ⟨W0, hW0⟩ : ∃ W0, W0 = (((w.alloc (.cells #[.bool s, .slice p m c] 33)).alloc (.cells #[.bool t, .slice q n d] 33)).alloc (.cells #[.bool false, .slice none 0 0, .bool false, .int .i64 0] 81)) := ⟨_, rfl⟩
  have Xx : Hid (Box W0 (w.heap.size) (.bool s) (.slice p m c)) := by rw [hW0]; exact ⟨by go_simp, by go_simp, by go_simp, by go_simp⟩
  have Xy : Hid (Box W0 (w.heap.size + 1) (.bool t) (.slice q n d)) := by rw [hW0]; exact ⟨by go_simp, by go_simp, by go_simp, by go_simp⟩
  have Xr : Hid (B4q W0 (w.heap.size + 1 + 1) (.bool false) (.slice none 0 0) (.bool false) (.int .i64 0)) := by rw [hW0]; exact ⟨by go_simp, by go_simp, by go_simp, by go_simp, by go_simp, by go_simp, by go_simp, by go_simp⟩
  have hb0 : Below w.heap.size w W0 := by rw [hW0]; exact below3 w _ _ _
  rw [← hW0]
  clear hW0
  have hbw : Below w.heap.size w w := Below.refl _ _
  obtain ⟨gr, hgr⟩ : ∃ g, g = w.heap.size + 1 + 1 := ⟨_, rfl⟩
  have HGr : Hid (w.heap.size ≤ gr) := by rw [hgr]; show _ ≤ _; omega
  rw [← hgr] at Xr
  try rw [← hgr]
  obtain ⟨gy, hgy⟩ : ∃ g, g = w.heap.size + 1 := ⟨_, rfl⟩
  have HGy : Hid (w.heap.size ≤ gy) := by rw [hgy]; show _ ≤ _; omega
  rw [← hgy] at Xy
  try rw [← hgy]
  obtain ⟨gx, hgx⟩ : ∃ g, g = w.heap.size := ⟨_, rfl⟩
  have HGx : Hid (w.heap.size ≤ gx) := by rw [hgx]; show _ ≤ _; omega
  rw [← hgx] at Xx
  try rw [← hgx]
  have HGD : Hid (gx ≠ gy ∧ gx ≠ gr ∧ gy ≠ gx ∧ gy ≠ gr ∧ gr ≠ gx ∧ gr ≠ gy) := by rw [hgx, hgy, hgr]; exact ⟨by omega, by omega, by omega, by omega, by omega, by omega⟩
  clear hgx hgy hgr
  replace H : Hid _ := H.out.below hb0
  replace K : Hid _ := K.out.below hb0
  replace hbw := Below.on hbw hb0
  clear hb0
  refine (numform_t s H.out HS.out).mono ?_
  rintro e w1 ⟨rfl, hb1⟩
  replace Xx : Hid _ := Xx.out.below hb1
  replace Xy : Hid _ := Xy.out.below hb1
  replace Xr : Hid _ := Xr.out.below hb1
  replace H : Hid _ := H.out.below hb1
  replace K : Hid _ := K.out.below hb1
  replace hbw := Below.on hbw hb1
  clear hb1
  obtain ⟨cy0, cy1, fy0, fy1⟩ := Xy.out
  have hney := Xy.out.lt
  go_wp2_with fail
  clear cy0 cy1 fy0 fy1 hney
  refine (numform_t t K.out HT.out).mono ?_
  rintro e w2 ⟨rfl, hb2⟩
  replace Xx : Hid _ := Xx.out.below hb2
  replace Xy : Hid _ := Xy.out.below hb2
  replace Xr : Hid _ := Xr.out.below hb2
  replace H : Hid _ := H.out.below hb2
  replace K : Hid _ := K.out.below hb2
  replace hbw := Below.on hbw hb2
  clear hb2
  obtain ⟨cx0, cx1, fx0, fx1⟩ := Xx.out
  have hnex := Xx.out.lt
  obtain ⟨cy0, cy1, fy0, fy1⟩ := Xy.out
  have hney := Xy.out.lt
  go_wp2_with fail
  clear cx0 cx1 fx0 fx1 hnex
  clear cy0 cy1 fy0 fy1 hney
  refine (quorem_zero H.out.at_ K.out.at_ H.out.nf K.out.nf H.out.le K.out.le HB0.out).mono ?_
  rintro e w3 ⟨rfl, hw⟩
  obtain rfl := hw.symm
  clear hw
  obtain ⟨cr0, cr1, cr2, cr3, fr0, fr1, fr2, fr3⟩ := Xr.out
  have hner : gr < w2.heap.size := World.block_lt_of_cell? w2 _ cr0
  go_wp2_with fail
  refine bodyPost_ret (v := .tuple #[FR false none 0 0 false 0, .int .i64 4]) (by rw [results_cell_tmp rfl]; go_simp) rfl ⟨rfl, ?_⟩
  exact bSet4 hbw _ _ _ _ _ HGr.out
theorem fdiv_any {p q : Option Addr} {m c n d : Nat} {xs ys : List Nat} {a b : Nat} {w : World} (s t : Bool) (h : Num w p m c xs a) (hs : s = true → 0 < a) (k : Num w q n d ys b) (ht : t = true → 0 < b) (hb : b ≠ 0) :
    Calls Tryz.prog 29 #[ZV s p m c, ZV t q n d] w fun e w' => ∃ v, e = .returned (.tuple #[v, .int .i64 0]) ∧ AnsZ w.heap.size w' v (fl (s != t) a b) ∧ Below w.heap.size w w' := by
  have H : Hid (Num w p m c xs a) := h
  have HS : Hid (s = true → 0 < a) := hs
  have K : Hid (Num w q n d ys b) := k
  have HT : Hid (t = true → 0 < b) := ht
  have HB0 : Hid (b ≠ 0) := hb
  obtain ⟨z, hz⟩ : ∃ z, z = fl (s != t) a b := ⟨_, rfl⟩
  rw [← hz]
  have HZ : Hid (z = fl (s != t) a b) := hz
  clear h hs k ht hb hz
  go_enter Tryz.func29, Tryz.ntmps29
  go_wp2_with fail
  obtain ⟨W0, hW0⟩ : ∃ W0, W0 = (((w.alloc (.cells #[.bool s, .slice p m c] 33)).alloc (.cells #[.bool t, .slice q n d] 33)).alloc (.cells #[.bool false, .slice none 0 0] 33)) := ⟨_, rfl⟩
  have Xx : Hid (Box W0 (w.heap.size) (.bool s) (.slice p m c)) := by rw [hW0]; exact ⟨by go_simp, by go_simp, by go_simp, by go_simp⟩
  have Xy : Hid (Box W0 (w.heap.size + 1) (.bool t) (.slice q n d)) := by rw [hW0]; exact ⟨by go_simp, by go_simp, by go_simp, by go_simp⟩
  have Xr : Hid (Box W0 (w.heap.size + 1 + 1) (.bool false) (.slice none 0 0)) := by rw [hW0]; exact ⟨by go_simp, by go_simp, by go_simp, by go_simp⟩
  have hb0 : Below w.heap.size w W0 := by rw [hW0]; exact below3 w _ _ _
  rw [← hW0]
  clear hW0
  have hbw : Below w.heap.size w w := Below.refl _ _
  obtain ⟨gr, hgr⟩ : ∃ g, g = w.heap.size + 1 + 1 := ⟨_, rfl⟩
  have HGr : Hid (w.heap.size ≤ gr) := by rw [hgr]; show _ ≤ _; omega
  rw [← hgr] at Xr
  try rw [← hgr]
  obtain ⟨gy, hgy⟩ : ∃ g, g = w.heap.size + 1 := ⟨_, rfl⟩
  have HGy : Hid (w.heap.size ≤ gy) := by rw [hgy]; show _ ≤ _; omega
  rw [← hgy] at Xy
  try rw [← hgy]
  obtain ⟨gx, hgx⟩ : ∃ g, g = w.heap.size := ⟨_, rfl⟩
  have HGx : Hid (w.heap.size ≤ gx) := by rw [hgx]; show _ ≤ _; omega
  rw [← hgx] at Xx
  try rw [← hgx]
  have HGD : Hid (gx ≠ gy ∧ gx ≠ gr ∧ gy ≠ gx ∧ gy ≠ gr ∧ gr ≠ gx ∧ gr ≠ gy) := by rw [hgx, hgy, hgr]; exact ⟨by omega, by omega, by omega, by omega, by omega, by omega⟩
  clear hgx hgy hgr
  replace H : Hid _ := H.out.below hb0
  replace K : Hid _ := K.out.below hb0
  replace hbw := Below.on hbw hb0
  clear hb0
  have HSZ : Hid (GeW W0.heap.size W0) := Nat.le_refl _
  have HRL : Hid (gr < W0.heap.size ∧ w.heap.size ≤ W0.heap.size) := ⟨Xr.out.lt, hbw.size⟩
  refine (divided_any s t H.out HS.out K.out HT.out HB0.out).mono ?_
  rintro e w2 ⟨p2, m2, z2, x2, hf2, rfl, hfr, hb2⟩
  replace Xx : Hid _ := Xx.out.below hb2
  replace Xy : Hid _ := Xy.out.below hb2
  replace Xr : Hid _ := Xr.out.below hb2
  replace H : Hid _ := H.out.below hb2
  replace K : Hid _ := K.out.below hb2
  replace HSZ : Hid (GeW W0.heap.size w2) := HSZ.out.below hb2
  replace hbw := Below.on hbw hb2
  clear hb2
  have HF : Hid (FrIs W0.heap.size w2 (s != t) a b p2 m2 z2 x2 hf2) := hfr
  clear hfr
  obtain ⟨cr0, cr1, fr0, fr1⟩ := Xr.out
  have hner := Xr.out.lt
  go_wp2_with fail
  clear cr0 cr1 fr0 fr1 hner
  have Xf0 : Hid (B4q (w2.alloc (.cells #[.bool (s != t), .slice p2 m2 m2, .bool x2, .int .i64 hf2] 81)) w2.heap.size (.bool (s != t)) (.slice p2 m2 m2) (.bool x2) (.int .i64 hf2)) := B4q.new w2 _ _ _ _ _
  have hbn : Below w2.heap.size w2 (w2.alloc (.cells #[.bool (s != t), .slice p2 m2 m2, .bool x2, .int .i64 hf2] 81)) := below1 w2 _
  generalize w2.alloc (.cells #[.bool (s != t), .slice p2 m2 m2, .bool x2, .int .i64 hf2] 81) = W3 at *
  have HGf : Hid (w.heap.size ≤ w2.heap.size) := hbw.size
  replace Xx : Hid _ := Xx.out.below hbn
  replace Xy : Hid _ := Xy.out.below hbn
  replace Xr : Hid _ := Xr.out.below hbn
  replace H : Hid _ := H.out.below hbn
  replace K : Hid _ := K.out.below hbn
  replace HSZ : Hid (GeW W0.heap.size W3) := HSZ.out.below hbn
  replace HF : Hid _ := HF.out.below hbn
  replace hbw := Below.on hbw hbn
  clear hbn
  generalize w2.heap.size = gf at *
  have Xf := Xf0
  clear Xf0
  have hBs : W0.heap.size ≤ W3.heap.size := HSZ.out
  refine (floor_any (s != t) x2 hf2 HF.out hBs).mono ?_
  rintro e w4 ⟨v, rfl, hv, hb4⟩
  clear hBs
  rw [← HZ.out] at hv
  obtain ⟨p4, m4, z4, rfl, ho, hn, hm⟩ := hv
  replace Xx : Hid _ := Xx.out.below hb4
  replace Xy : Hid _ := Xy.out.below hb4
  replace Xr : Hid _ := Xr.out.below hb4
  replace Xf : Hid _ := Xf.out.below hb4
  replace H : Hid _ := H.out.below hb4
  replace K : Hid _ := K.out.below hb4
  replace HSZ : Hid (GeW W0.heap.size w4) := HSZ.out.below hb4
  replace HF : Hid _ := HF.out.below hb4
  replace hbw := Below.on hbw hb4
  clear hb4
  have HO4 : Hid (Own W0.heap.size w4 p4 m4 z4) := ho
  have HN4 : Hid (Nf B64 z4 z.natAbs ∧ m4 ≤ 8192) := ⟨hn, hm⟩
  clear ho hn hm
  obtain ⟨b9, hb9⟩ : ∃ b, b = decide (z < 0) := ⟨_, rfl⟩
  rw [← hb9]
  have HB9 : Hid (b9 = decide (z < 0)) := hb9
  clear hb9
  obtain ⟨cr0, cr1, fr0, fr1⟩ := Xr.out
  have hner := Xr.out.lt
  go_wp2_with fail
  refine bodyPost_ret (v := .tuple #[ZV b9 p4 m4 m4, .int .i64 0]) (by rw [results_cell_tmp rfl]; go_simp) rfl ⟨_, rfl, ⟨p4, m4, z4, by rw [HB9.out], ?_, HN4.out.1, HN4.out.2⟩, ?_⟩
  · exact own_set2 HO4.out HRL.out.1 HRL.out.2 _ _
  · exact bSet (bSet hbw _ _ _ HGr.out) _ _ _ HGr.out
theorem fdiv_zero {p q : Option Addr} {m c n d : Nat} {xs ys : List Nat} {a b : Nat} {w : World} (s t : Bool) (h : Num w p m c xs a) (hs : s = true → 0 < a) (k : Num w q n d ys b) (ht : t = true → 0 < b) (hb : b = 0) :
    Calls Tryz.prog 29 #[ZV s p m c, ZV t q n d] w fun e w' => ∃ v, e = .returned (.tuple #[v, .int .i64 4]) ∧ AnsZ w.heap.size w' v (0) ∧ Below w.heap.size w w' := by
  have H : Hid (Num w p m c xs a) := h
  have HS : Hid (s = true → 0 < a) := hs
  have K : Hid (Num w q n d ys b) := k
  have HT : Hid (t = true → 0 < b) := ht
  have HB0 : Hid (b = 0) := hb
  obtain ⟨z, hz⟩ : ∃ z, z = (0 : Int) := ⟨_, rfl⟩
  rw [← hz]
  have HZ : Hid (z = fl false 0 0) := hz
  clear h hs k ht hb hz
  go_enter Tryz.func29, Tryz.ntmps29
  go_wp2_with fail
  obtain ⟨W0, hW0⟩ : ∃ W0, W0 = (((w.alloc (.cells #[.bool s, .slice p m c] 33)).alloc (.cells #[.bool t, .slice q n d] 33)).alloc (.cells #[.bool false, .slice none 0 0] 33)) := ⟨_, rfl⟩
  have Xx : Hid (Box W0 (w.heap.size) (.bool s) (.slice p m c)) := by rw [hW0]; exact ⟨by go_simp, by go_simp, by go_simp, by go_simp⟩
  have Xy : Hid (Box W0 (w.heap.size + 1) (.bool t) (.slice q n d)) := by rw [hW0]; exact ⟨by go_simp, by go_simp, by go_simp, by go_simp⟩
  have Xr : Hid (Box W0 (w.heap.size + 1 + 1) (.bool false) (.slice none 0 0)) := by rw [hW0]; exact ⟨by go_simp, by go_simp, by go_simp, by go_simp⟩
  have hb0 : Below w.heap.size w W0 := by rw [hW0]; exact below3 w _ _ _
  rw [← hW0]
  clear hW0
  have hbw : Below w.heap.size w w := Below.refl _ _
  obtain ⟨gr, hgr⟩ : ∃ g, g = w.heap.size + 1 + 1 := ⟨_, rfl⟩
  have HGr : Hid (w.heap.size ≤ gr) := by rw [hgr]; show _ ≤ _; omega
  rw [← hgr] at Xr
  try rw [← hgr]
  obtain ⟨gy, hgy⟩ : ∃ g, g = w.heap.size + 1 := ⟨_, rfl⟩
  have HGy : Hid (w.heap.size ≤ gy) := by rw [hgy]; show _ ≤ _; omega
  rw [← hgy] at Xy
  try rw [← hgy]
  obtain ⟨gx, hgx⟩ : ∃ g, g = w.heap.size := ⟨_, rfl⟩
  have HGx : Hid (w.heap.size ≤ gx) := by rw [hgx]; show _ ≤ _; omega
  rw [← hgx] at Xx
  try rw [← hgx]
  have HGD : Hid (gx ≠ gy ∧ gx ≠ gr ∧ gy ≠ gx ∧ gy ≠ gr ∧ gr ≠ gx ∧ gr ≠ gy) := by rw [hgx, hgy, hgr]; exact ⟨by omega, by omega, by omega, by omega, by omega, by omega⟩
  clear hgx hgy hgr
  replace H : Hid _ := H.out.below hb0
  replace K : Hid _ := K.out.below hb0
  replace hbw := Below.on hbw hb0
  clear hb0
  have HSZ : Hid (GeW W0.heap.size W0) := Nat.le_refl _
  have HRL : Hid (gr < W0.heap.size ∧ w.heap.size ≤ W0.heap.size) := ⟨Xr.out.lt, hbw.size⟩
  refine (divided_zero s t H.out HS.out K.out HT.out HB0.out).mono ?_
  rintro e w2 ⟨rfl, hb2⟩
  replace Xx : Hid _ := Xx.out.below hb2
  replace Xy : Hid _ := Xy.out.below hb2
  replace Xr : Hid _ := Xr.out.below hb2
  replace H : Hid _ := H.out.below hb2
  replace K : Hid _ := K.out.below hb2
  replace HSZ : Hid (GeW W0.heap.size w2) := HSZ.out.below hb2
  replace hbw := Below.on hbw hb2
  clear hb2
  have HF : Hid (FrIs W0.heap.size w2 false 0 0 none 0 [] false 0) := ⟨⟨rfl, Dig.nil _, .inl rfl⟩, Nf.nil _, by omega, rfl, .inr (.inl ⟨rfl, rfl⟩), small_lim (by decide)⟩
  obtain ⟨cr0, cr1, fr0, fr1⟩ := Xr.out
  have hner := Xr.out.lt
  go_wp2_with fail
  clear cr0 cr1 fr0 fr1 hner
  have Xf0 : Hid (B4q (w2.alloc (.cells #[.bool false, .slice none 0 0, .bool false, .int .i64 0] 81)) w2.heap.size (.bool false) (.slice none 0 0) (.bool false) (.int .i64 0)) := B4q.new w2 _ _ _ _ _
  have hbn : Below w2.heap.size w2 (w2.alloc (.cells #[.bool false, .slice none 0 0, .bool false, .int .i64 0] 81)) := below1 w2 _
  generalize w2.alloc (.cells #[.bool false, .slice none 0 0, .bool false, .int .i64 0] 81) = W3 at *
  have HGf : Hid (w.heap.size ≤ w2.heap.size) := hbw.size
  replace Xx : Hid _ := Xx.out.below hbn
  replace Xy : Hid _ := Xy.out.below hbn
  replace Xr : Hid _ := Xr.out.below hbn
  replace H : Hid _ := H.out.below hbn
  replace K : Hid _ := K.out.below hbn
  replace HSZ : Hid (GeW W0.heap.size W3) := HSZ.out.below hbn
  replace HF : Hid _ := HF.out.below hbn
  replace hbw := Below.on hbw hbn
  clear hbn
  generalize w2.heap.size = gf at *
  have Xf := Xf0
  clear Xf0
  have hBs : W0.heap.size ≤ W3.heap.size := HSZ.out
  refine (floor_any false false 0 HF.out hBs).mono ?_
  rintro e w4 ⟨v, rfl, hv, hb4⟩
  clear hBs
  rw [← HZ.out] at hv
  obtain ⟨p4, m4, z4, rfl, ho, hn, hm⟩ := hv
  replace Xx : Hid _ := Xx.out.below hb4
  replace Xy : Hid _ := Xy.out.below hb4
  replace Xr : Hid _ := Xr.out.below hb4
  replace Xf : Hid _ := Xf.out.below hb4
  replace H : Hid _ := H.out.below hb4
  replace K : Hid _ := K.out.below hb4
  replace HSZ : Hid (GeW W0.heap.size w4) := HSZ.out.below hb4
  replace HF : Hid _ := HF.out.below hb4
  replace hbw := Below.on hbw hb4
  clear hb4
  have HO4 : Hid (Own W0.heap.size w4 p4 m4 z4) := ho
  have HN4 : Hid (Nf B64 z4 z.natAbs ∧ m4 ≤ 8192) := ⟨hn, hm⟩
  clear ho hn hm
  obtain ⟨b9, hb9⟩ : ∃ b, b = decide (z < 0) := ⟨_, rfl⟩
  rw [← hb9]
  have HB9 : Hid (b9 = decide (z < 0)) := hb9
  clear hb9
  obtain ⟨cr0, cr1, fr0, fr1⟩ := Xr.out
  have hner := Xr.out.lt
  go_wp2_with fail
  refine bodyPost_ret (v := .tuple #[ZV b9 p4 m4 m4, .int .i64 4]) (by rw [results_cell_tmp rfl]; go_simp) rfl ⟨_, rfl, ⟨p4, m4, z4, by rw [HB9.out], ?_, HN4.out.1, HN4.out.2⟩, ?_⟩
  · exact own_set2 HO4.out HRL.out.1 HRL.out.2 _ _
  · exact bSet (bSet hbw _ _ _ HGr.out) _ _ _ HGr.out
theorem cdiv_any {p q : Option Addr} {m c n d : Nat} {xs ys : List Nat} {a b : Nat} {w : World} (s t : Bool) (h : Num w p m c xs a) (hs : s = true → 0 < a) (k : Num w q n d ys b) (ht : t = true → 0 < b) (hb : b ≠ 0) :
    Calls Tryz.prog 30 #[ZV s p m c, ZV t q n d] w fun e w' => ∃ v, e = .returned (.tuple #[v, .int .i64 0]) ∧ AnsZ w.heap.size w' v (ce (s != t) a b) ∧ Below w.heap.size w w' := by
  have H : Hid (Num w p m c xs a) := h
  have HS : Hid (s = true → 0 < a) := hs
  have K : Hid (Num w q n d ys b) := k
  have HT : Hid (t = true → 0 < b) := ht
  have HB0 : Hid (b ≠ 0) := hb
  obtain ⟨z, hz⟩ : ∃ z, z = ce (s != t) a b := ⟨_, rfl⟩
  rw [← hz]
  have HZ : Hid (z = ce (s != t) a b) := hz
  clear h hs k ht hb hz
  go_enter Tryz.func30, Tryz.ntmps30
  go_wp2_with fail
  obtain ⟨W0, hW0⟩ : ∃ W0, W0 = (((w.alloc (.cells #[.bool s, .slice p m c] 33)).alloc (.cells #[.bool t, .slice q n d] 33)).alloc (.cells #[.bool false, .slice none 0 0] 33)) := ⟨_, rfl⟩
  have Xx : Hid (Box W0 (w.heap.size) (.bool s) (.slice p m c)) := by rw [hW0]; exact ⟨by go_simp, by go_simp, by go_simp, by go_simp⟩
  have Xy : Hid (Box W0 (w.heap.size + 1) (.bool t) (.slice q n d)) := by rw [hW0]; exact ⟨by go_simp, by go_simp, by go_simp, by go_simp⟩
  have Xr : Hid (Box W0 (w.heap.size + 1 + 1) (.bool false) (.slice none 0 0)) := by rw [hW0]; exact ⟨by go_simp, by go_simp, by go_simp, by go_simp⟩
  have hb0 : Below w.heap.size w W0 := by rw [hW0]; exact below3 w _ _ _
  rw [← hW0]
  clear hW0
  have hbw : Below w.heap.size w w := Below.refl _ _
  obtain ⟨gr, hgr⟩ : ∃ g, g = w.heap.size + 1 + 1 := ⟨_, rfl⟩
  have HGr : Hid (w.heap.size ≤ gr) := by rw [hgr]; show _ ≤ _; omega
  rw [← hgr] at Xr
  try rw [← hgr]
  obtain ⟨gy, hgy⟩ : ∃ g, g = w.heap.size + 1 := ⟨_, rfl⟩
  have HGy : Hid (w.heap.size ≤ gy) := by rw [hgy]; show _ ≤ _; omega
  rw [← hgy] at Xy
  try rw [← hgy]
  obtain ⟨gx, hgx⟩ : ∃ g, g = w.heap.size := ⟨_, rfl⟩
  have HGx : Hid (w.heap.size ≤ gx) := by rw [hgx]; show _ ≤ _; omega
  rw [← hgx] at Xx
  try rw [← hgx]
  have HGD : Hid (gx ≠ gy ∧ gx ≠ gr ∧ gy ≠ gx ∧ gy ≠ gr ∧ gr ≠ gx ∧ gr ≠ gy) := by rw [hgx, hgy, hgr]; exact ⟨by omega, by omega, by omega, by omega, by omega, by omega⟩
  clear hgx hgy hgr
  replace H : Hid _ := H.out.below hb0
  replace K : Hid _ := K.out.below hb0
  replace hbw := Below.on hbw hb0
  clear hb0
  have HSZ : Hid (GeW W0.heap.size W0) := Nat.le_refl _
  have HRL : Hid (gr < W0.heap.size ∧ w.heap.size ≤ W0.heap.size) := ⟨Xr.out.lt, hbw.size⟩
  refine (divided_any s t H.out HS.out K.out HT.out HB0.out).mono ?_
  rintro e w2 ⟨p2, m2, z2, x2, hf2, rfl, hfr, hb2⟩
  replace Xx : Hid _ := Xx.out.below hb2
  replace Xy : Hid _ := Xy.out.below hb2
  replace Xr : Hid _ := Xr.out.below hb2
  replace H : Hid _ := H.out.below hb2
  replace K : Hid _ := K.out.below hb2
  replace HSZ : Hid (GeW W0.heap.size w2) := HSZ.out.below hb2
  replace hbw := Below.on hbw hb2
  clear hb2
  have HF : Hid (FrIs W0.heap.size w2 (s != t) a b p2 m2 z2 x2 hf2) := hfr
  clear hfr
  obtain ⟨cr0, cr1, fr0, fr1⟩ := Xr.out
  have hner := Xr.out.lt
  go_wp2_with fail
  clear cr0 cr1 fr0 fr1 hner
  have Xf0 : Hid (B4q (w2.alloc (.cells #[.bool (s != t), .slice p2 m2 m2, .bool x2, .int .i64 hf2] 81)) w2.heap.size (.bool (s != t)) (.slice p2 m2 m2) (.bool x2) (.int .i64 hf2)) := B4q.new w2 _ _ _ _ _
  have hbn : Below w2.heap.size w2 (w2.alloc (.cells #[.bool (s != t), .slice p2 m2 m2, .bool x2, .int .i64 hf2] 81)) := below1 w2 _
  generalize w2.alloc (.cells #[.bool (s != t), .slice p2 m2 m2, .bool x2, .int .i64 hf2] 81) = W3 at *
  have HGf : Hid (w.heap.size ≤ w2.heap.size) := hbw.size
  replace Xx : Hid _ := Xx.out.below hbn
  replace Xy : Hid _ := Xy.out.below hbn
  replace Xr : Hid _ := Xr.out.below hbn
  replace H : Hid _ := H.out.below hbn
  replace K : Hid _ := K.out.below hbn
  replace HSZ : Hid (GeW W0.heap.size W3) := HSZ.out.below hbn
  replace HF : Hid _ := HF.out.below hbn
  replace hbw := Below.on hbw hbn
  clear hbn
  generalize w2.heap.size = gf at *
  have Xf := Xf0
  clear Xf0
  have hBs : W0.heap.size ≤ W3.heap.size := HSZ.out
  refine (ceil_any (s != t) x2 hf2 HF.out hBs).mono ?_
  rintro e w4 ⟨v, rfl, hv, hb4⟩
  clear hBs
  rw [← HZ.out] at hv
  obtain ⟨p4, m4, z4, rfl, ho, hn, hm⟩ := hv
  replace Xx : Hid _ := Xx.out.below hb4
  replace Xy : Hid _ := Xy.out.below hb4
  replace Xr : Hid _ := Xr.out.below hb4
  replace Xf : Hid _ := Xf.out.below hb4
  replace H : Hid _ := H.out.below hb4
  replace K : Hid _ := K.out.below hb4
  replace HSZ : Hid (GeW W0.heap.size w4) := HSZ.out.below hb4
  replace HF : Hid _ := HF.out.below hb4
  replace hbw := Below.on hbw hb4
  clear hb4
  have HO4 : Hid (Own W0.heap.size w4 p4 m4 z4) := ho
  have HN4 : Hid (Nf B64 z4 z.natAbs ∧ m4 ≤ 8192) := ⟨hn, hm⟩
  clear ho hn hm
  obtain ⟨b9, hb9⟩ : ∃ b, b = decide (z < 0) := ⟨_, rfl⟩
  rw [← hb9]
  have HB9 : Hid (b9 = decide (z < 0)) := hb9
  clear hb9
  obtain ⟨cr0, cr1, fr0, fr1⟩ := Xr.out
  have hner := Xr.out.lt
  go_wp2_with fail
  refine bodyPost_ret (v := .tuple #[ZV b9 p4 m4 m4, .int .i64 0]) (by rw [results_cell_tmp rfl]; go_simp) rfl ⟨_, rfl, ⟨p4, m4, z4, by rw [HB9.out], ?_, HN4.out.1, HN4.out.2⟩, ?_⟩
  · exact own_set2 HO4.out HRL.out.1 HRL.out.2 _ _
  · exact bSet (bSet hbw _ _ _ HGr.out) _ _ _ HGr.out
theorem cdiv_zero {p q : Option Addr} {m c n d : Nat} {xs ys : List Nat} {a b : Nat} {w : World} (s t : Bool) (h : Num w p m c xs a) (hs : s = true → 0 < a) (k : Num w q n d ys b) (ht : t = true → 0 < b) (hb : b = 0) :
    Calls Tryz.prog 30 #[ZV s p m c, ZV t q n d] w fun e w' => ∃ v, e = .returned (.tuple #[v, .int .i64 4]) ∧ AnsZ w.heap.size w' v (0) ∧ Below w.heap.size w w' := by
  have H : Hid (Num w p m c xs a) := h
  have HS : Hid (s = true → 0 < a) := hs
  have K : Hid (Num w q n d ys b) := k
  have HT : Hid (t = true → 0 < b) := ht
  have HB0 : Hid (b = 0) := hb
  obtain ⟨z, hz⟩ : ∃ z, z = (0 : Int) := ⟨_, rfl⟩
  rw [← hz]
  have HZ : Hid (z = ce false 0 0) := hz
  clear h hs k ht hb hz
  go_enter Tryz.func30, Tryz.ntmps30
  go_wp2_with fail
  obtain ⟨W0, hW0⟩ : ∃ W0, W0 = (((w.alloc (.cells #[.bool s, .slice p m c] 33)).alloc (.cells #[.bool t, .slice q n d] 33)).alloc (.cells #[.bool false, .slice none 0 0] 33)) := ⟨_, rfl⟩
  have Xx : Hid (Box W0 (w.heap.size) (.bool s) (.slice p m c)) := by rw [hW0]; exact ⟨by go_simp, by go_simp, by go_simp, by go_simp⟩
  have Xy : Hid (Box W0 (w.heap.size + 1) (.bool t) (.slice q n d)) := by rw [hW0]; exact ⟨by go_simp, by go_simp, by go_simp, by go_simp⟩
  have Xr : Hid (Box W0 (w.heap.size + 1 + 1) (.bool false) (.slice none 0 0)) := by rw [hW0]; exact ⟨by go_simp, by go_simp, by go_simp, by go_simp⟩
  have hb0 : Below w.heap.size w W0 := by rw [hW0]; exact below3 w _ _ _
  rw [← hW0]
  clear hW0
  have hbw : Below w.heap.size w w := Below.refl _ _
  obtain ⟨gr, hgr⟩ : ∃ g, g = w.heap.size + 1 + 1 := ⟨_, rfl⟩
  have HGr : Hid (w.heap.size ≤ gr) := by rw [hgr]; show _ ≤ _; omega
  rw [← hgr] at Xr
  try rw [← hgr]
  obtain ⟨gy, hgy⟩ : ∃ g, g = w.heap.size + 1 := ⟨_, rfl⟩
  have HGy : Hid (w.heap.size ≤ gy) := by rw [hgy]; show _ ≤ _; omega
  rw [← hgy] at Xy
  try rw [← hgy]
  obtain ⟨gx, hgx⟩ : ∃ g, g = w.heap.size := ⟨_, rfl⟩
  have HGx : Hid (w.heap.size ≤ gx) := by rw [hgx]; show _ ≤ _; omega
  rw [← hgx] at Xx
  try rw [← hgx]
  have HGD : Hid (gx ≠ gy ∧ gx ≠ gr ∧ gy ≠ gx ∧ gy ≠ gr ∧ gr ≠ gx ∧ gr ≠ gy) := by rw [hgx, hgy, hgr]; exact ⟨by omega, by omega, by omega, by omega, by omega, by omega⟩
  clear hgx hgy hgr
  replace H : Hid _ := H.out.below hb0
  replace K : Hid _ := K.out.below hb0
  replace hbw := Below.on hbw hb0
  clear hb0
  have HSZ : Hid (GeW W0.heap.size W0) := Nat.le_refl _
  have HRL : Hid (gr < W0.heap.size ∧ w.heap.size ≤ W0.heap.size) := ⟨Xr.out.lt, hbw.size⟩
  refine (divided_zero s t H.out HS.out K.out HT.out HB0.out).mono ?_
  rintro e w2 ⟨rfl, hb2⟩
  replace Xx : Hid _ := Xx.out.below hb2
  replace Xy : Hid _ := Xy.out.below hb2
  replace Xr : Hid _ := Xr.out.below hb2
  replace H : Hid _ := H.out.below hb2
  replace K : Hid _ := K.out.below hb2
  replace HSZ : Hid (GeW W0.heap.size w2) := HSZ.out.below hb2
  replace hbw := Below.on hbw hb2
  clear hb2
  have HF : Hid (FrIs W0.heap.size w2 false 0 0 none 0 [] false 0) := ⟨⟨rfl, Dig.nil _, .inl rfl⟩, Nf.nil _, by omega, rfl, .inr (.inl ⟨rfl, rfl⟩), small_lim (by decide)⟩
  obtain ⟨cr0, cr1, fr0, fr1⟩ := Xr.out
  have hner := Xr.out.lt
  go_wp2_with fail
  clear cr0 cr1 fr0 fr1 hner
  have Xf0 : Hid (B4q (w2.alloc (.cells #[.bool false, .slice none 0 0, .bool false, .int .i64 0] 81)) w2.heap.size (.bool false) (.slice none 0 0) (.bool false) (.int .i64 0)) := B4q.new w2 _ _ _ _ _
  have hbn : Below w2.heap.size w2 (w2.alloc (.cells #[.bool false, .slice none 0 0, .bool false, .int .i64 0] 81)) := below1 w2 _
  generalize w2.alloc (.cells #[.bool false, .slice none 0 0, .bool false, .int .i64 0] 81) = W3 at *
  have HGf : Hid (w.heap.size ≤ w2.heap.size) := hbw.size
  replace Xx : Hid _ := Xx.out.below hbn
  replace Xy : Hid _ := Xy.out.below hbn
  replace Xr : Hid _ := Xr.out.below hbn
  replace H : Hid _ := H.out.below hbn
  replace K : Hid _ := K.out.below hbn
  replace HSZ : Hid (GeW W0.heap.size W3) := HSZ.out.below hbn
  replace HF : Hid _ := HF.out.below hbn
  replace hbw := Below.on hbw hbn
  clear hbn
  generalize w2.heap.size = gf at *
  have Xf := Xf0
  clear Xf0
  have hBs : W0.heap.size ≤ W3.heap.size := HSZ.out
  refine (ceil_any false false 0 HF.out hBs).mono ?_
  rintro e w4 ⟨v, rfl, hv, hb4⟩
  clear hBs
  rw [← HZ.out] at hv
  obtain ⟨p4, m4, z4, rfl, ho, hn, hm⟩ := hv
  replace Xx : Hid _ := Xx.out.below hb4
  replace Xy : Hid _ := Xy.out.below hb4
  replace Xr : Hid _ := Xr.out.below hb4
  replace Xf : Hid _ := Xf.out.below hb4
  replace H : Hid _ := H.out.below hb4
  replace K : Hid _ := K.out.below hb4
  replace HSZ : Hid (GeW W0.heap.size w4) := HSZ.out.below hb4
  replace HF : Hid _ := HF.out.below hb4
  replace hbw := Below.on hbw hb4
  clear hb4
  have HO4 : Hid (Own W0.heap.size w4 p4 m4 z4) := ho
  have HN4 : Hid (Nf B64 z4 z.natAbs ∧ m4 ≤ 8192) := ⟨hn, hm⟩
  clear ho hn hm
  obtain ⟨b9, hb9⟩ : ∃ b, b = decide (z < 0) := ⟨_, rfl⟩
  rw [← hb9]
  have HB9 : Hid (b9 = decide (z < 0)) := hb9
  clear hb9
  obtain ⟨cr0, cr1, fr0, fr1⟩ := Xr.out
  have hner := Xr.out.lt
  go_wp2_with fail
  refine bodyPost_ret (v := .tuple #[ZV b9 p4 m4 m4, .int .i64 4]) (by rw [results_cell_tmp rfl]; go_simp) rfl ⟨_, rfl, ⟨p4, m4, z4, by rw [HB9.out], ?_, HN4.out.1, HN4.out.2⟩, ?_⟩
  · exact own_set2 HO4.out HRL.out.1 HRL.out.2 _ _
  · exact bSet (bSet hbw _ _ _ HGr.out) _ _ _ HGr.out
theorem rdiv_any {p q : Option Addr} {m c n d : Nat} {xs ys : List Nat} {a b : Nat} {w : World} (s t : Bool) (h : Num w p m c xs a) (hs : s = true → 0 < a) (k : Num w q n d ys b) (ht : t = true → 0 < b) (hb : b ≠ 0) :
    Calls Tryz.prog 31 #[ZV s p m c, ZV t q n d] w fun e w' => ∃ v, e = .returned (.tuple #[v, .int .i64 0]) ∧ AnsZ w.heap.size w' v (ne (s != t) a b) ∧ Below w.heap.size w w' := by
  have H : Hid (Num w p m c xs a) := h
  have HS : Hid (s = true → 0 < a) := hs
  have K : Hid (Num w q n d ys b) := k
  have HT : Hid (t = true → 0 < b) := ht
  have HB0 : Hid (b ≠ 0) := hb
  obtain ⟨z, hz⟩ : ∃ z, z = ne (s != t) a b := ⟨_, rfl⟩
  rw [← hz]
  have HZ : Hid (z = ne (s != t) a b) := hz
  clear h hs k ht hb hz
  go_enter Tryz.func31, Tryz.ntmps31
  go_wp2_with fail
  obtain ⟨W0, hW0⟩ : ∃ W0, W0 = (((w.alloc (.cells #[.bool s, .slice p m c] 33)).alloc (.cells #[.bool t, .slice q n d] 33)).alloc (.cells #[.bool false, .slice none 0 0] 33)) := ⟨_, rfl⟩
  have Xx : Hid (Box W0 (w.heap.size) (.bool s) (.slice p m c)) := by rw [hW0]; exact ⟨by go_simp, by go_simp, by go_simp, by go_simp⟩
  have Xy : Hid (Box W0 (w.heap.size + 1) (.bool t) (.slice q n d)) := by rw [hW0]; exact ⟨by go_simp, by go_simp, by go_simp, by go_simp⟩
  have Xr : Hid (Box W0 (w.heap.size + 1 + 1) (.bool false) (.slice none 0 0)) := by rw [hW0]; exact ⟨by go_simp, by go_simp, by go_simp, by go_simp⟩
  have hb0 : Below w.heap.size w W0 := by rw [hW0]; exact below3 w _ _ _
  rw [← hW0]
  clear hW0
  have hbw : Below w.heap.size w w := Below.refl _ _
  obtain ⟨gr, hgr⟩ : ∃ g, g = w.heap.size + 1 + 1 := ⟨_, rfl⟩
  have HGr : Hid (w.heap.size ≤ gr) := by rw [hgr]; show _ ≤ _; omega
  rw [← hgr] at Xr
  try rw [← hgr]
  obtain ⟨gy, hgy⟩ : ∃ g, g = w.heap.size + 1 := ⟨_, rfl⟩
  have HGy : Hid (w.heap.size ≤ gy) := by rw [hgy]; show _ ≤ _; omega
  rw [← hgy] at Xy
  try rw [← hgy]
  obtain ⟨gx, hgx⟩ : ∃ g, g = w.heap.size := ⟨_, rfl⟩
  have HGx : Hid (w.heap.size ≤ gx) := by rw [hgx]; show _ ≤ _; omega
  rw [← hgx] at Xx
  try rw [← hgx]
  have HGD : Hid (gx ≠ gy ∧ gx ≠ gr ∧ gy ≠ gx ∧ gy ≠ gr ∧ gr ≠ gx ∧ gr ≠ gy) := by rw [hgx, hgy, hgr]; exact ⟨by omega, by omega, by omega, by omega, by omega, by omega⟩
  clear hgx hgy hgr
  replace H : Hid _ := H.out.below hb0
  replace K : Hid _ := K.out.below hb0
  replace hbw := Below.on hbw hb0
  clear hb0
  have HSZ : Hid (GeW W0.heap.size W0) := Nat.le_refl _
  have HRL : Hid (gr < W0.heap.size ∧ w.heap.size ≤ W0.heap.size) := ⟨Xr.out.lt, hbw.size⟩
  refine (divided_any s t H.out HS.out K.out HT.out HB0.out).mono ?_
  rintro e w2 ⟨p2, m2, z2, x2, hf2, rfl, hfr, hb2⟩
  replace Xx : Hid _ := Xx.out.below hb2
  replace Xy : Hid _ := Xy.out.below hb2
  replace Xr : Hid _ := Xr.out.below hb2
  replace H : Hid _ := H.out.below hb2
  replace K : Hid _ := K.out.below hb2
  replace HSZ : Hid (GeW W0.heap.size w2) := HSZ.out.below hb2
  replace hbw := Below.on hbw hb2
  clear hb2
  have HF : Hid (FrIs W0.heap.size w2 (s != t) a b p2 m2 z2 x2 hf2) := hfr
  clear hfr
  obtain ⟨cr0, cr1, fr0, fr1⟩ := Xr.out
  have hner := Xr.out.lt
  go_wp2_with fail
  clear cr0 cr1 fr0 fr1 hner
  have Xf0 : Hid (B4q (w2.alloc (.cells #[.bool (s != t), .slice p2 m2 m2, .bool x2, .int .i64 hf2] 81)) w2.heap.size (.bool (s != t)) (.slice p2 m2 m2) (.bool x2) (.int .i64 hf2)) := B4q.new w2 _ _ _ _ _
  have hbn : Below w2.heap.size w2 (w2.alloc (.cells #[.bool (s != t), .slice p2 m2 m2, .bool x2, .int .i64 hf2] 81)) := below1 w2 _
  generalize w2.alloc (.cells #[.bool (s != t), .slice p2 m2 m2, .bool x2, .int .i64 hf2] 81) = W3 at *
  have HGf : Hid (w.heap.size ≤ w2.heap.size) := hbw.size
  replace Xx : Hid _ := Xx.out.below hbn
  replace Xy : Hid _ := Xy.out.below hbn
  replace Xr : Hid _ := Xr.out.below hbn
  replace H : Hid _ := H.out.below hbn
  replace K : Hid _ := K.out.below hbn
  replace HSZ : Hid (GeW W0.heap.size W3) := HSZ.out.below hbn
  replace HF : Hid _ := HF.out.below hbn
  replace hbw := Below.on hbw hbn
  clear hbn
  generalize w2.heap.size = gf at *
  have Xf := Xf0
  clear Xf0
  have hBs : W0.heap.size ≤ W3.heap.size := HSZ.out
  refine (near_any (s != t) x2 hf2 HF.out hBs (Nat.pos_of_ne_zero HB0.out)).mono ?_
  rintro e w4 ⟨v, rfl, hv, hb4⟩
  clear hBs
  rw [← HZ.out] at hv
  obtain ⟨p4, m4, z4, rfl, ho, hn, hm⟩ := hv
  replace Xx : Hid _ := Xx.out.below hb4
  replace Xy : Hid _ := Xy.out.below hb4
  replace Xr : Hid _ := Xr.out.below hb4
  replace Xf : Hid _ := Xf.out.below hb4
  replace H : Hid _ := H.out.below hb4
  replace K : Hid _ := K.out.below hb4
  replace HSZ : Hid (GeW W0.heap.size w4) := HSZ.out.below hb4
  replace HF : Hid _ := HF.out.below hb4
  replace hbw := Below.on hbw hb4
  clear hb4
  have HO4 : Hid (Own W0.heap.size w4 p4 m4 z4) := ho
  have HN4 : Hid (Nf B64 z4 z.natAbs ∧ m4 ≤ 8192) := ⟨hn, hm⟩
  clear ho hn hm
  obtain ⟨b9, hb9⟩ : ∃ b, b = decide (z < 0) := ⟨_, rfl⟩
  rw [← hb9]
  have HB9 : Hid (b9 = decide (z < 0)) := hb9
  clear hb9
  obtain ⟨cr0, cr1, fr0, fr1⟩ := Xr.out
  have hner := Xr.out.lt
  go_wp2_with fail
  refine bodyPost_ret (v := .tuple #[ZV b9 p4 m4 m4, .int .i64 0]) (by rw [results_cell_tmp rfl]; go_simp) rfl ⟨_, rfl, ⟨p4, m4, z4, by rw [HB9.out], ?_, HN4.out.1, HN4.out.2⟩, ?_⟩
  · exact own_set2 HO4.out HRL.out.1 HRL.out.2 _ _
  · exact bSet (bSet hbw _ _ _ HGr.out) _ _ _ HGr.out
theorem lim5 {i a : Nat} (hi : i = 250) (h : a < B64 ^ (2 * i)) : a < LIM := lim_of (2 * i) h (by omega)
theorem lim_ab {i a b : Nat} (hi : i = 250) (h : a < B64 ^ i) (k : b < B64 ^ i) : a * b < LIM := by
  refine lim5 hi ?_
  rw [Nat.two_mul, Nat.pow_add]
  exact Nat.mul_lt_mul'' h k
theorem lim_2b {i a : Nat} (hi : i = 250) (h : a < B64 ^ i * 2) : a < LIM := by
  refine lim5 hi (Nat.lt_of_lt_of_le h ?_)
  rw [Nat.two_mul, Nat.pow_add]
  refine Nat.mul_le_mul_left _ ?_
  obtain ⟨j, hj⟩ : ∃ j, i = j + 1 := ⟨i - 1, by omega⟩
  rw [hj, Nat.pow_succ]
  have h3 : 1 ≤ B64 ^ j := Nat.one_le_pow _ _ B64_pos
  exact Nat.le_trans (by decide : 2 ≤ 1 * B64) (Nat.mul_le_mul_right _ h3)
theorem lim_2a {i a : Nat} (hi : i = 250) (h : a < B64 ^ i) : a * 2 < LIM := by
  refine lim5 hi ?_
  have h1 : B64 ^ (2 * i) = B64 ^ i * B64 ^ i := by rw [Nat.two_mul, Nat.pow_add]
  have h2 : B64 ^ i * 2 ≤ B64 ^ i * B64 ^ i := Nat.mul_le_mul_left _ (by
    obtain ⟨j, hj⟩ : ∃ j, i = j + 1 := ⟨i - 1, by omega⟩
    rw [hj, Nat.pow_succ]
    have h3 : 1 ≤ B64 ^ j := Nat.one_le_pow _ _ B64_pos
    exact Nat.le_trans (by decide : 2 ≤ 1 * B64) (Nat.mul_le_mul_right _ h3))
  omega
theorem divides_ok {p q : Option Addr} {m c n d a b i : Nat} {w : World} (h : NC w p m c a) (k : NC w q n d b) (hi : i = 250) (ha : a < B64 ^ i) (hb : b < B64 ^ i) :
    Calls Tryz.prog 7 #[.slice p m c, .slice q n d] w fun en w' => en = .returned (.bool true) ∧ Below w.heap.size w w' := by
  have hz := k.zero
  have NA : Hid (NC w p m c a) := h
  have NB : Hid (NC w q n d b) := k
  have HI : Hid (i = 250 ∧ a < B64 ^ i ∧ b < B64 ^ i) := ⟨hi, ha, hb⟩
  clear h k hi ha hb
  by_cases hb0 : b = 0
  · subst hb0
    obtain rfl : n = 0 := hz.2 rfl
    clear hz
    go_enter Tryz.func7, Tryz.ntmps7
    go_wp2_with fail
    obtain ⟨xs, hX⟩ := NA.out
    obtain ⟨ys, hY⟩ := NB.out
    refine (quorem_zero hX.at_ hY.at_ hX.nf hY.nf hX.le hY.le rfl).mono ?_
    rintro e w1 ⟨rfl, rfl⟩
    clear hX hY
    go_wp2_with fail
    go_ret
    exact ⟨rfl, Below.refl _ _⟩
  have hn0 : ((n : Int) == 0) = false := by simp; exact fun e => hb0 (hz.1 e)
  have HB0 : Hid (b ≠ 0) := hb0
  clear hz hb0
  go_enter Tryz.func7, Tryz.ntmps7
  go_wp2_with fail
  have hbw : Below w.heap.size w w := Below.refl _ _
  refine (nc_quo NA.out NB.out HB0.out).mono ?_
  rintro e v1 ⟨p1, m1, p1r, m1r, rfl, hR, hR2, hb1⟩
  have N1 : Hid (NC v1 p1 m1 m1 (a / b)) := hR
  have N1r : Hid (NC v1 p1r m1r m1r (a % b)) := hR2
  clear hR hR2
  replace NA : Hid (NC v1 p m c a) := NA.out.below hb1
  replace NB : Hid (NC v1 q n d b) := NB.out.below hb1
  replace hbw := Below.on hbw hb1
  clear hb1
  go_wp2_with fail
  clear hn0
  refine (nc_mul N1.out NB.out (Nat.lt_of_le_of_lt (Nat.div_mul_le_self a b) NA.out.lim)).mono ?_
  rintro e v2 ⟨p2, m2, rfl, hR, hb2⟩
  have N2 : Hid (NC v2 p2 m2 m2 (a / b * b)) := hR
  clear hR
  replace NA : Hid (NC v2 p m c a) := NA.out.below hb2
  replace NB : Hid (NC v2 q n d b) := NB.out.below hb2
  replace N1 : Hid (NC v2 p1 m1 m1 (a / b)) := N1.out.below hb2
  replace N1r : Hid (NC v2 p1r m1r m1r (a % b)) := N1r.out.below hb2
  replace hbw := Below.on hbw hb2
  clear hb2
  go_wp2_with fail
  refine (nc_add N2.out N1r.out (by rw [Nat.mul_comm, Nat.div_add_mod]; exact NA.out.lim)).mono ?_
  rintro e v3 ⟨p3, m3, rfl, hR, hb3⟩
  have N3 : Hid (NC v3 p3 m3 m3 (a / b * b + a % b)) := hR
  clear hR
  replace NA : Hid (NC v3 p m c a) := NA.out.below hb3
  replace NB : Hid (NC v3 q n d b) := NB.out.below hb3
  replace N1 : Hid (NC v3 p1 m1 m1 (a / b)) := N1.out.below hb3
  replace N1r : Hid (NC v3 p1r m1r m1r (a % b)) := N1r.out.below hb3
  replace N2 : Hid (NC v3 p2 m2 m2 (a / b * b)) := N2.out.below hb3
  replace hbw := Below.on hbw hb3
  clear hb3
  go_wp2_with fail
  refine (nc_same (N3.out.cast (by rw [Nat.mul_comm, Nat.div_add_mod])) NA.out).mono ?_
  rintro e v4 ⟨rfl, hb4⟩
  replace NA : Hid (NC v4 p m c a) := NA.out.below hb4
  replace NB : Hid (NC v4 q n d b) := NB.out.below hb4
  replace N1 : Hid (NC v4 p1 m1 m1 (a / b)) := N1.out.below hb4
  replace N1r : Hid (NC v4 p1r m1r m1r (a % b)) := N1r.out.below hb4
  replace N2 : Hid (NC v4 p2 m2 m2 (a / b * b)) := N2.out.below hb4
  replace N3 : Hid (NC v4 p3 m3 m3 (a / b * b + a % b)) := N3.out.below hb4
  replace hbw := Below.on hbw hb4
  clear hb4
  go_wp2_with fail
  refine (nc_cmp N1r.out NB.out).mono ?_
  rintro e v5 ⟨rfl, hb5⟩
  replace NA : Hid (NC v5 p m c a) := NA.out.below hb5
  replace NB : Hid (NC v5 q n d b) := NB.out.below hb5
  replace N1 : Hid (NC v5 p1 m1 m1 (a / b)) := N1.out.below hb5
  replace N1r : Hid (NC v5 p1r m1r m1r (a % b)) := N1r.out.below hb5
  replace N2 : Hid (NC v5 p2 m2 m2 (a / b * b)) := N2.out.below hb5
  replace N3 : Hid (NC v5 p3 m3 m3 (a / b * b + a % b)) := N3.out.below hb5
  replace hbw := Below.on hbw hb5
  clear hb5
  obtain ⟨cv, hcv⟩ : ∃ c, c = cmpN (a % b) b := ⟨_, rfl⟩
  have hc0 : decide (0 ≤ cv) = false := by rw [hcv]; refine decide_eq_false ?_; have := Nat.mod_lt a (Nat.pos_of_ne_zero HB0.out); unfold cmpN; rw [if_pos this]; decide
  rw [← hcv]
  clear hcv
  go_wp2_with fail
  refine (nc_mul NA.out NB.out (lim_ab HI.out.1 HI.out.2.1 HI.out.2.2)).mono ?_
  rintro e v6 ⟨p6, m6, rfl, hR, hb6⟩
  have N6 : Hid (NC v6 p6 m6 m6 (a * b)) := hR
  clear hR
  replace NA : Hid (NC v6 p m c a) := NA.out.below hb6
  replace NB : Hid (NC v6 q n d b) := NB.out.below hb6
  replace N1 : Hid (NC v6 p1 m1 m1 (a / b)) := N1.out.below hb6
  replace N1r : Hid (NC v6 p1r m1r m1r (a % b)) := N1r.out.below hb6
  replace N2 : Hid (NC v6 p2 m2 m2 (a / b * b)) := N2.out.below hb6
  replace N3 : Hid (NC v6 p3 m3 m3 (a / b * b + a % b)) := N3.out.below hb6
  replace hbw := Below.on hbw hb6
  clear hb6
  go_wp2_with fail
  refine (nc_quo N6.out NB.out HB0.out).mono ?_
  rintro e v7 ⟨p7, m7, p7r, m7r, rfl, hR, hR2, hb7⟩
  have N7 : Hid (NC v7 p7 m7 m7 (a * b / b)) := hR
  have N7r : Hid (NC v7 p7r m7r m7r (a * b % b)) := hR2
  clear hR hR2
  replace NA : Hid (NC v7 p m c a) := NA.out.below hb7
  replace NB : Hid (NC v7 q n d b) := NB.out.below hb7
  replace N1 : Hid (NC v7 p1 m1 m1 (a / b)) := N1.out.below hb7
  replace N1r : Hid (NC v7 p1r m1r m1r (a % b)) := N1r.out.below hb7
  replace N2 : Hid (NC v7 p2 m2 m2 (a / b * b)) := N2.out.below hb7
  replace N3 : Hid (NC v7 p3 m3 m3 (a / b * b + a % b)) := N3.out.below hb7
  replace N6 : Hid (NC v7 p6 m6 m6 (a * b)) := N6.out.below hb7
  replace hbw := Below.on hbw hb7
  clear hb7
  go_wp2_with fail
  refine (nc_same (N7.out.cast (Nat.mul_div_cancel a (Nat.pos_of_ne_zero HB0.out))) NA.out).mono ?_
  rintro e v8 ⟨rfl, hb8⟩
  replace NA : Hid (NC v8 p m c a) := NA.out.below hb8
  replace NB : Hid (NC v8 q n d b) := NB.out.below hb8
  replace N1 : Hid (NC v8 p1 m1 m1 (a / b)) := N1.out.below hb8
  replace N1r : Hid (NC v8 p1r m1r m1r (a % b)) := N1r.out.below hb8
  replace N2 : Hid (NC v8 p2 m2 m2 (a / b * b)) := N2.out.below hb8
  replace N3 : Hid (NC v8 p3 m3 m3 (a / b * b + a % b)) := N3.out.below hb8
  replace N6 : Hid (NC v8 p6 m6 m6 (a * b)) := N6.out.below hb8
  replace N7 : Hid (NC v8 p7 m7 m7 (a * b / b)) := N7.out.below hb8
  replace N7r : Hid (NC v8 p7r m7r m7r (a * b % b)) := N7r.out.below hb8
  replace hbw := Below.on hbw hb8
  clear hb8
  obtain rfl : m7r = 0 := N7r.out.zero.2 (Nat.mul_mod_left a b)
  go_wp2_with fail
  go_ret
  exact ⟨rfl, hbw⟩
theorem roots_ok {p : Option Addr} {m c a i : Nat} {w : World} (h : NC w p m c a) (hi : i = 250) (ha : a < B64 ^ i) :
    Calls Tryz.prog 8 #[.slice p m c] w fun en w' => en = .returned (.bool true) ∧ Below w.heap.size w w' := by
  have NA : Hid (NC w p m c a) := h
  have HI : Hid (i = 250 ∧ a < B64 ^ i) := ⟨hi, ha⟩
  clear h hi ha
  go_enter Tryz.func8, Tryz.ntmps8
  go_wp2_with fail
  have hbw : Below w.heap.size w w := Below.refl _ _
  refine (nc_root NA.out).mono ?_
  rintro e v1 ⟨p1, m1, p1r, m1r, s, rfl, hs1, hs2, hR, hR2, hb1⟩
  have N1 : Hid (NC v1 p1 m1 m1 s) := hR
  have N1r : Hid (NC v1 p1r m1r m1r (a - s * s)) := hR2
  have HS : Hid (s * s ≤ a ∧ a ≤ s * s + 2 * s) := ⟨hs1, hs2⟩
  clear hR hR2 hs1 hs2
  replace NA : Hid (NC v1 p m c a) := NA.out.below hb1
  replace hbw := Below.on hbw hb1
  clear hb1
  go_wp2_with fail
  refine (nc_sqr N1.out (Nat.lt_of_le_of_lt HS.out.1 NA.out.lim)).mono ?_
  rintro e v2 ⟨p2, m2, rfl, hR, hb2⟩
  have N2 : Hid (NC v2 p2 m2 m2 (s * s)) := hR
  clear hR
  replace NA : Hid (NC v2 p m c a) := NA.out.below hb2
  replace N1 : Hid (NC v2 p1 m1 m1 s) := N1.out.below hb2
  replace N1r : Hid (NC v2 p1r m1r m1r (a - s * s)) := N1r.out.below hb2
  replace hbw := Below.on hbw hb2
  clear hb2
  go_wp2_with fail
  refine (nc_add N2.out N1r.out (by rw [Nat.add_sub_cancel' HS.out.1]; exact NA.out.lim)).mono ?_
  rintro e v3 ⟨p3, m3, rfl, hR, hb3⟩
  have N3 : Hid (NC v3 p3 m3 m3 (s * s + (a - s * s))) := hR
  clear hR
  replace NA : Hid (NC v3 p m c a) := NA.out.below hb3
  replace N1 : Hid (NC v3 p1 m1 m1 s) := N1.out.below hb3
  replace N1r : Hid (NC v3 p1r m1r m1r (a - s * s)) := N1r.out.below hb3
  replace N2 : Hid (NC v3 p2 m2 m2 (s * s)) := N2.out.below hb3
  replace hbw := Below.on hbw hb3
  clear hb3
  go_wp2_with fail
  refine (nc_mulw N1.out 2 (by decide) (lim_2a HI.out.1 (Nat.lt_of_le_of_lt (Nat.le_trans (by rcases Nat.eq_zero_or_pos s with h | h; omega; exact Nat.le_mul_of_pos_left s h) HS.out.1) HI.out.2))).mono ?_
  rintro e v4 ⟨p4, m4, rfl, hR, hb4⟩
  have N4 : Hid (NC v4 p4 m4 m4 (s * 2)) := hR
  clear hR
  replace NA : Hid (NC v4 p m c a) := NA.out.below hb4
  replace N1 : Hid (NC v4 p1 m1 m1 s) := N1.out.below hb4
  replace N1r : Hid (NC v4 p1r m1r m1r (a - s * s)) := N1r.out.below hb4
  replace N2 : Hid (NC v4 p2 m2 m2 (s * s)) := N2.out.below hb4
  replace N3 : Hid (NC v4 p3 m3 m3 (s * s + (a - s * s))) := N3.out.below hb4
  replace hbw := Below.on hbw hb4
  clear hb4
  go_wp2_with fail
  refine (nc_same (N3.out.cast (Nat.add_sub_cancel' HS.out.1)) NA.out).mono ?_
  rintro e v5 ⟨rfl, hb5⟩
  replace NA : Hid (NC v5 p m c a) := NA.out.below hb5
  replace N1 : Hid (NC v5 p1 m1 m1 s) := N1.out.below hb5
  replace N1r : Hid (NC v5 p1r m1r m1r (a - s * s)) := N1r.out.below hb5
  replace N2 : Hid (NC v5 p2 m2 m2 (s * s)) := N2.out.below hb5
  replace N3 : Hid (NC v5 p3 m3 m3 (s * s + (a - s * s))) := N3.out.below hb5
  replace N4 : Hid (NC v5 p4 m4 m4 (s * 2)) := N4.out.below hb5
  replace hbw := Below.on hbw hb5
  clear hb5
  go_wp2_with fail
  refine (nc_cmp N1r.out N4.out).mono ?_
  rintro e v6 ⟨rfl, hb6⟩
  replace NA : Hid (NC v6 p m c a) := NA.out.below hb6
  replace N1 : Hid (NC v6 p1 m1 m1 s) := N1.out.below hb6
  replace N1r : Hid (NC v6 p1r m1r m1r (a - s * s)) := N1r.out.below hb6
  replace N2 : Hid (NC v6 p2 m2 m2 (s * s)) := N2.out.below hb6
  replace N3 : Hid (NC v6 p3 m3 m3 (s * s + (a - s * s))) := N3.out.below hb6
  replace N4 : Hid (NC v6 p4 m4 m4 (s * 2)) := N4.out.below hb6
  replace hbw := Below.on hbw hb6
  clear hb6
  obtain ⟨cv, hcv⟩ : ∃ c, c = cmpN (a - s * s) (s * 2) := ⟨_, rfl⟩
  have hc0 : decide (cv ≤ 0) = true := by rw [hcv]; refine decide_eq_true ?_; have := HS.out; unfold cmpN; split <;> (try split) <;> omega
  rw [← hcv]
  clear hcv
  go_wp2_with fail
  go_ret
  exact ⟨rfl, hbw⟩
theorem two_ten {a : Nat} (h : ¬ 16000 < bitsN a) : ∃ D, D = 4844 ∧ a < 10 ^ D := by
  obtain ⟨j, hj⟩ : ∃ j : Nat, j = 173 := ⟨_, rfl⟩
  refine ⟨28 * j, by omega, ?_⟩
  have h1 := bitsN_lt a
  have h2 : 2 ^ bitsN a ≤ 2 ^ (93 * j) := Nat.pow_le_pow_right (by decide) (by omega)
  have h3 : ((2 : Nat) ^ 93) ^ j ≤ (10 ^ 28) ^ j := Nat.pow_le_pow_left (by decide) _
  rw [← Nat.pow_mul, ← Nat.pow_mul] at h3
  omega
theorem two_txl {a : Nat} (h : ¬ 16000 < bitsN a) : a < TXL ∧ (Lib.decDigits a).length ≤ 4844 := by
  obtain ⟨D, hD, h1⟩ := two_ten h
  refine ⟨Nat.lt_of_lt_of_le h1 ?_, ?_⟩
  · unfold TXL; exact Nat.pow_le_pow_right (by decide) (by unfold TXN; omega)
  · rw [Lib.decDigits_length]
    have := ndig_le1 (n := D) (by omega) h1
    omega
theorem rd00 {v : Nat} (h : (Lib.decDigits v).length ≤ 4844) : RdOk ⟨(48 :: 48 :: Lib.decDigits v).toArray⟩ ∧ dN ⟨(48 :: 48 :: Lib.decDigits v).toArray⟩ (48 :: 48 :: Lib.decDigits v).length = v := by
  have hs : (⟨(48 :: 48 :: Lib.decDigits v).toArray⟩ : ByteArray).size = (48 :: 48 :: Lib.decDigits v).length := rfl
  have hl : (48 :: 48 :: Lib.decDigits v).length = (Lib.decDigits v).length + 2 := rfl
  have hd : ∀ c, c ∈ (48 :: 48 :: Lib.decDigits v) → IsDg c := by
    intro c hc
    rcases List.mem_cons.1 hc with rfl | hc
    · exact ⟨by decide, by decide⟩
    · rcases List.mem_cons.1 hc with rfl | hc
      · exact ⟨by decide, by decide⟩
      · exact dec_dg v c hc
  refine ⟨⟨by rw [hs, hl]; omega, by rw [hs, hl]; omega, fun j hj => ?_⟩, ?_⟩
  · rw [hs] at hj
    unfold IsD
    rw [sb_list _ j (by rw [hs]; exact hj)]
    exact hd _ (by rw [List.getD_eq_getElem?_getD, List.getElem?_eq_getElem hj]; exact List.getElem_mem _)
  · have h1 := dN_all ⟨(48 :: 48 :: Lib.decDigits v).toArray⟩
    rw [hs] at h1
    rw [h1]
    show dval (48 :: 48 :: Lib.decDigits v) = v
    rw [dval_48, dval_48, dval_dec]
theorem dec_ne (v : Nat) : (⟨(Lib.decDigits v).toArray⟩ : ByteArray).size ≠ 0 := by
  show (Lib.decDigits v).length ≠ 0
  rw [Lib.decDigits_length]
  have := Lib.nDigits_pos v
  omega
theorem app00 (l : List UInt8) : (⟨#[48, 48]⟩ : ByteArray) ++ ⟨l.toArray⟩ = ⟨(48 :: 48 :: l).toArray⟩ := by
  apply ByteArray.ext
  simp
theorem digits_t {p : Option Addr} {m c a : Nat} {w : World} (h : NC w p m c a) (ht : TbP w) :
    Calls Tryz.prog 9 #[.slice p m c] w fun en w' => en = .returned (.bool true) ∧ Below w.heap.size w w' := by
  have NA : Hid (NC w p m c a) := h
  obtain ⟨xs, hX⟩ := h
  have HX : Hid (Num w p m c xs a ∧ TbP w) := ⟨hX, ht⟩
  have HV : Hid (valB B64 xs = a ∧ formB xs = true) := ⟨hX.nf.val, hX.nf.form (by rw [hX.at_.len]; exact hX.le)⟩
  obtain ⟨bn, hbn⟩ : ∃ b, Hid (b = bitsN a) := ⟨_, rfl⟩
  clear hX ht
  go_enter Tryz.func9, Tryz.ntmps9
  go_wp2_with fail
  have hbw : Below w.heap.size w w := Below.refl _ _
  refine (text_ok HX.out.1.at_ HX.out.2).mono ?_
  rintro e v1 ⟨s, er, rfl, hT, hb1⟩
  have HT : Hid (TxA xs s er) := hT
  clear hT
  replace NA : Hid (NC v1 p m c a) := NA.out.below hb1
  replace hbw := Below.on hbw hb1
  clear hb1
  go_wp2_with fail
  refine (nc_bits NA.out).mono ?_
  rintro e v2 ⟨rfl, hw⟩
  obtain rfl := hw.symm
  clear hw
  rw [← hbn.out]
  by_cases hb : 16000 < bn
  · have hd1 : decide ((16000 : Int) < (bn : Int)) = true := decide_eq_true (by omega)
    have hd2 : decide (16000 < bn) = true := decide_eq_true hb
    go_wp2_with fail
    go_ret
    exact ⟨rfl, hbw⟩
  · have hd1 : decide ((16000 : Int) < (bn : Int)) = false := decide_eq_false (by omega)
    have hd2 : decide (16000 < bn) = false := decide_eq_false hb
    have HL : Hid (a < TXL ∧ (Lib.decDigits a).length ≤ 4844) := two_txl (by rw [← hbn.out]; exact hb)
    have hT2 := HT.out.uniq (.inl ⟨HV.out.2, by rw [HV.out.1]; exact HL.out.1, rfl, rfl⟩)
    rw [HV.out.1] at hT2
    obtain ⟨rfl, rfl⟩ := hT2
    have hrd := rdok_dec HL.out.1
    have hrd0 := rd00 HL.out.2
    have HRD : Hid (RdOk ⟨(Lib.decDigits a).toArray⟩ ∧ dN ⟨(Lib.decDigits a).toArray⟩ (Lib.decDigits a).length = a ∧ RdOk ⟨(48 :: 48 :: Lib.decDigits a).toArray⟩ ∧ dN ⟨(48 :: 48 :: Lib.decDigits a).toArray⟩ (48 :: 48 :: Lib.decDigits a).length = a) := ⟨hrd.1, hrd.2, hrd0.1, hrd0.2⟩
    clear hrd hrd0 hb
    obtain ⟨ds, hds⟩ : ∃ s : ByteArray, Hid (s = ⟨(Lib.decDigits a).toArray⟩) := ⟨_, rfl⟩
    rw [← hds.out]
    have hdsz : ds.size ≤ 4844 := by rw [hds.out]; exact HL.out.2
    have hdsz2 : ds.size ≠ 0 := by rw [hds.out]; exact dec_ne a
    have hdsz3 : (ds.toList == []) = false := by simp only [beq_eq_false_iff_ne, ne_eq]; intro h; apply hdsz2; rw [ByteArray.toList_eq] at h; show ds.data.size = 0; rw [← Array.length_toList, h]; rfl
    have hdsz4 : ¬ ds.toList = [] := by simpa using hdsz3
    go_wp2_with fail
    clear hd1 hd2
    refine (read_ok ds).mono ?_
    rintro e v3 ⟨⟨-, p3, m3, rfl, hG⟩ | ⟨hn, -⟩, hb3⟩
    rotate_left
    · exact absurd (by rw [hds.out]; exact HRD.out.1) hn
    have hval : dN ds (ds).size = a := by rw [hds.out]; exact HRD.out.2.1
    rw [hval] at hG
    have N3 : Hid (NC v3 p3 m3 m3 a) := by obtain ⟨⟨zs, h1, h2⟩, h3⟩ := hG; exact NC.own h1 h2 h3
    clear hG hval
    replace NA : Hid (NC v3 p m c a) := NA.out.below hb3
    replace hbw := Below.on hbw hb3
    clear hb3
    go_wp2_with fail
    obtain ⟨dz, hdz⟩ : ∃ s : ByteArray, Hid (s = ⟨(48 :: 48 :: Lib.decDigits a).toArray⟩) := ⟨_, rfl⟩
    rw [show (⟨#[48, 48]⟩ : ByteArray) ++ ds = dz from by rw [hds.out, hdz.out]; exact app00 _]
    refine (read_ok dz).mono ?_
    rintro e v4 ⟨⟨-, p4, m4, rfl, hG⟩ | ⟨hn, -⟩, hb4⟩
    rotate_left
    · exact absurd (by rw [hdz.out]; exact HRD.out.2.2.1) hn
    have hval : dN dz (dz).size = a := by rw [hdz.out]; exact HRD.out.2.2.2
    rw [hval] at hG
    have N4 : Hid (NC v4 p4 m4 m4 a) := by obtain ⟨⟨zs, h1, h2⟩, h3⟩ := hG; exact NC.own h1 h2 h3
    clear hG hval
    replace NA : Hid (NC v4 p m c a) := NA.out.below hb4
    replace N3 : Hid (NC v4 p3 m3 m3 a) := N3.out.below hb4
    replace hbw := Below.on hbw hb4
    clear hb4
    go_wp2_with fail
    refine (nc_same N3.out NA.out).mono ?_
    rintro e v5 ⟨rfl, hb5⟩
    replace NA : Hid (NC v5 p m c a) := NA.out.below hb5
    replace N3 : Hid (NC v5 p3 m3 m3 a) := N3.out.below hb5
    replace N4 : Hid (NC v5 p4 m4 m4 a) := N4.out.below hb5
    replace hbw := Below.on hbw hb5
    clear hb5
    go_wp2_with fail
    refine (nc_same N4.out NA.out).mono ?_
    rintro e v6 ⟨rfl, hb6⟩
    replace NA : Hid (NC v6 p m c a) := NA.out.below hb6
    replace N3 : Hid (NC v6 p3 m3 m3 a) := N3.out.below hb6
    replace N4 : Hid (NC v6 p4 m4 m4 a) := N4.out.below hb6
    replace hbw := Below.on hbw hb6
    clear hb6
    go_wp2_with fail
    go_ret
    exact ⟨rfl, hbw⟩
theorem mod_000 {p q : Option Addr} {m c n d : Nat} {xs ys : List Nat} {a b : Nat} {w : World} (h : Num w p m c xs a) (hs : false = true → 0 < a) (k : Num w q n d ys b) (ht : false = true → 0 < b) (hb : b ≠ 0) (hz : a % b = 0) :
    Calls Tryz.prog 32 #[ZV false p m c, ZV false q n d] w fun e w' => ∃ v, e = .returned (.tuple #[v, .int .i64 0]) ∧ AnsZ w.heap.size w' v (mo false false a b) ∧ Below w.heap.size w w' := by
  have H : Hid (Num w p m c xs a) := h
  have HS : Hid (false = true → 0 < a) := hs
  have K : Hid (Num w q n d ys b) := k
  have HT : Hid (false = true → 0 < b) := ht
  have HB0 : Hid (b ≠ 0) := hb
  obtain ⟨r, hr⟩ : ∃ r, r = a % b := ⟨_, rfl⟩
  have HRV : Hid (mo false false a b = iv false r) := by show _ = _; rw [hr]; unfold mo; rw [hz]; rfl
  rw [HRV.out]
  clear HRV
  have HR : Hid (r = a % b) := hr
  have HZ : Hid (a % b = 0) := hz
  clear h hs k ht hb hr hz
  go_enter Tryz.func32, Tryz.ntmps32
  go_wp2_with fail
  obtain ⟨W0, hW0⟩ : ∃ W0, W0 = (((w.alloc (.cells #[.bool false, .slice p m c] 33)).alloc (.cells #[.bool false, .slice q n d] 33)).alloc (.cells #[.bool false, .slice none 0 0] 33)) := ⟨_, rfl⟩
  have Xx : Hid (Box W0 (w.heap.size) (.bool false) (.slice p m c)) := by rw [hW0]; exact ⟨by go_simp, by go_simp, by go_simp, by go_simp⟩
  have Xy : Hid (Box W0 (w.heap.size + 1) (.bool false) (.slice q n d)) := by rw [hW0]; exact ⟨by go_simp, by go_simp, by go_simp, by go_simp⟩
  have Xr : Hid (Box W0 (w.heap.size + 1 + 1) (.bool false) (.slice none 0 0)) := by rw [hW0]; exact ⟨by go_simp, by go_simp, by go_simp, by go_simp⟩
  have hb0 : Below w.heap.size w W0 := by rw [hW0]; exact below3 w _ _ _
  rw [← hW0]
  clear hW0
  have hbw : Below w.heap.size w w := Below.refl _ _
  obtain ⟨gr, hgr⟩ : ∃ g, g = w.heap.size + 1 + 1 := ⟨_, rfl⟩
  have HGr : Hid (w.heap.size ≤ gr) := by rw [hgr]; show _ ≤ _; omega
  rw [← hgr] at Xr
  try rw [← hgr]
  obtain ⟨gy, hgy⟩ : ∃ g, g = w.heap.size + 1 := ⟨_, rfl⟩
  have HGy : Hid (w.heap.size ≤ gy) := by rw [hgy]; show _ ≤ _; omega
  rw [← hgy] at Xy
  try rw [← hgy]
  obtain ⟨gx, hgx⟩ : ∃ g, g = w.heap.size := ⟨_, rfl⟩
  have HGx : Hid (w.heap.size ≤ gx) := by rw [hgx]; show _ ≤ _; omega
  rw [← hgx] at Xx
  try rw [← hgx]
  have HGD : Hid (gx ≠ gy ∧ gx ≠ gr ∧ gy ≠ gx ∧ gy ≠ gr ∧ gr ≠ gx ∧ gr ≠ gy) := by rw [hgx, hgy, hgr]; exact ⟨by omega, by omega, by omega, by omega, by omega, by omega⟩
  clear hgx hgy hgr
  replace H : Hid _ := H.out.below hb0
  replace K : Hid _ := K.out.below hb0
  replace hbw := Below.on hbw hb0
  clear hb0
  refine (numform_t false H.out (fun hh => by cases hh)).mono ?_
  rintro e w1 ⟨rfl, hb1⟩
  replace Xx : Hid _ := Xx.out.below hb1
  replace Xy : Hid _ := Xy.out.below hb1
  replace Xr : Hid _ := Xr.out.below hb1
  replace H : Hid _ := H.out.below hb1
  replace K : Hid _ := K.out.below hb1
  replace hbw := Below.on hbw hb1
  clear hb1
  obtain ⟨cy0, cy1, fy0, fy1⟩ := Xy.out
  have hney := Xy.out.lt
  go_wp2_with fail
  clear cy0 cy1 fy0 fy1 hney
  refine (numform_t false K.out (fun hh => by cases hh)).mono ?_
  rintro e w2 ⟨rfl, hb2⟩
  replace Xx : Hid _ := Xx.out.below hb2
  replace Xy : Hid _ := Xy.out.below hb2
  replace Xr : Hid _ := Xr.out.below hb2
  replace H : Hid _ := H.out.below hb2
  replace K : Hid _ := K.out.below hb2
  replace hbw := Below.on hbw hb2
  clear hb2
  obtain ⟨cx0, cx1, fx0, fx1⟩ := Xx.out
  have hnex := Xx.out.lt
  obtain ⟨cy0, cy1, fy0, fy1⟩ := Xy.out
  have hney := Xy.out.lt
  go_wp2_with fail
  clear cx0 cx1 fx0 fx1 hnex
  clear cy0 cy1 fy0 fy1 hney
  have HRL : Hid (gr < w2.heap.size ∧ w.heap.size ≤ w2.heap.size) := ⟨Xr.out.lt, hbw.size⟩
  refine (quorem_any H.out.at_ K.out.at_ H.out.nf K.out.nf H.out.le K.out.le HB0.out).mono ?_
  rintro e w3 ⟨v1, v2, rfl, ⟨p3, m3, z3, rfl, ho3, hn3, hm3⟩, ⟨p4, m4, z4, rfl, ho4, hn4, hm4⟩, hb3⟩
  clear ho3 hn3 hm3
  replace Xx : Hid _ := Xx.out.below hb3
  replace Xy : Hid _ := Xy.out.below hb3
  replace Xr : Hid _ := Xr.out.below hb3
  replace H : Hid _ := H.out.below hb3
  replace K : Hid _ := K.out.below hb3
  replace hbw := Below.on hbw hb3
  clear hb3
  have HO4 : Hid (Own w2.heap.size w3 p4 m4 z4) := ho4
  have N4 : Hid (Nf B64 z4 (a % b) ∧ m4 ≤ 8192) := ⟨hn4, hm4⟩
  have hm40 : m4 = 0 := (Num.of ho4 hn4 hm4).zero.2 HZ.out
  clear ho4 hn4 hm4
  subst hm40
  obtain ⟨cx0, cx1, fx0, fx1⟩ := Xx.out
  have hnex := Xx.out.lt
  obtain ⟨cy0, cy1, fy0, fy1⟩ := Xy.out
  have hney := Xy.out.lt
  go_wp2_with fail
  clear cx0 cx1 fx0 fx1 hnex
  clear cy0 cy1 fy0 fy1 hney
  refine (signed_any false p4 0 0 w3).mono ?_
  rintro e w6 ⟨rfl, hb6⟩
  replace Xx : Hid _ := Xx.out.below hb6
  replace Xy : Hid _ := Xy.out.below hb6
  replace Xr : Hid _ := Xr.out.below hb6
  replace H : Hid _ := H.out.below hb6
  replace K : Hid _ := K.out.below hb6
  replace HO4 : Hid (Own w2.heap.size w6 p4 0 z4) := HO4.out.below hb6
  replace hbw := Below.on hbw hb6
  clear hb6
  obtain ⟨b9, hb9⟩ : ∃ b, b = (false && decide (0 < 0)) := ⟨_, rfl⟩
  rw [← hb9]
  have HB9 : Hid (b9 = (false && decide (0 < 0))) := hb9
  clear hb9
  obtain ⟨cr0, cr1, fr0, fr1⟩ := Xr.out
  have hner := Xr.out.lt
  go_wp2_with fail
  refine bodyPost_ret (v := .tuple #[ZV b9 p4 0 0, .int .i64 0]) (by rw [results_cell_tmp rfl]; go_simp) rfl ⟨_, rfl, ?_, ?_⟩
  · rw [HB9.out]
    exact AnsZ.mk _ (own_set2 HO4.out HRL.out.1 HRL.out.2 _ _) (by rw [HR.out]; exact N4.out.1) N4.out.2
  · exact bSet (bSet hbw _ _ _ HGr.out) _ _ _ HGr.out
theorem mod_001 {p q : Option Addr} {m c n d : Nat} {xs ys : List Nat} {a b : Nat} {w : World} (h : Num w p m c xs a) (hs : false = true → 0 < a) (k : Num w q n d ys b) (ht : false = true → 0 < b) (hb : b ≠ 0) (hz : a % b ≠ 0) :
    Calls Tryz.prog 32 #[ZV false p m c, ZV false q n d] w fun e w' => ∃ v, e = .returned (.tuple #[v, .int .i64 0]) ∧ AnsZ w.heap.size w' v (mo false false a b) ∧ Below w.heap.size w w' := by
  have H : Hid (Num w p m c xs a) := h
  have HS : Hid (false = true → 0 < a) := hs
  have K : Hid (Num w q n d ys b) := k
  have HT : Hid (false = true → 0 < b) := ht
  have HB0 : Hid (b ≠ 0) := hb
  obtain ⟨r, hr⟩ : ∃ r, r = a % b := ⟨_, rfl⟩
  have HRV : Hid (mo false false a b = iv false r) := by show _ = _; rw [hr]; unfold mo; rw [decide_eq_true hz]; rfl
  rw [HRV.out]
  clear HRV
  have HR : Hid (r = a % b) := hr
  have HZ : Hid (a % b ≠ 0) := hz
  clear h hs k ht hb hr hz
  go_enter Tryz.func32, Tryz.ntmps32
  go_wp2_with fail
  obtain ⟨W0, hW0⟩ : ∃ W0, W0 = (((w.alloc (.cells #[.bool false, .slice p m c] 33)).alloc (.cells #[.bool false, .slice q n d] 33)).alloc (.cells #[.bool false, .slice none 0 0] 33)) := ⟨_, rfl⟩
  have Xx : Hid (Box W0 (w.heap.size) (.bool false) (.slice p m c)) := by rw [hW0]; exact ⟨by go_simp, by go_simp, by go_simp, by go_simp⟩
  have Xy : Hid (Box W0 (w.heap.size + 1) (.bool false) (.slice q n d)) := by rw [hW0]; exact ⟨by go_simp, by go_simp, by go_simp, by go_simp⟩
  have Xr : Hid (Box W0 (w.heap.size + 1 + 1) (.bool false) (.slice none 0 0)) := by rw [hW0]; exact ⟨by go_simp, by go_simp, by go_simp, by go_simp⟩
  have hb0 : Below w.heap.size w W0 := by rw [hW0]; exact below3 w _ _ _
  rw [← hW0]
  clear hW0
  have hbw : Below w.heap.size w w := Below.refl _ _
  obtain ⟨gr, hgr⟩ : ∃ g, g = w.heap.size + 1 + 1 := ⟨_, rfl⟩
  have HGr : Hid (w.heap.size ≤ gr) := by rw [hgr]; show _ ≤ _; omega
  rw [← hgr] at Xr
  try rw [← hgr]
  obtain ⟨gy, hgy⟩ : ∃ g, g = w.heap.size + 1 := ⟨_, rfl⟩
  have HGy : Hid (w.heap.size ≤ gy) := by rw [hgy]; show _ ≤ _; omega
  rw [← hgy] at Xy
  try rw [← hgy]
  obtain ⟨gx, hgx⟩ : ∃ g, g = w.heap.size := ⟨_, rfl⟩
  have HGx : Hid (w.heap.size ≤ gx) := by rw [hgx]; show _ ≤ _; omega
  rw [← hgx] at Xx
  try rw [← hgx]
  have HGD : Hid (gx ≠ gy ∧ gx ≠ gr ∧ gy ≠ gx ∧ gy ≠ gr ∧ gr ≠ gx ∧ gr ≠ gy) := by rw [hgx, hgy, hgr]; exact ⟨by omega, by omega, by omega, by omega, by omega, by omega⟩
  clear hgx hgy hgr
  replace H : Hid _ := H.out.below hb0
  replace K : Hid _ := K.out.below hb0
  replace hbw := Below.on hbw hb0
  clear hb0
  refine (numform_t false H.out (fun hh => by cases hh)).mono ?_
  rintro e w1 ⟨rfl, hb1⟩
  replace Xx : Hid _ := Xx.out.below hb1
  replace Xy : Hid _ := Xy.out.below hb1
  replace Xr : Hid _ := Xr.out.below hb1
  replace H : Hid _ := H.out.below hb1
  replace K : Hid _ := K.out.below hb1
  replace hbw := Below.on hbw hb1
  clear hb1
  obtain ⟨cy0, cy1, fy0, fy1⟩ := Xy.out
  have hney := Xy.out.lt
  go_wp2_with fail
  clear cy0 cy1 fy0 fy1 hney
  refine (numform_t false K.out (fun hh => by cases hh)).mono ?_
  rintro e w2 ⟨rfl, hb2⟩
  replace Xx : Hid _ := Xx.out.below hb2
  replace Xy : Hid _ := Xy.out.below hb2
  replace Xr : Hid _ := Xr.out.below hb2
  replace H : Hid _ := H.out.below hb2
  replace K : Hid _ := K.out.below hb2
  replace hbw := Below.on hbw hb2
  clear hb2
  obtain ⟨cx0, cx1, fx0, fx1⟩ := Xx.out
  have hnex := Xx.out.lt
  obtain ⟨cy0, cy1, fy0, fy1⟩ := Xy.out
  have hney := Xy.out.lt
  go_wp2_with fail
  clear cx0 cx1 fx0 fx1 hnex
  clear cy0 cy1 fy0 fy1 hney
  have HRL : Hid (gr < w2.heap.size ∧ w.heap.size ≤ w2.heap.size) := ⟨Xr.out.lt, hbw.size⟩
  refine (quorem_any H.out.at_ K.out.at_ H.out.nf K.out.nf H.out.le K.out.le HB0.out).mono ?_
  rintro e w3 ⟨v1, v2, rfl, ⟨p3, m3, z3, rfl, ho3, hn3, hm3⟩, ⟨p4, m4, z4, rfl, ho4, hn4, hm4⟩, hb3⟩
  clear ho3 hn3 hm3
  replace Xx : Hid _ := Xx.out.below hb3
  replace Xy : Hid _ := Xy.out.below hb3
  replace Xr : Hid _ := Xr.out.below hb3
  replace H : Hid _ := H.out.below hb3
  replace K : Hid _ := K.out.below hb3
  replace hbw := Below.on hbw hb3
  clear hb3
  have HO4 : Hid (Own w2.heap.size w3 p4 m4 z4) := ho4
  have N4 : Hid (Nf B64 z4 (a % b) ∧ m4 ≤ 8192) := ⟨hn4, hm4⟩
  have hm40 : 0 < m4 := Nat.pos_of_ne_zero (fun e => HZ.out ((Num.of ho4 hn4 hm4).zero.1 e))
  clear ho4 hn4 hm4
  have hm4b : decide ((0 : Int) < (m4 : Int)) = true := decide_eq_true (by omega)
  have hm4c : decide (0 < m4) = true := decide_eq_true hm40
  obtain ⟨cx0, cx1, fx0, fx1⟩ := Xx.out
  have hnex := Xx.out.lt
  obtain ⟨cy0, cy1, fy0, fy1⟩ := Xy.out
  have hney := Xy.out.lt
  go_wp2_with fail
  clear cx0 cx1 fx0 fx1 hnex
  clear cy0 cy1 fy0 fy1 hney
  clear hm4b hm4c hm40
  refine (signed_any false p4 m4 m4 w3).mono ?_
  rintro e w6 ⟨rfl, hb6⟩
  replace Xx : Hid _ := Xx.out.below hb6
  replace Xy : Hid _ := Xy.out.below hb6
  replace Xr : Hid _ := Xr.out.below hb6
  replace H : Hid _ := H.out.below hb6
  replace K : Hid _ := K.out.below hb6
  replace HO4 : Hid (Own w2.heap.size w6 p4 m4 z4) := HO4.out.below hb6
  replace hbw := Below.on hbw hb6
  clear hb6
  obtain ⟨b9, hb9⟩ : ∃ b, b = (false && decide (0 < m4)) := ⟨_, rfl⟩
  rw [← hb9]
  have HB9 : Hid (b9 = (false && decide (0 < m4))) := hb9
  clear hb9
  obtain ⟨cr0, cr1, fr0, fr1⟩ := Xr.out
  have hner := Xr.out.lt
  go_wp2_with fail
  refine bodyPost_ret (v := .tuple #[ZV b9 p4 m4 m4, .int .i64 0]) (by rw [results_cell_tmp rfl]; go_simp) rfl ⟨_, rfl, ?_, ?_⟩
  · rw [HB9.out]
    exact AnsZ.mk _ (own_set2 HO4.out HRL.out.1 HRL.out.2 _ _) (by rw [HR.out]; exact N4.out.1) N4.out.2
  · exact bSet (bSet hbw _ _ _ HGr.out) _ _ _ HGr.out
theorem mod_010 {p q : Option Addr} {m c n d : Nat} {xs ys : List Nat} {a b : Nat} {w : World} (h : Num w p m c xs a) (hs : false = true → 0 < a) (k : Num w q n d ys b) (ht : true = true → 0 < b) (hb : b ≠ 0) (hz : a % b = 0) :
    Calls Tryz.prog 32 #[ZV false p m c, ZV true q n d] w fun e w' => ∃ v, e = .returned (.tuple #[v, .int .i64 0]) ∧ AnsZ w.heap.size w' v (mo false true a b) ∧ Below w.heap.size w w' := by
  have H : Hid (Num w p m c xs a) := h
  have HS : Hid (false = true → 0 < a) := hs
  have K : Hid (Num w q n d ys b) := k
  have HT : Hid (true = true → 0 < b) := ht
  have HB0 : Hid (b ≠ 0) := hb
  obtain ⟨r, hr⟩ : ∃ r, r = a % b := ⟨_, rfl⟩
  have HRV : Hid (mo false true a b = iv true r) := by show _ = _; rw [hr]; unfold mo; rw [hz]; rfl
  rw [HRV.out]
  clear HRV
  have HR : Hid (r = a % b) := hr
  have HZ : Hid (a % b = 0) := hz
  clear h hs k ht hb hr hz
  go_enter Tryz.func32, Tryz.ntmps32
  go_wp2_with fail
  obtain ⟨W0, hW0⟩ : ∃ W0, W0 = (((w.alloc (.cells #[.bool false, .slice p m c] 33)).alloc (.cells #[.bool true, .slice q n d] 33)).alloc (.cells #[.bool false, .slice none 0 0] 33)) := ⟨_, rfl⟩
  have Xx : Hid (Box W0 (w.heap.size) (.bool false) (.slice p m c)) := by rw [hW0]; exact ⟨by go_simp, by go_simp, by go_simp, by go_simp⟩
  have Xy : Hid (Box W0 (w.heap.size + 1) (.bool true) (.slice q n d)) := by rw [hW0]; exact ⟨by go_simp, by go_simp, by go_simp, by go_simp⟩
  have Xr : Hid (Box W0 (w.heap.size + 1 + 1) (.bool false) (.slice none 0 0)) := by rw [hW0]; exact ⟨by go_simp, by go_simp, by go_simp, by go_simp⟩
  have hb0 : Below w.heap.size w W0 := by rw [hW0]; exact below3 w _ _ _
  rw [← hW0]
  clear hW0
  have hbw : Below w.heap.size w w := Below.refl _ _
  obtain ⟨gr, hgr⟩ : ∃ g, g = w.heap.size + 1 + 1 := ⟨_, rfl⟩
  have HGr : Hid (w.heap.size ≤ gr) := by rw [hgr]; show _ ≤ _; omega
  rw [← hgr] at Xr
  try rw [← hgr]
  obtain ⟨gy, hgy⟩ : ∃ g, g = w.heap.size + 1 := ⟨_, rfl⟩
  have HGy : Hid (w.heap.size ≤ gy) := by rw [hgy]; show _ ≤ _; omega
  rw [← hgy] at Xy
  try rw [← hgy]
  obtain ⟨gx, hgx⟩ : ∃ g, g = w.heap.size := ⟨_, rfl⟩
  have HGx : Hid (w.heap.size ≤ gx) := by rw [hgx]; show _ ≤ _; omega
  rw [← hgx] at Xx
  try rw [← hgx]
  have HGD : Hid (gx ≠ gy ∧ gx ≠ gr ∧ gy ≠ gx ∧ gy ≠ gr ∧ gr ≠ gx ∧ gr ≠ gy) := by rw [hgx, hgy, hgr]; exact ⟨by omega, by omega, by omega, by omega, by omega, by omega⟩
  clear hgx hgy hgr
  replace H : Hid _ := H.out.below hb0
  replace K : Hid _ := K.out.below hb0
  replace hbw := Below.on hbw hb0
  clear hb0
  refine (numform_t false H.out (fun hh => by cases hh)).mono ?_
  rintro e w1 ⟨rfl, hb1⟩
  replace Xx : Hid _ := Xx.out.below hb1
  replace Xy : Hid _ := Xy.out.below hb1
  replace Xr : Hid _ := Xr.out.below hb1
  replace H : Hid _ := H.out.below hb1
  replace K : Hid _ := K.out.below hb1
  replace hbw := Below.on hbw hb1
  clear hb1
  obtain ⟨cy0, cy1, fy0, fy1⟩ := Xy.out
  have hney := Xy.out.lt
  go_wp2_with fail
  clear cy0 cy1 fy0 fy1 hney
  refine (numform_t true K.out (fun _ => HT.out (by simp))).mono ?_
  rintro e w2 ⟨rfl, hb2⟩
  replace Xx : Hid _ := Xx.out.below hb2
  replace Xy : Hid _ := Xy.out.below hb2
  replace Xr : Hid _ := Xr.out.below hb2
  replace H : Hid _ := H.out.below hb2
  replace K : Hid _ := K.out.below hb2
  replace hbw := Below.on hbw hb2
  clear hb2
  obtain ⟨cx0, cx1, fx0, fx1⟩ := Xx.out
  have hnex := Xx.out.lt
  obtain ⟨cy0, cy1, fy0, fy1⟩ := Xy.out
  have hney := Xy.out.lt
  go_wp2_with fail
  clear cx0 cx1 fx0 fx1 hnex
  clear cy0 cy1 fy0 fy1 hney
  have HRL : Hid (gr < w2.heap.size ∧ w.heap.size ≤ w2.heap.size) := ⟨Xr.out.lt, hbw.size⟩
  refine (quorem_any H.out.at_ K.out.at_ H.out.nf K.out.nf H.out.le K.out.le HB0.out).mono ?_
  rintro e w3 ⟨v1, v2, rfl, ⟨p3, m3, z3, rfl, ho3, hn3, hm3⟩, ⟨p4, m4, z4, rfl, ho4, hn4, hm4⟩, hb3⟩
  clear ho3 hn3 hm3
  replace Xx : Hid _ := Xx.out.below hb3
  replace Xy : Hid _ := Xy.out.below hb3
  replace Xr : Hid _ := Xr.out.below hb3
  replace H : Hid _ := H.out.below hb3
  replace K : Hid _ := K.out.below hb3
  replace hbw := Below.on hbw hb3
  clear hb3
  have HO4 : Hid (Own w2.heap.size w3 p4 m4 z4) := ho4
  have N4 : Hid (Nf B64 z4 (a % b) ∧ m4 ≤ 8192) := ⟨hn4, hm4⟩
  have hm40 : m4 = 0 := (Num.of ho4 hn4 hm4).zero.2 HZ.out
  clear ho4 hn4 hm4
  subst hm40
  obtain ⟨cx0, cx1, fx0, fx1⟩ := Xx.out
  have hnex := Xx.out.lt
  obtain ⟨cy0, cy1, fy0, fy1⟩ := Xy.out
  have hney := Xy.out.lt
  go_wp2_with fail
  clear cx0 cx1 fx0 fx1 hnex
  clear cy0 cy1 fy0 fy1 hney
  refine (signed_any true p4 0 0 w3).mono ?_
  rintro e w6 ⟨rfl, hb6⟩
  replace Xx : Hid _ := Xx.out.below hb6
  replace Xy : Hid _ := Xy.out.below hb6
  replace Xr : Hid _ := Xr.out.below hb6
  replace H : Hid _ := H.out.below hb6
  replace K : Hid _ := K.out.below hb6
  replace HO4 : Hid (Own w2.heap.size w6 p4 0 z4) := HO4.out.below hb6
  replace hbw := Below.on hbw hb6
  clear hb6
  obtain ⟨b9, hb9⟩ : ∃ b, b = (true && decide (0 < 0)) := ⟨_, rfl⟩
  rw [← hb9]
  have HB9 : Hid (b9 = (true && decide (0 < 0))) := hb9
  clear hb9
  obtain ⟨cr0, cr1, fr0, fr1⟩ := Xr.out
  have hner := Xr.out.lt
  go_wp2_with fail
  refine bodyPost_ret (v := .tuple #[ZV b9 p4 0 0, .int .i64 0]) (by rw [results_cell_tmp rfl]; go_simp) rfl ⟨_, rfl, ?_, ?_⟩
  · rw [HB9.out]
    exact AnsZ.mk _ (own_set2 HO4.out HRL.out.1 HRL.out.2 _ _) (by rw [HR.out]; exact N4.out.1) N4.out.2
  · exact bSet (bSet hbw _ _ _ HGr.out) _ _ _ HGr.out
theorem mod_011 {p q : Option Addr} {m c n d : Nat} {xs ys : List Nat} {a b : Nat} {w : World} (h : Num w p m c xs a) (hs : false = true → 0 < a) (k : Num w q n d ys b) (ht : true = true → 0 < b) (hb : b ≠ 0) (hz : a % b ≠ 0) :
    Calls Tryz.prog 32 #[ZV false p m c, ZV true q n d] w fun e w' => ∃ v, e = .returned (.tuple #[v, .int .i64 0]) ∧ AnsZ w.heap.size w' v (mo false true a b) ∧ Below w.heap.size w w' := by
  have H : Hid (Num w p m c xs a) := h
  have HS : Hid (false = true → 0 < a) := hs
  have K : Hid (Num w q n d ys b) := k
  have HT : Hid (true = true → 0 < b) := ht
  have HB0 : Hid (b ≠ 0) := hb
  obtain ⟨r, hr⟩ : ∃ r, r = b - a % b := ⟨_, rfl⟩
  have HRV : Hid (mo false true a b = iv true r) := by show _ = _; rw [hr]; unfold mo; rw [decide_eq_true hz]; rfl
  rw [HRV.out]
  clear HRV
  have HR : Hid (r = b - a % b) := hr
  have HZ : Hid (a % b ≠ 0) := hz
  clear h hs k ht hb hr hz
  go_enter Tryz.func32, Tryz.ntmps32
  go_wp2_with fail
  obtain ⟨W0, hW0⟩ : ∃ W0, W0 = (((w.alloc (.cells #[.bool false, .slice p m c] 33)).alloc (.cells #[.bool true, .slice q n d] 33)).alloc (.cells #[.bool false, .slice none 0 0] 33)) := ⟨_, rfl⟩
  have Xx : Hid (Box W0 (w.heap.size) (.bool false) (.slice p m c)) := by rw [hW0]; exact ⟨by go_simp, by go_simp, by go_simp, by go_simp⟩
  have Xy : Hid (Box W0 (w.heap.size + 1) (.bool true) (.slice q n d)) := by rw [hW0]; exact ⟨by go_simp, by go_simp, by go_simp, by go_simp⟩
  have Xr : Hid (Box W0 (w.heap.size + 1 + 1) (.bool false) (.slice none 0 0)) := by rw [hW0]; exact ⟨by go_simp, by go_simp, by go_simp, by go_simp⟩
  have hb0 : Below w.heap.size w W0 := by rw [hW0]; exact below3 w _ _ _
  rw [← hW0]
  clear hW0
  have hbw : Below w.heap.size w w := Below.refl _ _
  obtain ⟨gr, hgr⟩ : ∃ g, g = w.heap.size + 1 + 1 := ⟨_, rfl⟩
  have HGr : Hid (w.heap.size ≤ gr) := by rw [hgr]; show _ ≤ _; omega
  rw [← hgr] at Xr
  try rw [← hgr]
  obtain ⟨gy, hgy⟩ : ∃ g, g = w.heap.size + 1 := ⟨_, rfl⟩
  have HGy : Hid (w.heap.size ≤ gy) := by rw [hgy]; show _ ≤ _; omega
  rw [← hgy] at Xy
  try rw [← hgy]
  obtain ⟨gx, hgx⟩ : ∃ g, g = w.heap.size := ⟨_, rfl⟩
  have HGx : Hid (w.heap.size ≤ gx) := by rw [hgx]; show _ ≤ _; omega
  rw [← hgx] at Xx
  try rw [← hgx]
  have HGD : Hid (gx ≠ gy ∧ gx ≠ gr ∧ gy ≠ gx ∧ gy ≠ gr ∧ gr ≠ gx ∧ gr ≠ gy) := by rw [hgx, hgy, hgr]; exact ⟨by omega, by omega, by omega, by omega, by omega, by omega⟩
  clear hgx hgy hgr
  replace H : Hid _ := H.out.below hb0
  replace K : Hid _ := K.out.below hb0
  replace hbw := Below.on hbw hb0
  clear hb0
  refine (numform_t false H.out (fun hh => by cases hh)).mono ?_
  rintro e w1 ⟨rfl, hb1⟩
  replace Xx : Hid _ := Xx.out.below hb1
  replace Xy : Hid _ := Xy.out.below hb1
  replace Xr : Hid _ := Xr.out.below hb1
  replace H : Hid _ := H.out.below hb1
  replace K : Hid _ := K.out.below hb1
  replace hbw := Below.on hbw hb1
  clear hb1
  obtain ⟨cy0, cy1, fy0, fy1⟩ := Xy.out
  have hney := Xy.out.lt
  go_wp2_with fail
  clear cy0 cy1 fy0 fy1 hney
  refine (numform_t true K.out (fun _ => HT.out (by simp))).mono ?_
  rintro e w2 ⟨rfl, hb2⟩
  replace Xx : Hid _ := Xx.out.below hb2
  replace Xy : Hid _ := Xy.out.below hb2
  replace Xr : Hid _ := Xr.out.below hb2
  replace H : Hid _ := H.out.below hb2
  replace K : Hid _ := K.out.below hb2
  replace hbw := Below.on hbw hb2
  clear hb2
  obtain ⟨cx0, cx1, fx0, fx1⟩ := Xx.out
  have hnex := Xx.out.lt
  obtain ⟨cy0, cy1, fy0, fy1⟩ := Xy.out
  have hney := Xy.out.lt
  go_wp2_with fail
  clear cx0 cx1 fx0 fx1 hnex
  clear cy0 cy1 fy0 fy1 hney
  have HRL : Hid (gr < w2.heap.size ∧ w.heap.size ≤ w2.heap.size) := ⟨Xr.out.lt, hbw.size⟩
  refine (quorem_any H.out.at_ K.out.at_ H.out.nf K.out.nf H.out.le K.out.le HB0.out).mono ?_
  rintro e w3 ⟨v1, v2, rfl, ⟨p3, m3, z3, rfl, ho3, hn3, hm3⟩, ⟨p4, m4, z4, rfl, ho4, hn4, hm4⟩, hb3⟩
  clear ho3 hn3 hm3
  replace Xx : Hid _ := Xx.out.below hb3
  replace Xy : Hid _ := Xy.out.below hb3
  replace Xr : Hid _ := Xr.out.below hb3
  replace H : Hid _ := H.out.below hb3
  replace K : Hid _ := K.out.below hb3
  replace hbw := Below.on hbw hb3
  clear hb3
  have HO4 : Hid (Own w2.heap.size w3 p4 m4 z4) := ho4
  have N4 : Hid (Nf B64 z4 (a % b) ∧ m4 ≤ 8192) := ⟨hn4, hm4⟩
  have hm40 : 0 < m4 := Nat.pos_of_ne_zero (fun e => HZ.out ((Num.of ho4 hn4 hm4).zero.1 e))
  clear ho4 hn4 hm4
  have hm4b : decide ((0 : Int) < (m4 : Int)) = true := decide_eq_true (by omega)
  have hm4c : decide (0 < m4) = true := decide_eq_true hm40
  obtain ⟨cx0, cx1, fx0, fx1⟩ := Xx.out
  have hnex := Xx.out.lt
  obtain ⟨cy0, cy1, fy0, fy1⟩ := Xy.out
  have hney := Xy.out.lt
  go_wp2_with fail
  clear cx0 cx1 fx0 fx1 hnex
  clear cy0 cy1 fy0 fy1 hney
  clear hm4b hm4c hm40
  have M4 : Num w3 p4 m4 m4 z4 (a % b) := Num.of HO4.out N4.out.1 N4.out.2
  have HRL5 : Hid (gr < w3.heap.size ∧ w.heap.size ≤ w3.heap.size) := ⟨Xr.out.lt, hbw.size⟩
  refine (sub_okN K.out.at_ M4.at_ K.out.nf M4.nf K.out.le M4.le (Nat.le_of_lt (Nat.mod_lt _ (Nat.pos_of_ne_zero HB0.out)))).mono ?_
  rintro e w5 ⟨⟨p5, m5, z5, rfl, ho5, hn5, hm5⟩, hb5⟩
  clear M4
  replace Xx : Hid _ := Xx.out.below hb5
  replace Xy : Hid _ := Xy.out.below hb5
  replace Xr : Hid _ := Xr.out.below hb5
  replace H : Hid _ := H.out.below hb5
  replace K : Hid _ := K.out.below hb5
  replace HO4 : Hid (Own w2.heap.size w5 p4 m4 z4) := HO4.out.below hb5
  replace hbw := Below.on hbw hb5
  clear hb5
  rw [← HR.out] at hn5
  have HO5 : Hid (Own w3.heap.size w5 p5 m5 z5) := ho5
  have N5 : Hid (Nf B64 z5 r ∧ m5 ≤ 8192) := ⟨hn5, hm5⟩
  clear ho5 hn5 hm5
  obtain ⟨cy0, cy1, fy0, fy1⟩ := Xy.out
  have hney := Xy.out.lt
  go_wp2_with fail
  clear cy0 cy1 fy0 fy1 hney
  refine (signed_any true p5 m5 m5 w5).mono ?_
  rintro e w6 ⟨rfl, hb6⟩
  replace Xx : Hid _ := Xx.out.below hb6
  replace Xy : Hid _ := Xy.out.below hb6
  replace Xr : Hid _ := Xr.out.below hb6
  replace H : Hid _ := H.out.below hb6
  replace K : Hid _ := K.out.below hb6
  replace HO4 : Hid (Own w2.heap.size w6 p4 m4 z4) := HO4.out.below hb6
  replace HO5 : Hid (Own w3.heap.size w6 p5 m5 z5) := HO5.out.below hb6
  replace hbw := Below.on hbw hb6
  clear hb6
  obtain ⟨b9, hb9⟩ : ∃ b, b = (true && decide (0 < m5)) := ⟨_, rfl⟩
  rw [← hb9]
  have HB9 : Hid (b9 = (true && decide (0 < m5))) := hb9
  clear hb9
  obtain ⟨cr0, cr1, fr0, fr1⟩ := Xr.out
  have hner := Xr.out.lt
  go_wp2_with fail
  refine bodyPost_ret (v := .tuple #[ZV b9 p5 m5 m5, .int .i64 0]) (by rw [results_cell_tmp rfl]; go_simp) rfl ⟨_, rfl, ?_, ?_⟩
  · rw [HB9.out]
    exact AnsZ.mk _ (own_set2 HO5.out HRL5.out.1 HRL5.out.2 _ _) N5.out.1 N5.out.2
  · exact bSet (bSet hbw _ _ _ HGr.out) _ _ _ HGr.out
theorem mod_100 {p q : Option Addr} {m c n d : Nat} {xs ys : List Nat} {a b : Nat} {w : World} (h : Num w p m c xs a) (hs : true = true → 0 < a) (k : Num w q n d ys b) (ht : false = true → 0 < b) (hb : b ≠ 0) (hz : a % b = 0) :
    Calls Tryz.prog 32 #[ZV true p m c, ZV false q n d] w fun e w' => ∃ v, e = .returned (.tuple #[v, .int .i64 0]) ∧ AnsZ w.heap.size w' v (mo true false a b) ∧ Below w.heap.size w w' := by
  have H : Hid (Num w p m c xs a) := h
  have HS : Hid (true = true → 0 < a) := hs
  have K : Hid (Num w q n d ys b) := k
  have HT : Hid (false = true → 0 < b) := ht
  have HB0 : Hid (b ≠ 0) := hb
  obtain ⟨r, hr⟩ : ∃ r, r = a % b := ⟨_, rfl⟩
  have HRV : Hid (mo true false a b = iv false r) := by show _ = _; rw [hr]; unfold mo; rw [hz]; rfl
  rw [HRV.out]
  clear HRV
  have HR : Hid (r = a % b) := hr
  have HZ : Hid (a % b = 0) := hz
  clear h hs k ht hb hr hz
  go_enter Tryz.func32, Tryz.ntmps32
  go_wp2_with fail
  obtain ⟨W0, hW0⟩ : ∃ W0, W0 = (((w.alloc (.cells #[.bool true, .slice p m c] 33)).alloc (.cells #[.bool false, .slice q n d] 33)).alloc (.cells #[.bool false, .slice none 0 0] 33)) := ⟨_, rfl⟩
  have Xx : Hid (Box W0 (w.heap.size) (.bool true) (.slice p m c)) := by rw [hW0]; exact ⟨by go_simp, by go_simp, by go_simp, by go_simp⟩
  have Xy : Hid (Box W0 (w.heap.size + 1) (.bool false) (.slice q n d)) := by rw [hW0]; exact ⟨by go_simp, by go_simp, by go_simp, by go_simp⟩
  have Xr : Hid (Box W0 (w.heap.size + 1 + 1) (.bool false) (.slice none 0 0)) := by rw [hW0]; exact ⟨by go_simp, by go_simp, by go_simp, by go_simp⟩
  have hb0 : Below w.heap.size w W0 := by rw [hW0]; exact below3 w _ _ _
  rw [← hW0]
  clear hW0
  have hbw : Below w.heap.size w w := Below.refl _ _
  obtain ⟨gr, hgr⟩ : ∃ g, g = w.heap.size + 1 + 1 := ⟨_, rfl⟩
  have HGr : Hid (w.heap.size ≤ gr) := by rw [hgr]; show _ ≤ _; omega
  rw [← hgr] at Xr
  try rw [← hgr]
  obtain ⟨gy, hgy⟩ : ∃ g, g = w.heap.size + 1 := ⟨_, rfl⟩
  have HGy : Hid (w.heap.size ≤ gy) := by rw [hgy]; show _ ≤ _; omega
  rw [← hgy] at Xy
  try rw [← hgy]
  obtain ⟨gx, hgx⟩ : ∃ g, g = w.heap.size := ⟨_, rfl⟩
  have HGx : Hid (w.heap.size ≤ gx) := by rw [hgx]; show _ ≤ _; omega
  rw [← hgx] at Xx
  try rw [← hgx]
  have HGD : Hid (gx ≠ gy ∧ gx ≠ gr ∧ gy ≠ gx ∧ gy ≠ gr ∧ gr ≠ gx ∧ gr ≠ gy) := by rw [hgx, hgy, hgr]; exact ⟨by omega, by omega, by omega, by omega, by omega, by omega⟩
  clear hgx hgy hgr
  replace H : Hid _ := H.out.below hb0
  replace K : Hid _ := K.out.below hb0
  replace hbw := Below.on hbw hb0
  clear hb0
  refine (numform_t true H.out (fun _ => HS.out (by simp))).mono ?_
  rintro e w1 ⟨rfl, hb1⟩
  replace Xx : Hid _ := Xx.out.below hb1
  replace Xy : Hid _ := Xy.out.below hb1
  replace Xr : Hid _ := Xr.out.below hb1
  replace H : Hid _ := H.out.below hb1
  replace K : Hid _ := K.out.below hb1
  replace hbw := Below.on hbw hb1
  clear hb1
  obtain ⟨cy0, cy1, fy0, fy1⟩ := Xy.out
  have hney := Xy.out.lt
  go_wp2_with fail
  clear cy0 cy1 fy0 fy1 hney
  refine (numform_t false K.out (fun hh => by cases hh)).mono ?_
  rintro e w2 ⟨rfl, hb2⟩
  replace Xx : Hid _ := Xx.out.below hb2
  replace Xy : Hid _ := Xy.out.below hb2
  replace Xr : Hid _ := Xr.out.below hb2
  replace H : Hid _ := H.out.below hb2
  replace K : Hid _ := K.out.below hb2
  replace hbw := Below.on hbw hb2
  clear hb2
  obtain ⟨cx0, cx1, fx0, fx1⟩ := Xx.out
  have hnex := Xx.out.lt
  obtain ⟨cy0, cy1, fy0, fy1⟩ := Xy.out
  have hney := Xy.out.lt
  go_wp2_with fail
  clear cx0 cx1 fx0 fx1 hnex
  clear cy0 cy1 fy0 fy1 hney
  have HRL : Hid (gr < w2.heap.size ∧ w.heap.size ≤ w2.heap.size) := ⟨Xr.out.lt, hbw.size⟩
  refine (quorem_any H.out.at_ K.out.at_ H.out.nf K.out.nf H.out.le K.out.le HB0.out).mono ?_
  rintro e w3 ⟨v1, v2, rfl, ⟨p3, m3, z3, rfl, ho3, hn3, hm3⟩, ⟨p4, m4, z4, rfl, ho4, hn4, hm4⟩, hb3⟩
  clear ho3 hn3 hm3
  replace Xx : Hid _ := Xx.out.below hb3
  replace Xy : Hid _ := Xy.out.below hb3
  replace Xr : Hid _ := Xr.out.below hb3
  replace H : Hid _ := H.out.below hb3
  replace K : Hid _ := K.out.below hb3
  replace hbw := Below.on hbw hb3
  clear hb3
  have HO4 : Hid (Own w2.heap.size w3 p4 m4 z4) := ho4
  have N4 : Hid (Nf B64 z4 (a % b) ∧ m4 ≤ 8192) := ⟨hn4, hm4⟩
  have hm40 : m4 = 0 := (Num.of ho4 hn4 hm4).zero.2 HZ.out
  clear ho4 hn4 hm4
  subst hm40
  obtain ⟨cx0, cx1, fx0, fx1⟩ := Xx.out
  have hnex := Xx.out.lt
  obtain ⟨cy0, cy1, fy0, fy1⟩ := Xy.out
  have hney := Xy.out.lt
  go_wp2_with fail
  clear cx0 cx1 fx0 fx1 hnex
  clear cy0 cy1 fy0 fy1 hney
  refine (signed_any false p4 0 0 w3).mono ?_
  rintro e w6 ⟨rfl, hb6⟩
  replace Xx : Hid _ := Xx.out.below hb6
  replace Xy : Hid _ := Xy.out.below hb6
  replace Xr : Hid _ := Xr.out.below hb6
  replace H : Hid _ := H.out.below hb6
  replace K : Hid _ := K.out.below hb6
  replace HO4 : Hid (Own w2.heap.size w6 p4 0 z4) := HO4.out.below hb6
  replace hbw := Below.on hbw hb6
  clear hb6
  obtain ⟨b9, hb9⟩ : ∃ b, b = (false && decide (0 < 0)) := ⟨_, rfl⟩
  rw [← hb9]
  have HB9 : Hid (b9 = (false && decide (0 < 0))) := hb9
  clear hb9
  obtain ⟨cr0, cr1, fr0, fr1⟩ := Xr.out
  have hner := Xr.out.lt
  go_wp2_with fail
  refine bodyPost_ret (v := .tuple #[ZV b9 p4 0 0, .int .i64 0]) (by rw [results_cell_tmp rfl]; go_simp) rfl ⟨_, rfl, ?_, ?_⟩
  · rw [HB9.out]
    exact AnsZ.mk _ (own_set2 HO4.out HRL.out.1 HRL.out.2 _ _) (by rw [HR.out]; exact N4.out.1) N4.out.2
  · exact bSet (bSet hbw _ _ _ HGr.out) _ _ _ HGr.out
theorem mod_101 {p q : Option Addr} {m c n d : Nat} {xs ys : List Nat} {a b : Nat} {w : World} (h : Num w p m c xs a) (hs : true = true → 0 < a) (k : Num w q n d ys b) (ht : false = true → 0 < b) (hb : b ≠ 0) (hz : a % b ≠ 0) :
    Calls Tryz.prog 32 #[ZV true p m c, ZV false q n d] w fun e w' => ∃ v, e = .returned (.tuple #[v, .int .i64 0]) ∧ AnsZ w.heap.size w' v (mo true false a b) ∧ Below w.heap.size w w' := by
  have H : Hid (Num w p m c xs a) := h
  have HS : Hid (true = true → 0 < a) := hs
  have K : Hid (Num w q n d ys b) := k
  have HT : Hid (false = true → 0 < b) := ht
  have HB0 : Hid (b ≠ 0) := hb
  obtain ⟨r, hr⟩ : ∃ r, r = b - a % b := ⟨_, rfl⟩
  have HRV : Hid (mo true false a b = iv false r) := by show _ = _; rw [hr]; unfold mo; rw [decide_eq_true hz]; rfl
  rw [HRV.out]
  clear HRV
  have HR : Hid (r = b - a % b) := hr
  have HZ : Hid (a % b ≠ 0) := hz
  clear h hs k ht hb hr hz
  go_enter Tryz.func32, Tryz.ntmps32
  go_wp2_with fail
  obtain ⟨W0, hW0⟩ : ∃ W0, W0 = (((w.alloc (.cells #[.bool true, .slice p m c] 33)).alloc (.cells #[.bool false, .slice q n d] 33)).alloc (.cells #[.bool false, .slice none 0 0] 33)) := ⟨_, rfl⟩
  have Xx : Hid (Box W0 (w.heap.size) (.bool true) (.slice p m c)) := by rw [hW0]; exact ⟨by go_simp, by go_simp, by go_simp, by go_simp⟩
  have Xy : Hid (Box W0 (w.heap.size + 1) (.bool false) (.slice q n d)) := by rw [hW0]; exact ⟨by go_simp, by go_simp, by go_simp, by go_simp⟩
  have Xr : Hid (Box W0 (w.heap.size + 1 + 1) (.bool false) (.slice none 0 0)) := by rw [hW0]; exact ⟨by go_simp, by go_simp, by go_simp, by go_simp⟩
  have hb0 : Below w.heap.size w W0 := by rw [hW0]; exact below3 w _ _ _
  rw [← hW0]
  clear hW0
  have hbw : Below w.heap.size w w := Below.refl _ _
  obtain ⟨gr, hgr⟩ : ∃ g, g = w.heap.size + 1 + 1 := ⟨_, rfl⟩
  have HGr : Hid (w.heap.size ≤ gr) := by rw [hgr]; show _ ≤ _; omega
  rw [← hgr] at Xr
  try rw [← hgr]
  obtain ⟨gy, hgy⟩ : ∃ g, g = w.heap.size + 1 := ⟨_, rfl⟩
  have HGy : Hid (w.heap.size ≤ gy) := by rw [hgy]; show _ ≤ _; omega
  rw [← hgy] at Xy
  try rw [← hgy]
  obtain ⟨gx, hgx⟩ : ∃ g, g = w.heap.size := ⟨_, rfl⟩
  have HGx : Hid (w.heap.size ≤ gx) := by rw [hgx]; show _ ≤ _; omega
  rw [← hgx] at Xx
  try rw [← hgx]
  have HGD : Hid (gx ≠ gy ∧ gx ≠ gr ∧ gy ≠ gx ∧ gy ≠ gr ∧ gr ≠ gx ∧ gr ≠ gy) := by rw [hgx, hgy, hgr]; exact ⟨by omega, by omega, by omega, by omega, by omega, by omega⟩
  clear hgx hgy hgr
  replace H : Hid _ := H.out.below hb0
  replace K : Hid _ := K.out.below hb0
  replace hbw := Below.on hbw hb0
  clear hb0
  refine (numform_t true H.out (fun _ => HS.out (by simp))).mono ?_
  rintro e w1 ⟨rfl, hb1⟩
  replace Xx : Hid _ := Xx.out.below hb1
  replace Xy : Hid _ := Xy.out.below hb1
  replace Xr : Hid _ := Xr.out.below hb1
  replace H : Hid _ := H.out.below hb1
  replace K : Hid _ := K.out.below hb1
  replace hbw := Below.on hbw hb1
  clear hb1
  obtain ⟨cy0, cy1, fy0, fy1⟩ := Xy.out
  have hney := Xy.out.lt
  go_wp2_with fail
  clear cy0 cy1 fy0 fy1 hney
  refine (numform_t false K.out (fun hh => by cases hh)).mono ?_
  rintro e w2 ⟨rfl, hb2⟩
  replace Xx : Hid _ := Xx.out.below hb2
  replace Xy : Hid _ := Xy.out.below hb2
  replace Xr : Hid _ := Xr.out.below hb2
  replace H : Hid _ := H.out.below hb2
  replace K : Hid _ := K.out.below hb2
  replace hbw := Below.on hbw hb2
  clear hb2
  obtain ⟨cx0, cx1, fx0, fx1⟩ := Xx.out
  have hnex := Xx.out.lt
  obtain ⟨cy0, cy1, fy0, fy1⟩ := Xy.out
  have hney := Xy.out.lt
  go_wp2_with fail
  clear cx0 cx1 fx0 fx1 hnex
  clear cy0 cy1 fy0 fy1 hney
  have HRL : Hid (gr < w2.heap.size ∧ w.heap.size ≤ w2.heap.size) := ⟨Xr.out.lt, hbw.size⟩
  refine (quorem_any H.out.at_ K.out.at_ H.out.nf K.out.nf H.out.le K.out.le HB0.out).mono ?_
  rintro e w3 ⟨v1, v2, rfl, ⟨p3, m3, z3, rfl, ho3, hn3, hm3⟩, ⟨p4, m4, z4, rfl, ho4, hn4, hm4⟩, hb3⟩
  clear ho3 hn3 hm3
  replace Xx : Hid _ := Xx.out.below hb3
  replace Xy : Hid _ := Xy.out.below hb3
  replace Xr : Hid _ := Xr.out.below hb3
  replace H : Hid _ := H.out.below hb3
  replace K : Hid _ := K.out.below hb3
  replace hbw := Below.on hbw hb3
  clear hb3
  have HO4 : Hid (Own w2.heap.size w3 p4 m4 z4) := ho4
  have N4 : Hid (Nf B64 z4 (a % b) ∧ m4 ≤ 8192) := ⟨hn4, hm4⟩
  have hm40 : 0 < m4 := Nat.pos_of_ne_zero (fun e => HZ.out ((Num.of ho4 hn4 hm4).zero.1 e))
  clear ho4 hn4 hm4
  have hm4b : decide ((0 : Int) < (m4 : Int)) = true := decide_eq_true (by omega)
  have hm4c : decide (0 < m4) = true := decide_eq_true hm40
  obtain ⟨cx0, cx1, fx0, fx1⟩ := Xx.out
  have hnex := Xx.out.lt
  obtain ⟨cy0, cy1, fy0, fy1⟩ := Xy.out
  have hney := Xy.out.lt
  go_wp2_with fail
  clear cx0 cx1 fx0 fx1 hnex
  clear cy0 cy1 fy0 fy1 hney
  clear hm4b hm4c hm40
  have M4 : Num w3 p4 m4 m4 z4 (a % b) := Num.of HO4.out N4.out.1 N4.out.2
  have HRL5 : Hid (gr < w3.heap.size ∧ w.heap.size ≤ w3.heap.size) := ⟨Xr.out.lt, hbw.size⟩
  refine (sub_okN K.out.at_ M4.at_ K.out.nf M4.nf K.out.le M4.le (Nat.le_of_lt (Nat.mod_lt _ (Nat.pos_of_ne_zero HB0.out)))).mono ?_
  rintro e w5 ⟨⟨p5, m5, z5, rfl, ho5, hn5, hm5⟩, hb5⟩
  clear M4
  replace Xx : Hid _ := Xx.out.below hb5
  replace Xy : Hid _ := Xy.out.below hb5
  replace Xr : Hid _ := Xr.out.below hb5
  replace H : Hid _ := H.out.below hb5
  replace K : Hid _ := K.out.below hb5
  replace HO4 : Hid (Own w2.heap.size w5 p4 m4 z4) := HO4.out.below hb5
  replace hbw := Below.on hbw hb5
  clear hb5
  rw [← HR.out] at hn5
  have HO5 : Hid (Own w3.heap.size w5 p5 m5 z5) := ho5
  have N5 : Hid (Nf B64 z5 r ∧ m5 ≤ 8192) := ⟨hn5, hm5⟩
  clear ho5 hn5 hm5
  obtain ⟨cy0, cy1, fy0, fy1⟩ := Xy.out
  have hney := Xy.out.lt
  go_wp2_with fail
  clear cy0 cy1 fy0 fy1 hney
  refine (signed_any false p5 m5 m5 w5).mono ?_
  rintro e w6 ⟨rfl, hb6⟩
  replace Xx : Hid _ := Xx.out.below hb6
  replace Xy : Hid _ := Xy.out.below hb6
  replace Xr : Hid _ := Xr.out.below hb6
  replace H : Hid _ := H.out.below hb6
  replace K : Hid _ := K.out.below hb6
  replace HO4 : Hid (Own w2.heap.size w6 p4 m4 z4) := HO4.out.below hb6
  replace HO5 : Hid (Own w3.heap.size w6 p5 m5 z5) := HO5.out.below hb6
  replace hbw := Below.on hbw hb6
  clear hb6
  obtain ⟨b9, hb9⟩ : ∃ b, b = (false && decide (0 < m5)) := ⟨_, rfl⟩
  rw [← hb9]
  have HB9 : Hid (b9 = (false && decide (0 < m5))) := hb9
  clear hb9
  obtain ⟨cr0, cr1, fr0, fr1⟩ := Xr.out
  have hner := Xr.out.lt
  go_wp2_with fail
  refine bodyPost_ret (v := .tuple #[ZV b9 p5 m5 m5, .int .i64 0]) (by rw [results_cell_tmp rfl]; go_simp) rfl ⟨_, rfl, ?_, ?_⟩
  · rw [HB9.out]
    exact AnsZ.mk _ (own_set2 HO5.out HRL5.out.1 HRL5.out.2 _ _) N5.out.1 N5.out.2
  · exact bSet (bSet hbw _ _ _ HGr.out) _ _ _ HGr.out
theorem mod_110 {p q : Option Addr} {m c n d : Nat} {xs ys : List Nat} {a b : Nat} {w : World} (h : Num w p m c xs a) (hs : true = true → 0 < a) (k : Num w q n d ys b) (ht : true = true → 0 < b) (hb : b ≠ 0) (hz : a % b = 0) :
    Calls Tryz.prog 32 #[ZV true p m c, ZV true q n d] w fun e w' => ∃ v, e = .returned (.tuple #[v, .int .i64 0]) ∧ AnsZ w.heap.size w' v (mo true true a b) ∧ Below w.heap.size w w' := by
  have H : Hid (Num w p m c xs a) := h
  have HS : Hid (true = true → 0 < a) := hs
  have K : Hid (Num w q n d ys b) := k
  have HT : Hid (true = true → 0 < b) := ht
  have HB0 : Hid (b ≠ 0) := hb
  obtain ⟨r, hr⟩ : ∃ r, r = a % b := ⟨_, rfl⟩
  have HRV : Hid (mo true true a b = iv true r) := by show _ = _; rw [hr]; unfold mo; rw [hz]; rfl
  rw [HRV.out]
  clear HRV
  have HR : Hid (r = a % b) := hr
  have HZ : Hid (a % b = 0) := hz
  clear h hs k ht hb hr hz
  go_enter Tryz.func32, Tryz.ntmps32
  go_wp2_with fail
  obtain ⟨W0, hW0⟩ : ∃ W0, W0 = (((w.alloc (.cells #[.bool true, .slice p m c] 33)).alloc (.cells #[.bool true, .slice q n d] 33)).alloc (.cells #[.bool false, .slice none 0 0] 33)) := ⟨_, rfl⟩
  have Xx : Hid (Box W0 (w.heap.size) (.bool true) (.slice p m c)) := by rw [hW0]; exact ⟨by go_simp, by go_simp, by go_simp, by go_simp⟩
  have Xy : Hid (Box W0 (w.heap.size + 1) (.bool true) (.slice q n d)) := by rw [hW0]; exact ⟨by go_simp, by go_simp, by go_simp, by go_simp⟩
  have Xr : Hid (Box W0 (w.heap.size + 1 + 1) (.bool false) (.slice none 0 0)) := by rw [hW0]; exact ⟨by go_simp, by go_simp, by go_simp, by go_simp⟩
  have hb0 : Below w.heap.size w W0 := by rw [hW0]; exact below3 w _ _ _
  rw [← hW0]
  clear hW0
  have hbw : Below w.heap.size w w := Below.refl _ _
  obtain ⟨gr, hgr⟩ : ∃ g, g = w.heap.size + 1 + 1 := ⟨_, rfl⟩
  have HGr : Hid (w.heap.size ≤ gr) := by rw [hgr]; show _ ≤ _; omega
  rw [← hgr] at Xr
  try rw [← hgr]
  obtain ⟨gy, hgy⟩ : ∃ g, g = w.heap.size + 1 := ⟨_, rfl⟩
  have HGy : Hid (w.heap.size ≤ gy) := by rw [hgy]; show _ ≤ _; omega
  rw [← hgy] at Xy
  try rw [← hgy]
  obtain ⟨gx, hgx⟩ : ∃ g, g = w.heap.size := ⟨_, rfl⟩
  have HGx : Hid (w.heap.size ≤ gx) := by rw [hgx]; show _ ≤ _; omega
  rw [← hgx] at Xx
  try rw [← hgx]
  have HGD : Hid (gx ≠ gy ∧ gx ≠ gr ∧ gy ≠ gx ∧ gy ≠ gr ∧ gr ≠ gx ∧ gr ≠ gy) := by rw [hgx, hgy, hgr]; exact ⟨by omega, by omega, by omega, by omega, by omega, by omega⟩
  clear hgx hgy hgr
  replace H : Hid _ := H.out.below hb0
  replace K : Hid _ := K.out.below hb0
  replace hbw := Below.on hbw hb0
  clear hb0
  refine (numform_t true H.out (fun _ => HS.out (by simp))).mono ?_
  rintro e w1 ⟨rfl, hb1⟩
  replace Xx : Hid _ := Xx.out.below hb1
  replace Xy : Hid _ := Xy.out.below hb1
  replace Xr : Hid _ := Xr.out.below hb1
  replace H : Hid _ := H.out.below hb1
  replace K : Hid _ := K.out.below hb1
  replace hbw := Below.on hbw hb1
  clear hb1
  obtain ⟨cy0, cy1, fy0, fy1⟩ := Xy.out
  have hney := Xy.out.lt
  go_wp2_with fail
  clear cy0 cy1 fy0 fy1 hney
  refine (numform_t true K.out (fun _ => HT.out (by simp))).mono ?_
  rintro e w2 ⟨rfl, hb2⟩
  replace Xx : Hid _ := Xx.out.below hb2
  replace Xy : Hid _ := Xy.out.below hb2
  replace Xr : Hid _ := Xr.out.below hb2
  replace H : Hid _ := H.out.below hb2
  replace K : Hid _ := K.out.below hb2
  replace hbw := Below.on hbw hb2
  clear hb2
  obtain ⟨cx0, cx1, fx0, fx1⟩ := Xx.out
  have hnex := Xx.out.lt
  obtain ⟨cy0, cy1, fy0, fy1⟩ := Xy.out
  have hney := Xy.out.lt
  go_wp2_with fail
  clear cx0 cx1 fx0 fx1 hnex
  clear cy0 cy1 fy0 fy1 hney
  have HRL : Hid (gr < w2.heap.size ∧ w.heap.size ≤ w2.heap.size) := ⟨Xr.out.lt, hbw.size⟩
  refine (quorem_any H.out.at_ K.out.at_ H.out.nf K.out.nf H.out.le K.out.le HB0.out).mono ?_
  rintro e w3 ⟨v1, v2, rfl, ⟨p3, m3, z3, rfl, ho3, hn3, hm3⟩, ⟨p4, m4, z4, rfl, ho4, hn4, hm4⟩, hb3⟩
  clear ho3 hn3 hm3
  replace Xx : Hid _ := Xx.out.below hb3
  replace Xy : Hid _ := Xy.out.below hb3
  replace Xr : Hid _ := Xr.out.below hb3
  replace H : Hid _ := H.out.below hb3
  replace K : Hid _ := K.out.below hb3
  replace hbw := Below.on hbw hb3
  clear hb3
  have HO4 : Hid (Own w2.heap.size w3 p4 m4 z4) := ho4
  have N4 : Hid (Nf B64 z4 (a % b) ∧ m4 ≤ 8192) := ⟨hn4, hm4⟩
  have hm40 : m4 = 0 := (Num.of ho4 hn4 hm4).zero.2 HZ.out
  clear ho4 hn4 hm4
  subst hm40
  obtain ⟨cx0, cx1, fx0, fx1⟩ := Xx.out
  have hnex := Xx.out.lt
  obtain ⟨cy0, cy1, fy0, fy1⟩ := Xy.out
  have hney := Xy.out.lt
  go_wp2_with fail
  clear cx0 cx1 fx0 fx1 hnex
  clear cy0 cy1 fy0 fy1 hney
  refine (signed_any true p4 0 0 w3).mono ?_
  rintro e w6 ⟨rfl, hb6⟩
  replace Xx : Hid _ := Xx.out.below hb6
  replace Xy : Hid _ := Xy.out.below hb6
  replace Xr : Hid _ := Xr.out.below hb6
  replace H : Hid _ := H.out.below hb6
  replace K : Hid _ := K.out.below hb6
  replace HO4 : Hid (Own w2.heap.size w6 p4 0 z4) := HO4.out.below hb6
  replace hbw := Below.on hbw hb6
  clear hb6
  obtain ⟨b9, hb9⟩ : ∃ b, b = (true && decide (0 < 0)) := ⟨_, rfl⟩
  rw [← hb9]
  have HB9 : Hid (b9 = (true && decide (0 < 0))) := hb9
  clear hb9
  obtain ⟨cr0, cr1, fr0, fr1⟩ := Xr.out
  have hner := Xr.out.lt
  go_wp2_with fail
  refine bodyPost_ret (v := .tuple #[ZV b9 p4 0 0, .int .i64 0]) (by rw [results_cell_tmp rfl]; go_simp) rfl ⟨_, rfl, ?_, ?_⟩
  · rw [HB9.out]
    exact AnsZ.mk _ (own_set2 HO4.out HRL.out.1 HRL.out.2 _ _) (by rw [HR.out]; exact N4.out.1) N4.out.2
  · exact bSet (bSet hbw _ _ _ HGr.out) _ _ _ HGr.out
theorem mod_111 {p q : Option Addr} {m c n d : Nat} {xs ys : List Nat} {a b : Nat} {w : World} (h : Num w p m c xs a) (hs : true = true → 0 < a) (k : Num w q n d ys b) (ht : true = true → 0 < b) (hb : b ≠ 0) (hz : a % b ≠ 0) :
    Calls Tryz.prog 32 #[ZV true p m c, ZV true q n d] w fun e w' => ∃ v, e = .returned (.tuple #[v, .int .i64 0]) ∧ AnsZ w.heap.size w' v (mo true true a b) ∧ Below w.heap.size w w' := by
  have H : Hid (Num w p m c xs a) := h
  have HS : Hid (true = true → 0 < a) := hs
  have K : Hid (Num w q n d ys b) := k
  have HT : Hid (true = true → 0 < b) := ht
  have HB0 : Hid (b ≠ 0) := hb
  obtain ⟨r, hr⟩ : ∃ r, r = a % b := ⟨_, rfl⟩
  have HRV : Hid (mo true true a b = iv true r) := by show _ = _; rw [hr]; unfold mo; rw [decide_eq_true hz]; rfl
  rw [HRV.out]
  clear HRV
  have HR : Hid (r = a % b) := hr
  have HZ : Hid (a % b ≠ 0) := hz
  clear h hs k ht hb hr hz
  go_enter Tryz.func32, Tryz.ntmps32
  go_wp2_with fail
  obtain ⟨W0, hW0⟩ : ∃ W0, W0 = (((w.alloc (.cells #[.bool true, .slice p m c] 33)).alloc (.cells #[.bool true, .slice q n d] 33)).alloc (.cells #[.bool false, .slice none 0 0] 33)) := ⟨_, rfl⟩
  have Xx : Hid (Box W0 (w.heap.size) (.bool true) (.slice p m c)) := by rw [hW0]; exact ⟨by go_simp, by go_simp, by go_simp, by go_simp⟩
  have Xy : Hid (Box W0 (w.heap.size + 1) (.bool true) (.slice q n d)) := by rw [hW0]; exact ⟨by go_simp, by go_simp, by go_simp, by go_simp⟩
  have Xr : Hid (Box W0 (w.heap.size + 1 + 1) (.bool false) (.slice none 0 0)) := by rw [hW0]; exact ⟨by go_simp, by go_simp, by go_simp, by go_simp⟩
  have hb0 : Below w.heap.size w W0 := by rw [hW0]; exact below3 w _ _ _
  rw [← hW0]
  clear hW0
  have hbw : Below w.heap.size w w := Below.refl _ _
  obtain ⟨gr, hgr⟩ : ∃ g, g = w.heap.size + 1 + 1 := ⟨_, rfl⟩
  have HGr : Hid (w.heap.size ≤ gr) := by rw [hgr]; show _ ≤ _; omega
  rw [← hgr] at Xr
  try rw [← hgr]
  obtain ⟨gy, hgy⟩ : ∃ g, g = w.heap.size + 1 := ⟨_, rfl⟩
  have HGy : Hid (w.heap.size ≤ gy) := by rw [hgy]; show _ ≤ _; omega
  rw [← hgy] at Xy
  try rw [← hgy]
  obtain ⟨gx, hgx⟩ : ∃ g, g = w.heap.size := ⟨_, rfl⟩
  have HGx : Hid (w.heap.size ≤ gx) := by rw [hgx]; show _ ≤ _; omega
  rw [← hgx] at Xx
  try rw [← hgx]
  have HGD : Hid (gx ≠ gy ∧ gx ≠ gr ∧ gy ≠ gx ∧ gy ≠ gr ∧ gr ≠ gx ∧ gr ≠ gy) := by rw [hgx, hgy, hgr]; exact ⟨by omega, by omega, by omega, by omega, by omega, by omega⟩
  clear hgx hgy hgr
  replace H : Hid _ := H.out.below hb0
  replace K : Hid _ := K.out.below hb0
  replace hbw := Below.on hbw hb0
  clear hb0
  refine (numform_t true H.out (fun _ => HS.out (by simp))).mono ?_
  rintro e w1 ⟨rfl, hb1⟩
  replace Xx : Hid _ := Xx.out.below hb1
  replace Xy : Hid _ := Xy.out.below hb1
  replace Xr : Hid _ := Xr.out.below hb1
  replace H : Hid _ := H.out.below hb1
  replace K : Hid _ := K.out.below hb1
  replace hbw := Below.on hbw hb1
  clear hb1
  obtain ⟨cy0, cy1, fy0, fy1⟩ := Xy.out
  have hney := Xy.out.lt
  go_wp2_with fail
  clear cy0 cy1 fy0 fy1 hney
  refine (numform_t true K.out (fun _ => HT.out (by simp))).mono ?_
  rintro e w2 ⟨rfl, hb2⟩
  replace Xx : Hid _ := Xx.out.below hb2
  replace Xy : Hid _ := Xy.out.below hb2
  replace Xr : Hid _ := Xr.out.below hb2
  replace H : Hid _ := H.out.below hb2
  replace K : Hid _ := K.out.below hb2
  replace hbw := Below.on hbw hb2
  clear hb2
  obtain ⟨cx0, cx1, fx0, fx1⟩ := Xx.out
  have hnex := Xx.out.lt
  obtain ⟨cy0, cy1, fy0, fy1⟩ := Xy.out
  have hney := Xy.out.lt
  go_wp2_with fail
  clear cx0 cx1 fx0 fx1 hnex
  clear cy0 cy1 fy0 fy1 hney
  have HRL : Hid (gr < w2.heap.size ∧ w.heap.size ≤ w2.heap.size) := ⟨Xr.out.lt, hbw.size⟩
  refine (quorem_any H.out.at_ K.out.at_ H.out.nf K.out.nf H.out.le K.out.le HB0.out).mono ?_
  rintro e w3 ⟨v1, v2, rfl, ⟨p3, m3, z3, rfl, ho3, hn3, hm3⟩, ⟨p4, m4, z4, rfl, ho4, hn4, hm4⟩, hb3⟩
  clear ho3 hn3 hm3
  replace Xx : Hid _ := Xx.out.below hb3
  replace Xy : Hid _ := Xy.out.below hb3
  replace Xr : Hid _ := Xr.out.below hb3
  replace H : Hid _ := H.out.below hb3
  replace K : Hid _ := K.out.below hb3
  replace hbw := Below.on hbw hb3
  clear hb3
  have HO4 : Hid (Own w2.heap.size w3 p4 m4 z4) := ho4
  have N4 : Hid (Nf B64 z4 (a % b) ∧ m4 ≤ 8192) := ⟨hn4, hm4⟩
  have hm40 : 0 < m4 := Nat.pos_of_ne_zero (fun e => HZ.out ((Num.of ho4 hn4 hm4).zero.1 e))
  clear ho4 hn4 hm4
  have hm4b : decide ((0 : Int) < (m4 : Int)) = true := decide_eq_true (by omega)
  have hm4c : decide (0 < m4) = true := decide_eq_true hm40
  obtain ⟨cx0, cx1, fx0, fx1⟩ := Xx.out
  have hnex := Xx.out.lt
  obtain ⟨cy0, cy1, fy0, fy1⟩ := Xy.out
  have hney := Xy.out.lt
  go_wp2_with fail
  clear cx0 cx1 fx0 fx1 hnex
  clear cy0 cy1 fy0 fy1 hney
  clear hm4b hm4c hm40
  refine (signed_any true p4 m4 m4 w3).mono ?_
  rintro e w6 ⟨rfl, hb6⟩
  replace Xx : Hid _ := Xx.out.below hb6
  replace Xy : Hid _ := Xy.out.below hb6
  replace Xr : Hid _ := Xr.out.below hb6
  replace H : Hid _ := H.out.below hb6
  replace K : Hid _ := K.out.below hb6
  replace HO4 : Hid (Own w2.heap.size w6 p4 m4 z4) := HO4.out.below hb6
  replace hbw := Below.on hbw hb6
  clear hb6
  obtain ⟨b9, hb9⟩ : ∃ b, b = (true && decide (0 < m4)) := ⟨_, rfl⟩
  rw [← hb9]
  have HB9 : Hid (b9 = (true && decide (0 < m4))) := hb9
  clear hb9
  obtain ⟨cr0, cr1, fr0, fr1⟩ := Xr.out
  have hner := Xr.out.lt
  go_wp2_with fail
  refine bodyPost_ret (v := .tuple #[ZV b9 p4 m4 m4, .int .i64 0]) (by rw [results_cell_tmp rfl]; go_simp) rfl ⟨_, rfl, ?_, ?_⟩
  · rw [HB9.out]
    exact AnsZ.mk _ (own_set2 HO4.out HRL.out.1 HRL.out.2 _ _) (by rw [HR.out]; exact N4.out.1) N4.out.2
  · exact bSet (bSet hbw _ _ _ HGr.out) _ _ _ HGr.out
theorem mod_any {p q : Option Addr} {m c n d : Nat} {xs ys : List Nat} {a b : Nat} {w : World} (s t : Bool) (h : Num w p m c xs a) (hs : s = true → 0 < a) (k : Num w q n d ys b) (ht : t = true → 0 < b) (hb : b ≠ 0) :
    Calls Tryz.prog 32 #[ZV s p m c, ZV t q n d] w fun e w' => ∃ v, e = .returned (.tuple #[v, .int .i64 0]) ∧ AnsZ w.heap.size w' v (mo s t a b) ∧ Below w.heap.size w w' := by
  by_cases hz : a % b = 0 <;> cases s <;> cases t
  · exact mod_000 h hs k ht hb hz
  · exact mod_010 h hs k ht hb hz
  · exact mod_100 h hs k ht hb hz
  · exact mod_110 h hs k ht hb hz
  · exact mod_001 h hs k ht hb hz
  · exact mod_011 h hs k ht hb hz
  · exact mod_101 h hs k ht hb hz
  · exact mod_111 h hs k ht hb hz
theorem Num.drewN {w : World} {p : Option Addr} {m c : Nat} {xs : List Nat} {a : Nat} (h : Num w p m c xs a) (r : Nat) : Num (w.drewN r) p m c xs a := ⟨h.at_.drewN r, h.nf, h.le⟩
theorem nshl_any {p : Option Addr} {m c : Nat} {xs : List Nat} {a : Nat} {w : World} (s : Bool) (h : Num w p m c xs a) (hs : s = true → 0 < a) (n : Nat) (hn : n ≤ 9223372036854775807) :
    Calls Tryz.prog 37 #[ZV s p m c, .int .i64 n] w fun e w' => AnsI w.heap.size w' e (iv s (2 ^ n * a)) ∧ Below w.heap.size w w' := by
  have H : Hid (Num w p m c xs a) := h
  have HS : Hid (s = true → 0 < a) := hs
  clear h hs
  have HN : Hid (n ≤ 9223372036854775807) := hn
  have c0 : decide ((n : Int) < 0) = false := decide_eq_false (by omega)
  clear hn
  go_enter Tryz.func37, Tryz.ntmps37
  go_wp2_with fail
  obtain ⟨W0, hW0⟩ : ∃ W0, W0 = ((w.alloc (.cells #[.bool s, .slice p m c] 33)).alloc (.cells #[.bool false, .slice none 0 0] 33)) := ⟨_, rfl⟩
  have Xx : Hid (Box W0 (w.heap.size) (.bool s) (.slice p m c)) := by rw [hW0]; exact ⟨by go_simp, by go_simp, by go_simp, by go_simp⟩
  have Xr : Hid (Box W0 (w.heap.size + 1) (.bool false) (.slice none 0 0)) := by rw [hW0]; exact ⟨by go_simp, by go_simp, by go_simp, by go_simp⟩
  have hb0 : Below w.heap.size w W0 := by rw [hW0]; exact below2 w _ _
  rw [← hW0]
  clear hW0
  have hbw : Below w.heap.size w w := Below.refl _ _
  obtain ⟨gr, hgr⟩ : ∃ g, g = w.heap.size + 1 := ⟨_, rfl⟩
  have HGr : Hid (w.heap.size ≤ gr) := by rw [hgr]; show _ ≤ _; omega
  rw [← hgr] at Xr
  try rw [← hgr]
  obtain ⟨gx, hgx⟩ : ∃ g, g = w.heap.size := ⟨_, rfl⟩
  have HGx : Hid (w.heap.size ≤ gx) := by rw [hgx]; show _ ≤ _; omega
  rw [← hgx] at Xx
  try rw [← hgx]
  have HGD : Hid (gx ≠ gr ∧ gr ≠ gx) := by rw [hgx, hgr]; exact ⟨by omega, by omega⟩
  clear hgx hgr
  replace H : Hid _ := H.out.below hb0
  replace hbw := Below.on hbw hb0
  clear hb0
  refine (numform_t s H.out HS.out).mono ?_
  rintro e w1 ⟨rfl, hb1⟩
  replace Xx : Hid _ := Xx.out.below hb1
  replace Xr : Hid _ := Xr.out.below hb1
  replace H : Hid _ := H.out.below hb1
  replace hbw := Below.on hbw hb1
  clear hb1
  clear c0
  obtain ⟨cx0, cx1, fx0, fx1⟩ := Xx.out
  have hnex := Xx.out.lt
  go_wp2_with fail
  clear cx0 cx1 fx0 fx1 hnex
  have hrl : gr < w1.heap.size := Xr.out.lt
  have HRL : Hid (gr < w1.heap.size ∧ w.heap.size ≤ w1.heap.size) := ⟨hrl, hbw.size⟩
  clear hrl
  obtain ⟨v, hv⟩ : ∃ v, v = 2 ^ n * a := ⟨_, rfl⟩
  have HV : Hid (v = 2 ^ n * a) := hv
  refine (shl_nf H.out.at_ H.out.nf H.out.le n HN.out).mono ?_
  rintro e w2 ⟨ha, hb2⟩
  rw [← hv] at ha
  clear hv
  replace Xx : Hid _ := Xx.out.below hb2
  replace Xr : Hid _ := Xr.out.below hb2
  replace H : Hid _ := H.out.below hb2
  replace hbw := Below.on hbw hb2
  clear hb2
  rcases ha with ⟨hl, p2, m2, z2, rfl, ho2, hn2, hm2⟩ | ⟨hl, rfl⟩
  · have HL : Hid (v < LIM) := hl
    clear hl
    have HO2 : Hid (Own w1.heap.size w2 p2 m2 z2) := ho2
    have HN2 : Hid (Nf B64 z2 v ∧ m2 ≤ 8192) := ⟨hn2, hm2⟩
    clear ho2 hn2 hm2
    obtain ⟨cx0, cx1, fx0, fx1⟩ := Xx.out
    have hnex := Xx.out.lt
    go_wp2_with fail
    clear cx0 cx1 fx0 fx1 hnex
    refine (signed_any s p2 m2 m2 w2).mono ?_
    rintro e w3 ⟨rfl, hb3⟩
    replace Xx : Hid _ := Xx.out.below hb3
    replace Xr : Hid _ := Xr.out.below hb3
    replace H : Hid _ := H.out.below hb3
    replace HO2 : Hid (Own w1.heap.size w3 p2 m2 z2) := HO2.out.below hb3
    replace hbw := Below.on hbw hb3
    clear hb3
    obtain ⟨b, hb⟩ : ∃ b, b = (s && decide (0 < m2)) := ⟨_, rfl⟩
    rw [← hb]
    have HBB : Hid (b = (s && decide (0 < m2))) := hb
    clear hb
    obtain ⟨cr0, cr1, fr0, fr1⟩ := Xr.out
    have hner := Xr.out.lt
    go_wp2_with fail
    refine bodyPost_ret (v := .tuple #[ZV b p2 m2 m2, .int .i64 0]) (by rw [results_cell_tmp rfl]; go_simp) rfl ⟨.inl ⟨by rw [iv_natAbs, ← HV.out]; exact HL.out, p2, m2, z2, ?_, ?_, ?_, HN2.out.2⟩, ?_⟩
    · rw [HBB.out, iv_lt, ← HV.out, HN2.out.1.lenpos HO2.out.len]
    · exact own_set2 HO2.out HRL.out.1 HRL.out.2 _ _
    · rw [iv_natAbs, ← HV.out]; exact HN2.out.1
    · exact bSet (bSet hbw _ _ _ HGr.out) _ _ _ HGr.out
  · have HL : Hid (LIM ≤ v) := hl
    clear hl
    obtain ⟨cx0, cx1, fx0, fx1⟩ := Xx.out
    have hnex := Xx.out.lt
    go_wp2_with fail
    clear cx0 cx1 fx0 fx1 hnex
    refine (signed_any s none 0 0 w2).mono ?_
    rintro e w3 ⟨rfl, hb3⟩
    replace Xx : Hid _ := Xx.out.below hb3
    replace Xr : Hid _ := Xr.out.below hb3
    replace H : Hid _ := H.out.below hb3
    replace hbw := Below.on hbw hb3
    clear hb3
    rw [show (s && decide (0 < 0)) = false from by simp]
    obtain ⟨cr0, cr1, fr0, fr1⟩ := Xr.out
    have hner := Xr.out.lt
    go_wp2_with fail
    refine bodyPost_ret (v := .tuple #[ZV false none 0 0, .int .i64 5]) (by rw [results_cell_tmp rfl]; go_simp) rfl ⟨.inr ⟨by rw [iv_natAbs, ← HV.out]; exact HL.out, rfl⟩, ?_⟩
    exact bSet (bSet hbw _ _ _ HGr.out) _ _ _ HGr.out
theorem of_full (z : Int) (w : World) (h0 : -9223372036854775808 ≤ z) (h1 : z ≤ 9223372036854775807) :
    Calls Tryz.prog 36 #[.int .i64 z] w fun e w' => ∃ v, e = .returned v ∧ AnsZ w.heap.size w' v z ∧ Below w.heap.size w w' := by
  by_cases hz : z < 0
  · have hd : decide (z < 0) = true := decide_eq_true hz
    obtain ⟨u, hu⟩ : ∃ u : Nat, (u : Int) = 18446744073709551616 + z := ⟨(18446744073709551616 + z).toNat, by omega⟩
    obtain ⟨v, hv⟩ : ∃ v : Nat, v = z.natAbs := ⟨_, rfl⟩
    have hvb : v < B64 := by rw [B64_eq]; omega
    have hw : IntKind.u64.wrap z = (u : Int) := wrap_u _ _ (by omega)
    have hw2 : IntKind.u64.wrap (-(u : Int)) = (v : Int) := wrap_u _ _ (by omega)
    have HV : Hid (v = z.natAbs) := hv
    have HVZ : Hid (z < 0) := hz
    clear hu hv h0 h1 hz
    go_enter Tryz.func36, Tryz.ntmps36
    go_wp2_with fail
    have B0 : Box (w.alloc (.cells #[.bool false, .slice none 0 0] 33)) w.heap.size (.bool false) (.slice none 0 0) := ⟨by go_simp, by go_simp, by go_simp, by go_simp⟩
    refine (word_any v _ hvb).mono ?_
    rintro e w1 ⟨p1, m1, z1, rfl, ho, hn, hm, hb⟩
    obtain ⟨c0, c1, f0, f1⟩ := B0.below hb
    have hbw := Below.on (below1 w _) hb
    have HOW : Hid (Own (w.heap.size + 1) w1 p1 m1 z1) := by have := ho; simp at this; exact this
    have HN : Hid (Nf B64 z1 v) := hn
    clear B0 ho hn hb hvb hw hw2
    go_wp2_with fail
    refine bodyPost_ret (v := ZV true p1 m1 m1) (by rw [results_cell1 rfl]; go_simp) rfl ⟨_, rfl, ⟨p1, m1, z1, by rw [decide_eq_true HVZ.out], ?_, by rw [← HV.out]; exact HN.out, by omega⟩, ?_⟩
    · exact ((HOW.out.setOld _ _ _ (by omega)).setOld _ _ _ (by omega)).mono (by omega)
    · exact bSet (bSet hbw _ _ _ (Nat.le_refl _)) _ _ _ (Nat.le_refl _)
  · have hd : decide (z < 0) = false := decide_eq_false hz
    obtain ⟨v, rfl⟩ := Int.eq_ofNat_of_zero_le (by omega : 0 ≤ z)
    have hvb : v < B64 := by rw [B64_eq]; omega
    have hw : IntKind.u64.wrap (v : Int) = (v : Int) := wrap_u _ _ (by omega)
    clear h0 h1 hz
    go_enter Tryz.func36, Tryz.ntmps36
    go_wp2_with fail
    have B0 : Box (w.alloc (.cells #[.bool false, .slice none 0 0] 33)) w.heap.size (.bool false) (.slice none 0 0) := ⟨by go_simp, by go_simp, by go_simp, by go_simp⟩
    refine (word_any v _ hvb).mono ?_
    rintro e w1 ⟨p1, m1, z1, rfl, ho, hn, hm, hb⟩
    obtain ⟨c0, c1, f0, f1⟩ := B0.below hb
    have hbw := Below.on (below1 w _) hb
    have HOW : Hid (Own (w.heap.size + 1) w1 p1 m1 z1) := by have := ho; simp at this; exact this
    have HN : Hid (Nf B64 z1 v) := hn
    clear B0 ho hn hb hvb hw
    go_wp2_with fail
    refine bodyPost_ret (v := ZV false p1 m1 m1) (by rw [results_cell1 rfl]; go_simp) rfl ⟨_, rfl, ⟨p1, m1, z1, ?_, ?_, HN.out, by omega⟩, ?_⟩
    · rw [decide_eq_false (Int.not_lt.2 (Int.natCast_nonneg v))]
    · exact ((HOW.out.setOld _ _ _ (by omega)).setOld _ _ _ (by omega)).mono (by omega)
    · exact bSet (bSet hbw _ _ _ (Nat.le_refl _)) _ _ _ (Nat.le_refl _)
end Go.Proofs.YtmekccpbcjpddaaGreatDoor
