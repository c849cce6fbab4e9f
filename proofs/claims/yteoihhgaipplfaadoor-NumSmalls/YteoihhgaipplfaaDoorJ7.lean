import Derived.Test.YteoihhgaipplfaaDoorJ6
namespace Go.Proofs.YteoihhgaipplfaaDoor
open Go.RowKit Go.Shelf

set_option maxRecDepth 20000 in
set_option maxHeartbeats 4000000 in
theorem quorem_zero {p q : Option Addr} {n m c d : Nat} {xs ys : List Nat} {a b : Nat} {w : World} (h : At w p n c xs) (k : At w q m d ys) (hx : Nf B64 xs a) (hy : Nf B64 ys b) (hlx : n ≤ 8192) (hly : m ≤ 8192) (hb : b = 0) :
    Calls Tryd.prog 55 #[.slice p n c, .slice q m d] w fun e w' => e = .returned (.tuple #[.slice none 0 0, .slice none 0 0, .int .i64 4]) ∧ w' = w := by
  have hyn : ys = [] := (hy.zero_iff B64_one).2 hb
  have hm0 : m = 0 := by rw [← k.len, hyn]; rfl
  have fx := hx.form (by rw [h.len]; exact hlx)
  have fy := hy.form (by rw [k.len]; exact hly)
  have HA : Hid (At w p n c xs) := h
  have HB : Hid (At w q m d ys) := k
  clear h k hx hy hyn
  subst hm0
  go_enter Tryd.func55, Tryd.ntmps55
  go_wp2_with fail
  refine (form_true HA.out fx).mono ?_
  rintro e w' ⟨rfl, hw⟩
  obtain rfl := hw.symm
  clear hw
  go_wp2_with fail
  refine (form_true HB.out fy).mono ?_
  rintro e w' ⟨rfl, hw⟩
  obtain rfl := hw.symm
  clear hw
  go_wp2_with fail
  go_ret3
  exact ⟨rfl, rfl⟩
set_option maxRecDepth 20000 in
set_option maxHeartbeats 4000000 in
theorem divided_zero {p q : Option Addr} {m c n d : Nat} {xs ys : List Nat} {a b : Nat} {w : World} (s t : Bool) (h : Num w p m c xs a) (hs : s = true → 0 < a) (k : Num w q n d ys b) (ht : t = true → 0 < b) (hb : b = 0) :
    Calls Tryd.prog 46 #[ZV s p m c, ZV t q n d] w fun e w' => e = .returned (.tuple #[FR false none 0 0 false 0, .int .i64 4]) ∧ Below w.heap.size w w' := by
  have H : Hid (Num w p m c xs a) := h
  have HS : Hid (s = true → 0 < a) := hs
  have K : Hid (Num w q n d ys b) := k
  have HT : Hid (t = true → 0 < b) := ht
  have HB0 : Hid (b = 0) := hb
  clear h hs k ht hb
  go_enter Tryd.func46, Tryd.ntmps46
  go_wp2_with fail
  obtain ⟨W0, hW0⟩ : ∃ W0, W0 = (((w.alloc (.cells #[.bool s, .slice p m c] 35)).alloc (.cells #[.bool t, .slice q n d] 35)).alloc (.cells #[.bool false, .slice none 0 0, .bool false, .int .i64 0] 67)) := ⟨_, rfl⟩
  have Xx : Hid (Box W0 (w.heap.size) (.bool s) (.slice p m c)) := by rw [hW0]; exact ⟨by go_simp, by go_simp, by go_simp, by go_simp⟩
  have Xy : Hid (Box W0 (w.heap.size + 1) (.bool t) (.slice q n d)) := by rw [hW0]; exact ⟨by go_simp, by go_simp, by go_simp, by go_simp⟩
  have Xr : Hid (B4q W0 (w.heap.size + 1 + 1) (.bool false) (.slice none 0 0) (.bool false) (.int .i64 0)) := by rw [hW0]; exact ⟨by go_simp, by go_simp, by go_simp, by go_simp, by go_simp, by go_simp, by go_simp, by go_simp⟩
  have hb0 : Below w.heap.size w W0 := by rw [hW0]; exact below3 w _ _ _
  rw [← hW0]
  clear hW0
  have hbw : Below w.heap.size w w := Below.refl _ _
  obtain ⟨gr, hgr⟩ : ∃ g, g = w.heap.size + 1 + 1 := ⟨_, rfl⟩
  have HGr : Hid (w.heap.size ≤ gr) := by rw [hgr]; show _ ≤ _; omega
  rw [← hgr] at Xr
  try rw [← hgr]
  obtain ⟨gy, hgy⟩ : ∃ g, g = w.heap.size + 1 := ⟨_, rfl⟩
  have HGy : Hid (w.heap.size ≤ gy) := by rw [hgy]; show _ ≤ _; omega
  rw [← hgy] at Xy
  try rw [← hgy]
  obtain ⟨gx, hgx⟩ : ∃ g, g = w.heap.size := ⟨_, rfl⟩
  have HGx : Hid (w.heap.size ≤ gx) := by rw [hgx]; show _ ≤ _; omega
  rw [← hgx] at Xx
  try rw [← hgx]
  have HGD : Hid (gx ≠ gy ∧ gx ≠ gr ∧ gy ≠ gx ∧ gy ≠ gr ∧ gr ≠ gx ∧ gr ≠ gy) := by rw [hgx, hgy, hgr]; exact ⟨by omega, by omega, by omega, by omega, by omega, by omega⟩
  clear hgx hgy hgr
  have H' : Hid (Num W0 p m c xs a) := H.out.below hb0
  clear H
  have H := H'
  clear H'
  have K' : Hid (Num W0 q n d ys b) := K.out.below hb0
  clear K
  have K := K'
  clear K'
  have hbw' := Below.on hbw hb0
  clear hbw
  have hbw := hbw'
  clear hbw'
  clear hb0
  refine (numform_t s H.out HS.out).mono ?_
  rintro e w1 ⟨rfl, hb1⟩
  have Yx : Hid (Box w1 gx (.bool s) (.slice p m c)) := Xx.out.below hb1
  clear Xx
  have Xx := Yx
  clear Yx
  have Yy : Hid (Box w1 gy (.bool t) (.slice q n d)) := Xy.out.below hb1
  clear Xy
  have Xy := Yy
  clear Yy
  have Yr : Hid (B4q w1 gr (.bool false) (.slice none 0 0) (.bool false) (.int .i64 0)) := Xr.out.below hb1
  clear Xr
  have Xr := Yr
  clear Yr
  have H' : Hid (Num w1 p m c xs a) := H.out.below hb1
  clear H
  have H := H'
  clear H'
  have K' : Hid (Num w1 q n d ys b) := K.out.below hb1
  clear K
  have K := K'
  clear K'
  have hbw' := Below.on hbw hb1
  clear hbw
  have hbw := hbw'
  clear hbw'
  clear hb1
  obtain ⟨cy0, cy1, fy0, fy1⟩ := Xy.out
  have hney : gy < w1.heap.size := World.block_lt_of_cell? w1 _ cy0
  go_wp2_with fail
  clear cy0 cy1 fy0 fy1 hney
  refine (numform_t t K.out HT.out).mono ?_
  rintro e w2 ⟨rfl, hb2⟩
  have Yx : Hid (Box w2 gx (.bool s) (.slice p m c)) := Xx.out.below hb2
  clear Xx
  have Xx := Yx
  clear Yx
  have Yy : Hid (Box w2 gy (.bool t) (.slice q n d)) := Xy.out.below hb2
  clear Xy
  have Xy := Yy
  clear Yy
  have Yr : Hid (B4q w2 gr (.bool false) (.slice none 0 0) (.bool false) (.int .i64 0)) := Xr.out.below hb2
  clear Xr
  have Xr := Yr
  clear Yr
  have H' : Hid (Num w2 p m c xs a) := H.out.below hb2
  clear H
  have H := H'
  clear H'
  have K' : Hid (Num w2 q n d ys b) := K.out.below hb2
  clear K
  have K := K'
  clear K'
  have hbw' := Below.on hbw hb2
  clear hbw
  have hbw := hbw'
  clear hbw'
  clear hb2
  obtain ⟨cx0, cx1, fx0, fx1⟩ := Xx.out
  have hnex : gx < w2.heap.size := World.block_lt_of_cell? w2 _ cx0
  obtain ⟨cy0, cy1, fy0, fy1⟩ := Xy.out
  have hney : gy < w2.heap.size := World.block_lt_of_cell? w2 _ cy0
  go_wp2_with fail
  clear cx0 cx1 fx0 fx1 hnex
  clear cy0 cy1 fy0 fy1 hney
  refine (quorem_zero H.out.at_ K.out.at_ H.out.nf K.out.nf H.out.le K.out.le HB0.out).mono ?_
  rintro e w3 ⟨rfl, hw⟩
  obtain rfl := hw.symm
  clear hw
  obtain ⟨cr0, cr1, cr2, cr3, fr0, fr1, fr2, fr3⟩ := Xr.out
  have hner : gr < w2.heap.size := World.block_lt_of_cell? w2 _ cr0
  go_wp2_with fail
  refine bodyPost_ret (v := .tuple #[FR false none 0 0 false 0, .int .i64 4]) (by rw [results_cell_tmp rfl]; go_simp) rfl ⟨rfl, ?_⟩
  exact bSet4 hbw _ _ _ _ _ HGr.out
set_option maxRecDepth 20000 in
set_option maxHeartbeats 4000000 in
theorem fdiv_any {p q : Option Addr} {m c n d : Nat} {xs ys : List Nat} {a b : Nat} {w : World} (s t : Bool) (h : Num w p m c xs a) (hs : s = true → 0 < a) (k : Num w q n d ys b) (ht : t = true → 0 < b) (hb : b ≠ 0) :
    Calls Tryd.prog 20 #[ZV s p m c, ZV t q n d] w fun e w' => ∃ v, e = .returned (.tuple #[v, .int .i64 0]) ∧ AnsZ w.heap.size w' v (fl (s != t) a b) ∧ Below w.heap.size w w' := by
  have H : Hid (Num w p m c xs a) := h
  have HS : Hid (s = true → 0 < a) := hs
  have K : Hid (Num w q n d ys b) := k
  have HT : Hid (t = true → 0 < b) := ht
  have HB0 : Hid (b ≠ 0) := hb
  obtain ⟨z, hz⟩ : ∃ z, z = fl (s != t) a b := ⟨_, rfl⟩
  rw [← hz]
  have HZ : Hid (z = fl (s != t) a b) := hz
  clear h hs k ht hb hz
  go_enter Tryd.func20, Tryd.ntmps20
  go_wp2_with fail
  obtain ⟨W0, hW0⟩ : ∃ W0, W0 = (((w.alloc (.cells #[.bool s, .slice p m c] 35)).alloc (.cells #[.bool t, .slice q n d] 35)).alloc (.cells #[.bool false, .slice none 0 0] 35)) := ⟨_, rfl⟩
  have Xx : Hid (Box W0 (w.heap.size) (.bool s) (.slice p m c)) := by rw [hW0]; exact ⟨by go_simp, by go_simp, by go_simp, by go_simp⟩
  have Xy : Hid (Box W0 (w.heap.size + 1) (.bool t) (.slice q n d)) := by rw [hW0]; exact ⟨by go_simp, by go_simp, by go_simp, by go_simp⟩
  have Xr : Hid (Box W0 (w.heap.size + 1 + 1) (.bool false) (.slice none 0 0)) := by rw [hW0]; exact ⟨by go_simp, by go_simp, by go_simp, by go_simp⟩
  have hb0 : Below w.heap.size w W0 := by rw [hW0]; exact below3 w _ _ _
  rw [← hW0]
  clear hW0
  have hbw : Below w.heap.size w w := Below.refl _ _
  obtain ⟨gr, hgr⟩ : ∃ g, g = w.heap.size + 1 + 1 := ⟨_, rfl⟩
  have HGr : Hid (w.heap.size ≤ gr) := by rw [hgr]; show _ ≤ _; omega
  rw [← hgr] at Xr
  try rw [← hgr]
  obtain ⟨gy, hgy⟩ : ∃ g, g = w.heap.size + 1 := ⟨_, rfl⟩
  have HGy : Hid (w.heap.size ≤ gy) := by rw [hgy]; show _ ≤ _; omega
  rw [← hgy] at Xy
  try rw [← hgy]
  obtain ⟨gx, hgx⟩ : ∃ g, g = w.heap.size := ⟨_, rfl⟩
  have HGx : Hid (w.heap.size ≤ gx) := by rw [hgx]; show _ ≤ _; omega
  rw [← hgx] at Xx
  try rw [← hgx]
  have HGD : Hid (gx ≠ gy ∧ gx ≠ gr ∧ gy ≠ gx ∧ gy ≠ gr ∧ gr ≠ gx ∧ gr ≠ gy) := by rw [hgx, hgy, hgr]; exact ⟨by omega, by omega, by omega, by omega, by omega, by omega⟩
  clear hgx hgy hgr
  have H' : Hid (Num W0 p m c xs a) := H.out.below hb0
  clear H
  have H := H'
  clear H'
  have K' : Hid (Num W0 q n d ys b) := K.out.below hb0
  clear K
  have K := K'
  clear K'
  have hbw' := Below.on hbw hb0
  clear hbw
  have hbw := hbw'
  clear hbw'
  clear hb0
  have HSZ : Hid (GeW W0.heap.size W0) := Nat.le_refl _
  have HRL : Hid (gr < W0.heap.size ∧ w.heap.size ≤ W0.heap.size) := ⟨Xr.out.lt, hbw.size⟩
  refine (divided_any s t H.out HS.out K.out HT.out HB0.out).mono ?_
  rintro e w2 ⟨p2, m2, z2, x2, hf2, rfl, hfr, hb2⟩
  have Yx : Hid (Box w2 gx (.bool s) (.slice p m c)) := Xx.out.below hb2
  clear Xx
  have Xx := Yx
  clear Yx
  have Yy : Hid (Box w2 gy (.bool t) (.slice q n d)) := Xy.out.below hb2
  clear Xy
  have Xy := Yy
  clear Yy
  have Yr : Hid (Box w2 gr (.bool false) (.slice none 0 0)) := Xr.out.below hb2
  clear Xr
  have Xr := Yr
  clear Yr
  have H' : Hid (Num w2 p m c xs a) := H.out.below hb2
  clear H
  have H := H'
  clear H'
  have K' : Hid (Num w2 q n d ys b) := K.out.below hb2
  clear K
  have K := K'
  clear K'
  have HSZ' : Hid (GeW W0.heap.size w2) := HSZ.out.below hb2
  clear HSZ
  have HSZ := HSZ'
  clear HSZ'
  have hbw' := Below.on hbw hb2
  clear hbw
  have hbw := hbw'
  clear hbw'
  clear hb2
  have HF : Hid (FrIs W0.heap.size w2 (s != t) a b p2 m2 z2 x2 hf2) := hfr
  clear hfr
  obtain ⟨cr0, cr1, fr0, fr1⟩ := Xr.out
  have hner : gr < w2.heap.size := World.block_lt_of_cell? w2 _ cr0
  go_wp2_with fail
  clear cr0 cr1 fr0 fr1 hner
  have Xf0 : Hid (B4q (w2.alloc (.cells #[.bool (s != t), .slice p2 m2 m2, .bool x2, .int .i64 hf2] 67)) w2.heap.size (.bool (s != t)) (.slice p2 m2 m2) (.bool x2) (.int .i64 hf2)) := B4q.new w2 _ _ _ _ _
  have hbn : Below w2.heap.size w2 (w2.alloc (.cells #[.bool (s != t), .slice p2 m2 m2, .bool x2, .int .i64 hf2] 67)) := below1 w2 _
  generalize w2.alloc (.cells #[.bool (s != t), .slice p2 m2 m2, .bool x2, .int .i64 hf2] 67) = W3 at *
  have HGf : Hid (w.heap.size ≤ w2.heap.size) := hbw.size
  have Yx : Hid (Box W3 gx (.bool s) (.slice p m c)) := Xx.out.below hbn
  clear Xx
  have Xx := Yx
  clear Yx
  have Yy : Hid (Box W3 gy (.bool t) (.slice q n d)) := Xy.out.below hbn
  clear Xy
  have Xy := Yy
  clear Yy
  have Yr : Hid (Box W3 gr (.bool false) (.slice none 0 0)) := Xr.out.below hbn
  clear Xr
  have Xr := Yr
  clear Yr
  have H' : Hid (Num W3 p m c xs a) := H.out.below hbn
  clear H
  have H := H'
  clear H'
  have K' : Hid (Num W3 q n d ys b) := K.out.below hbn
  clear K
  have K := K'
  clear K'
  have HSZ' : Hid (GeW W0.heap.size W3) := HSZ.out.below hbn
  clear HSZ
  have HSZ := HSZ'
  clear HSZ'
  have HF' : Hid (FrIs W0.heap.size W3 (s != t) a b p2 m2 z2 x2 hf2) := HF.out.below hbn
  clear HF
  have HF := HF'
  clear HF'
  have hbw' := Below.on hbw hbn
  clear hbw
  have hbw := hbw'
  clear hbw'
  clear hbn
  generalize w2.heap.size = gf at *
  have Xf := Xf0
  clear Xf0
  have hBs : W0.heap.size ≤ W3.heap.size := HSZ.out
  refine (floor_any (s != t) x2 hf2 HF.out hBs).mono ?_
  rintro e w4 ⟨v, rfl, hv, hb4⟩
  clear hBs
  rw [← HZ.out] at hv
  obtain ⟨p4, m4, z4, rfl, ho, hn, hm⟩ := hv
  have Yx : Hid (Box w4 gx (.bool s) (.slice p m c)) := Xx.out.below hb4
  clear Xx
  have Xx := Yx
  clear Yx
  have Yy : Hid (Box w4 gy (.bool t) (.slice q n d)) := Xy.out.below hb4
  clear Xy
  have Xy := Yy
  clear Yy
  have Yr : Hid (Box w4 gr (.bool false) (.slice none 0 0)) := Xr.out.below hb4
  clear Xr
  have Xr := Yr
  clear Yr
  have Yf : Hid (B4q w4 gf (.bool (s != t)) (.slice p2 m2 m2) (.bool x2) (.int .i64 hf2)) := Xf.out.below hb4
  clear Xf
  have Xf := Yf
  clear Yf
  have H' : Hid (Num w4 p m c xs a) := H.out.below hb4
  clear H
  have H := H'
  clear H'
  have K' : Hid (Num w4 q n d ys b) := K.out.below hb4
  clear K
  have K := K'
  clear K'
  have HSZ' : Hid (GeW W0.heap.size w4) := HSZ.out.below hb4
  clear HSZ
  have HSZ := HSZ'
  clear HSZ'
  have HF' : Hid (FrIs W0.heap.size w4 (s != t) a b p2 m2 z2 x2 hf2) := HF.out.below hb4
  clear HF
  have HF := HF'
  clear HF'
  have hbw' := Below.on hbw hb4
  clear hbw
  have hbw := hbw'
  clear hbw'
  clear hb4
  have HO4 : Hid (Own W0.heap.size w4 p4 m4 z4) := ho
  have HN4 : Hid (Nf B64 z4 z.natAbs ∧ m4 ≤ 8192) := ⟨hn, hm⟩
  clear ho hn hm
  obtain ⟨b9, hb9⟩ : ∃ b, b = decide (z < 0) := ⟨_, rfl⟩
  rw [← hb9]
  have HB9 : Hid (b9 = decide (z < 0)) := hb9
  clear hb9
  obtain ⟨cr0, cr1, fr0, fr1⟩ := Xr.out
  have hner : gr < w4.heap.size := World.block_lt_of_cell? w4 _ cr0
  go_wp2_with fail
  refine bodyPost_ret (v := .tuple #[ZV b9 p4 m4 m4, .int .i64 0]) (by rw [results_cell_tmp rfl]; go_simp) rfl ⟨_, rfl, ⟨p4, m4, z4, by rw [HB9.out], ?_, HN4.out.1, HN4.out.2⟩, ?_⟩
  · exact own_set2 HO4.out HRL.out.1 HRL.out.2 _ _
  · exact bSet (bSet hbw _ _ _ HGr.out) _ _ _ HGr.out
set_option maxRecDepth 20000 in
set_option maxHeartbeats 4000000 in
theorem fdiv_zero {p q : Option Addr} {m c n d : Nat} {xs ys : List Nat} {a b : Nat} {w : World} (s t : Bool) (h : Num w p m c xs a) (hs : s = true → 0 < a) (k : Num w q n d ys b) (ht : t = true → 0 < b) (hb : b = 0) :
    Calls Tryd.prog 20 #[ZV s p m c, ZV t q n d] w fun e w' => ∃ v, e = .returned (.tuple #[v, .int .i64 4]) ∧ AnsZ w.heap.size w' v (0) ∧ Below w.heap.size w w' := by
  have H : Hid (Num w p m c xs a) := h
  have HS : Hid (s = true → 0 < a) := hs
  have K : Hid (Num w q n d ys b) := k
  have HT : Hid (t = true → 0 < b) := ht
  have HB0 : Hid (b = 0) := hb
  obtain ⟨z, hz⟩ : ∃ z, z = (0 : Int) := ⟨_, rfl⟩
  rw [← hz]
  have HZ : Hid (z = fl false 0 0) := hz
  clear h hs k ht hb hz
  go_enter Tryd.func20, Tryd.ntmps20
  go_wp2_with fail
  obtain ⟨W0, hW0⟩ : ∃ W0, W0 = (((w.alloc (.cells #[.bool s, .slice p m c] 35)).alloc (.cells #[.bool t, .slice q n d] 35)).alloc (.cells #[.bool false, .slice none 0 0] 35)) := ⟨_, rfl⟩
  have Xx : Hid (Box W0 (w.heap.size) (.bool s) (.slice p m c)) := by rw [hW0]; exact ⟨by go_simp, by go_simp, by go_simp, by go_simp⟩
  have Xy : Hid (Box W0 (w.heap.size + 1) (.bool t) (.slice q n d)) := by rw [hW0]; exact ⟨by go_simp, by go_simp, by go_simp, by go_simp⟩
  have Xr : Hid (Box W0 (w.heap.size + 1 + 1) (.bool false) (.slice none 0 0)) := by rw [hW0]; exact ⟨by go_simp, by go_simp, by go_simp, by go_simp⟩
  have hb0 : Below w.heap.size w W0 := by rw [hW0]; exact below3 w _ _ _
  rw [← hW0]
  clear hW0
  have hbw : Below w.heap.size w w := Below.refl _ _
  obtain ⟨gr, hgr⟩ : ∃ g, g = w.heap.size + 1 + 1 := ⟨_, rfl⟩
  have HGr : Hid (w.heap.size ≤ gr) := by rw [hgr]; show _ ≤ _; omega
  rw [← hgr] at Xr
  try rw [← hgr]
  obtain ⟨gy, hgy⟩ : ∃ g, g = w.heap.size + 1 := ⟨_, rfl⟩
  have HGy : Hid (w.heap.size ≤ gy) := by rw [hgy]; show _ ≤ _; omega
  rw [← hgy] at Xy
  try rw [← hgy]
  obtain ⟨gx, hgx⟩ : ∃ g, g = w.heap.size := ⟨_, rfl⟩
  have HGx : Hid (w.heap.size ≤ gx) := by rw [hgx]; show _ ≤ _; omega
  rw [← hgx] at Xx
  try rw [← hgx]
  have HGD : Hid (gx ≠ gy ∧ gx ≠ gr ∧ gy ≠ gx ∧ gy ≠ gr ∧ gr ≠ gx ∧ gr ≠ gy) := by rw [hgx, hgy, hgr]; exact ⟨by omega, by omega, by omega, by omega, by omega, by omega⟩
  clear hgx hgy hgr
  have H' : Hid (Num W0 p m c xs a) := H.out.below hb0
  clear H
  have H := H'
  clear H'
  have K' : Hid (Num W0 q n d ys b) := K.out.below hb0
  clear K
  have K := K'
  clear K'
  have hbw' := Below.on hbw hb0
  clear hbw
  have hbw := hbw'
  clear hbw'
  clear hb0
  have HSZ : Hid (GeW W0.heap.size W0) := Nat.le_refl _
  have HRL : Hid (gr < W0.heap.size ∧ w.heap.size ≤ W0.heap.size) := ⟨Xr.out.lt, hbw.size⟩
  refine (divided_zero s t H.out HS.out K.out HT.out HB0.out).mono ?_
  rintro e w2 ⟨rfl, hb2⟩
  have Yx : Hid (Box w2 gx (.bool s) (.slice p m c)) := Xx.out.below hb2
  clear Xx
  have Xx := Yx
  clear Yx
  have Yy : Hid (Box w2 gy (.bool t) (.slice q n d)) := Xy.out.below hb2
  clear Xy
  have Xy := Yy
  clear Yy
  have Yr : Hid (Box w2 gr (.bool false) (.slice none 0 0)) := Xr.out.below hb2
  clear Xr
  have Xr := Yr
  clear Yr
  have H' : Hid (Num w2 p m c xs a) := H.out.below hb2
  clear H
  have H := H'
  clear H'
  have K' : Hid (Num w2 q n d ys b) := K.out.below hb2
  clear K
  have K := K'
  clear K'
  have HSZ' : Hid (GeW W0.heap.size w2) := HSZ.out.below hb2
  clear HSZ
  have HSZ := HSZ'
  clear HSZ'
  have hbw' := Below.on hbw hb2
  clear hbw
  have hbw := hbw'
  clear hbw'
  clear hb2
  have HF : Hid (FrIs W0.heap.size w2 false 0 0 none 0 [] false 0) := ⟨⟨rfl, Dig.nil _, .inl rfl⟩, Nf.nil _, by omega, rfl, .inr (.inl ⟨rfl, rfl⟩), small_lim (by decide)⟩
  obtain ⟨cr0, cr1, fr0, fr1⟩ := Xr.out
  have hner : gr < w2.heap.size := World.block_lt_of_cell? w2 _ cr0
  go_wp2_with fail
  clear cr0 cr1 fr0 fr1 hner
  have Xf0 : Hid (B4q (w2.alloc (.cells #[.bool false, .slice none 0 0, .bool false, .int .i64 0] 67)) w2.heap.size (.bool false) (.slice none 0 0) (.bool false) (.int .i64 0)) := B4q.new w2 _ _ _ _ _
  have hbn : Below w2.heap.size w2 (w2.alloc (.cells #[.bool false, .slice none 0 0, .bool false, .int .i64 0] 67)) := below1 w2 _
  generalize w2.alloc (.cells #[.bool false, .slice none 0 0, .bool false, .int .i64 0] 67) = W3 at *
  have HGf : Hid (w.heap.size ≤ w2.heap.size) := hbw.size
  have Yx : Hid (Box W3 gx (.bool s) (.slice p m c)) := Xx.out.below hbn
  clear Xx
  have Xx := Yx
  clear Yx
  have Yy : Hid (Box W3 gy (.bool t) (.slice q n d)) := Xy.out.below hbn
  clear Xy
  have Xy := Yy
  clear Yy
  have Yr : Hid (Box W3 gr (.bool false) (.slice none 0 0)) := Xr.out.below hbn
  clear Xr
  have Xr := Yr
  clear Yr
  have H' : Hid (Num W3 p m c xs a) := H.out.below hbn
  clear H
  have H := H'
  clear H'
  have K' : Hid (Num W3 q n d ys b) := K.out.below hbn
  clear K
  have K := K'
  clear K'
  have HSZ' : Hid (GeW W0.heap.size W3) := HSZ.out.below hbn
  clear HSZ
  have HSZ := HSZ'
  clear HSZ'
  have HF' : Hid (FrIs W0.heap.size W3 false 0 0 none 0 [] false 0) := HF.out.below hbn
  clear HF
  have HF := HF'
  clear HF'
  have hbw' := Below.on hbw hbn
  clear hbw
  have hbw := hbw'
  clear hbw'
  clear hbn
  generalize w2.heap.size = gf at *
  have Xf := Xf0
  clear Xf0
  have hBs : W0.heap.size ≤ W3.heap.size := HSZ.out
  refine (floor_any false false 0 HF.out hBs).mono ?_
  rintro e w4 ⟨v, rfl, hv, hb4⟩
  clear hBs
  rw [← HZ.out] at hv
  obtain ⟨p4, m4, z4, rfl, ho, hn, hm⟩ := hv
  have Yx : Hid (Box w4 gx (.bool s) (.slice p m c)) := Xx.out.below hb4
  clear Xx
  have Xx := Yx
  clear Yx
  have Yy : Hid (Box w4 gy (.bool t) (.slice q n d)) := Xy.out.below hb4
  clear Xy
  have Xy := Yy
  clear Yy
  have Yr : Hid (Box w4 gr (.bool false) (.slice none 0 0)) := Xr.out.below hb4
  clear Xr
  have Xr := Yr
  clear Yr
  have Yf : Hid (B4q w4 gf (.bool false) (.slice none 0 0) (.bool false) (.int .i64 0)) := Xf.out.below hb4
  clear Xf
  have Xf := Yf
  clear Yf
  have H' : Hid (Num w4 p m c xs a) := H.out.below hb4
  clear H
  have H := H'
  clear H'
  have K' : Hid (Num w4 q n d ys b) := K.out.below hb4
  clear K
  have K := K'
  clear K'
  have HSZ' : Hid (GeW W0.heap.size w4) := HSZ.out.below hb4
  clear HSZ
  have HSZ := HSZ'
  clear HSZ'
  have HF' : Hid (FrIs W0.heap.size w4 false 0 0 none 0 [] false 0) := HF.out.below hb4
  clear HF
  have HF := HF'
  clear HF'
  have hbw' := Below.on hbw hb4
  clear hbw
  have hbw := hbw'
  clear hbw'
  clear hb4
  have HO4 : Hid (Own W0.heap.size w4 p4 m4 z4) := ho
  have HN4 : Hid (Nf B64 z4 z.natAbs ∧ m4 ≤ 8192) := ⟨hn, hm⟩
  clear ho hn hm
  obtain ⟨b9, hb9⟩ : ∃ b, b = decide (z < 0) := ⟨_, rfl⟩
  rw [← hb9]
  have HB9 : Hid (b9 = decide (z < 0)) := hb9
  clear hb9
  obtain ⟨cr0, cr1, fr0, fr1⟩ := Xr.out
  have hner : gr < w4.heap.size := World.block_lt_of_cell? w4 _ cr0
  go_wp2_with fail
  refine bodyPost_ret (v := .tuple #[ZV b9 p4 m4 m4, .int .i64 4]) (by rw [results_cell_tmp rfl]; go_simp) rfl ⟨_, rfl, ⟨p4, m4, z4, by rw [HB9.out], ?_, HN4.out.1, HN4.out.2⟩, ?_⟩
  · exact own_set2 HO4.out HRL.out.1 HRL.out.2 _ _
  · exact bSet (bSet hbw _ _ _ HGr.out) _ _ _ HGr.out
set_option maxRecDepth 20000 in
set_option maxHeartbeats 4000000 in
theorem cdiv_any {p q : Option Addr} {m c n d : Nat} {xs ys : List Nat} {a b : Nat} {w : World} (s t : Bool) (h : Num w p m c xs a) (hs : s = true → 0 < a) (k : Num w q n d ys b) (ht : t = true → 0 < b) (hb : b ≠ 0) :
    Calls Tryd.prog 27 #[ZV s p m c, ZV t q n d] w fun e w' => ∃ v, e = .returned (.tuple #[v, .int .i64 0]) ∧ AnsZ w.heap.size w' v (ce (s != t) a b) ∧ Below w.heap.size w w' := by
  have H : Hid (Num w p m c xs a) := h
  have HS : Hid (s = true → 0 < a) := hs
  have K : Hid (Num w q n d ys b) := k
  have HT : Hid (t = true → 0 < b) := ht
  have HB0 : Hid (b ≠ 0) := hb
  obtain ⟨z, hz⟩ : ∃ z, z = ce (s != t) a b := ⟨_, rfl⟩
  rw [← hz]
  have HZ : Hid (z = ce (s != t) a b) := hz
  clear h hs k ht hb hz
  go_enter Tryd.func27, Tryd.ntmps27
  go_wp2_with fail
  obtain ⟨W0, hW0⟩ : ∃ W0, W0 = (((w.alloc (.cells #[.bool s, .slice p m c] 35)).alloc (.cells #[.bool t, .slice q n d] 35)).alloc (.cells #[.bool false, .slice none 0 0] 35)) := ⟨_, rfl⟩
  have Xx : Hid (Box W0 (w.heap.size) (.bool s) (.slice p m c)) := by rw [hW0]; exact ⟨by go_simp, by go_simp, by go_simp, by go_simp⟩
  have Xy : Hid (Box W0 (w.heap.size + 1) (.bool t) (.slice q n d)) := by rw [hW0]; exact ⟨by go_simp, by go_simp, by go_simp, by go_simp⟩
  have Xr : Hid (Box W0 (w.heap.size + 1 + 1) (.bool false) (.slice none 0 0)) := by rw [hW0]; exact ⟨by go_simp, by go_simp, by go_simp, by go_simp⟩
  have hb0 : Below w.heap.size w W0 := by rw [hW0]; exact below3 w _ _ _
  rw [← hW0]
  clear hW0
  have hbw : Below w.heap.size w w := Below.refl _ _
  obtain ⟨gr, hgr⟩ : ∃ g, g = w.heap.size + 1 + 1 := ⟨_, rfl⟩
  have HGr : Hid (w.heap.size ≤ gr) := by rw [hgr]; show _ ≤ _; omega
  rw [← hgr] at Xr
  try rw [← hgr]
  obtain ⟨gy, hgy⟩ : ∃ g, g = w.heap.size + 1 := ⟨_, rfl⟩
  have HGy : Hid (w.heap.size ≤ gy) := by rw [hgy]; show _ ≤ _; omega
  rw [← hgy] at Xy
  try rw [← hgy]
  obtain ⟨gx, hgx⟩ : ∃ g, g = w.heap.size := ⟨_, rfl⟩
  have HGx : Hid (w.heap.size ≤ gx) := by rw [hgx]; show _ ≤ _; omega
  rw [← hgx] at Xx
  try rw [← hgx]
  have HGD : Hid (gx ≠ gy ∧ gx ≠ gr ∧ gy ≠ gx ∧ gy ≠ gr ∧ gr ≠ gx ∧ gr ≠ gy) := by rw [hgx, hgy, hgr]; exact ⟨by omega, by omega, by omega, by omega, by omega, by omega⟩
  clear hgx hgy hgr
  have H' : Hid (Num W0 p m c xs a) := H.out.below hb0
  clear H
  have H := H'
  clear H'
  have K' : Hid (Num W0 q n d ys b) := K.out.below hb0
  clear K
  have K := K'
  clear K'
  have hbw' := Below.on hbw hb0
  clear hbw
  have hbw := hbw'
  clear hbw'
  clear hb0
  have HSZ : Hid (GeW W0.heap.size W0) := Nat.le_refl _
  have HRL : Hid (gr < W0.heap.size ∧ w.heap.size ≤ W0.heap.size) := ⟨Xr.out.lt, hbw.size⟩
  refine (divided_any s t H.out HS.out K.out HT.out HB0.out).mono ?_
  rintro e w2 ⟨p2, m2, z2, x2, hf2, rfl, hfr, hb2⟩
  have Yx : Hid (Box w2 gx (.bool s) (.slice p m c)) := Xx.out.below hb2
  clear Xx
  have Xx := Yx
  clear Yx
  have Yy : Hid (Box w2 gy (.bool t) (.slice q n d)) := Xy.out.below hb2
  clear Xy
  have Xy := Yy
  clear Yy
  have Yr : Hid (Box w2 gr (.bool false) (.slice none 0 0)) := Xr.out.below hb2
  clear Xr
  have Xr := Yr
  clear Yr
  have H' : Hid (Num w2 p m c xs a) := H.out.below hb2
  clear H
  have H := H'
  clear H'
  have K' : Hid (Num w2 q n d ys b) := K.out.below hb2
  clear K
  have K := K'
  clear K'
  have HSZ' : Hid (GeW W0.heap.size w2) := HSZ.out.below hb2
  clear HSZ
  have HSZ := HSZ'
  clear HSZ'
  have hbw' := Below.on hbw hb2
  clear hbw
  have hbw := hbw'
  clear hbw'
  clear hb2
  have HF : Hid (FrIs W0.heap.size w2 (s != t) a b p2 m2 z2 x2 hf2) := hfr
  clear hfr
  obtain ⟨cr0, cr1, fr0, fr1⟩ := Xr.out
  have hner : gr < w2.heap.size := World.block_lt_of_cell? w2 _ cr0
  go_wp2_with fail
  clear cr0 cr1 fr0 fr1 hner
  have Xf0 : Hid (B4q (w2.alloc (.cells #[.bool (s != t), .slice p2 m2 m2, .bool x2, .int .i64 hf2] 67)) w2.heap.size (.bool (s != t)) (.slice p2 m2 m2) (.bool x2) (.int .i64 hf2)) := B4q.new w2 _ _ _ _ _
  have hbn : Below w2.heap.size w2 (w2.alloc (.cells #[.bool (s != t), .slice p2 m2 m2, .bool x2, .int .i64 hf2] 67)) := below1 w2 _
  generalize w2.alloc (.cells #[.bool (s != t), .slice p2 m2 m2, .bool x2, .int .i64 hf2] 67) = W3 at *
  have HGf : Hid (w.heap.size ≤ w2.heap.size) := hbw.size
  have Yx : Hid (Box W3 gx (.bool s) (.slice p m c)) := Xx.out.below hbn
  clear Xx
  have Xx := Yx
  clear Yx
  have Yy : Hid (Box W3 gy (.bool t) (.slice q n d)) := Xy.out.below hbn
  clear Xy
  have Xy := Yy
  clear Yy
  have Yr : Hid (Box W3 gr (.bool false) (.slice none 0 0)) := Xr.out.below hbn
  clear Xr
  have Xr := Yr
  clear Yr
  have H' : Hid (Num W3 p m c xs a) := H.out.below hbn
  clear H
  have H := H'
  clear H'
  have K' : Hid (Num W3 q n d ys b) := K.out.below hbn
  clear K
  have K := K'
  clear K'
  have HSZ' : Hid (GeW W0.heap.size W3) := HSZ.out.below hbn
  clear HSZ
  have HSZ := HSZ'
  clear HSZ'
  have HF' : Hid (FrIs W0.heap.size W3 (s != t) a b p2 m2 z2 x2 hf2) := HF.out.below hbn
  clear HF
  have HF := HF'
  clear HF'
  have hbw' := Below.on hbw hbn
  clear hbw
  have hbw := hbw'
  clear hbw'
  clear hbn
  generalize w2.heap.size = gf at *
  have Xf := Xf0
  clear Xf0
  have hBs : W0.heap.size ≤ W3.heap.size := HSZ.out
  refine (ceil_any (s != t) x2 hf2 HF.out hBs).mono ?_
  rintro e w4 ⟨v, rfl, hv, hb4⟩
  clear hBs
  rw [← HZ.out] at hv
  obtain ⟨p4, m4, z4, rfl, ho, hn, hm⟩ := hv
  have Yx : Hid (Box w4 gx (.bool s) (.slice p m c)) := Xx.out.below hb4
  clear Xx
  have Xx := Yx
  clear Yx
  have Yy : Hid (Box w4 gy (.bool t) (.slice q n d)) := Xy.out.below hb4
  clear Xy
  have Xy := Yy
  clear Yy
  have Yr : Hid (Box w4 gr (.bool false) (.slice none 0 0)) := Xr.out.below hb4
  clear Xr
  have Xr := Yr
  clear Yr
  have Yf : Hid (B4q w4 gf (.bool (s != t)) (.slice p2 m2 m2) (.bool x2) (.int .i64 hf2)) := Xf.out.below hb4
  clear Xf
  have Xf := Yf
  clear Yf
  have H' : Hid (Num w4 p m c xs a) := H.out.below hb4
  clear H
  have H := H'
  clear H'
  have K' : Hid (Num w4 q n d ys b) := K.out.below hb4
  clear K
  have K := K'
  clear K'
  have HSZ' : Hid (GeW W0.heap.size w4) := HSZ.out.below hb4
  clear HSZ
  have HSZ := HSZ'
  clear HSZ'
  have HF' : Hid (FrIs W0.heap.size w4 (s != t) a b p2 m2 z2 x2 hf2) := HF.out.below hb4
  clear HF
  have HF := HF'
  clear HF'
  have hbw' := Below.on hbw hb4
  clear hbw
  have hbw := hbw'
  clear hbw'
  clear hb4
  have HO4 : Hid (Own W0.heap.size w4 p4 m4 z4) := ho
  have HN4 : Hid (Nf B64 z4 z.natAbs ∧ m4 ≤ 8192) := ⟨hn, hm⟩
  clear ho hn hm
  obtain ⟨b9, hb9⟩ : ∃ b, b = decide (z < 0) := ⟨_, rfl⟩
  rw [← hb9]
  have HB9 : Hid (b9 = decide (z < 0)) := hb9
  clear hb9
  obtain ⟨cr0, cr1, fr0, fr1⟩ := Xr.out
  have hner : gr < w4.heap.size := World.block_lt_of_cell? w4 _ cr0
  go_wp2_with fail
  refine bodyPost_ret (v := .tuple #[ZV b9 p4 m4 m4, .int .i64 0]) (by rw [results_cell_tmp rfl]; go_simp) rfl ⟨_, rfl, ⟨p4, m4, z4, by rw [HB9.out], ?_, HN4.out.1, HN4.out.2⟩, ?_⟩
  · exact own_set2 HO4.out HRL.out.1 HRL.out.2 _ _
  · exact bSet (bSet hbw _ _ _ HGr.out) _ _ _ HGr.out
set_option maxRecDepth 20000 in
set_option maxHeartbeats 4000000 in
theorem cdiv_zero {p q : Option Addr} {m c n d : Nat} {xs ys : List Nat} {a b : Nat} {w : World} (s t : Bool) (h : Num w p m c xs a) (hs : s = true → 0 < a) (k : Num w q n d ys b) (ht : t = true → 0 < b) (hb : b = 0) :
    Calls Tryd.prog 27 #[ZV s p m c, ZV t q n d] w fun e w' => ∃ v, e = .returned (.tuple #[v, .int .i64 4]) ∧ AnsZ w.heap.size w' v (0) ∧ Below w.heap.size w w' := by
  have H : Hid (Num w p m c xs a) := h
  have HS : Hid (s = true → 0 < a) := hs
  have K : Hid (Num w q n d ys b) := k
  have HT : Hid (t = true → 0 < b) := ht
  have HB0 : Hid (b = 0) := hb
  obtain ⟨z, hz⟩ : ∃ z, z = (0 : Int) := ⟨_, rfl⟩
  rw [← hz]
  have HZ : Hid (z = ce false 0 0) := hz
  clear h hs k ht hb hz
  go_enter Tryd.func27, Tryd.ntmps27
  go_wp2_with fail
  obtain ⟨W0, hW0⟩ : ∃ W0, W0 = (((w.alloc (.cells #[.bool s, .slice p m c] 35)).alloc (.cells #[.bool t, .slice q n d] 35)).alloc (.cells #[.bool false, .slice none 0 0] 35)) := ⟨_, rfl⟩
  have Xx : Hid (Box W0 (w.heap.size) (.bool s) (.slice p m c)) := by rw [hW0]; exact ⟨by go_simp, by go_simp, by go_simp, by go_simp⟩
  have Xy : Hid (Box W0 (w.heap.size + 1) (.bool t) (.slice q n d)) := by rw [hW0]; exact ⟨by go_simp, by go_simp, by go_simp, by go_simp⟩
  have Xr : Hid (Box W0 (w.heap.size + 1 + 1) (.bool false) (.slice none 0 0)) := by rw [hW0]; exact ⟨by go_simp, by go_simp, by go_simp, by go_simp⟩
  have hb0 : Below w.heap.size w W0 := by rw [hW0]; exact below3 w _ _ _
  rw [← hW0]
  clear hW0
  have hbw : Below w.heap.size w w := Below.refl _ _
  obtain ⟨gr, hgr⟩ : ∃ g, g = w.heap.size + 1 + 1 := ⟨_, rfl⟩
  have HGr : Hid (w.heap.size ≤ gr) := by rw [hgr]; show _ ≤ _; omega
  rw [← hgr] at Xr
  try rw [← hgr]
  obtain ⟨gy, hgy⟩ : ∃ g, g = w.heap.size + 1 := ⟨_, rfl⟩
  have HGy : Hid (w.heap.size ≤ gy) := by rw [hgy]; show _ ≤ _; omega
  rw [← hgy] at Xy
  try rw [← hgy]
  obtain ⟨gx, hgx⟩ : ∃ g, g = w.heap.size := ⟨_, rfl⟩
  have HGx : Hid (w.heap.size ≤ gx) := by rw [hgx]; show _ ≤ _; omega
  rw [← hgx] at Xx
  try rw [← hgx]
  have HGD : Hid (gx ≠ gy ∧ gx ≠ gr ∧ gy ≠ gx ∧ gy ≠ gr ∧ gr ≠ gx ∧ gr ≠ gy) := by rw [hgx, hgy, hgr]; exact ⟨by omega, by omega, by omega, by omega, by omega, by omega⟩
  clear hgx hgy hgr
  have H' : Hid (Num W0 p m c xs a) := H.out.below hb0
  clear H
  have H := H'
  clear H'
  have K' : Hid (Num W0 q n d ys b) := K.out.below hb0
  clear K
  have K := K'
  clear K'
  have hbw' := Below.on hbw hb0
  clear hbw
  have hbw := hbw'
  clear hbw'
  clear hb0
  have HSZ : Hid (GeW W0.heap.size W0) := Nat.le_refl _
  have HRL : Hid (gr < W0.heap.size ∧ w.heap.size ≤ W0.heap.size) := ⟨Xr.out.lt, hbw.size⟩
  refine (divided_zero s t H.out HS.out K.out HT.out HB0.out).mono ?_
  rintro e w2 ⟨rfl, hb2⟩
  have Yx : Hid (Box w2 gx (.bool s) (.slice p m c)) := Xx.out.below hb2
  clear Xx
  have Xx := Yx
  clear Yx
  have Yy : Hid (Box w2 gy (.bool t) (.slice q n d)) := Xy.out.below hb2
  clear Xy
  have Xy := Yy
  clear Yy
  have Yr : Hid (Box w2 gr (.bool false) (.slice none 0 0)) := Xr.out.below hb2
  clear Xr
  have Xr := Yr
  clear Yr
  have H' : Hid (Num w2 p m c xs a) := H.out.below hb2
  clear H
  have H := H'
  clear H'
  have K' : Hid (Num w2 q n d ys b) := K.out.below hb2
  clear K
  have K := K'
  clear K'
  have HSZ' : Hid (GeW W0.heap.size w2) := HSZ.out.below hb2
  clear HSZ
  have HSZ := HSZ'
  clear HSZ'
  have hbw' := Below.on hbw hb2
  clear hbw
  have hbw := hbw'
  clear hbw'
  clear hb2
  have HF : Hid (FrIs W0.heap.size w2 false 0 0 none 0 [] false 0) := ⟨⟨rfl, Dig.nil _, .inl rfl⟩, Nf.nil _, by omega, rfl, .inr (.inl ⟨rfl, rfl⟩), small_lim (by decide)⟩
  obtain ⟨cr0, cr1, fr0, fr1⟩ := Xr.out
  have hner : gr < w2.heap.size := World.block_lt_of_cell? w2 _ cr0
  go_wp2_with fail
  clear cr0 cr1 fr0 fr1 hner
  have Xf0 : Hid (B4q (w2.alloc (.cells #[.bool false, .slice none 0 0, .bool false, .int .i64 0] 67)) w2.heap.size (.bool false) (.slice none 0 0) (.bool false) (.int .i64 0)) := B4q.new w2 _ _ _ _ _
  have hbn : Below w2.heap.size w2 (w2.alloc (.cells #[.bool false, .slice none 0 0, .bool false, .int .i64 0] 67)) := below1 w2 _
  generalize w2.alloc (.cells #[.bool false, .slice none 0 0, .bool false, .int .i64 0] 67) = W3 at *
  have HGf : Hid (w.heap.size ≤ w2.heap.size) := hbw.size
  have Yx : Hid (Box W3 gx (.bool s) (.slice p m c)) := Xx.out.below hbn
  clear Xx
  have Xx := Yx
  clear Yx
  have Yy : Hid (Box W3 gy (.bool t) (.slice q n d)) := Xy.out.below hbn
  clear Xy
  have Xy := Yy
  clear Yy
  have Yr : Hid (Box W3 gr (.bool false) (.slice none 0 0)) := Xr.out.below hbn
  clear Xr
  have Xr := Yr
  clear Yr
  have H' : Hid (Num W3 p m c xs a) := H.out.below hbn
  clear H
  have H := H'
  clear H'
  have K' : Hid (Num W3 q n d ys b) := K.out.below hbn
  clear K
  have K := K'
  clear K'
  have HSZ' : Hid (GeW W0.heap.size W3) := HSZ.out.below hbn
  clear HSZ
  have HSZ := HSZ'
  clear HSZ'
  have HF' : Hid (FrIs W0.heap.size W3 false 0 0 none 0 [] false 0) := HF.out.below hbn
  clear HF
  have HF := HF'
  clear HF'
  have hbw' := Below.on hbw hbn
  clear hbw
  have hbw := hbw'
  clear hbw'
  clear hbn
  generalize w2.heap.size = gf at *
  have Xf := Xf0
  clear Xf0
  have hBs : W0.heap.size ≤ W3.heap.size := HSZ.out
  refine (ceil_any false false 0 HF.out hBs).mono ?_
  rintro e w4 ⟨v, rfl, hv, hb4⟩
  clear hBs
  rw [← HZ.out] at hv
  obtain ⟨p4, m4, z4, rfl, ho, hn, hm⟩ := hv
  have Yx : Hid (Box w4 gx (.bool s) (.slice p m c)) := Xx.out.below hb4
  clear Xx
  have Xx := Yx
  clear Yx
  have Yy : Hid (Box w4 gy (.bool t) (.slice q n d)) := Xy.out.below hb4
  clear Xy
  have Xy := Yy
  clear Yy
  have Yr : Hid (Box w4 gr (.bool false) (.slice none 0 0)) := Xr.out.below hb4
  clear Xr
  have Xr := Yr
  clear Yr
  have Yf : Hid (B4q w4 gf (.bool false) (.slice none 0 0) (.bool false) (.int .i64 0)) := Xf.out.below hb4
  clear Xf
  have Xf := Yf
  clear Yf
  have H' : Hid (Num w4 p m c xs a) := H.out.below hb4
  clear H
  have H := H'
  clear H'
  have K' : Hid (Num w4 q n d ys b) := K.out.below hb4
  clear K
  have K := K'
  clear K'
  have HSZ' : Hid (GeW W0.heap.size w4) := HSZ.out.below hb4
  clear HSZ
  have HSZ := HSZ'
  clear HSZ'
  have HF' : Hid (FrIs W0.heap.size w4 false 0 0 none 0 [] false 0) := HF.out.below hb4
  clear HF
  have HF := HF'
  clear HF'
  have hbw' := Below.on hbw hb4
  clear hbw
  have hbw := hbw'
  clear hbw'
  clear hb4
  have HO4 : Hid (Own W0.heap.size w4 p4 m4 z4) := ho
  have HN4 : Hid (Nf B64 z4 z.natAbs ∧ m4 ≤ 8192) := ⟨hn, hm⟩
  clear ho hn hm
  obtain ⟨b9, hb9⟩ : ∃ b, b = decide (z < 0) := ⟨_, rfl⟩
  rw [← hb9]
  have HB9 : Hid (b9 = decide (z < 0)) := hb9
  clear hb9
  obtain ⟨cr0, cr1, fr0, fr1⟩ := Xr.out
  have hner : gr < w4.heap.size := World.block_lt_of_cell? w4 _ cr0
  go_wp2_with fail
  refine bodyPost_ret (v := .tuple #[ZV b9 p4 m4 m4, .int .i64 4]) (by rw [results_cell_tmp rfl]; go_simp) rfl ⟨_, rfl, ⟨p4, m4, z4, by rw [HB9.out], ?_, HN4.out.1, HN4.out.2⟩, ?_⟩
  · exact own_set2 HO4.out HRL.out.1 HRL.out.2 _ _
  · exact bSet (bSet hbw _ _ _ HGr.out) _ _ _ HGr.out
set_option maxRecDepth 20000 in
set_option maxHeartbeats 4000000 in
theorem rdiv_any {p q : Option Addr} {m c n d : Nat} {xs ys : List Nat} {a b : Nat} {w : World} (s t : Bool) (h : Num w p m c xs a) (hs : s = true → 0 < a) (k : Num w q n d ys b) (ht : t = true → 0 < b) (hb : b ≠ 0) :
    Calls Tryd.prog 28 #[ZV s p m c, ZV t q n d] w fun e w' => ∃ v, e = .returned (.tuple #[v, .int .i64 0]) ∧ AnsZ w.heap.size w' v (ne (s != t) a b) ∧ Below w.heap.size w w' := by
  have H : Hid (Num w p m c xs a) := h
  have HS : Hid (s = true → 0 < a) := hs
  have K : Hid (Num w q n d ys b) := k
  have HT : Hid (t = true → 0 < b) := ht
  have HB0 : Hid (b ≠ 0) := hb
  obtain ⟨z, hz⟩ : ∃ z, z = ne (s != t) a b := ⟨_, rfl⟩
  rw [← hz]
  have HZ : Hid (z = ne (s != t) a b) := hz
  clear h hs k ht hb hz
  go_enter Tryd.func28, Tryd.ntmps28
  go_wp2_with fail
  obtain ⟨W0, hW0⟩ : ∃ W0, W0 = (((w.alloc (.cells #[.bool s, .slice p m c] 35)).alloc (.cells #[.bool t, .slice q n d] 35)).alloc (.cells #[.bool false, .slice none 0 0] 35)) := ⟨_, rfl⟩
  have Xx : Hid (Box W0 (w.heap.size) (.bool s) (.slice p m c)) := by rw [hW0]; exact ⟨by go_simp, by go_simp, by go_simp, by go_simp⟩
  have Xy : Hid (Box W0 (w.heap.size + 1) (.bool t) (.slice q n d)) := by rw [hW0]; exact ⟨by go_simp, by go_simp, by go_simp, by go_simp⟩
  have Xr : Hid (Box W0 (w.heap.size + 1 + 1) (.bool false) (.slice none 0 0)) := by rw [hW0]; exact ⟨by go_simp, by go_simp, by go_simp, by go_simp⟩
  have hb0 : Below w.heap.size w W0 := by rw [hW0]; exact below3 w _ _ _
  rw [← hW0]
  clear hW0
  have hbw : Below w.heap.size w w := Below.refl _ _
  obtain ⟨gr, hgr⟩ : ∃ g, g = w.heap.size + 1 + 1 := ⟨_, rfl⟩
  have HGr : Hid (w.heap.size ≤ gr) := by rw [hgr]; show _ ≤ _; omega
  rw [← hgr] at Xr
  try rw [← hgr]
  obtain ⟨gy, hgy⟩ : ∃ g, g = w.heap.size + 1 := ⟨_, rfl⟩
  have HGy : Hid (w.heap.size ≤ gy) := by rw [hgy]; show _ ≤ _; omega
  rw [← hgy] at Xy
  try rw [← hgy]
  obtain ⟨gx, hgx⟩ : ∃ g, g = w.heap.size := ⟨_, rfl⟩
  have HGx : Hid (w.heap.size ≤ gx) := by rw [hgx]; show _ ≤ _; omega
  rw [← hgx] at Xx
  try rw [← hgx]
  have HGD : Hid (gx ≠ gy ∧ gx ≠ gr ∧ gy ≠ gx ∧ gy ≠ gr ∧ gr ≠ gx ∧ gr ≠ gy) := by rw [hgx, hgy, hgr]; exact ⟨by omega, by omega, by omega, by omega, by omega, by omega⟩
  clear hgx hgy hgr
  have H' : Hid (Num W0 p m c xs a) := H.out.below hb0
  clear H
  have H := H'
  clear H'
  have K' : Hid (Num W0 q n d ys b) := K.out.below hb0
  clear K
  have K := K'
  clear K'
  have hbw' := Below.on hbw hb0
  clear hbw
  have hbw := hbw'
  clear hbw'
  clear hb0
  have HSZ : Hid (GeW W0.heap.size W0) := Nat.le_refl _
  have HRL : Hid (gr < W0.heap.size ∧ w.heap.size ≤ W0.heap.size) := ⟨Xr.out.lt, hbw.size⟩
  refine (divided_any s t H.out HS.out K.out HT.out HB0.out).mono ?_
  rintro e w2 ⟨p2, m2, z2, x2, hf2, rfl, hfr, hb2⟩
  have Yx : Hid (Box w2 gx (.bool s) (.slice p m c)) := Xx.out.below hb2
  clear Xx
  have Xx := Yx
  clear Yx
  have Yy : Hid (Box w2 gy (.bool t) (.slice q n d)) := Xy.out.below hb2
  clear Xy
  have Xy := Yy
  clear Yy
  have Yr : Hid (Box w2 gr (.bool false) (.slice none 0 0)) := Xr.out.below hb2
  clear Xr
  have Xr := Yr
  clear Yr
  have H' : Hid (Num w2 p m c xs a) := H.out.below hb2
  clear H
  have H := H'
  clear H'
  have K' : Hid (Num w2 q n d ys b) := K.out.below hb2
  clear K
  have K := K'
  clear K'
  have HSZ' : Hid (GeW W0.heap.size w2) := HSZ.out.below hb2
  clear HSZ
  have HSZ := HSZ'
  clear HSZ'
  have hbw' := Below.on hbw hb2
  clear hbw
  have hbw := hbw'
  clear hbw'
  clear hb2
  have HF : Hid (FrIs W0.heap.size w2 (s != t) a b p2 m2 z2 x2 hf2) := hfr
  clear hfr
  obtain ⟨cr0, cr1, fr0, fr1⟩ := Xr.out
  have hner : gr < w2.heap.size := World.block_lt_of_cell? w2 _ cr0
  go_wp2_with fail
  clear cr0 cr1 fr0 fr1 hner
  have Xf0 : Hid (B4q (w2.alloc (.cells #[.bool (s != t), .slice p2 m2 m2, .bool x2, .int .i64 hf2] 67)) w2.heap.size (.bool (s != t)) (.slice p2 m2 m2) (.bool x2) (.int .i64 hf2)) := B4q.new w2 _ _ _ _ _
  have hbn : Below w2.heap.size w2 (w2.alloc (.cells #[.bool (s != t), .slice p2 m2 m2, .bool x2, .int .i64 hf2] 67)) := below1 w2 _
  generalize w2.alloc (.cells #[.bool (s != t), .slice p2 m2 m2, .bool x2, .int .i64 hf2] 67) = W3 at *
  have HGf : Hid (w.heap.size ≤ w2.heap.size) := hbw.size
  have Yx : Hid (Box W3 gx (.bool s) (.slice p m c)) := Xx.out.below hbn
  clear Xx
  have Xx := Yx
  clear Yx
  have Yy : Hid (Box W3 gy (.bool t) (.slice q n d)) := Xy.out.below hbn
  clear Xy
  have Xy := Yy
  clear Yy
  have Yr : Hid (Box W3 gr (.bool false) (.slice none 0 0)) := Xr.out.below hbn
  clear Xr
  have Xr := Yr
  clear Yr
  have H' : Hid (Num W3 p m c xs a) := H.out.below hbn
  clear H
  have H := H'
  clear H'
  have K' : Hid (Num W3 q n d ys b) := K.out.below hbn
  clear K
  have K := K'
  clear K'
  have HSZ' : Hid (GeW W0.heap.size W3) := HSZ.out.below hbn
  clear HSZ
  have HSZ := HSZ'
  clear HSZ'
  have HF' : Hid (FrIs W0.heap.size W3 (s != t) a b p2 m2 z2 x2 hf2) := HF.out.below hbn
  clear HF
  have HF := HF'
  clear HF'
  have hbw' := Below.on hbw hbn
  clear hbw
  have hbw := hbw'
  clear hbw'
  clear hbn
  generalize w2.heap.size = gf at *
  have Xf := Xf0
  clear Xf0
  have hBs : W0.heap.size ≤ W3.heap.size := HSZ.out
  refine (near_any (s != t) x2 hf2 HF.out hBs (Nat.pos_of_ne_zero HB0.out)).mono ?_
  rintro e w4 ⟨v, rfl, hv, hb4⟩
  clear hBs
  rw [← HZ.out] at hv
  obtain ⟨p4, m4, z4, rfl, ho, hn, hm⟩ := hv
  have Yx : Hid (Box w4 gx (.bool s) (.slice p m c)) := Xx.out.below hb4
  clear Xx
  have Xx := Yx
  clear Yx
  have Yy : Hid (Box w4 gy (.bool t) (.slice q n d)) := Xy.out.below hb4
  clear Xy
  have Xy := Yy
  clear Yy
  have Yr : Hid (Box w4 gr (.bool false) (.slice none 0 0)) := Xr.out.below hb4
  clear Xr
  have Xr := Yr
  clear Yr
  have Yf : Hid (B4q w4 gf (.bool (s != t)) (.slice p2 m2 m2) (.bool x2) (.int .i64 hf2)) := Xf.out.below hb4
  clear Xf
  have Xf := Yf
  clear Yf
  have H' : Hid (Num w4 p m c xs a) := H.out.below hb4
  clear H
  have H := H'
  clear H'
  have K' : Hid (Num w4 q n d ys b) := K.out.below hb4
  clear K
  have K := K'
  clear K'
  have HSZ' : Hid (GeW W0.heap.size w4) := HSZ.out.below hb4
  clear HSZ
  have HSZ := HSZ'
  clear HSZ'
  have HF' : Hid (FrIs W0.heap.size w4 (s != t) a b p2 m2 z2 x2 hf2) := HF.out.below hb4
  clear HF
  have HF := HF'
  clear HF'
  have hbw' := Below.on hbw hb4
  clear hbw
  have hbw := hbw'
  clear hbw'
  clear hb4
  have HO4 : Hid (Own W0.heap.size w4 p4 m4 z4) := ho
  have HN4 : Hid (Nf B64 z4 z.natAbs ∧ m4 ≤ 8192) := ⟨hn, hm⟩
  clear ho hn hm
  obtain ⟨b9, hb9⟩ : ∃ b, b = decide (z < 0) := ⟨_, rfl⟩
  rw [← hb9]
  have HB9 : Hid (b9 = decide (z < 0)) := hb9
  clear hb9
  obtain ⟨cr0, cr1, fr0, fr1⟩ := Xr.out
  have hner : gr < w4.heap.size := World.block_lt_of_cell? w4 _ cr0
  go_wp2_with fail
  refine bodyPost_ret (v := .tuple #[ZV b9 p4 m4 m4, .int .i64 0]) (by rw [results_cell_tmp rfl]; go_simp) rfl ⟨_, rfl, ⟨p4, m4, z4, by rw [HB9.out], ?_, HN4.out.1, HN4.out.2⟩, ?_⟩
  · exact own_set2 HO4.out HRL.out.1 HRL.out.2 _ _
  · exact bSet (bSet hbw _ _ _ HGr.out) _ _ _ HGr.out
end Go.Proofs.YteoihhgaipplfaaDoor

namespace Go.Proofs.YteoihhgaipplfaaDoor
open Go.RowKit Go.Shelf

set_option maxRecDepth 20000 in
set_option maxHeartbeats 4000000 in
theorem mod_000 {p q : Option Addr} {m c n d : Nat} {xs ys : List Nat} {a b : Nat} {w : World} (h : Num w p m c xs a) (hs : false = true → 0 < a) (k : Num w q n d ys b) (ht : false = true → 0 < b) (hb : b ≠ 0) (hz : a % b = 0) :
    Calls Tryd.prog 29 #[ZV false p m c, ZV false q n d] w fun e w' => ∃ v, e = .returned (.tuple #[v, .int .i64 0]) ∧ AnsZ w.heap.size w' v (mo false false a b) ∧ Below w.heap.size w w' := by
  have H : Hid (Num w p m c xs a) := h
  have HS : Hid (false = true → 0 < a) := hs
  have K : Hid (Num w q n d ys b) := k
  have HT : Hid (false = true → 0 < b) := ht
  have HB0 : Hid (b ≠ 0) := hb
  obtain ⟨r, hr⟩ : ∃ r, r = a % b := ⟨_, rfl⟩
  have HRV : Hid (mo false false a b = iv false r) := by show _ = _; rw [hr]; unfold mo; rw [hz]; rfl
  rw [HRV.out]
  clear HRV
  have HR : Hid (r = a % b) := hr
  have HZ : Hid (a % b = 0) := hz
  clear h hs k ht hb hr hz
  go_enter Tryd.func29, Tryd.ntmps29
  go_wp2_with fail
  obtain ⟨W0, hW0⟩ : ∃ W0, W0 = (((w.alloc (.cells #[.bool false, .slice p m c] 35)).alloc (.cells #[.bool false, .slice q n d] 35)).alloc (.cells #[.bool false, .slice none 0 0] 35)) := ⟨_, rfl⟩
  have Xx : Hid (Box W0 (w.heap.size) (.bool false) (.slice p m c)) := by rw [hW0]; exact ⟨by go_simp, by go_simp, by go_simp, by go_simp⟩
  have Xy : Hid (Box W0 (w.heap.size + 1) (.bool false) (.slice q n d)) := by rw [hW0]; exact ⟨by go_simp, by go_simp, by go_simp, by go_simp⟩
  have Xr : Hid (Box W0 (w.heap.size + 1 + 1) (.bool false) (.slice none 0 0)) := by rw [hW0]; exact ⟨by go_simp, by go_simp, by go_simp, by go_simp⟩
  have hb0 : Below w.heap.size w W0 := by rw [hW0]; exact below3 w _ _ _
  rw [← hW0]
  clear hW0
  have hbw : Below w.heap.size w w := Below.refl _ _
  obtain ⟨gr, hgr⟩ : ∃ g, g = w.heap.size + 1 + 1 := ⟨_, rfl⟩
  have HGr : Hid (w.heap.size ≤ gr) := by rw [hgr]; show _ ≤ _; omega
  rw [← hgr] at Xr
  try rw [← hgr]
  obtain ⟨gy, hgy⟩ : ∃ g, g = w.heap.size + 1 := ⟨_, rfl⟩
  have HGy : Hid (w.heap.size ≤ gy) := by rw [hgy]; show _ ≤ _; omega
  rw [← hgy] at Xy
  try rw [← hgy]
  obtain ⟨gx, hgx⟩ : ∃ g, g = w.heap.size := ⟨_, rfl⟩
  have HGx : Hid (w.heap.size ≤ gx) := by rw [hgx]; show _ ≤ _; omega
  rw [← hgx] at Xx
  try rw [← hgx]
  have HGD : Hid (gx ≠ gy ∧ gx ≠ gr ∧ gy ≠ gx ∧ gy ≠ gr ∧ gr ≠ gx ∧ gr ≠ gy) := by rw [hgx, hgy, hgr]; exact ⟨by omega, by omega, by omega, by omega, by omega, by omega⟩
  clear hgx hgy hgr
  have H' : Hid (Num W0 p m c xs a) := H.out.below hb0
  clear H
  have H := H'
  clear H'
  have K' : Hid (Num W0 q n d ys b) := K.out.below hb0
  clear K
  have K := K'
  clear K'
  have hbw' := Below.on hbw hb0
  clear hbw
  have hbw := hbw'
  clear hbw'
  clear hb0
  refine (numform_t false H.out (fun hh => by cases hh)).mono ?_
  rintro e w1 ⟨rfl, hb1⟩
  have Yx : Hid (Box w1 gx (.bool false) (.slice p m c)) := Xx.out.below hb1
  clear Xx
  have Xx := Yx
  clear Yx
  have Yy : Hid (Box w1 gy (.bool false) (.slice q n d)) := Xy.out.below hb1
  clear Xy
  have Xy := Yy
  clear Yy
  have Yr : Hid (Box w1 gr (.bool false) (.slice none 0 0)) := Xr.out.below hb1
  clear Xr
  have Xr := Yr
  clear Yr
  have H' : Hid (Num w1 p m c xs a) := H.out.below hb1
  clear H
  have H := H'
  clear H'
  have K' : Hid (Num w1 q n d ys b) := K.out.below hb1
  clear K
  have K := K'
  clear K'
  have hbw' := Below.on hbw hb1
  clear hbw
  have hbw := hbw'
  clear hbw'
  clear hb1
  obtain ⟨cy0, cy1, fy0, fy1⟩ := Xy.out
  have hney : gy < w1.heap.size := World.block_lt_of_cell? w1 _ cy0
  go_wp2_with fail
  clear cy0 cy1 fy0 fy1 hney
  refine (numform_t false K.out (fun hh => by cases hh)).mono ?_
  rintro e w2 ⟨rfl, hb2⟩
  have Yx : Hid (Box w2 gx (.bool false) (.slice p m c)) := Xx.out.below hb2
  clear Xx
  have Xx := Yx
  clear Yx
  have Yy : Hid (Box w2 gy (.bool false) (.slice q n d)) := Xy.out.below hb2
  clear Xy
  have Xy := Yy
  clear Yy
  have Yr : Hid (Box w2 gr (.bool false) (.slice none 0 0)) := Xr.out.below hb2
  clear Xr
  have Xr := Yr
  clear Yr
  have H' : Hid (Num w2 p m c xs a) := H.out.below hb2
  clear H
  have H := H'
  clear H'
  have K' : Hid (Num w2 q n d ys b) := K.out.below hb2
  clear K
  have K := K'
  clear K'
  have hbw' := Below.on hbw hb2
  clear hbw
  have hbw := hbw'
  clear hbw'
  clear hb2
  obtain ⟨cx0, cx1, fx0, fx1⟩ := Xx.out
  have hnex : gx < w2.heap.size := World.block_lt_of_cell? w2 _ cx0
  obtain ⟨cy0, cy1, fy0, fy1⟩ := Xy.out
  have hney : gy < w2.heap.size := World.block_lt_of_cell? w2 _ cy0
  go_wp2_with fail
  clear cx0 cx1 fx0 fx1 hnex
  clear cy0 cy1 fy0 fy1 hney
  have HRL : Hid (gr < w2.heap.size ∧ w.heap.size ≤ w2.heap.size) := ⟨Xr.out.lt, hbw.size⟩
  refine (quorem_any H.out.at_ K.out.at_ H.out.nf K.out.nf H.out.le K.out.le HB0.out).mono ?_
  rintro e w3 ⟨v1, v2, rfl, ⟨p3, m3, z3, rfl, ho3, hn3, hm3⟩, ⟨p4, m4, z4, rfl, ho4, hn4, hm4⟩, hb3⟩
  clear ho3 hn3 hm3
  have Yx : Hid (Box w3 gx (.bool false) (.slice p m c)) := Xx.out.below hb3
  clear Xx
  have Xx := Yx
  clear Yx
  have Yy : Hid (Box w3 gy (.bool false) (.slice q n d)) := Xy.out.below hb3
  clear Xy
  have Xy := Yy
  clear Yy
  have Yr : Hid (Box w3 gr (.bool false) (.slice none 0 0)) := Xr.out.below hb3
  clear Xr
  have Xr := Yr
  clear Yr
  have H' : Hid (Num w3 p m c xs a) := H.out.below hb3
  clear H
  have H := H'
  clear H'
  have K' : Hid (Num w3 q n d ys b) := K.out.below hb3
  clear K
  have K := K'
  clear K'
  have hbw' := Below.on hbw hb3
  clear hbw
  have hbw := hbw'
  clear hbw'
  clear hb3
  have HO4 : Hid (Own w2.heap.size w3 p4 m4 z4) := ho4
  have N4 : Hid (Nf B64 z4 (a % b) ∧ m4 ≤ 8192) := ⟨hn4, hm4⟩
  have hm40 : m4 = 0 := (Num.of ho4 hn4 hm4).zero.2 HZ.out
  clear ho4 hn4 hm4
  subst hm40
  obtain ⟨cx0, cx1, fx0, fx1⟩ := Xx.out
  have hnex : gx < w3.heap.size := World.block_lt_of_cell? w3 _ cx0
  obtain ⟨cy0, cy1, fy0, fy1⟩ := Xy.out
  have hney : gy < w3.heap.size := World.block_lt_of_cell? w3 _ cy0
  go_wp2_with fail
  clear cx0 cx1 fx0 fx1 hnex
  clear cy0 cy1 fy0 fy1 hney
  refine (signed_any false p4 0 0 w3).mono ?_
  rintro e w6 ⟨rfl, hb6⟩
  have Yx : Hid (Box w6 gx (.bool false) (.slice p m c)) := Xx.out.below hb6
  clear Xx
  have Xx := Yx
  clear Yx
  have Yy : Hid (Box w6 gy (.bool false) (.slice q n d)) := Xy.out.below hb6
  clear Xy
  have Xy := Yy
  clear Yy
  have Yr : Hid (Box w6 gr (.bool false) (.slice none 0 0)) := Xr.out.below hb6
  clear Xr
  have Xr := Yr
  clear Yr
  have H' : Hid (Num w6 p m c xs a) := H.out.below hb6
  clear H
  have H := H'
  clear H'
  have K' : Hid (Num w6 q n d ys b) := K.out.below hb6
  clear K
  have K := K'
  clear K'
  have HO4' : Hid (Own w2.heap.size w6 p4 0 z4) := HO4.out.below hb6
  clear HO4
  have HO4 := HO4'
  clear HO4'
  have hbw' := Below.on hbw hb6
  clear hbw
  have hbw := hbw'
  clear hbw'
  clear hb6
  obtain ⟨b9, hb9⟩ : ∃ b, b = (false && decide (0 < 0)) := ⟨_, rfl⟩
  rw [← hb9]
  have HB9 : Hid (b9 = (false && decide (0 < 0))) := hb9
  clear hb9
  obtain ⟨cr0, cr1, fr0, fr1⟩ := Xr.out
  have hner : gr < w6.heap.size := World.block_lt_of_cell? w6 _ cr0
  go_wp2_with fail
  refine bodyPost_ret (v := .tuple #[ZV b9 p4 0 0, .int .i64 0]) (by rw [results_cell_tmp rfl]; go_simp) rfl ⟨_, rfl, ?_, ?_⟩
  · rw [HB9.out]
    exact AnsZ.mk _ (own_set2 HO4.out HRL.out.1 HRL.out.2 _ _) (by rw [HR.out]; exact N4.out.1) N4.out.2
  · exact bSet (bSet hbw _ _ _ HGr.out) _ _ _ HGr.out
set_option maxRecDepth 20000 in
set_option maxHeartbeats 4000000 in
theorem mod_001 {p q : Option Addr} {m c n d : Nat} {xs ys : List Nat} {a b : Nat} {w : World} (h : Num w p m c xs a) (hs : false = true → 0 < a) (k : Num w q n d ys b) (ht : false = true → 0 < b) (hb : b ≠ 0) (hz : a % b ≠ 0) :
    Calls Tryd.prog 29 #[ZV false p m c, ZV false q n d] w fun e w' => ∃ v, e = .returned (.tuple #[v, .int .i64 0]) ∧ AnsZ w.heap.size w' v (mo false false a b) ∧ Below w.heap.size w w' := by
  have H : Hid (Num w p m c xs a) := h
  have HS : Hid (false = true → 0 < a) := hs
  have K : Hid (Num w q n d ys b) := k
  have HT : Hid (false = true → 0 < b) := ht
  have HB0 : Hid (b ≠ 0) := hb
  obtain ⟨r, hr⟩ : ∃ r, r = a % b := ⟨_, rfl⟩
  have HRV : Hid (mo false false a b = iv false r) := by show _ = _; rw [hr]; unfold mo; rw [decide_eq_true hz]; rfl
  rw [HRV.out]
  clear HRV
  have HR : Hid (r = a % b) := hr
  have HZ : Hid (a % b ≠ 0) := hz
  clear h hs k ht hb hr hz
  go_enter Tryd.func29, Tryd.ntmps29
  go_wp2_with fail
  obtain ⟨W0, hW0⟩ : ∃ W0, W0 = (((w.alloc (.cells #[.bool false, .slice p m c] 35)).alloc (.cells #[.bool false, .slice q n d] 35)).alloc (.cells #[.bool false, .slice none 0 0] 35)) := ⟨_, rfl⟩
  have Xx : Hid (Box W0 (w.heap.size) (.bool false) (.slice p m c)) := by rw [hW0]; exact ⟨by go_simp, by go_simp, by go_simp, by go_simp⟩
  have Xy : Hid (Box W0 (w.heap.size + 1) (.bool false) (.slice q n d)) := by rw [hW0]; exact ⟨by go_simp, by go_simp, by go_simp, by go_simp⟩
  have Xr : Hid (Box W0 (w.heap.size + 1 + 1) (.bool false) (.slice none 0 0)) := by rw [hW0]; exact ⟨by go_simp, by go_simp, by go_simp, by go_simp⟩
  have hb0 : Below w.heap.size w W0 := by rw [hW0]; exact below3 w _ _ _
  rw [← hW0]
  clear hW0
  have hbw : Below w.heap.size w w := Below.refl _ _
  obtain ⟨gr, hgr⟩ : ∃ g, g = w.heap.size + 1 + 1 := ⟨_, rfl⟩
  have HGr : Hid (w.heap.size ≤ gr) := by rw [hgr]; show _ ≤ _; omega
  rw [← hgr] at Xr
  try rw [← hgr]
  obtain ⟨gy, hgy⟩ : ∃ g, g = w.heap.size + 1 := ⟨_, rfl⟩
  have HGy : Hid (w.heap.size ≤ gy) := by rw [hgy]; show _ ≤ _; omega
  rw [← hgy] at Xy
  try rw [← hgy]
  obtain ⟨gx, hgx⟩ : ∃ g, g = w.heap.size := ⟨_, rfl⟩
  have HGx : Hid (w.heap.size ≤ gx) := by rw [hgx]; show _ ≤ _; omega
  rw [← hgx] at Xx
  try rw [← hgx]
  have HGD : Hid (gx ≠ gy ∧ gx ≠ gr ∧ gy ≠ gx ∧ gy ≠ gr ∧ gr ≠ gx ∧ gr ≠ gy) := by rw [hgx, hgy, hgr]; exact ⟨by omega, by omega, by omega, by omega, by omega, by omega⟩
  clear hgx hgy hgr
  have H' : Hid (Num W0 p m c xs a) := H.out.below hb0
  clear H
  have H := H'
  clear H'
  have K' : Hid (Num W0 q n d ys b) := K.out.below hb0
  clear K
  have K := K'
  clear K'
  have hbw' := Below.on hbw hb0
  clear hbw
  have hbw := hbw'
  clear hbw'
  clear hb0
  refine (numform_t false H.out (fun hh => by cases hh)).mono ?_
  rintro e w1 ⟨rfl, hb1⟩
  have Yx : Hid (Box w1 gx (.bool false) (.slice p m c)) := Xx.out.below hb1
  clear Xx
  have Xx := Yx
  clear Yx
  have Yy : Hid (Box w1 gy (.bool false) (.slice q n d)) := Xy.out.below hb1
  clear Xy
  have Xy := Yy
  clear Yy
  have Yr : Hid (Box w1 gr (.bool false) (.slice none 0 0)) := Xr.out.below hb1
  clear Xr
  have Xr := Yr
  clear Yr
  have H' : Hid (Num w1 p m c xs a) := H.out.below hb1
  clear H
  have H := H'
  clear H'
  have K' : Hid (Num w1 q n d ys b) := K.out.below hb1
  clear K
  have K := K'
  clear K'
  have hbw' := Below.on hbw hb1
  clear hbw
  have hbw := hbw'
  clear hbw'
  clear hb1
  obtain ⟨cy0, cy1, fy0, fy1⟩ := Xy.out
  have hney : gy < w1.heap.size := World.block_lt_of_cell? w1 _ cy0
  go_wp2_with fail
  clear cy0 cy1 fy0 fy1 hney
  refine (numform_t false K.out (fun hh => by cases hh)).mono ?_
  rintro e w2 ⟨rfl, hb2⟩
  have Yx : Hid (Box w2 gx (.bool false) (.slice p m c)) := Xx.out.below hb2
  clear Xx
  have Xx := Yx
  clear Yx
  have Yy : Hid (Box w2 gy (.bool false) (.slice q n d)) := Xy.out.below hb2
  clear Xy
  have Xy := Yy
  clear Yy
  have Yr : Hid (Box w2 gr (.bool false) (.slice none 0 0)) := Xr.out.below hb2
  clear Xr
  have Xr := Yr
  clear Yr
  have H' : Hid (Num w2 p m c xs a) := H.out.below hb2
  clear H
  have H := H'
  clear H'
  have K' : Hid (Num w2 q n d ys b) := K.out.below hb2
  clear K
  have K := K'
  clear K'
  have hbw' := Below.on hbw hb2
  clear hbw
  have hbw := hbw'
  clear hbw'
  clear hb2
  obtain ⟨cx0, cx1, fx0, fx1⟩ := Xx.out
  have hnex : gx < w2.heap.size := World.block_lt_of_cell? w2 _ cx0
  obtain ⟨cy0, cy1, fy0, fy1⟩ := Xy.out
  have hney : gy < w2.heap.size := World.block_lt_of_cell? w2 _ cy0
  go_wp2_with fail
  clear cx0 cx1 fx0 fx1 hnex
  clear cy0 cy1 fy0 fy1 hney
  have HRL : Hid (gr < w2.heap.size ∧ w.heap.size ≤ w2.heap.size) := ⟨Xr.out.lt, hbw.size⟩
  refine (quorem_any H.out.at_ K.out.at_ H.out.nf K.out.nf H.out.le K.out.le HB0.out).mono ?_
  rintro e w3 ⟨v1, v2, rfl, ⟨p3, m3, z3, rfl, ho3, hn3, hm3⟩, ⟨p4, m4, z4, rfl, ho4, hn4, hm4⟩, hb3⟩
  clear ho3 hn3 hm3
  have Yx : Hid (Box w3 gx (.bool false) (.slice p m c)) := Xx.out.below hb3
  clear Xx
  have Xx := Yx
  clear Yx
  have Yy : Hid (Box w3 gy (.bool false) (.slice q n d)) := Xy.out.below hb3
  clear Xy
  have Xy := Yy
  clear Yy
  have Yr : Hid (Box w3 gr (.bool false) (.slice none 0 0)) := Xr.out.below hb3
  clear Xr
  have Xr := Yr
  clear Yr
  have H' : Hid (Num w3 p m c xs a) := H.out.below hb3
  clear H
  have H := H'
  clear H'
  have K' : Hid (Num w3 q n d ys b) := K.out.below hb3
  clear K
  have K := K'
  clear K'
  have hbw' := Below.on hbw hb3
  clear hbw
  have hbw := hbw'
  clear hbw'
  clear hb3
  have HO4 : Hid (Own w2.heap.size w3 p4 m4 z4) := ho4
  have N4 : Hid (Nf B64 z4 (a % b) ∧ m4 ≤ 8192) := ⟨hn4, hm4⟩
  have hm40 : 0 < m4 := Nat.pos_of_ne_zero (fun e => HZ.out ((Num.of ho4 hn4 hm4).zero.1 e))
  clear ho4 hn4 hm4
  have hm4b : decide ((0 : Int) < (m4 : Int)) = true := decide_eq_true (by omega)
  have hm4c : decide (0 < m4) = true := decide_eq_true hm40
  obtain ⟨cx0, cx1, fx0, fx1⟩ := Xx.out
  have hnex : gx < w3.heap.size := World.block_lt_of_cell? w3 _ cx0
  obtain ⟨cy0, cy1, fy0, fy1⟩ := Xy.out
  have hney : gy < w3.heap.size := World.block_lt_of_cell? w3 _ cy0
  go_wp2_with fail
  clear cx0 cx1 fx0 fx1 hnex
  clear cy0 cy1 fy0 fy1 hney
  clear hm4b hm4c hm40
  refine (signed_any false p4 m4 m4 w3).mono ?_
  rintro e w6 ⟨rfl, hb6⟩
  have Yx : Hid (Box w6 gx (.bool false) (.slice p m c)) := Xx.out.below hb6
  clear Xx
  have Xx := Yx
  clear Yx
  have Yy : Hid (Box w6 gy (.bool false) (.slice q n d)) := Xy.out.below hb6
  clear Xy
  have Xy := Yy
  clear Yy
  have Yr : Hid (Box w6 gr (.bool false) (.slice none 0 0)) := Xr.out.below hb6
  clear Xr
  have Xr := Yr
  clear Yr
  have H' : Hid (Num w6 p m c xs a) := H.out.below hb6
  clear H
  have H := H'
  clear H'
  have K' : Hid (Num w6 q n d ys b) := K.out.below hb6
  clear K
  have K := K'
  clear K'
  have HO4' : Hid (Own w2.heap.size w6 p4 m4 z4) := HO4.out.below hb6
  clear HO4
  have HO4 := HO4'
  clear HO4'
  have hbw' := Below.on hbw hb6
  clear hbw
  have hbw := hbw'
  clear hbw'
  clear hb6
  obtain ⟨b9, hb9⟩ : ∃ b, b = (false && decide (0 < m4)) := ⟨_, rfl⟩
  rw [← hb9]
  have HB9 : Hid (b9 = (false && decide (0 < m4))) := hb9
  clear hb9
  obtain ⟨cr0, cr1, fr0, fr1⟩ := Xr.out
  have hner : gr < w6.heap.size := World.block_lt_of_cell? w6 _ cr0
  go_wp2_with fail
  refine bodyPost_ret (v := .tuple #[ZV b9 p4 m4 m4, .int .i64 0]) (by rw [results_cell_tmp rfl]; go_simp) rfl ⟨_, rfl, ?_, ?_⟩
  · rw [HB9.out]
    exact AnsZ.mk _ (own_set2 HO4.out HRL.out.1 HRL.out.2 _ _) (by rw [HR.out]; exact N4.out.1) N4.out.2
  · exact bSet (bSet hbw _ _ _ HGr.out) _ _ _ HGr.out
set_option maxRecDepth 20000 in
set_option maxHeartbeats 4000000 in
theorem mod_010 {p q : Option Addr} {m c n d : Nat} {xs ys : List Nat} {a b : Nat} {w : World} (h : Num w p m c xs a) (hs : false = true → 0 < a) (k : Num w q n d ys b) (ht : true = true → 0 < b) (hb : b ≠ 0) (hz : a % b = 0) :
    Calls Tryd.prog 29 #[ZV false p m c, ZV true q n d] w fun e w' => ∃ v, e = .returned (.tuple #[v, .int .i64 0]) ∧ AnsZ w.heap.size w' v (mo false true a b) ∧ Below w.heap.size w w' := by
  have H : Hid (Num w p m c xs a) := h
  have HS : Hid (false = true → 0 < a) := hs
  have K : Hid (Num w q n d ys b) := k
  have HT : Hid (true = true → 0 < b) := ht
  have HB0 : Hid (b ≠ 0) := hb
  obtain ⟨r, hr⟩ : ∃ r, r = a % b := ⟨_, rfl⟩
  have HRV : Hid (mo false true a b = iv true r) := by show _ = _; rw [hr]; unfold mo; rw [hz]; rfl
  rw [HRV.out]
  clear HRV
  have HR : Hid (r = a % b) := hr
  have HZ : Hid (a % b = 0) := hz
  clear h hs k ht hb hr hz
  go_enter Tryd.func29, Tryd.ntmps29
  go_wp2_with fail
  obtain ⟨W0, hW0⟩ : ∃ W0, W0 = (((w.alloc (.cells #[.bool false, .slice p m c] 35)).alloc (.cells #[.bool true, .slice q n d] 35)).alloc (.cells #[.bool false, .slice none 0 0] 35)) := ⟨_, rfl⟩
  have Xx : Hid (Box W0 (w.heap.size) (.bool false) (.slice p m c)) := by rw [hW0]; exact ⟨by go_simp, by go_simp, by go_simp, by go_simp⟩
  have Xy : Hid (Box W0 (w.heap.size + 1) (.bool true) (.slice q n d)) := by rw [hW0]; exact ⟨by go_simp, by go_simp, by go_simp, by go_simp⟩
  have Xr : Hid (Box W0 (w.heap.size + 1 + 1) (.bool false) (.slice none 0 0)) := by rw [hW0]; exact ⟨by go_simp, by go_simp, by go_simp, by go_simp⟩
  have hb0 : Below w.heap.size w W0 := by rw [hW0]; exact below3 w _ _ _
  rw [← hW0]
  clear hW0
  have hbw : Below w.heap.size w w := Below.refl _ _
  obtain ⟨gr, hgr⟩ : ∃ g, g = w.heap.size + 1 + 1 := ⟨_, rfl⟩
  have HGr : Hid (w.heap.size ≤ gr) := by rw [hgr]; show _ ≤ _; omega
  rw [← hgr] at Xr
  try rw [← hgr]
  obtain ⟨gy, hgy⟩ : ∃ g, g = w.heap.size + 1 := ⟨_, rfl⟩
  have HGy : Hid (w.heap.size ≤ gy) := by rw [hgy]; show _ ≤ _; omega
  rw [← hgy] at Xy
  try rw [← hgy]
  obtain ⟨gx, hgx⟩ : ∃ g, g = w.heap.size := ⟨_, rfl⟩
  have HGx : Hid (w.heap.size ≤ gx) := by rw [hgx]; show _ ≤ _; omega
  rw [← hgx] at Xx
  try rw [← hgx]
  have HGD : Hid (gx ≠ gy ∧ gx ≠ gr ∧ gy ≠ gx ∧ gy ≠ gr ∧ gr ≠ gx ∧ gr ≠ gy) := by rw [hgx, hgy, hgr]; exact ⟨by omega, by omega, by omega, by omega, by omega, by omega⟩
  clear hgx hgy hgr
  have H' : Hid (Num W0 p m c xs a) := H.out.below hb0
  clear H
  have H := H'
  clear H'
  have K' : Hid (Num W0 q n d ys b) := K.out.below hb0
  clear K
  have K := K'
  clear K'
  have hbw' := Below.on hbw hb0
  clear hbw
  have hbw := hbw'
  clear hbw'
  clear hb0
  refine (numform_t false H.out (fun hh => by cases hh)).mono ?_
  rintro e w1 ⟨rfl, hb1⟩
  have Yx : Hid (Box w1 gx (.bool false) (.slice p m c)) := Xx.out.below hb1
  clear Xx
  have Xx := Yx
  clear Yx
  have Yy : Hid (Box w1 gy (.bool true) (.slice q n d)) := Xy.out.below hb1
  clear Xy
  have Xy := Yy
  clear Yy
  have Yr : Hid (Box w1 gr (.bool false) (.slice none 0 0)) := Xr.out.below hb1
  clear Xr
  have Xr := Yr
  clear Yr
  have H' : Hid (Num w1 p m c xs a) := H.out.below hb1
  clear H
  have H := H'
  clear H'
  have K' : Hid (Num w1 q n d ys b) := K.out.below hb1
  clear K
  have K := K'
  clear K'
  have hbw' := Below.on hbw hb1
  clear hbw
  have hbw := hbw'
  clear hbw'
  clear hb1
  obtain ⟨cy0, cy1, fy0, fy1⟩ := Xy.out
  have hney : gy < w1.heap.size := World.block_lt_of_cell? w1 _ cy0
  go_wp2_with fail
  clear cy0 cy1 fy0 fy1 hney
  refine (numform_t true K.out (fun _ => HT.out (by simp))).mono ?_
  rintro e w2 ⟨rfl, hb2⟩
  have Yx : Hid (Box w2 gx (.bool false) (.slice p m c)) := Xx.out.below hb2
  clear Xx
  have Xx := Yx
  clear Yx
  have Yy : Hid (Box w2 gy (.bool true) (.slice q n d)) := Xy.out.below hb2
  clear Xy
  have Xy := Yy
  clear Yy
  have Yr : Hid (Box w2 gr (.bool false) (.slice none 0 0)) := Xr.out.below hb2
  clear Xr
  have Xr := Yr
  clear Yr
  have H' : Hid (Num w2 p m c xs a) := H.out.below hb2
  clear H
  have H := H'
  clear H'
  have K' : Hid (Num w2 q n d ys b) := K.out.below hb2
  clear K
  have K := K'
  clear K'
  have hbw' := Below.on hbw hb2
  clear hbw
  have hbw := hbw'
  clear hbw'
  clear hb2
  obtain ⟨cx0, cx1, fx0, fx1⟩ := Xx.out
  have hnex : gx < w2.heap.size := World.block_lt_of_cell? w2 _ cx0
  obtain ⟨cy0, cy1, fy0, fy1⟩ := Xy.out
  have hney : gy < w2.heap.size := World.block_lt_of_cell? w2 _ cy0
  go_wp2_with fail
  clear cx0 cx1 fx0 fx1 hnex
  clear cy0 cy1 fy0 fy1 hney
  have HRL : Hid (gr < w2.heap.size ∧ w.heap.size ≤ w2.heap.size) := ⟨Xr.out.lt, hbw.size⟩
  refine (quorem_any H.out.at_ K.out.at_ H.out.nf K.out.nf H.out.le K.out.le HB0.out).mono ?_
  rintro e w3 ⟨v1, v2, rfl, ⟨p3, m3, z3, rfl, ho3, hn3, hm3⟩, ⟨p4, m4, z4, rfl, ho4, hn4, hm4⟩, hb3⟩
  clear ho3 hn3 hm3
  have Yx : Hid (Box w3 gx (.bool false) (.slice p m c)) := Xx.out.below hb3
  clear Xx
  have Xx := Yx
  clear Yx
  have Yy : Hid (Box w3 gy (.bool true) (.slice q n d)) := Xy.out.below hb3
  clear Xy
  have Xy := Yy
  clear Yy
  have Yr : Hid (Box w3 gr (.bool false) (.slice none 0 0)) := Xr.out.below hb3
  clear Xr
  have Xr := Yr
  clear Yr
  have H' : Hid (Num w3 p m c xs a) := H.out.below hb3
  clear H
  have H := H'
  clear H'
  have K' : Hid (Num w3 q n d ys b) := K.out.below hb3
  clear K
  have K := K'
  clear K'
  have hbw' := Below.on hbw hb3
  clear hbw
  have hbw := hbw'
  clear hbw'
  clear hb3
  have HO4 : Hid (Own w2.heap.size w3 p4 m4 z4) := ho4
  have N4 : Hid (Nf B64 z4 (a % b) ∧ m4 ≤ 8192) := ⟨hn4, hm4⟩
  have hm40 : m4 = 0 := (Num.of ho4 hn4 hm4).zero.2 HZ.out
  clear ho4 hn4 hm4
  subst hm40
  obtain ⟨cx0, cx1, fx0, fx1⟩ := Xx.out
  have hnex : gx < w3.heap.size := World.block_lt_of_cell? w3 _ cx0
  obtain ⟨cy0, cy1, fy0, fy1⟩ := Xy.out
  have hney : gy < w3.heap.size := World.block_lt_of_cell? w3 _ cy0
  go_wp2_with fail
  clear cx0 cx1 fx0 fx1 hnex
  clear cy0 cy1 fy0 fy1 hney
  refine (signed_any true p4 0 0 w3).mono ?_
  rintro e w6 ⟨rfl, hb6⟩
  have Yx : Hid (Box w6 gx (.bool false) (.slice p m c)) := Xx.out.below hb6
  clear Xx
  have Xx := Yx
  clear Yx
  have Yy : Hid (Box w6 gy (.bool true) (.slice q n d)) := Xy.out.below hb6
  clear Xy
  have Xy := Yy
  clear Yy
  have Yr : Hid (Box w6 gr (.bool false) (.slice none 0 0)) := Xr.out.below hb6
  clear Xr
  have Xr := Yr
  clear Yr
  have H' : Hid (Num w6 p m c xs a) := H.out.below hb6
  clear H
  have H := H'
  clear H'
  have K' : Hid (Num w6 q n d ys b) := K.out.below hb6
  clear K
  have K := K'
  clear K'
  have HO4' : Hid (Own w2.heap.size w6 p4 0 z4) := HO4.out.below hb6
  clear HO4
  have HO4 := HO4'
  clear HO4'
  have hbw' := Below.on hbw hb6
  clear hbw
  have hbw := hbw'
  clear hbw'
  clear hb6
  obtain ⟨b9, hb9⟩ : ∃ b, b = (true && decide (0 < 0)) := ⟨_, rfl⟩
  rw [← hb9]
  have HB9 : Hid (b9 = (true && decide (0 < 0))) := hb9
  clear hb9
  obtain ⟨cr0, cr1, fr0, fr1⟩ := Xr.out
  have hner : gr < w6.heap.size := World.block_lt_of_cell? w6 _ cr0
  go_wp2_with fail
  refine bodyPost_ret (v := .tuple #[ZV b9 p4 0 0, .int .i64 0]) (by rw [results_cell_tmp rfl]; go_simp) rfl ⟨_, rfl, ?_, ?_⟩
  · rw [HB9.out]
    exact AnsZ.mk _ (own_set2 HO4.out HRL.out.1 HRL.out.2 _ _) (by rw [HR.out]; exact N4.out.1) N4.out.2
  · exact bSet (bSet hbw _ _ _ HGr.out) _ _ _ HGr.out
set_option maxRecDepth 20000 in
set_option maxHeartbeats 4000000 in
theorem mod_011 {p q : Option Addr} {m c n d : Nat} {xs ys : List Nat} {a b : Nat} {w : World} (h : Num w p m c xs a) (hs : false = true → 0 < a) (k : Num w q n d ys b) (ht : true = true → 0 < b) (hb : b ≠ 0) (hz : a % b ≠ 0) :
    Calls Tryd.prog 29 #[ZV false p m c, ZV true q n d] w fun e w' => ∃ v, e = .returned (.tuple #[v, .int .i64 0]) ∧ AnsZ w.heap.size w' v (mo false true a b) ∧ Below w.heap.size w w' := by
  have H : Hid (Num w p m c xs a) := h
  have HS : Hid (false = true → 0 < a) := hs
  have K : Hid (Num w q n d ys b) := k
  have HT : Hid (true = true → 0 < b) := ht
  have HB0 : Hid (b ≠ 0) := hb
  obtain ⟨r, hr⟩ : ∃ r, r = b - a % b := ⟨_, rfl⟩
  have HRV : Hid (mo false true a b = iv true r) := by show _ = _; rw [hr]; unfold mo; rw [decide_eq_true hz]; rfl
  rw [HRV.out]
  clear HRV
  have HR : Hid (r = b - a % b) := hr
  have HZ : Hid (a % b ≠ 0) := hz
  clear h hs k ht hb hr hz
  go_enter Tryd.func29, Tryd.ntmps29
  go_wp2_with fail
  obtain ⟨W0, hW0⟩ : ∃ W0, W0 = (((w.alloc (.cells #[.bool false, .slice p m c] 35)).alloc (.cells #[.bool true, .slice q n d] 35)).alloc (.cells #[.bool false, .slice none 0 0] 35)) := ⟨_, rfl⟩
  have Xx : Hid (Box W0 (w.heap.size) (.bool false) (.slice p m c)) := by rw [hW0]; exact ⟨by go_simp, by go_simp, by go_simp, by go_simp⟩
  have Xy : Hid (Box W0 (w.heap.size + 1) (.bool true) (.slice q n d)) := by rw [hW0]; exact ⟨by go_simp, by go_simp, by go_simp, by go_simp⟩
  have Xr : Hid (Box W0 (w.heap.size + 1 + 1) (.bool false) (.slice none 0 0)) := by rw [hW0]; exact ⟨by go_simp, by go_simp, by go_simp, by go_simp⟩
  have hb0 : Below w.heap.size w W0 := by rw [hW0]; exact below3 w _ _ _
  rw [← hW0]
  clear hW0
  have hbw : Below w.heap.size w w := Below.refl _ _
  obtain ⟨gr, hgr⟩ : ∃ g, g = w.heap.size + 1 + 1 := ⟨_, rfl⟩
  have HGr : Hid (w.heap.size ≤ gr) := by rw [hgr]; show _ ≤ _; omega
  rw [← hgr] at Xr
  try rw [← hgr]
  obtain ⟨gy, hgy⟩ : ∃ g, g = w.heap.size + 1 := ⟨_, rfl⟩
  have HGy : Hid (w.heap.size ≤ gy) := by rw [hgy]; show _ ≤ _; omega
  rw [← hgy] at Xy
  try rw [← hgy]
  obtain ⟨gx, hgx⟩ : ∃ g, g = w.heap.size := ⟨_, rfl⟩
  have HGx : Hid (w.heap.size ≤ gx) := by rw [hgx]; show _ ≤ _; omega
  rw [← hgx] at Xx
  try rw [← hgx]
  have HGD : Hid (gx ≠ gy ∧ gx ≠ gr ∧ gy ≠ gx ∧ gy ≠ gr ∧ gr ≠ gx ∧ gr ≠ gy) := by rw [hgx, hgy, hgr]; exact ⟨by omega, by omega, by omega, by omega, by omega, by omega⟩
  clear hgx hgy hgr
  have H' : Hid (Num W0 p m c xs a) := H.out.below hb0
  clear H
  have H := H'
  clear H'
  have K' : Hid (Num W0 q n d ys b) := K.out.below hb0
  clear K
  have K := K'
  clear K'
  have hbw' := Below.on hbw hb0
  clear hbw
  have hbw := hbw'
  clear hbw'
  clear hb0
  refine (numform_t false H.out (fun hh => by cases hh)).mono ?_
  rintro e w1 ⟨rfl, hb1⟩
  have Yx : Hid (Box w1 gx (.bool false) (.slice p m c)) := Xx.out.below hb1
  clear Xx
  have Xx := Yx
  clear Yx
  have Yy : Hid (Box w1 gy (.bool true) (.slice q n d)) := Xy.out.below hb1
  clear Xy
  have Xy := Yy
  clear Yy
  have Yr : Hid (Box w1 gr (.bool false) (.slice none 0 0)) := Xr.out.below hb1
  clear Xr
  have Xr := Yr
  clear Yr
  have H' : Hid (Num w1 p m c xs a) := H.out.below hb1
  clear H
  have H := H'
  clear H'
  have K' : Hid (Num w1 q n d ys b) := K.out.below hb1
  clear K
  have K := K'
  clear K'
  have hbw' := Below.on hbw hb1
  clear hbw
  have hbw := hbw'
  clear hbw'
  clear hb1
  obtain ⟨cy0, cy1, fy0, fy1⟩ := Xy.out
  have hney : gy < w1.heap.size := World.block_lt_of_cell? w1 _ cy0
  go_wp2_with fail
  clear cy0 cy1 fy0 fy1 hney
  refine (numform_t true K.out (fun _ => HT.out (by simp))).mono ?_
  rintro e w2 ⟨rfl, hb2⟩
  have Yx : Hid (Box w2 gx (.bool false) (.slice p m c)) := Xx.out.below hb2
  clear Xx
  have Xx := Yx
  clear Yx
  have Yy : Hid (Box w2 gy (.bool true) (.slice q n d)) := Xy.out.below hb2
  clear Xy
  have Xy := Yy
  clear Yy
  have Yr : Hid (Box w2 gr (.bool false) (.slice none 0 0)) := Xr.out.below hb2
  clear Xr
  have Xr := Yr
  clear Yr
  have H' : Hid (Num w2 p m c xs a) := H.out.below hb2
  clear H
  have H := H'
  clear H'
  have K' : Hid (Num w2 q n d ys b) := K.out.below hb2
  clear K
  have K := K'
  clear K'
  have hbw' := Below.on hbw hb2
  clear hbw
  have hbw := hbw'
  clear hbw'
  clear hb2
  obtain ⟨cx0, cx1, fx0, fx1⟩ := Xx.out
  have hnex : gx < w2.heap.size := World.block_lt_of_cell? w2 _ cx0
  obtain ⟨cy0, cy1, fy0, fy1⟩ := Xy.out
  have hney : gy < w2.heap.size := World.block_lt_of_cell? w2 _ cy0
  go_wp2_with fail
  clear cx0 cx1 fx0 fx1 hnex
  clear cy0 cy1 fy0 fy1 hney
  have HRL : Hid (gr < w2.heap.size ∧ w.heap.size ≤ w2.heap.size) := ⟨Xr.out.lt, hbw.size⟩
  refine (quorem_any H.out.at_ K.out.at_ H.out.nf K.out.nf H.out.le K.out.le HB0.out).mono ?_
  rintro e w3 ⟨v1, v2, rfl, ⟨p3, m3, z3, rfl, ho3, hn3, hm3⟩, ⟨p4, m4, z4, rfl, ho4, hn4, hm4⟩, hb3⟩
  clear ho3 hn3 hm3
  have Yx : Hid (Box w3 gx (.bool false) (.slice p m c)) := Xx.out.below hb3
  clear Xx
  have Xx := Yx
  clear Yx
  have Yy : Hid (Box w3 gy (.bool true) (.slice q n d)) := Xy.out.below hb3
  clear Xy
  have Xy := Yy
  clear Yy
  have Yr : Hid (Box w3 gr (.bool false) (.slice none 0 0)) := Xr.out.below hb3
  clear Xr
  have Xr := Yr
  clear Yr
  have H' : Hid (Num w3 p m c xs a) := H.out.below hb3
  clear H
  have H := H'
  clear H'
  have K' : Hid (Num w3 q n d ys b) := K.out.below hb3
  clear K
  have K := K'
  clear K'
  have hbw' := Below.on hbw hb3
  clear hbw
  have hbw := hbw'
  clear hbw'
  clear hb3
  have HO4 : Hid (Own w2.heap.size w3 p4 m4 z4) := ho4
  have N4 : Hid (Nf B64 z4 (a % b) ∧ m4 ≤ 8192) := ⟨hn4, hm4⟩
  have hm40 : 0 < m4 := Nat.pos_of_ne_zero (fun e => HZ.out ((Num.of ho4 hn4 hm4).zero.1 e))
  clear ho4 hn4 hm4
  have hm4b : decide ((0 : Int) < (m4 : Int)) = true := decide_eq_true (by omega)
  have hm4c : decide (0 < m4) = true := decide_eq_true hm40
  obtain ⟨cx0, cx1, fx0, fx1⟩ := Xx.out
  have hnex : gx < w3.heap.size := World.block_lt_of_cell? w3 _ cx0
  obtain ⟨cy0, cy1, fy0, fy1⟩ := Xy.out
  have hney : gy < w3.heap.size := World.block_lt_of_cell? w3 _ cy0
  go_wp2_with fail
  clear cx0 cx1 fx0 fx1 hnex
  clear cy0 cy1 fy0 fy1 hney
  clear hm4b hm4c hm40
  have M4 : Num w3 p4 m4 m4 z4 (a % b) := Num.of HO4.out N4.out.1 N4.out.2
  have HRL5 : Hid (gr < w3.heap.size ∧ w.heap.size ≤ w3.heap.size) := ⟨Xr.out.lt, hbw.size⟩
  refine (sub_okN K.out.at_ M4.at_ K.out.nf M4.nf K.out.le M4.le (Nat.le_of_lt (Nat.mod_lt _ (Nat.pos_of_ne_zero HB0.out)))).mono ?_
  rintro e w5 ⟨⟨p5, m5, z5, rfl, ho5, hn5, hm5⟩, hb5⟩
  clear M4
  have Yx : Hid (Box w5 gx (.bool false) (.slice p m c)) := Xx.out.below hb5
  clear Xx
  have Xx := Yx
  clear Yx
  have Yy : Hid (Box w5 gy (.bool true) (.slice q n d)) := Xy.out.below hb5
  clear Xy
  have Xy := Yy
  clear Yy
  have Yr : Hid (Box w5 gr (.bool false) (.slice none 0 0)) := Xr.out.below hb5
  clear Xr
  have Xr := Yr
  clear Yr
  have H' : Hid (Num w5 p m c xs a) := H.out.below hb5
  clear H
  have H := H'
  clear H'
  have K' : Hid (Num w5 q n d ys b) := K.out.below hb5
  clear K
  have K := K'
  clear K'
  have HO4' : Hid (Own w2.heap.size w5 p4 m4 z4) := HO4.out.below hb5
  clear HO4
  have HO4 := HO4'
  clear HO4'
  have hbw' := Below.on hbw hb5
  clear hbw
  have hbw := hbw'
  clear hbw'
  clear hb5
  rw [← HR.out] at hn5
  have HO5 : Hid (Own w3.heap.size w5 p5 m5 z5) := ho5
  have N5 : Hid (Nf B64 z5 r ∧ m5 ≤ 8192) := ⟨hn5, hm5⟩
  clear ho5 hn5 hm5
  obtain ⟨cy0, cy1, fy0, fy1⟩ := Xy.out
  have hney : gy < w5.heap.size := World.block_lt_of_cell? w5 _ cy0
  go_wp2_with fail
  clear cy0 cy1 fy0 fy1 hney
  refine (signed_any true p5 m5 m5 w5).mono ?_
  rintro e w6 ⟨rfl, hb6⟩
  have Yx : Hid (Box w6 gx (.bool false) (.slice p m c)) := Xx.out.below hb6
  clear Xx
  have Xx := Yx
  clear Yx
  have Yy : Hid (Box w6 gy (.bool true) (.slice q n d)) := Xy.out.below hb6
  clear Xy
  have Xy := Yy
  clear Yy
  have Yr : Hid (Box w6 gr (.bool false) (.slice none 0 0)) := Xr.out.below hb6
  clear Xr
  have Xr := Yr
  clear Yr
  have H' : Hid (Num w6 p m c xs a) := H.out.below hb6
  clear H
  have H := H'
  clear H'
  have K' : Hid (Num w6 q n d ys b) := K.out.below hb6
  clear K
  have K := K'
  clear K'
  have HO4' : Hid (Own w2.heap.size w6 p4 m4 z4) := HO4.out.below hb6
  clear HO4
  have HO4 := HO4'
  clear HO4'
  have HO5' : Hid (Own w3.heap.size w6 p5 m5 z5) := HO5.out.below hb6
  clear HO5
  have HO5 := HO5'
  clear HO5'
  have hbw' := Below.on hbw hb6
  clear hbw
  have hbw := hbw'
  clear hbw'
  clear hb6
  obtain ⟨b9, hb9⟩ : ∃ b, b = (true && decide (0 < m5)) := ⟨_, rfl⟩
  rw [← hb9]
  have HB9 : Hid (b9 = (true && decide (0 < m5))) := hb9
  clear hb9
  obtain ⟨cr0, cr1, fr0, fr1⟩ := Xr.out
  have hner : gr < w6.heap.size := World.block_lt_of_cell? w6 _ cr0
  go_wp2_with fail
  refine bodyPost_ret (v := .tuple #[ZV b9 p5 m5 m5, .int .i64 0]) (by rw [results_cell_tmp rfl]; go_simp) rfl ⟨_, rfl, ?_, ?_⟩
  · rw [HB9.out]
    exact AnsZ.mk _ (own_set2 HO5.out HRL5.out.1 HRL5.out.2 _ _) N5.out.1 N5.out.2
  · exact bSet (bSet hbw _ _ _ HGr.out) _ _ _ HGr.out
set_option maxRecDepth 20000 in
set_option maxHeartbeats 4000000 in
theorem mod_100 {p q : Option Addr} {m c n d : Nat} {xs ys : List Nat} {a b : Nat} {w : World} (h : Num w p m c xs a) (hs : true = true → 0 < a) (k : Num w q n d ys b) (ht : false = true → 0 < b) (hb : b ≠ 0) (hz : a % b = 0) :
    Calls Tryd.prog 29 #[ZV true p m c, ZV false q n d] w fun e w' => ∃ v, e = .returned (.tuple #[v, .int .i64 0]) ∧ AnsZ w.heap.size w' v (mo true false a b) ∧ Below w.heap.size w w' := by
  have H : Hid (Num w p m c xs a) := h
  have HS : Hid (true = true → 0 < a) := hs
  have K : Hid (Num w q n d ys b) := k
  have HT : Hid (false = true → 0 < b) := ht
  have HB0 : Hid (b ≠ 0) := hb
  obtain ⟨r, hr⟩ : ∃ r, r = a % b := ⟨_, rfl⟩
  have HRV : Hid (mo true false a b = iv false r) := by show _ = _; rw [hr]; unfold mo; rw [hz]; rfl
  rw [HRV.out]
  clear HRV
  have HR : Hid (r = a % b) := hr
  have HZ : Hid (a % b = 0) := hz
  clear h hs k ht hb hr hz
  go_enter Tryd.func29, Tryd.ntmps29
  go_wp2_with fail
  obtain ⟨W0, hW0⟩ : ∃ W0, W0 = (((w.alloc (.cells #[.bool true, .slice p m c] 35)).alloc (.cells #[.bool false, .slice q n d] 35)).alloc (.cells #[.bool false, .slice none 0 0] 35)) := ⟨_, rfl⟩
  have Xx : Hid (Box W0 (w.heap.size) (.bool true) (.slice p m c)) := by rw [hW0]; exact ⟨by go_simp, by go_simp, by go_simp, by go_simp⟩
  have Xy : Hid (Box W0 (w.heap.size + 1) (.bool false) (.slice q n d)) := by rw [hW0]; exact ⟨by go_simp, by go_simp, by go_simp, by go_simp⟩
  have Xr : Hid (Box W0 (w.heap.size + 1 + 1) (.bool false) (.slice none 0 0)) := by rw [hW0]; exact ⟨by go_simp, by go_simp, by go_simp, by go_simp⟩
  have hb0 : Below w.heap.size w W0 := by rw [hW0]; exact below3 w _ _ _
  rw [← hW0]
  clear hW0
  have hbw : Below w.heap.size w w := Below.refl _ _
  obtain ⟨gr, hgr⟩ : ∃ g, g = w.heap.size + 1 + 1 := ⟨_, rfl⟩
  have HGr : Hid (w.heap.size ≤ gr) := by rw [hgr]; show _ ≤ _; omega
  rw [← hgr] at Xr
  try rw [← hgr]
  obtain ⟨gy, hgy⟩ : ∃ g, g = w.heap.size + 1 := ⟨_, rfl⟩
  have HGy : Hid (w.heap.size ≤ gy) := by rw [hgy]; show _ ≤ _; omega
  rw [← hgy] at Xy
  try rw [← hgy]
  obtain ⟨gx, hgx⟩ : ∃ g, g = w.heap.size := ⟨_, rfl⟩
  have HGx : Hid (w.heap.size ≤ gx) := by rw [hgx]; show _ ≤ _; omega
  rw [← hgx] at Xx
  try rw [← hgx]
  have HGD : Hid (gx ≠ gy ∧ gx ≠ gr ∧ gy ≠ gx ∧ gy ≠ gr ∧ gr ≠ gx ∧ gr ≠ gy) := by rw [hgx, hgy, hgr]; exact ⟨by omega, by omega, by omega, by omega, by omega, by omega⟩
  clear hgx hgy hgr
  have H' : Hid (Num W0 p m c xs a) := H.out.below hb0
  clear H
  have H := H'
  clear H'
  have K' : Hid (Num W0 q n d ys b) := K.out.below hb0
  clear K
  have K := K'
  clear K'
  have hbw' := Below.on hbw hb0
  clear hbw
  have hbw := hbw'
  clear hbw'
  clear hb0
  refine (numform_t true H.out (fun _ => HS.out (by simp))).mono ?_
  rintro e w1 ⟨rfl, hb1⟩
  have Yx : Hid (Box w1 gx (.bool true) (.slice p m c)) := Xx.out.below hb1
  clear Xx
  have Xx := Yx
  clear Yx
  have Yy : Hid (Box w1 gy (.bool false) (.slice q n d)) := Xy.out.below hb1
  clear Xy
  have Xy := Yy
  clear Yy
  have Yr : Hid (Box w1 gr (.bool false) (.slice none 0 0)) := Xr.out.below hb1
  clear Xr
  have Xr := Yr
  clear Yr
  have H' : Hid (Num w1 p m c xs a) := H.out.below hb1
  clear H
  have H := H'
  clear H'
  have K' : Hid (Num w1 q n d ys b) := K.out.below hb1
  clear K
  have K := K'
  clear K'
  have hbw' := Below.on hbw hb1
  clear hbw
  have hbw := hbw'
  clear hbw'
  clear hb1
  obtain ⟨cy0, cy1, fy0, fy1⟩ := Xy.out
  have hney : gy < w1.heap.size := World.block_lt_of_cell? w1 _ cy0
  go_wp2_with fail
  clear cy0 cy1 fy0 fy1 hney
  refine (numform_t false K.out (fun hh => by cases hh)).mono ?_
  rintro e w2 ⟨rfl, hb2⟩
  have Yx : Hid (Box w2 gx (.bool true) (.slice p m c)) := Xx.out.below hb2
  clear Xx
  have Xx := Yx
  clear Yx
  have Yy : Hid (Box w2 gy (.bool false) (.slice q n d)) := Xy.out.below hb2
  clear Xy
  have Xy := Yy
  clear Yy
  have Yr : Hid (Box w2 gr (.bool false) (.slice none 0 0)) := Xr.out.below hb2
  clear Xr
  have Xr := Yr
  clear Yr
  have H' : Hid (Num w2 p m c xs a) := H.out.below hb2
  clear H
  have H := H'
  clear H'
  have K' : Hid (Num w2 q n d ys b) := K.out.below hb2
  clear K
  have K := K'
  clear K'
  have hbw' := Below.on hbw hb2
  clear hbw
  have hbw := hbw'
  clear hbw'
  clear hb2
  obtain ⟨cx0, cx1, fx0, fx1⟩ := Xx.out
  have hnex : gx < w2.heap.size := World.block_lt_of_cell? w2 _ cx0
  obtain ⟨cy0, cy1, fy0, fy1⟩ := Xy.out
  have hney : gy < w2.heap.size := World.block_lt_of_cell? w2 _ cy0
  go_wp2_with fail
  clear cx0 cx1 fx0 fx1 hnex
  clear cy0 cy1 fy0 fy1 hney
  have HRL : Hid (gr < w2.heap.size ∧ w.heap.size ≤ w2.heap.size) := ⟨Xr.out.lt, hbw.size⟩
  refine (quorem_any H.out.at_ K.out.at_ H.out.nf K.out.nf H.out.le K.out.le HB0.out).mono ?_
  rintro e w3 ⟨v1, v2, rfl, ⟨p3, m3, z3, rfl, ho3, hn3, hm3⟩, ⟨p4, m4, z4, rfl, ho4, hn4, hm4⟩, hb3⟩
  clear ho3 hn3 hm3
  have Yx : Hid (Box w3 gx (.bool true) (.slice p m c)) := Xx.out.below hb3
  clear Xx
  have Xx := Yx
  clear Yx
  have Yy : Hid (Box w3 gy (.bool false) (.slice q n d)) := Xy.out.below hb3
  clear Xy
  have Xy := Yy
  clear Yy
  have Yr : Hid (Box w3 gr (.bool false) (.slice none 0 0)) := Xr.out.below hb3
  clear Xr
  have Xr := Yr
  clear Yr
  have H' : Hid (Num w3 p m c xs a) := H.out.below hb3
  clear H
  have H := H'
  clear H'
  have K' : Hid (Num w3 q n d ys b) := K.out.below hb3
  clear K
  have K := K'
  clear K'
  have hbw' := Below.on hbw hb3
  clear hbw
  have hbw := hbw'
  clear hbw'
  clear hb3
  have HO4 : Hid (Own w2.heap.size w3 p4 m4 z4) := ho4
  have N4 : Hid (Nf B64 z4 (a % b) ∧ m4 ≤ 8192) := ⟨hn4, hm4⟩
  have hm40 : m4 = 0 := (Num.of ho4 hn4 hm4).zero.2 HZ.out
  clear ho4 hn4 hm4
  subst hm40
  obtain ⟨cx0, cx1, fx0, fx1⟩ := Xx.out
  have hnex : gx < w3.heap.size := World.block_lt_of_cell? w3 _ cx0
  obtain ⟨cy0, cy1, fy0, fy1⟩ := Xy.out
  have hney : gy < w3.heap.size := World.block_lt_of_cell? w3 _ cy0
  go_wp2_with fail
  clear cx0 cx1 fx0 fx1 hnex
  clear cy0 cy1 fy0 fy1 hney
  refine (signed_any false p4 0 0 w3).mono ?_
  rintro e w6 ⟨rfl, hb6⟩
  have Yx : Hid (Box w6 gx (.bool true) (.slice p m c)) := Xx.out.below hb6
  clear Xx
  have Xx := Yx
  clear Yx
  have Yy : Hid (Box w6 gy (.bool false) (.slice q n d)) := Xy.out.below hb6
  clear Xy
  have Xy := Yy
  clear Yy
  have Yr : Hid (Box w6 gr (.bool false) (.slice none 0 0)) := Xr.out.below hb6
  clear Xr
  have Xr := Yr
  clear Yr
  have H' : Hid (Num w6 p m c xs a) := H.out.below hb6
  clear H
  have H := H'
  clear H'
  have K' : Hid (Num w6 q n d ys b) := K.out.below hb6
  clear K
  have K := K'
  clear K'
  have HO4' : Hid (Own w2.heap.size w6 p4 0 z4) := HO4.out.below hb6
  clear HO4
  have HO4 := HO4'
  clear HO4'
  have hbw' := Below.on hbw hb6
  clear hbw
  have hbw := hbw'
  clear hbw'
  clear hb6
  obtain ⟨b9, hb9⟩ : ∃ b, b = (false && decide (0 < 0)) := ⟨_, rfl⟩
  rw [← hb9]
  have HB9 : Hid (b9 = (false && decide (0 < 0))) := hb9
  clear hb9
  obtain ⟨cr0, cr1, fr0, fr1⟩ := Xr.out
  have hner : gr < w6.heap.size := World.block_lt_of_cell? w6 _ cr0
  go_wp2_with fail
  refine bodyPost_ret (v := .tuple #[ZV b9 p4 0 0, .int .i64 0]) (by rw [results_cell_tmp rfl]; go_simp) rfl ⟨_, rfl, ?_, ?_⟩
  · rw [HB9.out]
    exact AnsZ.mk _ (own_set2 HO4.out HRL.out.1 HRL.out.2 _ _) (by rw [HR.out]; exact N4.out.1) N4.out.2
  · exact bSet (bSet hbw _ _ _ HGr.out) _ _ _ HGr.out
set_option maxRecDepth 20000 in
set_option maxHeartbeats 4000000 in
theorem mod_101 {p q : Option Addr} {m c n d : Nat} {xs ys : List Nat} {a b : Nat} {w : World} (h : Num w p m c xs a) (hs : true = true → 0 < a) (k : Num w q n d ys b) (ht : false = true → 0 < b) (hb : b ≠ 0) (hz : a % b ≠ 0) :
    Calls Tryd.prog 29 #[ZV true p m c, ZV false q n d] w fun e w' => ∃ v, e = .returned (.tuple #[v, .int .i64 0]) ∧ AnsZ w.heap.size w' v (mo true false a b) ∧ Below w.heap.size w w' := by
  have H : Hid (Num w p m c xs a) := h
  have HS : Hid (true = true → 0 < a) := hs
  have K : Hid (Num w q n d ys b) := k
  have HT : Hid (false = true → 0 < b) := ht
  have HB0 : Hid (b ≠ 0) := hb
  obtain ⟨r, hr⟩ : ∃ r, r = b - a % b := ⟨_, rfl⟩
  have HRV : Hid (mo true false a b = iv false r) := by show _ = _; rw [hr]; unfold mo; rw [decide_eq_true hz]; rfl
  rw [HRV.out]
  clear HRV
  have HR : Hid (r = b - a % b) := hr
  have HZ : Hid (a % b ≠ 0) := hz
  clear h hs k ht hb hr hz
  go_enter Tryd.func29, Tryd.ntmps29
  go_wp2_with fail
  obtain ⟨W0, hW0⟩ : ∃ W0, W0 = (((w.alloc (.cells #[.bool true, .slice p m c] 35)).alloc (.cells #[.bool false, .slice q n d] 35)).alloc (.cells #[.bool false, .slice none 0 0] 35)) := ⟨_, rfl⟩
  have Xx : Hid (Box W0 (w.heap.size) (.bool true) (.slice p m c)) := by rw [hW0]; exact ⟨by go_simp, by go_simp, by go_simp, by go_simp⟩
  have Xy : Hid (Box W0 (w.heap.size + 1) (.bool false) (.slice q n d)) := by rw [hW0]; exact ⟨by go_simp, by go_simp, by go_simp, by go_simp⟩
  have Xr : Hid (Box W0 (w.heap.size + 1 + 1) (.bool false) (.slice none 0 0)) := by rw [hW0]; exact ⟨by go_simp, by go_simp, by go_simp, by go_simp⟩
  have hb0 : Below w.heap.size w W0 := by rw [hW0]; exact below3 w _ _ _
  rw [← hW0]
  clear hW0
  have hbw : Below w.heap.size w w := Below.refl _ _
  obtain ⟨gr, hgr⟩ : ∃ g, g = w.heap.size + 1 + 1 := ⟨_, rfl⟩
  have HGr : Hid (w.heap.size ≤ gr) := by rw [hgr]; show _ ≤ _; omega
  rw [← hgr] at Xr
  try rw [← hgr]
  obtain ⟨gy, hgy⟩ : ∃ g, g = w.heap.size + 1 := ⟨_, rfl⟩
  have HGy : Hid (w.heap.size ≤ gy) := by rw [hgy]; show _ ≤ _; omega
  rw [← hgy] at Xy
  try rw [← hgy]
  obtain ⟨gx, hgx⟩ : ∃ g, g = w.heap.size := ⟨_, rfl⟩
  have HGx : Hid (w.heap.size ≤ gx) := by rw [hgx]; show _ ≤ _; omega
  rw [← hgx] at Xx
  try rw [← hgx]
  have HGD : Hid (gx ≠ gy ∧ gx ≠ gr ∧ gy ≠ gx ∧ gy ≠ gr ∧ gr ≠ gx ∧ gr ≠ gy) := by rw [hgx, hgy, hgr]; exact ⟨by omega, by omega, by omega, by omega, by omega, by omega⟩
  clear hgx hgy hgr
  have H' : Hid (Num W0 p m c xs a) := H.out.below hb0
  clear H
  have H := H'
  clear H'
  have K' : Hid (Num W0 q n d ys b) := K.out.below hb0
  clear K
  have K := K'
  clear K'
  have hbw' := Below.on hbw hb0
  clear hbw
  have hbw := hbw'
  clear hbw'
  clear hb0
  refine (numform_t true H.out (fun _ => HS.out (by simp))).mono ?_
  rintro e w1 ⟨rfl, hb1⟩
  have Yx : Hid (Box w1 gx (.bool true) (.slice p m c)) := Xx.out.below hb1
  clear Xx
  have Xx := Yx
  clear Yx
  have Yy : Hid (Box w1 gy (.bool false) (.slice q n d)) := Xy.out.below hb1
  clear Xy
  have Xy := Yy
  clear Yy
  have Yr : Hid (Box w1 gr (.bool false) (.slice none 0 0)) := Xr.out.below hb1
  clear Xr
  have Xr := Yr
  clear Yr
  have H' : Hid (Num w1 p m c xs a) := H.out.below hb1
  clear H
  have H := H'
  clear H'
  have K' : Hid (Num w1 q n d ys b) := K.out.below hb1
  clear K
  have K := K'
  clear K'
  have hbw' := Below.on hbw hb1
  clear hbw
  have hbw := hbw'
  clear hbw'
  clear hb1
  obtain ⟨cy0, cy1, fy0, fy1⟩ := Xy.out
  have hney : gy < w1.heap.size := World.block_lt_of_cell? w1 _ cy0
  go_wp2_with fail
  clear cy0 cy1 fy0 fy1 hney
  refine (numform_t false K.out (fun hh => by cases hh)).mono ?_
  rintro e w2 ⟨rfl, hb2⟩
  have Yx : Hid (Box w2 gx (.bool true) (.slice p m c)) := Xx.out.below hb2
  clear Xx
  have Xx := Yx
  clear Yx
  have Yy : Hid (Box w2 gy (.bool false) (.slice q n d)) := Xy.out.below hb2
  clear Xy
  have Xy := Yy
  clear Yy
  have Yr : Hid (Box w2 gr (.bool false) (.slice none 0 0)) := Xr.out.below hb2
  clear Xr
  have Xr := Yr
  clear Yr
  have H' : Hid (Num w2 p m c xs a) := H.out.below hb2
  clear H
  have H := H'
  clear H'
  have K' : Hid (Num w2 q n d ys b) := K.out.below hb2
  clear K
  have K := K'
  clear K'
  have hbw' := Below.on hbw hb2
  clear hbw
  have hbw := hbw'
  clear hbw'
  clear hb2
  obtain ⟨cx0, cx1, fx0, fx1⟩ := Xx.out
  have hnex : gx < w2.heap.size := World.block_lt_of_cell? w2 _ cx0
  obtain ⟨cy0, cy1, fy0, fy1⟩ := Xy.out
  have hney : gy < w2.heap.size := World.block_lt_of_cell? w2 _ cy0
  go_wp2_with fail
  clear cx0 cx1 fx0 fx1 hnex
  clear cy0 cy1 fy0 fy1 hney
  have HRL : Hid (gr < w2.heap.size ∧ w.heap.size ≤ w2.heap.size) := ⟨Xr.out.lt, hbw.size⟩
  refine (quorem_any H.out.at_ K.out.at_ H.out.nf K.out.nf H.out.le K.out.le HB0.out).mono ?_
  rintro e w3 ⟨v1, v2, rfl, ⟨p3, m3, z3, rfl, ho3, hn3, hm3⟩, ⟨p4, m4, z4, rfl, ho4, hn4, hm4⟩, hb3⟩
  clear ho3 hn3 hm3
  have Yx : Hid (Box w3 gx (.bool true) (.slice p m c)) := Xx.out.below hb3
  clear Xx
  have Xx := Yx
  clear Yx
  have Yy : Hid (Box w3 gy (.bool false) (.slice q n d)) := Xy.out.below hb3
  clear Xy
  have Xy := Yy
  clear Yy
  have Yr : Hid (Box w3 gr (.bool false) (.slice none 0 0)) := Xr.out.below hb3
  clear Xr
  have Xr := Yr
  clear Yr
  have H' : Hid (Num w3 p m c xs a) := H.out.below hb3
  clear H
  have H := H'
  clear H'
  have K' : Hid (Num w3 q n d ys b) := K.out.below hb3
  clear K
  have K := K'
  clear K'
  have hbw' := Below.on hbw hb3
  clear hbw
  have hbw := hbw'
  clear hbw'
  clear hb3
  have HO4 : Hid (Own w2.heap.size w3 p4 m4 z4) := ho4
  have N4 : Hid (Nf B64 z4 (a % b) ∧ m4 ≤ 8192) := ⟨hn4, hm4⟩
  have hm40 : 0 < m4 := Nat.pos_of_ne_zero (fun e => HZ.out ((Num.of ho4 hn4 hm4).zero.1 e))
  clear ho4 hn4 hm4
  have hm4b : decide ((0 : Int) < (m4 : Int)) = true := decide_eq_true (by omega)
  have hm4c : decide (0 < m4) = true := decide_eq_true hm40
  obtain ⟨cx0, cx1, fx0, fx1⟩ := Xx.out
  have hnex : gx < w3.heap.size := World.block_lt_of_cell? w3 _ cx0
  obtain ⟨cy0, cy1, fy0, fy1⟩ := Xy.out
  have hney : gy < w3.heap.size := World.block_lt_of_cell? w3 _ cy0
  go_wp2_with fail
  clear cx0 cx1 fx0 fx1 hnex
  clear cy0 cy1 fy0 fy1 hney
  clear hm4b hm4c hm40
  have M4 : Num w3 p4 m4 m4 z4 (a % b) := Num.of HO4.out N4.out.1 N4.out.2
  have HRL5 : Hid (gr < w3.heap.size ∧ w.heap.size ≤ w3.heap.size) := ⟨Xr.out.lt, hbw.size⟩
  refine (sub_okN K.out.at_ M4.at_ K.out.nf M4.nf K.out.le M4.le (Nat.le_of_lt (Nat.mod_lt _ (Nat.pos_of_ne_zero HB0.out)))).mono ?_
  rintro e w5 ⟨⟨p5, m5, z5, rfl, ho5, hn5, hm5⟩, hb5⟩
  clear M4
  have Yx : Hid (Box w5 gx (.bool true) (.slice p m c)) := Xx.out.below hb5
  clear Xx
  have Xx := Yx
  clear Yx
  have Yy : Hid (Box w5 gy (.bool false) (.slice q n d)) := Xy.out.below hb5
  clear Xy
  have Xy := Yy
  clear Yy
  have Yr : Hid (Box w5 gr (.bool false) (.slice none 0 0)) := Xr.out.below hb5
  clear Xr
  have Xr := Yr
  clear Yr
  have H' : Hid (Num w5 p m c xs a) := H.out.below hb5
  clear H
  have H := H'
  clear H'
  have K' : Hid (Num w5 q n d ys b) := K.out.below hb5
  clear K
  have K := K'
  clear K'
  have HO4' : Hid (Own w2.heap.size w5 p4 m4 z4) := HO4.out.below hb5
  clear HO4
  have HO4 := HO4'
  clear HO4'
  have hbw' := Below.on hbw hb5
  clear hbw
  have hbw := hbw'
  clear hbw'
  clear hb5
  rw [← HR.out] at hn5
  have HO5 : Hid (Own w3.heap.size w5 p5 m5 z5) := ho5
  have N5 : Hid (Nf B64 z5 r ∧ m5 ≤ 8192) := ⟨hn5, hm5⟩
  clear ho5 hn5 hm5
  obtain ⟨cy0, cy1, fy0, fy1⟩ := Xy.out
  have hney : gy < w5.heap.size := World.block_lt_of_cell? w5 _ cy0
  go_wp2_with fail
  clear cy0 cy1 fy0 fy1 hney
  refine (signed_any false p5 m5 m5 w5).mono ?_
  rintro e w6 ⟨rfl, hb6⟩
  have Yx : Hid (Box w6 gx (.bool true) (.slice p m c)) := Xx.out.below hb6
  clear Xx
  have Xx := Yx
  clear Yx
  have Yy : Hid (Box w6 gy (.bool false) (.slice q n d)) := Xy.out.below hb6
  clear Xy
  have Xy := Yy
  clear Yy
  have Yr : Hid (Box w6 gr (.bool false) (.slice none 0 0)) := Xr.out.below hb6
  clear Xr
  have Xr := Yr
  clear Yr
  have H' : Hid (Num w6 p m c xs a) := H.out.below hb6
  clear H
  have H := H'
  clear H'
  have K' : Hid (Num w6 q n d ys b) := K.out.below hb6
  clear K
  have K := K'
  clear K'
  have HO4' : Hid (Own w2.heap.size w6 p4 m4 z4) := HO4.out.below hb6
  clear HO4
  have HO4 := HO4'
  clear HO4'
  have HO5' : Hid (Own w3.heap.size w6 p5 m5 z5) := HO5.out.below hb6
  clear HO5
  have HO5 := HO5'
  clear HO5'
  have hbw' := Below.on hbw hb6
  clear hbw
  have hbw := hbw'
  clear hbw'
  clear hb6
  obtain ⟨b9, hb9⟩ : ∃ b, b = (false && decide (0 < m5)) := ⟨_, rfl⟩
  rw [← hb9]
  have HB9 : Hid (b9 = (false && decide (0 < m5))) := hb9
  clear hb9
  obtain ⟨cr0, cr1, fr0, fr1⟩ := Xr.out
  have hner : gr < w6.heap.size := World.block_lt_of_cell? w6 _ cr0
  go_wp2_with fail
  refine bodyPost_ret (v := .tuple #[ZV b9 p5 m5 m5, .int .i64 0]) (by rw [results_cell_tmp rfl]; go_simp) rfl ⟨_, rfl, ?_, ?_⟩
  · rw [HB9.out]
    exact AnsZ.mk _ (own_set2 HO5.out HRL5.out.1 HRL5.out.2 _ _) N5.out.1 N5.out.2
  · exact bSet (bSet hbw _ _ _ HGr.out) _ _ _ HGr.out
set_option maxRecDepth 20000 in
set_option maxHeartbeats 4000000 in
theorem mod_110 {p q : Option Addr} {m c n d : Nat} {xs ys : List Nat} {a b : Nat} {w : World} (h : Num w p m c xs a) (hs : true = true → 0 < a) (k : Num w q n d ys b) (ht : true = true → 0 < b) (hb : b ≠ 0) (hz : a % b = 0) :
    Calls Tryd.prog 29 #[ZV true p m c, ZV true q n d] w fun e w' => ∃ v, e = .returned (.tuple #[v, .int .i64 0]) ∧ AnsZ w.heap.size w' v (mo true true a b) ∧ Below w.heap.size w w' := by
  have H : Hid (Num w p m c xs a) := h
  have HS : Hid (true = true → 0 < a) := hs
  have K : Hid (Num w q n d ys b) := k
  have HT : Hid (true = true → 0 < b) := ht
  have HB0 : Hid (b ≠ 0) := hb
  obtain ⟨r, hr⟩ : ∃ r, r = a % b := ⟨_, rfl⟩
  have HRV : Hid (mo true true a b = iv true r) := by show _ = _; rw [hr]; unfold mo; rw [hz]; rfl
  rw [HRV.out]
  clear HRV
  have HR : Hid (r = a % b) := hr
  have HZ : Hid (a % b = 0) := hz
  clear h hs k ht hb hr hz
  go_enter Tryd.func29, Tryd.ntmps29
  go_wp2_with fail
  obtain ⟨W0, hW0⟩ : ∃ W0, W0 = (((w.alloc (.cells #[.bool true, .slice p m c] 35)).alloc (.cells #[.bool true, .slice q n d] 35)).alloc (.cells #[.bool false, .slice none 0 0] 35)) := ⟨_, rfl⟩
  have Xx : Hid (Box W0 (w.heap.size) (.bool true) (.slice p m c)) := by rw [hW0]; exact ⟨by go_simp, by go_simp, by go_simp, by go_simp⟩
  have Xy : Hid (Box W0 (w.heap.size + 1) (.bool true) (.slice q n d)) := by rw [hW0]; exact ⟨by go_simp, by go_simp, by go_simp, by go_simp⟩
  have Xr : Hid (Box W0 (w.heap.size + 1 + 1) (.bool false) (.slice none 0 0)) := by rw [hW0]; exact ⟨by go_simp, by go_simp, by go_simp, by go_simp⟩
  have hb0 : Below w.heap.size w W0 := by rw [hW0]; exact below3 w _ _ _
  rw [← hW0]
  clear hW0
  have hbw : Below w.heap.size w w := Below.refl _ _
  obtain ⟨gr, hgr⟩ : ∃ g, g = w.heap.size + 1 + 1 := ⟨_, rfl⟩
  have HGr : Hid (w.heap.size ≤ gr) := by rw [hgr]; show _ ≤ _; omega
  rw [← hgr] at Xr
  try rw [← hgr]
  obtain ⟨gy, hgy⟩ : ∃ g, g = w.heap.size + 1 := ⟨_, rfl⟩
  have HGy : Hid (w.heap.size ≤ gy) := by rw [hgy]; show _ ≤ _; omega
  rw [← hgy] at Xy
  try rw [← hgy]
  obtain ⟨gx, hgx⟩ : ∃ g, g = w.heap.size := ⟨_, rfl⟩
  have HGx : Hid (w.heap.size ≤ gx) := by rw [hgx]; show _ ≤ _; omega
  rw [← hgx] at Xx
  try rw [← hgx]
  have HGD : Hid (gx ≠ gy ∧ gx ≠ gr ∧ gy ≠ gx ∧ gy ≠ gr ∧ gr ≠ gx ∧ gr ≠ gy) := by rw [hgx, hgy, hgr]; exact ⟨by omega, by omega, by omega, by omega, by omega, by omega⟩
  clear hgx hgy hgr
  have H' : Hid (Num W0 p m c xs a) := H.out.below hb0
  clear H
  have H := H'
  clear H'
  have K' : Hid (Num W0 q n d ys b) := K.out.below hb0
  clear K
  have K := K'
  clear K'
  have hbw' := Below.on hbw hb0
  clear hbw
  have hbw := hbw'
  clear hbw'
  clear hb0
  refine (numform_t true H.out (fun _ => HS.out (by simp))).mono ?_
  rintro e w1 ⟨rfl, hb1⟩
  have Yx : Hid (Box w1 gx (.bool true) (.slice p m c)) := Xx.out.below hb1
  clear Xx
  have Xx := Yx
  clear Yx
  have Yy : Hid (Box w1 gy (.bool true) (.slice q n d)) := Xy.out.below hb1
  clear Xy
  have Xy := Yy
  clear Yy
  have Yr : Hid (Box w1 gr (.bool false) (.slice none 0 0)) := Xr.out.below hb1
  clear Xr
  have Xr := Yr
  clear Yr
  have H' : Hid (Num w1 p m c xs a) := H.out.below hb1
  clear H
  have H := H'
  clear H'
  have K' : Hid (Num w1 q n d ys b) := K.out.below hb1
  clear K
  have K := K'
  clear K'
  have hbw' := Below.on hbw hb1
  clear hbw
  have hbw := hbw'
  clear hbw'
  clear hb1
  obtain ⟨cy0, cy1, fy0, fy1⟩ := Xy.out
  have hney : gy < w1.heap.size := World.block_lt_of_cell? w1 _ cy0
  go_wp2_with fail
  clear cy0 cy1 fy0 fy1 hney
  refine (numform_t true K.out (fun _ => HT.out (by simp))).mono ?_
  rintro e w2 ⟨rfl, hb2⟩
  have Yx : Hid (Box w2 gx (.bool true) (.slice p m c)) := Xx.out.below hb2
  clear Xx
  have Xx := Yx
  clear Yx
  have Yy : Hid (Box w2 gy (.bool true) (.slice q n d)) := Xy.out.below hb2
  clear Xy
  have Xy := Yy
  clear Yy
  have Yr : Hid (Box w2 gr (.bool false) (.slice none 0 0)) := Xr.out.below hb2
  clear Xr
  have Xr := Yr
  clear Yr
  have H' : Hid (Num w2 p m c xs a) := H.out.below hb2
  clear H
  have H := H'
  clear H'
  have K' : Hid (Num w2 q n d ys b) := K.out.below hb2
  clear K
  have K := K'
  clear K'
  have hbw' := Below.on hbw hb2
  clear hbw
  have hbw := hbw'
  clear hbw'
  clear hb2
  obtain ⟨cx0, cx1, fx0, fx1⟩ := Xx.out
  have hnex : gx < w2.heap.size := World.block_lt_of_cell? w2 _ cx0
  obtain ⟨cy0, cy1, fy0, fy1⟩ := Xy.out
  have hney : gy < w2.heap.size := World.block_lt_of_cell? w2 _ cy0
  go_wp2_with fail
  clear cx0 cx1 fx0 fx1 hnex
  clear cy0 cy1 fy0 fy1 hney
  have HRL : Hid (gr < w2.heap.size ∧ w.heap.size ≤ w2.heap.size) := ⟨Xr.out.lt, hbw.size⟩
  refine (quorem_any H.out.at_ K.out.at_ H.out.nf K.out.nf H.out.le K.out.le HB0.out).mono ?_
  rintro e w3 ⟨v1, v2, rfl, ⟨p3, m3, z3, rfl, ho3, hn3, hm3⟩, ⟨p4, m4, z4, rfl, ho4, hn4, hm4⟩, hb3⟩
  clear ho3 hn3 hm3
  have Yx : Hid (Box w3 gx (.bool true) (.slice p m c)) := Xx.out.below hb3
  clear Xx
  have Xx := Yx
  clear Yx
  have Yy : Hid (Box w3 gy (.bool true) (.slice q n d)) := Xy.out.below hb3
  clear Xy
  have Xy := Yy
  clear Yy
  have Yr : Hid (Box w3 gr (.bool false) (.slice none 0 0)) := Xr.out.below hb3
  clear Xr
  have Xr := Yr
  clear Yr
  have H' : Hid (Num w3 p m c xs a) := H.out.below hb3
  clear H
  have H := H'
  clear H'
  have K' : Hid (Num w3 q n d ys b) := K.out.below hb3
  clear K
  have K := K'
  clear K'
  have hbw' := Below.on hbw hb3
  clear hbw
  have hbw := hbw'
  clear hbw'
  clear hb3
  have HO4 : Hid (Own w2.heap.size w3 p4 m4 z4) := ho4
  have N4 : Hid (Nf B64 z4 (a % b) ∧ m4 ≤ 8192) := ⟨hn4, hm4⟩
  have hm40 : m4 = 0 := (Num.of ho4 hn4 hm4).zero.2 HZ.out
  clear ho4 hn4 hm4
  subst hm40
  obtain ⟨cx0, cx1, fx0, fx1⟩ := Xx.out
  have hnex : gx < w3.heap.size := World.block_lt_of_cell? w3 _ cx0
  obtain ⟨cy0, cy1, fy0, fy1⟩ := Xy.out
  have hney : gy < w3.heap.size := World.block_lt_of_cell? w3 _ cy0
  go_wp2_with fail
  clear cx0 cx1 fx0 fx1 hnex
  clear cy0 cy1 fy0 fy1 hney
  refine (signed_any true p4 0 0 w3).mono ?_
  rintro e w6 ⟨rfl, hb6⟩
  have Yx : Hid (Box w6 gx (.bool true) (.slice p m c)) := Xx.out.below hb6
  clear Xx
  have Xx := Yx
  clear Yx
  have Yy : Hid (Box w6 gy (.bool true) (.slice q n d)) := Xy.out.below hb6
  clear Xy
  have Xy := Yy
  clear Yy
  have Yr : Hid (Box w6 gr (.bool false) (.slice none 0 0)) := Xr.out.below hb6
  clear Xr
  have Xr := Yr
  clear Yr
  have H' : Hid (Num w6 p m c xs a) := H.out.below hb6
  clear H
  have H := H'
  clear H'
  have K' : Hid (Num w6 q n d ys b) := K.out.below hb6
  clear K
  have K := K'
  clear K'
  have HO4' : Hid (Own w2.heap.size w6 p4 0 z4) := HO4.out.below hb6
  clear HO4
  have HO4 := HO4'
  clear HO4'
  have hbw' := Below.on hbw hb6
  clear hbw
  have hbw := hbw'
  clear hbw'
  clear hb6
  obtain ⟨b9, hb9⟩ : ∃ b, b = (true && decide (0 < 0)) := ⟨_, rfl⟩
  rw [← hb9]
  have HB9 : Hid (b9 = (true && decide (0 < 0))) := hb9
  clear hb9
  obtain ⟨cr0, cr1, fr0, fr1⟩ := Xr.out
  have hner : gr < w6.heap.size := World.block_lt_of_cell? w6 _ cr0
  go_wp2_with fail
  refine bodyPost_ret (v := .tuple #[ZV b9 p4 0 0, .int .i64 0]) (by rw [results_cell_tmp rfl]; go_simp) rfl ⟨_, rfl, ?_, ?_⟩
  · rw [HB9.out]
    exact AnsZ.mk _ (own_set2 HO4.out HRL.out.1 HRL.out.2 _ _) (by rw [HR.out]; exact N4.out.1) N4.out.2
  · exact bSet (bSet hbw _ _ _ HGr.out) _ _ _ HGr.out
set_option maxRecDepth 20000 in
set_option maxHeartbeats 4000000 in
theorem mod_111 {p q : Option Addr} {m c n d : Nat} {xs ys : List Nat} {a b : Nat} {w : World} (h : Num w p m c xs a) (hs : true = true → 0 < a) (k : Num w q n d ys b) (ht : true = true → 0 < b) (hb : b ≠ 0) (hz : a % b ≠ 0) :
    Calls Tryd.prog 29 #[ZV true p m c, ZV true q n d] w fun e w' => ∃ v, e = .returned (.tuple #[v, .int .i64 0]) ∧ AnsZ w.heap.size w' v (mo true true a b) ∧ Below w.heap.size w w' := by
  have H : Hid (Num w p m c xs a) := h
  have HS : Hid (true = true → 0 < a) := hs
  have K : Hid (Num w q n d ys b) := k
  have HT : Hid (true = true → 0 < b) := ht
  have HB0 : Hid (b ≠ 0) := hb
  obtain ⟨r, hr⟩ : ∃ r, r = a % b := ⟨_, rfl⟩
  have HRV : Hid (mo true true a b = iv true r) := by show _ = _; rw [hr]; unfold mo; rw [decide_eq_true hz]; rfl
  rw [HRV.out]
  clear HRV
  have HR : Hid (r = a % b) := hr
  have HZ : Hid (a % b ≠ 0) := hz
  clear h hs k ht hb hr hz
  go_enter Tryd.func29, Tryd.ntmps29
  go_wp2_with fail
  obtain ⟨W0, hW0⟩ : ∃ W0, W0 = (((w.alloc (.cells #[.bool true, .slice p m c] 35)).alloc (.cells #[.bool true, .slice q n d] 35)).alloc (.cells #[.bool false, .slice none 0 0] 35)) := ⟨_, rfl⟩
  have Xx : Hid (Box W0 (w.heap.size) (.bool true) (.slice p m c)) := by rw [hW0]; exact ⟨by go_simp, by go_simp, by go_simp, by go_simp⟩
  have Xy : Hid (Box W0 (w.heap.size + 1) (.bool true) (.slice q n d)) := by rw [hW0]; exact ⟨by go_simp, by go_simp, by go_simp, by go_simp⟩
  have Xr : Hid (Box W0 (w.heap.size + 1 + 1) (.bool false) (.slice none 0 0)) := by rw [hW0]; exact ⟨by go_simp, by go_simp, by go_simp, by go_simp⟩
  have hb0 : Below w.heap.size w W0 := by rw [hW0]; exact below3 w _ _ _
  rw [← hW0]
  clear hW0
  have hbw : Below w.heap.size w w := Below.refl _ _
  obtain ⟨gr, hgr⟩ : ∃ g, g = w.heap.size + 1 + 1 := ⟨_, rfl⟩
  have HGr : Hid (w.heap.size ≤ gr) := by rw [hgr]; show _ ≤ _; omega
  rw [← hgr] at Xr
  try rw [← hgr]
  obtain ⟨gy, hgy⟩ : ∃ g, g = w.heap.size + 1 := ⟨_, rfl⟩
  have HGy : Hid (w.heap.size ≤ gy) := by rw [hgy]; show _ ≤ _; omega
  rw [← hgy] at Xy
  try rw [← hgy]
  obtain ⟨gx, hgx⟩ : ∃ g, g = w.heap.size := ⟨_, rfl⟩
  have HGx : Hid (w.heap.size ≤ gx) := by rw [hgx]; show _ ≤ _; omega
  rw [← hgx] at Xx
  try rw [← hgx]
  have HGD : Hid (gx ≠ gy ∧ gx ≠ gr ∧ gy ≠ gx ∧ gy ≠ gr ∧ gr ≠ gx ∧ gr ≠ gy) := by rw [hgx, hgy, hgr]; exact ⟨by omega, by omega, by omega, by omega, by omega, by omega⟩
  clear hgx hgy hgr
  have H' : Hid (Num W0 p m c xs a) := H.out.below hb0
  clear H
  have H := H'
  clear H'
  have K' : Hid (Num W0 q n d ys b) := K.out.below hb0
  clear K
  have K := K'
  clear K'
  have hbw' := Below.on hbw hb0
  clear hbw
  have hbw := hbw'
  clear hbw'
  clear hb0
  refine (numform_t true H.out (fun _ => HS.out (by simp))).mono ?_
  rintro e w1 ⟨rfl, hb1⟩
  have Yx : Hid (Box w1 gx (.bool true) (.slice p m c)) := Xx.out.below hb1
  clear Xx
  have Xx := Yx
  clear Yx
  have Yy : Hid (Box w1 gy (.bool true) (.slice q n d)) := Xy.out.below hb1
  clear Xy
  have Xy := Yy
  clear Yy
  have Yr : Hid (Box w1 gr (.bool false) (.slice none 0 0)) := Xr.out.below hb1
  clear Xr
  have Xr := Yr
  clear Yr
  have H' : Hid (Num w1 p m c xs a) := H.out.below hb1
  clear H
  have H := H'
  clear H'
  have K' : Hid (Num w1 q n d ys b) := K.out.below hb1
  clear K
  have K := K'
  clear K'
  have hbw' := Below.on hbw hb1
  clear hbw
  have hbw := hbw'
  clear hbw'
  clear hb1
  obtain ⟨cy0, cy1, fy0, fy1⟩ := Xy.out
  have hney : gy < w1.heap.size := World.block_lt_of_cell? w1 _ cy0
  go_wp2_with fail
  clear cy0 cy1 fy0 fy1 hney
  refine (numform_t true K.out (fun _ => HT.out (by simp))).mono ?_
  rintro e w2 ⟨rfl, hb2⟩
  have Yx : Hid (Box w2 gx (.bool true) (.slice p m c)) := Xx.out.below hb2
  clear Xx
  have Xx := Yx
  clear Yx
  have Yy : Hid (Box w2 gy (.bool true) (.slice q n d)) := Xy.out.below hb2
  clear Xy
  have Xy := Yy
  clear Yy
  have Yr : Hid (Box w2 gr (.bool false) (.slice none 0 0)) := Xr.out.below hb2
  clear Xr
  have Xr := Yr
  clear Yr
  have H' : Hid (Num w2 p m c xs a) := H.out.below hb2
  clear H
  have H := H'
  clear H'
  have K' : Hid (Num w2 q n d ys b) := K.out.below hb2
  clear K
  have K := K'
  clear K'
  have hbw' := Below.on hbw hb2
  clear hbw
  have hbw := hbw'
  clear hbw'
  clear hb2
  obtain ⟨cx0, cx1, fx0, fx1⟩ := Xx.out
  have hnex : gx < w2.heap.size := World.block_lt_of_cell? w2 _ cx0
  obtain ⟨cy0, cy1, fy0, fy1⟩ := Xy.out
  have hney : gy < w2.heap.size := World.block_lt_of_cell? w2 _ cy0
  go_wp2_with fail
  clear cx0 cx1 fx0 fx1 hnex
  clear cy0 cy1 fy0 fy1 hney
  have HRL : Hid (gr < w2.heap.size ∧ w.heap.size ≤ w2.heap.size) := ⟨Xr.out.lt, hbw.size⟩
  refine (quorem_any H.out.at_ K.out.at_ H.out.nf K.out.nf H.out.le K.out.le HB0.out).mono ?_
  rintro e w3 ⟨v1, v2, rfl, ⟨p3, m3, z3, rfl, ho3, hn3, hm3⟩, ⟨p4, m4, z4, rfl, ho4, hn4, hm4⟩, hb3⟩
  clear ho3 hn3 hm3
  have Yx : Hid (Box w3 gx (.bool true) (.slice p m c)) := Xx.out.below hb3
  clear Xx
  have Xx := Yx
  clear Yx
  have Yy : Hid (Box w3 gy (.bool true) (.slice q n d)) := Xy.out.below hb3
  clear Xy
  have Xy := Yy
  clear Yy
  have Yr : Hid (Box w3 gr (.bool false) (.slice none 0 0)) := Xr.out.below hb3
  clear Xr
  have Xr := Yr
  clear Yr
  have H' : Hid (Num w3 p m c xs a) := H.out.below hb3
  clear H
  have H := H'
  clear H'
  have K' : Hid (Num w3 q n d ys b) := K.out.below hb3
  clear K
  have K := K'
  clear K'
  have hbw' := Below.on hbw hb3
  clear hbw
  have hbw := hbw'
  clear hbw'
  clear hb3
  have HO4 : Hid (Own w2.heap.size w3 p4 m4 z4) := ho4
  have N4 : Hid (Nf B64 z4 (a % b) ∧ m4 ≤ 8192) := ⟨hn4, hm4⟩
  have hm40 : 0 < m4 := Nat.pos_of_ne_zero (fun e => HZ.out ((Num.of ho4 hn4 hm4).zero.1 e))
  clear ho4 hn4 hm4
  have hm4b : decide ((0 : Int) < (m4 : Int)) = true := decide_eq_true (by omega)
  have hm4c : decide (0 < m4) = true := decide_eq_true hm40
  obtain ⟨cx0, cx1, fx0, fx1⟩ := Xx.out
  have hnex : gx < w3.heap.size := World.block_lt_of_cell? w3 _ cx0
  obtain ⟨cy0, cy1, fy0, fy1⟩ := Xy.out
  have hney : gy < w3.heap.size := World.block_lt_of_cell? w3 _ cy0
  go_wp2_with fail
  clear cx0 cx1 fx0 fx1 hnex
  clear cy0 cy1 fy0 fy1 hney
  clear hm4b hm4c hm40
  refine (signed_any true p4 m4 m4 w3).mono ?_
  rintro e w6 ⟨rfl, hb6⟩
  have Yx : Hid (Box w6 gx (.bool true) (.slice p m c)) := Xx.out.below hb6
  clear Xx
  have Xx := Yx
  clear Yx
  have Yy : Hid (Box w6 gy (.bool true) (.slice q n d)) := Xy.out.below hb6
  clear Xy
  have Xy := Yy
  clear Yy
  have Yr : Hid (Box w6 gr (.bool false) (.slice none 0 0)) := Xr.out.below hb6
  clear Xr
  have Xr := Yr
  clear Yr
  have H' : Hid (Num w6 p m c xs a) := H.out.below hb6
  clear H
  have H := H'
  clear H'
  have K' : Hid (Num w6 q n d ys b) := K.out.below hb6
  clear K
  have K := K'
  clear K'
  have HO4' : Hid (Own w2.heap.size w6 p4 m4 z4) := HO4.out.below hb6
  clear HO4
  have HO4 := HO4'
  clear HO4'
  have hbw' := Below.on hbw hb6
  clear hbw
  have hbw := hbw'
  clear hbw'
  clear hb6
  obtain ⟨b9, hb9⟩ : ∃ b, b = (true && decide (0 < m4)) := ⟨_, rfl⟩
  rw [← hb9]
  have HB9 : Hid (b9 = (true && decide (0 < m4))) := hb9
  clear hb9
  obtain ⟨cr0, cr1, fr0, fr1⟩ := Xr.out
  have hner : gr < w6.heap.size := World.block_lt_of_cell? w6 _ cr0
  go_wp2_with fail
  refine bodyPost_ret (v := .tuple #[ZV b9 p4 m4 m4, .int .i64 0]) (by rw [results_cell_tmp rfl]; go_simp) rfl ⟨_, rfl, ?_, ?_⟩
  · rw [HB9.out]
    exact AnsZ.mk _ (own_set2 HO4.out HRL.out.1 HRL.out.2 _ _) (by rw [HR.out]; exact N4.out.1) N4.out.2
  · exact bSet (bSet hbw _ _ _ HGr.out) _ _ _ HGr.out
theorem mod_any {p q : Option Addr} {m c n d : Nat} {xs ys : List Nat} {a b : Nat} {w : World} (s t : Bool) (h : Num w p m c xs a) (hs : s = true → 0 < a) (k : Num w q n d ys b) (ht : t = true → 0 < b) (hb : b ≠ 0) :
    Calls Tryd.prog 29 #[ZV s p m c, ZV t q n d] w fun e w' => ∃ v, e = .returned (.tuple #[v, .int .i64 0]) ∧ AnsZ w.heap.size w' v (mo s t a b) ∧ Below w.heap.size w w' := by
  by_cases hz : a % b = 0 <;> cases s <;> cases t
  · exact mod_000 h hs k ht hb hz
  · exact mod_010 h hs k ht hb hz
  · exact mod_100 h hs k ht hb hz
  · exact mod_110 h hs k ht hb hz
  · exact mod_001 h hs k ht hb hz
  · exact mod_011 h hs k ht hb hz
  · exact mod_101 h hs k ht hb hz
  · exact mod_111 h hs k ht hb hz
end Go.Proofs.YteoihhgaipplfaaDoor

