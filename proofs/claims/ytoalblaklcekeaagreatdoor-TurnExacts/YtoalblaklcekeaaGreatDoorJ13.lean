import Derived.Test.YtoalblaklcekeaaGreatDoorJ12
import Derived.Test.YtoalblaklcekeaaGreatDoorJ10
import Derived.Test.YtoalblaklcekeaaGreatDoorJ11
import Derived.Test.YtoalblaklcekeaaGreatDoorJ9
import Derived.Deep.LoopGhost
import Derived.Deep.RegionWith
namespace Go.Proofs.YtoalblaklcekeaaGreatDoor
open Go.RowKit Go.Shelf
set_option maxRecDepth 20000 in
set_option maxHeartbeats 8000000 in
theorem dadd_n {p q : Option Addr} {m c n d : Nat} {w : World} {x y e f g : Int} {s t : Bool} (h : DN w s p m c e x) (k : DN w t q n d f y) (hx0 : x ≠ 0) (hy0 : y ≠ 0) (hg : g = min e f) (hg2 : g ≤ 524288) (hx : (x * 2 ^ (e - g).toNat).natAbs < LIM) (hy : (y * 2 ^ (f - g).toNat).natAbs < LIM) (hl : (x * 2 ^ (e - g).toNat + y * 2 ^ (f - g).toNat).natAbs < LIM) (hT : Tab w) :
    Calls Tryz.prog 36 #[DV s p m c e, DV t q n d f] w fun en w' => ∃ v zo eo, en = .returned (.tuple #[v, .int .i64 0]) ∧ AnsD w.heap.size w' v zo eo ∧ DFm zo eo ∧ dv zo eo = dv (x * 2 ^ (e - g).toNat + y * 2 ^ (f - g).toNat) g ∧ zo.natAbs ≤ (x * 2 ^ (e - g).toNat + y * 2 ^ (f - g).toNat).natAbs ∧ (zo = 0 ∨ (g ≤ eo ∧ eo ≤ g + 524288)) ∧ Below w.heap.size w w' := by
  have H : Hid (DN w s p m c e x) := h
  have K : Hid (DN w t q n d f y) := k
  have TB : Hid (Tab w) := hT
  have HE : Hid (-1048576 ≤ e ∧ e ≤ 1048576 ∧ -1048576 ≤ f ∧ f ≤ 1048576) := by
    rcases h.fm with ⟨h1, _⟩ | ⟨_, h1, h2⟩
    · exact absurd h1 hx0
    · rcases k.fm with ⟨k1, _⟩ | ⟨_, k1, k2⟩
      · exact absurd k1 hy0
      · exact ⟨h1, h2, k1, k2⟩
  have HG : Hid (g = min e f ∧ -1048576 ≤ g ∧ g ≤ 524288) := ⟨hg, by have := HE.out; omega, hg2⟩
  obtain ⟨X, hX⟩ : ∃ X, X = x * 2 ^ (e - g).toNat := ⟨_, rfl⟩
  obtain ⟨Y, hY⟩ : ∃ Y, Y = y * 2 ^ (f - g).toNat := ⟨_, rfl⟩
  rw [← hX, ← hY] at hl ⊢
  have HL : Hid (x ≠ 0 ∧ y ≠ 0 ∧ (x * 2 ^ (e - g).toNat).natAbs < LIM ∧ (y * 2 ^ (f - g).toNat).natAbs < LIM ∧ (X + Y).natAbs < LIM) := ⟨hx0, hy0, hx, hy, hl⟩
  have HXY : Hid (X = x * 2 ^ (e - g).toNat ∧ Y = y * 2 ^ (f - g).toNat) := ⟨hX, hY⟩
  clear h k hT hx0 hy0 hx hy hl hg hg2 hX hY
  go_enter Tryz.func36, Tryz.ntmps36
  go_wp2_with fail
  obtain ⟨W0, hW0⟩ : ∃ W0, W0 = (((w.alloc (.cells #[.bool s, .slice p m c, .int .i64 e] 28)).alloc (.cells #[.bool t, .slice q n d, .int .i64 f] 28)).alloc (.cells #[.bool false, .slice none 0 0, .int .i64 0] 28)) := ⟨_, rfl⟩
  have Xa : Hid (B3q W0 (w.heap.size) (.bool s) (.slice p m c) (.int .i64 e)) := by rw [hW0]; exact ⟨by go_simp, by go_simp, by go_simp, by go_simp, by go_simp, by go_simp⟩
  have Xb : Hid (B3q W0 (w.heap.size + 1) (.bool t) (.slice q n d) (.int .i64 f)) := by rw [hW0]; exact ⟨by go_simp, by go_simp, by go_simp, by go_simp, by go_simp, by go_simp⟩
  have Xr : Hid (B3q W0 (w.heap.size + 1 + 1) (.bool false) (.slice none 0 0) (.int .i64 0)) := by rw [hW0]; exact ⟨by go_simp, by go_simp, by go_simp, by go_simp, by go_simp, by go_simp⟩
  have hb0 : Below w.heap.size w W0 := by rw [hW0]; exact below3 w _ _ _
  rw [← hW0]
  clear hW0
  have hbw : Below w.heap.size w w := Below.refl _ _
  obtain ⟨gr, hgr⟩ : ∃ g, g = w.heap.size + 1 + 1 := ⟨_, rfl⟩
  have HGr : Hid (w.heap.size ≤ gr) := by rw [hgr]; show _ ≤ _; omega
  rw [← hgr] at Xr
  try rw [← hgr]
  obtain ⟨gb, hgb⟩ : ∃ g, g = w.heap.size + 1 := ⟨_, rfl⟩
  have HGb : Hid (w.heap.size ≤ gb) := by rw [hgb]; show _ ≤ _; omega
  rw [← hgb] at Xb
  try rw [← hgb]
  obtain ⟨ga, hga⟩ : ∃ g, g = w.heap.size := ⟨_, rfl⟩
  have HGa : Hid (w.heap.size ≤ ga) := by rw [hga]; show _ ≤ _; omega
  rw [← hga] at Xa
  try rw [← hga]
  have HGD : Hid (ga ≠ gb ∧ ga ≠ gr ∧ gb ≠ ga ∧ gb ≠ gr ∧ gr ≠ ga ∧ gr ≠ gb) := by rw [hga, hgb, hgr]; exact ⟨by omega, by omega, by omega, by omega, by omega, by omega⟩
  clear hga hgb hgr
  replace hbw := Below.on hbw hb0
  clear hb0
  refine (dform_t (H.out.below hbw)).mono ?_
  rintro e v1 ⟨rfl, hb1⟩
  replace Xa : Hid _ := Xa.out.below hb1
  replace Xb : Hid _ := Xb.out.below hb1
  replace Xr : Hid _ := Xr.out.below hb1
  replace hbw := Below.on hbw hb1
  clear hb1
  obtain ⟨cb0, cb1, cb2, fb0, fb1, fb2⟩ := Xb.out
  have hneb : gb < v1.heap.size := World.block_lt_of_cell? v1 _ cb0
  go_wp2_with fail
  clear cb0 cb1 cb2 fb0 fb1 fb2 hneb
  refine (dform_t (K.out.below hbw)).mono ?_
  rintro e v2 ⟨rfl, hb2⟩
  replace Xa : Hid _ := Xa.out.below hb2
  replace Xb : Hid _ := Xb.out.below hb2
  replace Xr : Hid _ := Xr.out.below hb2
  replace hbw := Below.on hbw hb2
  clear hb2
  obtain ⟨ca0, ca1, ca2, fa0, fa1, fa2⟩ := Xa.out
  have hnea : ga < v2.heap.size := World.block_lt_of_cell? v2 _ ca0
  obtain ⟨cb0, cb1, cb2, fb0, fb1, fb2⟩ := Xb.out
  have hneb : gb < v2.heap.size := World.block_lt_of_cell? v2 _ cb0
  go_wp2_with fail
  clear ca0 ca1 ca2 fa0 fa1 fa2 hnea
  clear cb0 cb1 cb2 fb0 fb1 fb2 hneb
  refine (zsign (H.out.zn.below hbw)).mono ?_
  rintro e v3 ⟨rfl, hb3⟩
  obtain ⟨sg3, hsg⟩ : ∃ sg, sg = sgnI (x) := ⟨_, rfl⟩
  rw [← hsg]
  have hs3 : (sg3 == 0) = false := by rw [hsg]; have := HL.out.1; unfold sgnI; split <;> (try split) <;> simp <;> omega
  clear hsg
  replace Xa : Hid _ := Xa.out.below hb3
  replace Xb : Hid _ := Xb.out.below hb3
  replace Xr : Hid _ := Xr.out.below hb3
  replace hbw := Below.on hbw hb3
  clear hb3
  obtain ⟨cb0, cb1, cb2, fb0, fb1, fb2⟩ := Xb.out
  have hneb : gb < v3.heap.size := World.block_lt_of_cell? v3 _ cb0
  go_wp2_with fail
  clear cb0 cb1 cb2 fb0 fb1 fb2 hneb
  clear hs3
  refine (zsign (K.out.zn.below hbw)).mono ?_
  rintro e v4 ⟨rfl, hb4⟩
  obtain ⟨sg4, hsg⟩ : ∃ sg, sg = sgnI (y) := ⟨_, rfl⟩
  rw [← hsg]
  have hs4 : (sg4 == 0) = false := by rw [hsg]; have := HL.out.2.1; unfold sgnI; split <;> (try split) <;> simp <;> omega
  clear hsg
  replace Xa : Hid _ := Xa.out.below hb4
  replace Xb : Hid _ := Xb.out.below hb4
  replace Xr : Hid _ := Xr.out.below hb4
  replace hbw := Below.on hbw hb4
  clear hb4
  obtain ⟨ca0, ca1, ca2, fa0, fa1, fa2⟩ := Xa.out
  have hnea : ga < v4.heap.size := World.block_lt_of_cell? v4 _ ca0
  obtain ⟨cb0, cb1, cb2, fb0, fb1, fb2⟩ := Xb.out
  have hneb : gb < v4.heap.size := World.block_lt_of_cell? v4 _ cb0
  go_wp2_with fail
  clear ca0 ca1 ca2 fa0 fa1 fa2 hnea
  clear cb0 cb1 cb2 fb0 fb1 fb2 hneb
  clear hs4
  refine (daligned (H.out.zn.below hbw) (K.out.zn.below hbw) HG.out.1 HE.out HL.out.2.2.1 HL.out.2.2.2.1).mono ?_
  rintro e2 v5 ⟨s5, p5, m5, s6, p6, m6, rfl, hz5, hz6, hb5⟩
  rw [← HXY.out.1] at hz5
  rw [← HXY.out.2] at hz6
  replace Xa : Hid _ := Xa.out.below hb5
  replace Xb : Hid _ := Xb.out.below hb5
  replace Xr : Hid _ := Xr.out.below hb5
  replace hbw := Below.on hbw hb5
  clear hb5
  have Z5 : Hid (ZN v5 s5 p5 m5 m5 X) := hz5
  have Z6 : Hid (ZN v5 s6 p6 m6 m6 Y) := hz6
  clear hz5 hz6
  go_wp2_with fail
  rw [show v5.heap.size + 1 = (v5.alloc (.cells #[.bool s5, .slice p5 m5 m5] 26)).heap.size from by simp]
  have Xx0 : Hid (Box (v5.alloc (.cells #[.bool s5, .slice p5 m5 m5] 26)) v5.heap.size (.bool s5) (.slice p5 m5 m5)) := Box.new v5 _ _ _
  have hbn : Below v5.heap.size v5 (v5.alloc (.cells #[.bool s5, .slice p5 m5 m5] 26)) := below1 v5 _
  generalize v5.alloc (.cells #[.bool s5, .slice p5 m5 m5] 26) = Wx at *
  have HGx : Hid (w.heap.size ≤ v5.heap.size) := hbw.size
  replace Xa : Hid _ := Xa.out.below hbn
  replace Xb : Hid _ := Xb.out.below hbn
  replace Xr : Hid _ := Xr.out.below hbn
  replace Z5 : Hid _ := Z5.out.below hbn
  replace Z6 : Hid _ := Z6.out.below hbn
  replace hbw := Below.on hbw hbn
  clear hbn
  generalize v5.heap.size = gx at *
  have Xx := Xx0
  clear Xx0
  have Xy0 : Hid (Box (Wx.alloc (.cells #[.bool s6, .slice p6 m6 m6] 26)) Wx.heap.size (.bool s6) (.slice p6 m6 m6)) := Box.new Wx _ _ _
  have hbn : Below Wx.heap.size Wx (Wx.alloc (.cells #[.bool s6, .slice p6 m6 m6] 26)) := below1 Wx _
  generalize Wx.alloc (.cells #[.bool s6, .slice p6 m6 m6] 26) = Wy at *
  have HGy : Hid (w.heap.size ≤ Wx.heap.size) := hbw.size
  replace Xa : Hid _ := Xa.out.below hbn
  replace Xb : Hid _ := Xb.out.below hbn
  replace Xr : Hid _ := Xr.out.below hbn
  replace Xx : Hid _ := Xx.out.below hbn
  replace Z5 : Hid _ := Z5.out.below hbn
  replace Z6 : Hid _ := Z6.out.below hbn
  replace hbw := Below.on hbw hbn
  clear hbn
  generalize Wx.heap.size = gy at *
  have Xy := Xy0
  clear Xy0
  refine (zadd Z5.out Z6.out).mono ?_
  rintro e2 v7 ⟨ha, hb7⟩
  obtain ⟨s7, p7, m7, rfl, hz⟩ := ha.got HL.out.2.2.2.2
  clear ha
  replace Xa : Hid _ := Xa.out.below hb7
  replace Xb : Hid _ := Xb.out.below hb7
  replace Xr : Hid _ := Xr.out.below hb7
  replace Xx : Hid _ := Xx.out.below hb7
  replace Xy : Hid _ := Xy.out.below hb7
  replace Z5 : Hid _ := Z5.out.below hb7
  replace Z6 : Hid _ := Z6.out.below hb7
  replace hbw := Below.on hbw hb7
  clear hb7
  have Z7 : Hid (ZN v7 s7 p7 m7 m7 (X + Y)) := hz
  clear hz
  go_wp2_with fail
  have Xq0 : Hid (Box (v7.alloc (.cells #[.bool s7, .slice p7 m7 m7] 26)) v7.heap.size (.bool s7) (.slice p7 m7 m7)) := Box.new v7 _ _ _
  have hbn : Below v7.heap.size v7 (v7.alloc (.cells #[.bool s7, .slice p7 m7 m7] 26)) := below1 v7 _
  generalize v7.alloc (.cells #[.bool s7, .slice p7 m7 m7] 26) = Wq at *
  have HGq : Hid (w.heap.size ≤ v7.heap.size) := hbw.size
  replace Xa : Hid _ := Xa.out.below hbn
  replace Xb : Hid _ := Xb.out.below hbn
  replace Xr : Hid _ := Xr.out.below hbn
  replace Xx : Hid _ := Xx.out.below hbn
  replace Xy : Hid _ := Xy.out.below hbn
  replace Z5 : Hid _ := Z5.out.below hbn
  replace Z6 : Hid _ := Z6.out.below hbn
  replace Z7 : Hid _ := Z7.out.below hbn
  replace hbw := Below.on hbw hbn
  clear hbn
  generalize v7.heap.size = gq at *
  have Xq := Xq0
  clear Xq0
  clear Xx
  clear Xy
  clear Z5
  clear Z6
  have HRL : Hid (gr < Wq.heap.size ∧ w.heap.size ≤ Wq.heap.size) := ⟨Xr.out.lt, hbw.size⟩
  refine (make_any Z7.out HG.out.2 (TB.out.below hbw)).mono ?_
  rintro e2 v6 ⟨v, zo, eo, rfl, hv, hfm, hdv, hle, hor, hb6⟩
  obtain ⟨p6, m6, z6, rfl, ho6, hn6, hm6⟩ := hv
  replace Xa : Hid _ := Xa.out.below hb6
  replace Xb : Hid _ := Xb.out.below hb6
  replace Xr : Hid _ := Xr.out.below hb6
  replace Xq : Hid _ := Xq.out.below hb6
  replace Z7 : Hid _ := Z7.out.below hb6
  replace hbw := Below.on hbw hb6
  clear hb6
  have O6 : Hid (Own Wq.heap.size v6 p6 m6 z6) := ho6
  have N6 : Hid (Nf B64 z6 zo.natAbs ∧ m6 ≤ 8192 ∧ DFm zo eo ∧ dv zo eo = dv (X + Y) (g) ∧ zo.natAbs ≤ (X + Y).natAbs ∧ (zo = 0 ∨ (g ≤ eo ∧ eo ≤ g + 524288))) := ⟨hn6, hm6, hfm, hdv, hle, hor⟩
  clear ho6 hn6 hm6 hfm hdv hle hor
  obtain ⟨so, hso⟩ : ∃ b, b = decide (zo < 0) := ⟨_, rfl⟩
  rw [← hso]
  have HSO : Hid (so = decide (zo < 0)) := hso
  clear hso
  obtain ⟨cr0, cr1, cr2, fr0, fr1, fr2⟩ := Xr.out
  have hner : gr < v6.heap.size := World.block_lt_of_cell? v6 _ cr0
  go_wp2_with fail
  refine bodyPost_ret (v := .tuple #[DV so p6 m6 m6 eo, .int .i64 0]) (by rw [results_cell_tmp rfl]; go_simp) rfl ⟨_, zo, eo, rfl, ⟨p6, m6, z6, by rw [HSO.out], ?_, N6.out.1, N6.out.2.1⟩, N6.out.2.2.1, N6.out.2.2.2.1, N6.out.2.2.2.2.1, N6.out.2.2.2.2.2, ?_⟩
  · exact own_set3 O6.out HRL.out.1 HRL.out.2 _ _ _
  · exact bSet (bSet (bSet hbw _ _ _ HGr.out) _ _ _ HGr.out) _ _ _ HGr.out
set_option maxRecDepth 20000 in
set_option maxHeartbeats 8000000 in
theorem dcopied {p : Option Addr} {m c : Nat} {xs : List Nat} {w : World} {e : Int} (s : Bool) (h : At w p m c xs) (hm : m ≤ 8192) :
    Calls Tryz.prog 40 #[DV s p m c e] w fun en w' => ∃ p', en = .returned (DV s p' m m e) ∧ Own w.heap.size w' p' m xs ∧ Below w.heap.size w w' := by
  have H : Hid (At w p m c xs) := h
  have HM : Hid (m ≤ 8192) := hm
  have HLX : Hid (xs.length = m) := h.len
  have HDG : Hid (Dig B64 xs) := h.dig
  obtain ⟨i0, hi, hz0, hz1, hz2⟩ := info_parts Tryz.infoU64
  clear h hm
  go_enter Tryz.func40, Tryz.ntmps40
  go_wp2_with (first
    | (at_make
       obtain ⟨W0, hW0⟩ : ∃ W0, W0 = ((w.alloc (.cells #[.bool s, .slice p m c, .int .i64 e] 28)).alloc (.cells #[.bool false, .slice none 0 0, .int .i64 0] 28)) := ⟨_, rfl⟩
       have Xd : Hid (B3q W0 (w.heap.size) (.bool s) (.slice p m c) (.int .i64 e)) := by rw [hW0]; exact ⟨by go_simp, by go_simp, by go_simp, by go_simp, by go_simp, by go_simp⟩
       have Xr : Hid (B3q W0 (w.heap.size + 1) (.bool false) (.slice none 0 0) (.int .i64 0)) := by rw [hW0]; exact ⟨by go_simp, by go_simp, by go_simp, by go_simp, by go_simp, by go_simp⟩
       have hb0 : Below w.heap.size w W0 := by rw [hW0]; exact below2 w _ _
       rw [← hW0]
       clear hW0
       have hbw : Below w.heap.size w w := Below.refl _ _
       obtain ⟨gr, hgr⟩ : ∃ g, g = w.heap.size + 1 := ⟨_, rfl⟩
       have HGr : Hid (w.heap.size ≤ gr) := by rw [hgr]; show _ ≤ _; omega
       rw [← hgr] at Xr
       try rw [← hgr]
       obtain ⟨gd, hgd⟩ : ∃ g, g = w.heap.size := ⟨_, rfl⟩
       have HGd : Hid (w.heap.size ≤ gd) := by rw [hgd]; show _ ≤ _; omega
       rw [← hgd] at Xd
       try rw [← hgd]
       have HGD : Hid (gd ≠ gr ∧ gr ≠ gd) := by rw [hgd, hgr]; exact ⟨by omega, by omega⟩
       clear hgd hgr
       replace hbw := Below.on hbw hb0
       clear hb0
       refine wpList_make_full _ rfl _ _ 24 rfl W0.heap.size 22 i0 (.int .u64 0) 1 Tryz.underlying24 hi hz0 hz1 _ _ _ _ m rfl rfl (by have := HM.out; omega) (by have := HM.out; omega) (by rw [hz2]; have := HM.out; omega) (by unfold maxLen; have := HM.out; omega) (Nat.le_refl _) ?_
       intro w1 hown hgrow
       have hb1 := made_blk hown hgrow
       have HBK : Hid (Blk w1 W0.heap.size (List.replicate m 0)) := hb1.1
       have HBL : Hid (Below W0.heap.size W0 w1) := hb1.2
       have hb2 := hb1.2
       have HRB : Hid (gr < W0.heap.size ∧ gd < W0.heap.size ∧ w.heap.size ≤ W0.heap.size) := ⟨Xr.out.lt, Xd.out.lt, hbw.size⟩
       have HA0 : Hid (At W0 p m c xs) := H.out.below hbw
       clear hown hgrow hb1
       have XD0 := Xd
       have XR0 := Xr
       have HW0 : Hid (Below w.heap.size w W0) := hbw
       replace Xd : Hid _ := Xd.out.below hb2
       replace Xr : Hid _ := Xr.out.below hb2
       replace hbw := Below.on hbw hb2
       clear hb2
       skip
       obtain ⟨cd0, cd1, cd2, fd0, fd1, fd2⟩ := Xd.out
       have hned : gd < w1.heap.size := World.block_lt_of_cell? w1 _ cd0
       obtain ⟨cr0, cr1, cr2, fr0, fr1, fr2⟩ := Xr.out
       have hner : gr < w1.heap.size := World.block_lt_of_cell? w1 _ cr0)
    | (refine wpList_copy_splice rfl (.tmp 9) (.tmp 12) 24 24 rfl 22 Tryz.underlying24 Tryz.sizeU64 (some ⟨W0.heap.size, 0, none⟩) p m m m c rfl rfl W0.heap.size 0 (cellsU (List.replicate m 0)) 22 HBK.out (cellsU xs) (by rw [cellsU_length, HLX.out]; exact (Nat.min_self m).symm) (fun h0 => ⟨rfl, (HA0.out.below HBL.out).src (by rw [cellsU_length, HLX.out] at h0; omega)⟩) (by simp [cellsU_length]; have := HLX.out; omega) (cellsU_one xs) W0.heap.size W0 HBL.out (Nat.le_refl _) ?_
       intro w2 hg2 hb2
       have HG2 : Hid (Blk w2 W0.heap.size xs) := by
         have h9 := hg2
         rw [splice_cellsU, HLX.out, Nat.sub_self, List.replicate_zero, List.append_nil] at h9
         exact h9
       have HB2 : Hid (Below W0.heap.size W0 w2) := hb2
       clear hg2 cd0 cd1 cd2 fd0 fd1 fd2 hned cr0 cr1 cr2 fr0 fr1 fr2 hner
       obtain ⟨cd0, cd1, cd2, fd0, fd1, fd2⟩ := XD0.out.below hb2
       have hned : gd < w2.heap.size := World.block_lt_of_cell? w2 _ cd0
       obtain ⟨cr0, cr1, cr2, fr0, fr1, fr2⟩ := XR0.out.below hb2
       have hner : gr < w2.heap.size := World.block_lt_of_cell? w2 _ cr0
       have hq1 : gd ≠ gr := HGD.out.1
       have hq2 : gr ≠ gd := HGD.out.2
       clear hb2))
  refine bodyPost_ret (v := DV s (some ⟨W0.heap.size, 0, none⟩) m m e) (by rw [results_cell1 rfl]; go_simp) rfl ⟨_, rfl, ?_, ?_⟩
  · have h9 : Own W0.heap.size w2 (some ⟨W0.heap.size, 0, none⟩) m xs := by
      have h8 := HG2.out.own HDG.out (Nat.le_refl _)
      rw [HLX.out] at h8
      exact h8
    exact ((((h9.setOld _ _ _ HRB.out.2.1).setOld _ _ _ HRB.out.1).setOld _ _ _ HRB.out.1).setOld _ _ _ HRB.out.1).mono HRB.out.2.2
  · exact bSet (bSet (bSet (bSet (Below.on HW0.out HB2.out) _ _ _ HGd.out) _ _ _ HGr.out) _ _ _ HGr.out) _ _ _ HGr.out
set_option maxRecDepth 20000 in
set_option maxHeartbeats 8000000 in
theorem dadd_x {p q : Option Addr} {m c n d : Nat} {w : World} {x y e f : Int} {s t : Bool} (h : DN w s p m c e x) (k : DN w t q n d f y) (hz : x = 0) :
    Calls Tryz.prog 36 #[DV s p m c e, DV t q n d f] w fun en w' => ∃ v, en = .returned (.tuple #[v, .int .i64 0]) ∧ AnsD w.heap.size w' v y f ∧ Below w.heap.size w w' := by
  have H : Hid (DN w s p m c e x) := h
  have K : Hid (DN w t q n d f y) := k
  have HZ : Hid (x = 0) := hz
  clear h k hz
  go_enter Tryz.func36, Tryz.ntmps36
  go_wp2_with fail
  obtain ⟨W0, hW0⟩ : ∃ W0, W0 = (((w.alloc (.cells #[.bool s, .slice p m c, .int .i64 e] 28)).alloc (.cells #[.bool t, .slice q n d, .int .i64 f] 28)).alloc (.cells #[.bool false, .slice none 0 0, .int .i64 0] 28)) := ⟨_, rfl⟩
  have Xa : Hid (B3q W0 (w.heap.size) (.bool s) (.slice p m c) (.int .i64 e)) := by rw [hW0]; exact ⟨by go_simp, by go_simp, by go_simp, by go_simp, by go_simp, by go_simp⟩
  have Xb : Hid (B3q W0 (w.heap.size + 1) (.bool t) (.slice q n d) (.int .i64 f)) := by rw [hW0]; exact ⟨by go_simp, by go_simp, by go_simp, by go_simp, by go_simp, by go_simp⟩
  have Xr : Hid (B3q W0 (w.heap.size + 1 + 1) (.bool false) (.slice none 0 0) (.int .i64 0)) := by rw [hW0]; exact ⟨by go_simp, by go_simp, by go_simp, by go_simp, by go_simp, by go_simp⟩
  have hb0 : Below w.heap.size w W0 := by rw [hW0]; exact below3 w _ _ _
  rw [← hW0]
  clear hW0
  have hbw : Below w.heap.size w w := Below.refl _ _
  obtain ⟨gr, hgr⟩ : ∃ g, g = w.heap.size + 1 + 1 := ⟨_, rfl⟩
  have HGr : Hid (w.heap.size ≤ gr) := by rw [hgr]; show _ ≤ _; omega
  rw [← hgr] at Xr
  try rw [← hgr]
  obtain ⟨gb, hgb⟩ : ∃ g, g = w.heap.size + 1 := ⟨_, rfl⟩
  have HGb : Hid (w.heap.size ≤ gb) := by rw [hgb]; show _ ≤ _; omega
  rw [← hgb] at Xb
  try rw [← hgb]
  obtain ⟨ga, hga⟩ : ∃ g, g = w.heap.size := ⟨_, rfl⟩
  have HGa : Hid (w.heap.size ≤ ga) := by rw [hga]; show _ ≤ _; omega
  rw [← hga] at Xa
  try rw [← hga]
  have HGD : Hid (ga ≠ gb ∧ ga ≠ gr ∧ gb ≠ ga ∧ gb ≠ gr ∧ gr ≠ ga ∧ gr ≠ gb) := by rw [hga, hgb, hgr]; exact ⟨by omega, by omega, by omega, by omega, by omega, by omega⟩
  clear hga hgb hgr
  replace hbw := Below.on hbw hb0
  clear hb0
  refine (dform_t (H.out.below hbw)).mono ?_
  rintro e v1 ⟨rfl, hb1⟩
  replace Xa : Hid _ := Xa.out.below hb1
  replace Xb : Hid _ := Xb.out.below hb1
  replace Xr : Hid _ := Xr.out.below hb1
  replace hbw := Below.on hbw hb1
  clear hb1
  obtain ⟨cb0, cb1, cb2, fb0, fb1, fb2⟩ := Xb.out
  have hneb : gb < v1.heap.size := World.block_lt_of_cell? v1 _ cb0
  go_wp2_with fail
  clear cb0 cb1 cb2 fb0 fb1 fb2 hneb
  refine (dform_t (K.out.below hbw)).mono ?_
  rintro e v2 ⟨rfl, hb2⟩
  replace Xa : Hid _ := Xa.out.below hb2
  replace Xb : Hid _ := Xb.out.below hb2
  replace Xr : Hid _ := Xr.out.below hb2
  replace hbw := Below.on hbw hb2
  clear hb2
  obtain ⟨ca0, ca1, ca2, fa0, fa1, fa2⟩ := Xa.out
  have hnea : ga < v2.heap.size := World.block_lt_of_cell? v2 _ ca0
  obtain ⟨cb0, cb1, cb2, fb0, fb1, fb2⟩ := Xb.out
  have hneb : gb < v2.heap.size := World.block_lt_of_cell? v2 _ cb0
  go_wp2_with fail
  clear ca0 ca1 ca2 fa0 fa1 fa2 hnea
  clear cb0 cb1 cb2 fb0 fb1 fb2 hneb
  refine (zsign (H.out.zn.below hbw)).mono ?_
  rintro e v3 ⟨rfl, hb3⟩
  rw [HZ.out, show sgnI 0 = 0 from rfl]
  replace Xa : Hid _ := Xa.out.below hb3
  replace Xb : Hid _ := Xb.out.below hb3
  replace Xr : Hid _ := Xr.out.below hb3
  replace hbw := Below.on hbw hb3
  clear hb3
  obtain ⟨cb0, cb1, cb2, fb0, fb1, fb2⟩ := Xb.out
  have hneb : gb < v3.heap.size := World.block_lt_of_cell? v3 _ cb0
  go_wp2_with fail
  clear cb0 cb1 cb2 fb0 fb1 fb2 hneb
  have HRL : Hid (gr < v3.heap.size ∧ w.heap.size ≤ v3.heap.size) := ⟨Xr.out.lt, hbw.size⟩
  obtain ⟨xs, hX⟩ := (K.out.zn.below hbw).ex
  refine (dcopied t hX.at_ hX.le).mono ?_
  rintro e2 v6 ⟨p6, rfl, ho6, hb6⟩
  have N6 : Hid (Nf B64 xs (y).natAbs ∧ n ≤ 8192) := ⟨hX.nf, hX.le⟩
  clear hX
  replace Xa : Hid _ := Xa.out.below hb6
  replace Xb : Hid _ := Xb.out.below hb6
  replace Xr : Hid _ := Xr.out.below hb6
  replace hbw := Below.on hbw hb6
  clear hb6
  have O6 : Hid (Own v3.heap.size v6 p6 n xs) := ho6
  clear ho6
  obtain ⟨cr0, cr1, cr2, fr0, fr1, fr2⟩ := Xr.out
  have hner : gr < v6.heap.size := World.block_lt_of_cell? v6 _ cr0
  go_wp2_with fail
  refine bodyPost_ret (v := .tuple #[DV t p6 n n f, .int .i64 0]) (by rw [results_cell_tmp rfl]; go_simp) rfl ⟨_, rfl, ⟨p6, n, xs, by rw [K.out.zn.sg], ?_, N6.out.1, N6.out.2⟩, ?_⟩
  · exact own_set3 O6.out HRL.out.1 HRL.out.2 _ _ _
  · exact bSet (bSet (bSet hbw _ _ _ HGr.out) _ _ _ HGr.out) _ _ _ HGr.out
set_option maxRecDepth 20000 in
set_option maxHeartbeats 8000000 in
theorem dadd_y {p q : Option Addr} {m c n d : Nat} {w : World} {x y e f : Int} {s t : Bool} (h : DN w s p m c e x) (k : DN w t q n d f y) (hz : x ≠ 0 ∧ y = 0) :
    Calls Tryz.prog 36 #[DV s p m c e, DV t q n d f] w fun en w' => ∃ v, en = .returned (.tuple #[v, .int .i64 0]) ∧ AnsD w.heap.size w' v x e ∧ Below w.heap.size w w' := by
  have H : Hid (DN w s p m c e x) := h
  have K : Hid (DN w t q n d f y) := k
  have HZ : Hid (x ≠ 0 ∧ y = 0) := hz
  clear h k hz
  go_enter Tryz.func36, Tryz.ntmps36
  go_wp2_with fail
  obtain ⟨W0, hW0⟩ : ∃ W0, W0 = (((w.alloc (.cells #[.bool s, .slice p m c, .int .i64 e] 28)).alloc (.cells #[.bool t, .slice q n d, .int .i64 f] 28)).alloc (.cells #[.bool false, .slice none 0 0, .int .i64 0] 28)) := ⟨_, rfl⟩
  have Xa : Hid (B3q W0 (w.heap.size) (.bool s) (.slice p m c) (.int .i64 e)) := by rw [hW0]; exact ⟨by go_simp, by go_simp, by go_simp, by go_simp, by go_simp, by go_simp⟩
  have Xb : Hid (B3q W0 (w.heap.size + 1) (.bool t) (.slice q n d) (.int .i64 f)) := by rw [hW0]; exact ⟨by go_simp, by go_simp, by go_simp, by go_simp, by go_simp, by go_simp⟩
  have Xr : Hid (B3q W0 (w.heap.size + 1 + 1) (.bool false) (.slice none 0 0) (.int .i64 0)) := by rw [hW0]; exact ⟨by go_simp, by go_simp, by go_simp, by go_simp, by go_simp, by go_simp⟩
  have hb0 : Below w.heap.size w W0 := by rw [hW0]; exact below3 w _ _ _
  rw [← hW0]
  clear hW0
  have hbw : Below w.heap.size w w := Below.refl _ _
  obtain ⟨gr, hgr⟩ : ∃ g, g = w.heap.size + 1 + 1 := ⟨_, rfl⟩
  have HGr : Hid (w.heap.size ≤ gr) := by rw [hgr]; show _ ≤ _; omega
  rw [← hgr] at Xr
  try rw [← hgr]
  obtain ⟨gb, hgb⟩ : ∃ g, g = w.heap.size + 1 := ⟨_, rfl⟩
  have HGb : Hid (w.heap.size ≤ gb) := by rw [hgb]; show _ ≤ _; omega
  rw [← hgb] at Xb
  try rw [← hgb]
  obtain ⟨ga, hga⟩ : ∃ g, g = w.heap.size := ⟨_, rfl⟩
  have HGa : Hid (w.heap.size ≤ ga) := by rw [hga]; show _ ≤ _; omega
  rw [← hga] at Xa
  try rw [← hga]
  have HGD : Hid (ga ≠ gb ∧ ga ≠ gr ∧ gb ≠ ga ∧ gb ≠ gr ∧ gr ≠ ga ∧ gr ≠ gb) := by rw [hga, hgb, hgr]; exact ⟨by omega, by omega, by omega, by omega, by omega, by omega⟩
  clear hga hgb hgr
  replace hbw := Below.on hbw hb0
  clear hb0
  refine (dform_t (H.out.below hbw)).mono ?_
  rintro e v1 ⟨rfl, hb1⟩
  replace Xa : Hid _ := Xa.out.below hb1
  replace Xb : Hid _ := Xb.out.below hb1
  replace Xr : Hid _ := Xr.out.below hb1
  replace hbw := Below.on hbw hb1
  clear hb1
  obtain ⟨cb0, cb1, cb2, fb0, fb1, fb2⟩ := Xb.out
  have hneb : gb < v1.heap.size := World.block_lt_of_cell? v1 _ cb0
  go_wp2_with fail
  clear cb0 cb1 cb2 fb0 fb1 fb2 hneb
  refine (dform_t (K.out.below hbw)).mono ?_
  rintro e v2 ⟨rfl, hb2⟩
  replace Xa : Hid _ := Xa.out.below hb2
  replace Xb : Hid _ := Xb.out.below hb2
  replace Xr : Hid _ := Xr.out.below hb2
  replace hbw := Below.on hbw hb2
  clear hb2
  obtain ⟨ca0, ca1, ca2, fa0, fa1, fa2⟩ := Xa.out
  have hnea : ga < v2.heap.size := World.block_lt_of_cell? v2 _ ca0
  obtain ⟨cb0, cb1, cb2, fb0, fb1, fb2⟩ := Xb.out
  have hneb : gb < v2.heap.size := World.block_lt_of_cell? v2 _ cb0
  go_wp2_with fail
  clear ca0 ca1 ca2 fa0 fa1 fa2 hnea
  clear cb0 cb1 cb2 fb0 fb1 fb2 hneb
  refine (zsign (H.out.zn.below hbw)).mono ?_
  rintro e v3 ⟨rfl, hb3⟩
  obtain ⟨sg3, hsg⟩ : ∃ sg, sg = sgnI (x) := ⟨_, rfl⟩
  rw [← hsg]
  have hs3 : (sg3 == 0) = false := by rw [hsg]; have := HZ.out.1; unfold sgnI; split <;> (try split) <;> simp <;> omega
  clear hsg
  replace Xa : Hid _ := Xa.out.below hb3
  replace Xb : Hid _ := Xb.out.below hb3
  replace Xr : Hid _ := Xr.out.below hb3
  replace hbw := Below.on hbw hb3
  clear hb3
  obtain ⟨cb0, cb1, cb2, fb0, fb1, fb2⟩ := Xb.out
  have hneb : gb < v3.heap.size := World.block_lt_of_cell? v3 _ cb0
  go_wp2_with fail
  clear cb0 cb1 cb2 fb0 fb1 fb2 hneb
  clear hs3
  refine (zsign (K.out.zn.below hbw)).mono ?_
  rintro e v4 ⟨rfl, hb4⟩
  rw [HZ.out.2, show sgnI 0 = 0 from rfl]
  replace Xa : Hid _ := Xa.out.below hb4
  replace Xb : Hid _ := Xb.out.below hb4
  replace Xr : Hid _ := Xr.out.below hb4
  replace hbw := Below.on hbw hb4
  clear hb4
  obtain ⟨ca0, ca1, ca2, fa0, fa1, fa2⟩ := Xa.out
  have hnea : ga < v4.heap.size := World.block_lt_of_cell? v4 _ ca0
  go_wp2_with fail
  clear ca0 ca1 ca2 fa0 fa1 fa2 hnea
  have HRL : Hid (gr < v4.heap.size ∧ w.heap.size ≤ v4.heap.size) := ⟨Xr.out.lt, hbw.size⟩
  obtain ⟨xs, hX⟩ := (H.out.zn.below hbw).ex
  refine (dcopied s hX.at_ hX.le).mono ?_
  rintro e2 v6 ⟨p6, rfl, ho6, hb6⟩
  have N6 : Hid (Nf B64 xs (x).natAbs ∧ m ≤ 8192) := ⟨hX.nf, hX.le⟩
  clear hX
  replace Xa : Hid _ := Xa.out.below hb6
  replace Xb : Hid _ := Xb.out.below hb6
  replace Xr : Hid _ := Xr.out.below hb6
  replace hbw := Below.on hbw hb6
  clear hb6
  have O6 : Hid (Own v4.heap.size v6 p6 m xs) := ho6
  clear ho6
  obtain ⟨cr0, cr1, cr2, fr0, fr1, fr2⟩ := Xr.out
  have hner : gr < v6.heap.size := World.block_lt_of_cell? v6 _ cr0
  go_wp2_with fail
  refine bodyPost_ret (v := .tuple #[DV s p6 m m e, .int .i64 0]) (by rw [results_cell_tmp rfl]; go_simp) rfl ⟨_, rfl, ⟨p6, m, xs, by rw [H.out.zn.sg], ?_, N6.out.1, N6.out.2⟩, ?_⟩
  · exact own_set3 O6.out HRL.out.1 HRL.out.2 _ _ _
  · exact bSet (bSet (bSet hbw _ _ _ HGr.out) _ _ _ HGr.out) _ _ _ HGr.out
theorem exp_bound {zo eo z e : Int} {L : Nat} (h0 : zo ≠ 0) (hle : e ≤ eo) (he : -4194304 ≤ e) (hv : dv zo eo = dv z e) (hz : z.natAbs < 2 ^ L) : eo - e < L := by
  rw [dv_shift hle he] at hv
  unfold dv at hv
  have h1 := Int.eq_of_mul_eq_mul_right (pow_pos_int _) hv
  have h2 : z.natAbs = zo.natAbs * 2 ^ (eo - e).toNat := by rw [← h1, Int.natAbs_mul, Int.natAbs_natCast]
  have h3 : 2 ^ (eo - e).toNat ≤ z.natAbs := by rw [h2]; exact Nat.le_mul_of_pos_left _ (by omega)
  have h4 := (Nat.pow_lt_pow_iff_right (by omega : 1 < 2)).1 (Nat.lt_of_le_of_lt h3 hz)
  omega
theorem pow_cast (n : Nat) : (2 : Int) ^ n = ((2 ^ n : Nat) : Int) := by norm_cast
theorem shl_bound {x : Int} {K a b : Nat} (hx : x.natAbs < 2 ^ K) (ha : a ≤ b) : (x * 2 ^ a).natAbs < 2 ^ (K + b) := by
  rw [Int.natAbs_mul, pow_cast, Int.natAbs_natCast, Nat.pow_add]
  have h1 : 2 ^ a ≤ 2 ^ b := Nat.pow_le_pow_right (by omega) ha
  have h2 : 0 < 2 ^ a := Nat.pow_pos (by omega)
  exact Nat.lt_of_lt_of_le (Nat.mul_lt_mul_of_pos_right hx h2) (Nat.mul_le_mul_left _ h1)
theorem lt_LIM {n L : Nat} (h : n < 2 ^ L) (hL : L ≤ 524288) : n < LIM := by
  refine (lim_bits n).2 ?_
  by_cases h0 : n = 0
  · rw [h0, bitsN_zero]; omega
  · have h1 := bitsN_le n h0
    have h2 := (Nat.pow_lt_pow_iff_right (by omega : 1 < 2)).1 (Nat.lt_of_le_of_lt h1 h)
    omega
structure DB (z e : Int) (K E : Nat) : Prop where
  fm : DFm z e
  sz : z.natAbs < 2 ^ K
  lo : -(E : Int) ≤ e
  hi : e ≤ E
theorem DB.mono {z e : Int} {K E K' E' : Nat} (h : DB z e K E) (hK : K ≤ K') (hE : E ≤ E') : DB z e K' E' :=
  ⟨h.fm, Nat.lt_of_lt_of_le h.sz (Nat.pow_le_pow_right (by omega) hK), by have := h.lo; omega, by have := h.hi; omega⟩
theorem sum_bound {X Y : Int} {L : Nat} (hX : X.natAbs < 2 ^ L) (hY : Y.natAbs < 2 ^ L) : (X + Y).natAbs < 2 ^ (L + 1) := by
  rw [Nat.pow_succ]; omega
theorem dadd_b {p q : Option Addr} {m c n d : Nat} {w : World} {x y e f : Int} {s t : Bool} {K E : Nat} (h : DN w s p m c e x) (k : DN w t q n d f y) (bx : DB x e K E) (by_ : DB y f K E) (hK : K + 2 * E + 1 ≤ 524288) (hT : Tab w) :
    Calls Tryz.prog 36 #[DV s p m c e, DV t q n d f] w fun en w' => ∃ v zo eo, en = .returned (.tuple #[v, .int .i64 0]) ∧ AnsD w.heap.size w' v zo eo ∧ DB zo eo (K + 2 * E + 1) (K + 3 * E + 1) ∧ dv zo eo = dv x e + dv y f ∧ Below w.heap.size w w' := by
  by_cases hx0 : x = 0
  · refine (dadd_x h k hx0).mono fun en w' ⟨v, he, ha, hb⟩ => ⟨v, y, f, he, ha, by_.mono (by omega) (by omega), ?_, hb⟩
    rw [hx0, dv_zero, Int.zero_add]
  · by_cases hy0 : y = 0
    · refine (dadd_y h k ⟨hx0, hy0⟩).mono fun en w' ⟨v, he, ha, hb⟩ => ⟨v, x, e, he, ha, bx.mono (by omega) (by omega), ?_, hb⟩
      rw [hy0, dv_zero, Int.add_zero]
    · obtain ⟨g, hg⟩ : ∃ g, g = min e f := ⟨_, rfl⟩
      have h1 := bx.lo; have h2 := bx.hi; have h3 := by_.lo; have h4 := by_.hi
      have hX := shl_bound (a := (e - g).toNat) (b := 2 * E) bx.sz (by omega)
      have hY := shl_bound (a := (f - g).toNat) (b := 2 * E) by_.sz (by omega)
      have hS := sum_bound hX hY
      refine (dadd_n h k hx0 hy0 hg (by omega) (lt_LIM hX (by omega)) (lt_LIM hY (by omega)) (lt_LIM hS (by omega)) hT).mono fun en w' ⟨v, zo, eo, he, ha, hfm, hdv, hle, hor, hb⟩ => ⟨v, zo, eo, he, ha, ⟨hfm, Nat.lt_of_le_of_lt hle hS, ?_, ?_⟩, ?_, hb⟩
      · rcases hor with h0 | ⟨h5, h6⟩
        · rcases hfm with ⟨_, h7⟩ | ⟨h7, _⟩ <;> omega
        · omega
      · rcases hor with h0 | ⟨h5, h6⟩
        · rcases hfm with ⟨_, h7⟩ | ⟨h7, _⟩ <;> omega
        · by_cases hz0 : zo = 0
          · rcases hfm with ⟨_, h7⟩ | ⟨h7, _⟩ <;> omega
          · have := exp_bound hz0 h5 (by omega) hdv hS
            omega
      · rw [hdv, dv_add, pow_cast, pow_cast, ← dv_shift (e := e) (f := g) (by omega) (by omega), ← dv_shift (e := f) (f := g) (by omega) (by omega)]
theorem DFm.neg {z e : Int} (h : DFm z e) : DFm (-z) e := by
  rcases h with ⟨h1, h2⟩ | ⟨h1, h2⟩
  · exact .inl ⟨by omega, h2⟩
  · exact .inr ⟨by omega, h2⟩
theorem DB.neg {z e : Int} {K E : Nat} (h : DB z e K E) : DB (-z) e K E := ⟨h.fm.neg, by rw [Int.natAbs_neg]; exact h.sz, h.lo, h.hi⟩
set_option maxRecDepth 20000 in
set_option maxHeartbeats 8000000 in
theorem dsub_b {p q : Option Addr} {m c n d : Nat} {w : World} {x y e f : Int} {s t : Bool} {K E : Nat} (h : DN w s p m c e x) (k : DN w t q n d f y) (bx : DB x e K E) (by_ : DB y f K E) (hK : K + 2 * E + 1 ≤ 524288) (hT : Tab w) :
    Calls Tryz.prog 13 #[DV s p m c e, DV t q n d f] w fun en w' => ∃ v zo eo, en = .returned (.tuple #[v, .int .i64 0]) ∧ AnsD w.heap.size w' v zo eo ∧ DB zo eo (K + 2 * E + 1) (K + 3 * E + 1) ∧ dv zo eo = dv x e - dv y f ∧ Below w.heap.size w w' := by
  have H : Hid (DN w s p m c e x) := h
  have K9 : Hid (DN w t q n d f y) := k
  have HB : Hid (DB x e K E ∧ DB y f K E ∧ K + 2 * E + 1 ≤ 524288) := ⟨bx, by_, hK⟩
  have TB : Hid (Tab w) := hT
  clear h k bx by_ hK hT
  go_enter Tryz.func13, Tryz.ntmps13
  go_wp2_with fail
  obtain ⟨W0, hW0⟩ : ∃ W0, W0 = (((w.alloc (.cells #[.bool s, .slice p m c, .int .i64 e] 28)).alloc (.cells #[.bool t, .slice q n d, .int .i64 f] 28)).alloc (.cells #[.bool false, .slice none 0 0, .int .i64 0] 28)) := ⟨_, rfl⟩
  have Xa : Hid (B3q W0 (w.heap.size) (.bool s) (.slice p m c) (.int .i64 e)) := by rw [hW0]; exact ⟨by go_simp, by go_simp, by go_simp, by go_simp, by go_simp, by go_simp⟩
  have Xb : Hid (B3q W0 (w.heap.size + 1) (.bool t) (.slice q n d) (.int .i64 f)) := by rw [hW0]; exact ⟨by go_simp, by go_simp, by go_simp, by go_simp, by go_simp, by go_simp⟩
  have Xr : Hid (B3q W0 (w.heap.size + 1 + 1) (.bool false) (.slice none 0 0) (.int .i64 0)) := by rw [hW0]; exact ⟨by go_simp, by go_simp, by go_simp, by go_simp, by go_simp, by go_simp⟩
  have hb0 : Below w.heap.size w W0 := by rw [hW0]; exact below3 w _ _ _
  rw [← hW0]
  clear hW0
  have hbw : Below w.heap.size w w := Below.refl _ _
  obtain ⟨gr, hgr⟩ : ∃ g, g = w.heap.size + 1 + 1 := ⟨_, rfl⟩
  have HGr : Hid (w.heap.size ≤ gr) := by rw [hgr]; show _ ≤ _; omega
  rw [← hgr] at Xr
  try rw [← hgr]
  obtain ⟨gb, hgb⟩ : ∃ g, g = w.heap.size + 1 := ⟨_, rfl⟩
  have HGb : Hid (w.heap.size ≤ gb) := by rw [hgb]; show _ ≤ _; omega
  rw [← hgb] at Xb
  try rw [← hgb]
  obtain ⟨ga, hga⟩ : ∃ g, g = w.heap.size := ⟨_, rfl⟩
  have HGa : Hid (w.heap.size ≤ ga) := by rw [hga]; show _ ≤ _; omega
  rw [← hga] at Xa
  try rw [← hga]
  have HGD : Hid (ga ≠ gb ∧ ga ≠ gr ∧ gb ≠ ga ∧ gb ≠ gr ∧ gr ≠ ga ∧ gr ≠ gb) := by rw [hga, hgb, hgr]; exact ⟨by omega, by omega, by omega, by omega, by omega, by omega⟩
  clear hga hgb hgr
  replace hbw := Below.on hbw hb0
  clear hb0
  refine (dneg (K9.out.below hbw)).mono ?_
  rintro e2 v5 ⟨v, rfl, hv, hf5, hb5⟩
  obtain ⟨s5, p5, m5, rfl, hd5⟩ := hv.dn hf5
  clear hv hf5
  replace Xa : Hid _ := Xa.out.below hb5
  replace Xb : Hid _ := Xb.out.below hb5
  replace Xr : Hid _ := Xr.out.below hb5
  replace hbw := Below.on hbw hb5
  clear hb5
  have D5 : Hid (DN v5 s5 p5 m5 m5 f (-y)) := hd5
  clear hd5
  obtain ⟨ca0, ca1, ca2, fa0, fa1, fa2⟩ := Xa.out
  have hnea : ga < v5.heap.size := World.block_lt_of_cell? v5 _ ca0
  go_wp2_with fail
  clear ca0 ca1 ca2 fa0 fa1 fa2 hnea
  have Xl0 : Hid (B3q (v5.alloc (.cells #[.bool s5, .slice p5 m5 m5, .int .i64 f] 28)) v5.heap.size (.bool s5) (.slice p5 m5 m5) (.int .i64 f)) := B3q.new v5 _ _ _ _
  have hbn : Below v5.heap.size v5 (v5.alloc (.cells #[.bool s5, .slice p5 m5 m5, .int .i64 f] 28)) := below1 v5 _
  generalize v5.alloc (.cells #[.bool s5, .slice p5 m5 m5, .int .i64 f] 28) = Wl at *
  have HGl : Hid (w.heap.size ≤ v5.heap.size) := hbw.size
  replace Xa : Hid _ := Xa.out.below hbn
  replace Xb : Hid _ := Xb.out.below hbn
  replace Xr : Hid _ := Xr.out.below hbn
  replace D5 : Hid _ := D5.out.below hbn
  replace hbw := Below.on hbw hbn
  clear hbn
  generalize v5.heap.size = gl at *
  have Xl := Xl0
  clear Xl0
  have HRL : Hid (gr < Wl.heap.size ∧ w.heap.size ≤ Wl.heap.size) := ⟨Xr.out.lt, hbw.size⟩
  refine (dadd_b (H.out.below hbw) D5.out HB.out.1 HB.out.2.1.neg HB.out.2.2 (TB.out.below hbw)).mono ?_
  rintro e2 v6 ⟨v, zo, eo, rfl, hv, hdb, hdv, hb6⟩
  obtain ⟨p6, m6, z6, rfl, ho6, hn6, hm6⟩ := hv
  replace Xa : Hid _ := Xa.out.below hb6
  replace Xb : Hid _ := Xb.out.below hb6
  replace Xr : Hid _ := Xr.out.below hb6
  replace Xl : Hid _ := Xl.out.below hb6
  replace D5 : Hid _ := D5.out.below hb6
  replace hbw := Below.on hbw hb6
  clear hb6
  have O6 : Hid (Own Wl.heap.size v6 p6 m6 z6) := ho6
  have N6 : Hid (Nf B64 z6 zo.natAbs ∧ m6 ≤ 8192 ∧ DB zo eo (K + 2 * E + 1) (K + 3 * E + 1) ∧ dv zo eo = dv x e - dv y f) := ⟨hn6, hm6, hdb, by rw [hdv, dv_neg, Int.sub_eq_add_neg]⟩
  clear ho6 hn6 hm6 hdb hdv
  obtain ⟨so, hso⟩ : ∃ b, b = decide (zo < 0) := ⟨_, rfl⟩
  rw [← hso]
  have HSO : Hid (so = decide (zo < 0)) := hso
  clear hso
  obtain ⟨cr0, cr1, cr2, fr0, fr1, fr2⟩ := Xr.out
  have hner : gr < v6.heap.size := World.block_lt_of_cell? v6 _ cr0
  go_wp2_with fail
  refine bodyPost_ret (v := .tuple #[DV so p6 m6 m6 eo, .int .i64 0]) (by rw [results_cell_tmp rfl]; go_simp) rfl ⟨_, zo, eo, rfl, ⟨p6, m6, z6, by rw [HSO.out], ?_, N6.out.1, N6.out.2.1⟩, N6.out.2.2.1, N6.out.2.2.2, ?_⟩
  · exact own_set3 O6.out HRL.out.1 HRL.out.2 _ _ _
  · exact bSet (bSet (bSet hbw _ _ _ HGr.out) _ _ _ HGr.out) _ _ _ HGr.out
theorem fl_eq (z : Int) (d : Nat) (hd : 0 < d) : fl (decide (z < 0)) z.natAbs d = z / (d : Int) := by
  have h := fl_mo (decide (z < 0)) false z.natAbs d hd
  rw [iv_abs, iv_f, Bool.bne_false] at h
  have h1 : 0 ≤ mo (decide (z < 0)) false z.natAbs d ∧ mo (decide (z < 0)) false z.natAbs d < (d : Int) := by
    unfold mo
    rw [iv_f]
    have := Nat.mod_lt z.natAbs hd
    split
    · rename_i h2
      have h3 : z.natAbs % d ≠ 0 := by simp at h2; omega
      omega
    · omega
  generalize mo (decide (z < 0)) false z.natAbs d = r at *
  generalize fl (decide (z < 0)) z.natAbs d = q at *
  rw [← h, Int.add_comm, Int.add_mul_ediv_right _ _ (by omega), Int.ediv_eq_zero_of_lt h1.1 h1.2]
  omega
def rd (up : Bool) (z : Int) (d : Nat) : Int := if up then -((-z) / (d : Int)) else z / (d : Int)
theorem rd_f (z : Int) (d : Nat) : rd false z d = z / (d : Int) := rfl
theorem rd_t (z : Int) (d : Nat) : rd true z d = -((-z) / (d : Int)) := rfl
theorem rd_down (z : Int) {d : Nat} (hd : 0 < d) : rd false z d * d ≤ z ∧ z < (rd false z d + 1) * d := by
  rw [rd_f]
  have h := Int.mul_ediv_add_emod z d
  have h1 := Int.emod_nonneg z (b := (d : Int)) (by omega)
  have h2 := Int.emod_lt_of_pos z (b := (d : Int)) (by omega)
  rw [Int.add_mul, Int.mul_comm (z / (d : Int))]
  omega
theorem dv_le {x y : Int} (e : Int) (h : x ≤ y) : dv x e ≤ dv y e := by
  unfold dv
  exact Int.mul_le_mul_of_nonneg_right h (Int.natCast_nonneg _)
theorem dv_up {x e : Int} (k : Nat) (he : -4194304 ≤ e) : dv x (e + k) = dv (x * ((2 ^ k : Nat) : Int)) e := by
  rw [dv_shift (e := e + k) (f := e) (by omega) he, show (e + (k : Int) - e).toNat = k from by omega]
def MakeP (B : Nat) (w' : World) (en : Ending) (z e : Int) : Prop :=
  (∃ v zo eo, en = .returned (.tuple #[v, .int .i64 0]) ∧ AnsD B w' v zo eo ∧ DFm zo eo ∧ dv zo eo = dv z e) ∨
  (en = .returned (.tuple #[DV false none 0 0 0, .int .i64 5]) ∧ ∀ zo eo, DFm zo eo → dv zo eo ≠ dv z e)
theorem MakeP.form {B : Nat} {w' : World} {en : Ending} {z e zo eo : Int} (h : MakeP B w' en z e) (hf : DFm zo eo) (hv : dv zo eo = dv z e) : ∃ v, en = .returned (.tuple #[v, .int .i64 0]) ∧ AnsD B w' v zo eo := by
  rcases h with ⟨v, z1, e1, h1, h2, h3, h4⟩ | ⟨_, h2⟩
  · obtain ⟨rfl, rfl⟩ := dv_inj h3 hf (h4.trans hv.symm)
    exact ⟨v, h1, h2⟩
  · exact absurd hv (h2 _ _ hf)
theorem odd_exp {z z' e e' : Int} (hz : z % 2 = 1) (hz' : z' % 2 = 1) (he : -4194304 ≤ e) (he' : -4194304 ≤ e') (h : dv z e = dv z' e') : e = e' := by
  unfold dv at h
  have h1 := odd_ne hz h
  have h2 := odd_ne hz' h.symm
  omega
theorem make_no {z e : Int} {k : Nat} (hz : z ≠ 0) (hk : TzO z.natAbs k) (he : -4194304 ≤ e) (hn : ¬ (-1048576 ≤ k + e ∧ k + e ≤ 1048576)) : ∀ zo eo, DFm zo eo → dv zo eo ≠ dv z e := by
  intro zo eo hf hv
  obtain ⟨h1, h2, _⟩ := tz_split hz hk
  generalize fl (decide (z < 0)) z.natAbs (2 ^ k) = o at *
  rw [← h2, ← dv_up k he] at hv
  rcases hf with ⟨rfl, rfl⟩ | ⟨h3, h4, h5⟩
  · rw [dv_zero] at hv
    have := dv_eq_zero hv.symm
    omega
  · have := odd_exp h3 h1 (by omega) (by omega) hv
    omega
theorem form_ex {z e : Int} {L : Nat} (hz : z ≠ 0) (h1 : -1048576 ≤ e) (hL : z.natAbs ≤ 2 ^ L) (h2 : e + L ≤ 1048576) : ∃ zo eo, DFm zo eo ∧ dv zo eo = dv z e ∧ zo % 2 = 1 ∧ zo.natAbs ≤ z.natAbs ∧ e ≤ eo ∧ eo ≤ e + L := by
  obtain ⟨k, hk⟩ := TzO.ex z.natAbs
  obtain ⟨h3, h4, h5⟩ := tz_split hz hk
  have h6 : 2 ^ k ≤ 2 ^ L := by
    refine Nat.le_trans ?_ hL
    rcases hk with ⟨h0, _⟩ | ⟨_, h7, h8⟩
    · omega
    · rcases Nat.lt_or_ge z.natAbs (2 ^ k) with h | h
      · rw [Nat.div_eq_of_lt h] at h8; omega
      · exact h
  have h7 := (Nat.pow_le_pow_iff_right (by omega : 1 < 2)).1 h6
  generalize fl (decide (z < 0)) z.natAbs (2 ^ k) = o at *
  refine ⟨o, e + k, .inr ⟨h3, by omega, by omega⟩, ?_, h3, h5, by omega, by omega⟩
  rw [dv_up k (by omega), h4]
def MP (B : Nat) (w' : World) (s : Bool) (p : Option Addr) (m : Nat) (eo er : Int) (z e : Int) : Prop :=
  (er = 0 ∧ ∃ zo zs, s = decide (zo < 0) ∧ Own B w' p m zs ∧ Nf B64 zs zo.natAbs ∧ m ≤ 8192 ∧ DFm zo eo ∧ dv zo eo = dv z e) ∨
  (er = 5 ∧ s = false ∧ p = none ∧ m = 0 ∧ eo = 0 ∧ ∀ zo eo, DFm zo eo → dv zo eo ≠ dv z e)
theorem MakeP.open {B : Nat} {w' : World} {en : Ending} {z e : Int} (h : MakeP B w' en z e) : ∃ s p m eo er, en = .returned (.tuple #[DV s p m m eo, .int .i64 er]) ∧ MP B w' s p m eo er z e := by
  rcases h with ⟨v, z1, e1, h1, ⟨p, m, zs, rfl, h2, h3, h4⟩, h5, h6⟩ | ⟨h1, h2⟩
  · exact ⟨_, p, m, e1, 0, h1, .inl ⟨rfl, z1, zs, rfl, h2, h3, h4, h5, h6⟩⟩
  · exact ⟨_, _, _, _, 5, h1, .inr ⟨rfl, rfl, rfl, rfl, rfl, h2⟩⟩
theorem MP.close {B : Nat} {w' : World} {s : Bool} {p : Option Addr} {m : Nat} {eo er z e : Int} (h : MP B w' s p m eo er z e) : MakeP B w' (.returned (.tuple #[DV s p m m eo, .int .i64 er])) z e := by
  rcases h with ⟨rfl, zo, zs, rfl, h2, h3, h4, h5, h6⟩ | ⟨rfl, rfl, rfl, rfl, rfl, h2⟩
  · exact .inl ⟨_, zo, eo, rfl, ⟨p, m, zs, rfl, h2, h3, h4⟩, h5, h6⟩
  · exact .inr ⟨rfl, h2⟩
theorem MP.set {B b : Nat} {w' : World} {s : Bool} {p : Option Addr} {m : Nat} {eo er z e : Int} (h : MP B w' s p m eo er z e) {r : Nat} (hr : r < B) (hb : b ≤ B) (v0 v1 v2 : Value) : MP b (((w'.setCell ⟨r, 0, none⟩ v0).setCell ⟨r, 1, none⟩ v1).setCell ⟨r, 2, none⟩ v2) s p m eo er z e := by
  rcases h with ⟨h0, zo, zs, h1, h2, h3, h4, h5, h6⟩ | h
  · exact .inl ⟨h0, zo, zs, h1, own_set3 h2 hr hb v0 v1 v2, h3, h4, h5, h6⟩
  · exact .inr h
theorem MP.below {B : Nat} {w w' : World} {s : Bool} {p : Option Addr} {m : Nat} {eo er z e : Int} (h : MP B w s p m eo er z e) (hb : Below w.heap.size w w') : MP B w' s p m eo er z e := by
  rcases h with ⟨h0, zo, zs, h1, h2, h3, h4, h5, h6⟩ | h
  · exact .inl ⟨h0, zo, zs, h1, h2.below hb, h3, h4, h5, h6⟩
  · exact .inr h
theorem MakeP.mono {B b : Nat} {w' : World} {en : Ending} {z e : Int} (h : MakeP B w' en z e) (hb : b ≤ B) : MakeP b w' en z e := by
  rcases h with ⟨v, z1, e1, h1, ⟨p, m, zs, h8, h2, h3, h4⟩, h5, h6⟩ | h
  · exact .inl ⟨v, z1, e1, h1, ⟨p, m, zs, h8, h2.mono hb, h3, h4⟩, h5, h6⟩
  · exact .inr h
set_option maxRecDepth 20000 in
set_option maxHeartbeats 8000000 in
theorem moved_no (e n : Int) (w : World) (he : -1048576 ≤ e ∧ e ≤ 2097152) (hs : ¬ (-1048576 ≤ e + n ∧ e + n ≤ 1048576)) :
    Calls Tryz.prog 39 #[.int .i64 e, .int .i64 n] w fun en w' => en = .returned (.tuple #[.int .i64 0, .int .i64 5]) ∧ w' = w := by
  have f1 : wrap64 (-1048576 - e) = -1048576 - e := by simp only [wrap64]; omega
  have f2 : wrap64 (1048576 - e) = 1048576 - e := by simp only [wrap64]; omega
  by_cases f4 : n < -1048576 - e
  · clear he hs
    go_enter Tryz.func39, Tryz.ntmps39
    go_wp2_with fail
    go_ret2
    exact ⟨rfl, rfl⟩
  have f5 : 1048576 - e < n := by omega
  clear he hs
  go_enter Tryz.func39, Tryz.ntmps39
  go_wp2_with fail
  go_ret2
  exact ⟨rfl, rfl⟩
set_option maxRecDepth 20000 in
set_option maxHeartbeats 8000000 in
theorem makep_n {p : Option Addr} {m c : Nat} {w : World} {z e : Int} {s : Bool} (h : ZN w s p m c z) (he : -3145728 ≤ e ∧ e ≤ 3145728) (hT : Tab w) {k : Nat} (hz : z ≠ 0) (hk : TzO z.natAbs k) (hr : (-1048576 ≤ k + e ∧ k + e ≤ 1048576)) :
    Calls Tryz.prog 34 #[ZV s p m c, .int .i64 e] w fun en w' => MakeP w.heap.size w' en z e ∧ Below w.heap.size w w' := by
  have H : Hid (ZN w s p m c z) := h
  have HE : Hid (-3145728 ≤ e ∧ e ≤ 3145728) := he
  have TB : Hid (Tab w) := hT
  have HZ : Hid (z ≠ 0) := hz
  have HR : Hid ((-1048576 ≤ k + e ∧ k + e ≤ 1048576)) := hr
  have HK : Hid (TzO z.natAbs k) := hk
  clear h he hT hz hr
  go_enter Tryz.func34, Tryz.ntmps34
  go_wp2_with fail
  obtain ⟨W0, hW0⟩ : ∃ W0, W0 = ((w.alloc (.cells #[.bool s, .slice p m c] 26)).alloc (.cells #[.bool false, .slice none 0 0, .int .i64 0] 28)) := ⟨_, rfl⟩
  have Xm : Hid (Box W0 (w.heap.size) (.bool s) (.slice p m c)) := by rw [hW0]; exact ⟨by go_simp, by go_simp, by go_simp, by go_simp⟩
  have Xr : Hid (B3q W0 (w.heap.size + 1) (.bool false) (.slice none 0 0) (.int .i64 0)) := by rw [hW0]; exact ⟨by go_simp, by go_simp, by go_simp, by go_simp, by go_simp, by go_simp⟩
  have hb0 : Below w.heap.size w W0 := by rw [hW0]; exact below2 w _ _
  rw [← hW0]
  clear hW0
  have hbw : Below w.heap.size w w := Below.refl _ _
  obtain ⟨gr, hgr⟩ : ∃ g, g = w.heap.size + 1 := ⟨_, rfl⟩
  have HGr : Hid (w.heap.size ≤ gr) := by rw [hgr]; show _ ≤ _; omega
  rw [← hgr] at Xr
  try rw [← hgr]
  obtain ⟨gm, hgm⟩ : ∃ g, g = w.heap.size := ⟨_, rfl⟩
  have HGm : Hid (w.heap.size ≤ gm) := by rw [hgm]; show _ ≤ _; omega
  rw [← hgm] at Xm
  try rw [← hgm]
  have HGD : Hid (gm ≠ gr ∧ gr ≠ gm) := by rw [hgm, hgr]; exact ⟨by omega, by omega⟩
  clear hgm hgr
  replace hbw := Below.on hbw hb0
  clear hb0
  refine (zform (H.out.below hbw)).mono ?_
  rintro e v1 ⟨rfl, hb1⟩
  replace Xm : Hid _ := Xm.out.below hb1
  replace Xr : Hid _ := Xr.out.below hb1
  replace hbw := Below.on hbw hb1
  clear hb1
  obtain ⟨cm0, cm1, fm0, fm1⟩ := Xm.out
  have hnem := Xm.out.lt
  go_wp2_with fail
  clear cm0 cm1 fm0 fm1 hnem
  refine (zsign (H.out.below hbw)).mono ?_
  rintro e v2 ⟨rfl, hb2⟩
  obtain ⟨sg, hsg⟩ : ∃ sg, sg = sgnI (z) := ⟨_, rfl⟩
  rw [← hsg]
  have hs0 : (sg == 0) = false := by rw [hsg]; have := HZ.out; unfold sgnI; split <;> (try split) <;> simp <;> omega
  clear hsg
  replace Xm : Hid _ := Xm.out.below hb2
  replace Xr : Hid _ := Xr.out.below hb2
  replace hbw := Below.on hbw hb2
  clear hb2
  obtain ⟨cm0, cm1, fm0, fm1⟩ := Xm.out
  have hnem := Xm.out.lt
  go_wp2_with fail
  clear cm0 cm1 fm0 fm1 hnem
  have hkb : k ≤ 524288 := by
    have h1 := (lim_bits z.natAbs).1 H.out.lim
    rcases hk with ⟨h0, _⟩ | ⟨_, h2, h3⟩
    · exact absurd (Int.natAbs_eq_zero.1 h0) HZ.out
    · have h4 : 2 ^ k ≤ z.natAbs := by
        rcases Nat.lt_or_ge z.natAbs (2 ^ k) with h | h
        · rw [Nat.div_eq_of_lt h] at h3; omega
        · exact h
      have h5 := bitsN_lt z.natAbs
      have h6 := (Nat.pow_lt_pow_iff_right (by omega : 1 < 2)).1 (Nat.lt_of_le_of_lt h4 h5)
      omega
  have HKB : Hid (k ≤ 524288) := hkb
  clear hk hkb
  obtain ⟨xs, hX⟩ := (H.out.below hbw).ex
  refine (trail_any hX.at_ (by have := hX.le; omega) (k := k) (by rw [hX.nf.val]; exact HK.out) (TB.out.below hbw)).mono ?_
  rintro e2 v3 ⟨rfl, hw⟩
  obtain rfl := hw.symm
  clear hw hX
  go_wp2_with fail
  refine (moved_ok k e _ (by have := HKB.out; omega) HR.out).mono ?_
  rintro e2 v4 ⟨rfl, hw⟩
  obtain rfl := hw.symm
  clear hw
  obtain ⟨cm0, cm1, fm0, fm1⟩ := Xm.out
  have hnem := Xm.out.lt
  go_wp2_with fail
  clear cm0 cm1 fm0 fm1 hnem
  obtain ⟨o, ho9⟩ : ∃ o, o = fl (decide (z < 0)) z.natAbs (2 ^ k) := ⟨_, rfl⟩
  have HO9 : Hid (o % 2 = 1 ∧ o * ((2 ^ k : Nat) : Int) = z ∧ o.natAbs ≤ z.natAbs) := by rw [ho9]; exact tz_split HZ.out HK.out
  have HRL : Hid (gr < v2.heap.size ∧ w.heap.size ≤ v2.heap.size) := ⟨Xr.out.lt, hbw.size⟩
  obtain ⟨xs, hX⟩ := (H.out.below hbw).ex
  refine (fshr_any s hX H.out.pos k (by have := HKB.out; omega) (TB.out.below hbw)).mono ?_
  rintro e2 v5 ⟨v, rfl, hv, hb5⟩
  rw [H.out.sg, ← ho9] at hv
  obtain ⟨p5, m5, z5, rfl, ho5, hn5, hm5⟩ := hv
  clear hX ho9
  replace Xm : Hid _ := Xm.out.below hb5
  replace Xr : Hid _ := Xr.out.below hb5
  replace hbw := Below.on hbw hb5
  clear hb5
  have O5 : Hid (Own v2.heap.size v5 p5 m5 z5) := ho5
  have N5 : Hid (Nf B64 z5 o.natAbs ∧ m5 ≤ 8192) := ⟨hn5, hm5⟩
  clear ho5 hn5 hm5
  obtain ⟨so, hso⟩ : ∃ b, b = decide (o < 0) := ⟨_, rfl⟩
  rw [← hso]
  have HSO : Hid (so = decide (o < 0)) := hso
  clear hso
  obtain ⟨cr0, cr1, cr2, fr0, fr1, fr2⟩ := Xr.out
  have hner : gr < v5.heap.size := World.block_lt_of_cell? v5 _ cr0
  go_wp2_with fail
  refine bodyPost_ret (v := .tuple #[DV so p5 m5 m5 (k + e), .int .i64 0]) (by rw [results_cell_tmp rfl]; go_simp) rfl ⟨.inl ⟨_, o, k + e, rfl, ⟨p5, m5, z5, by rw [HSO.out], ?_, N5.out.1, N5.out.2⟩, .inr ⟨HO9.out.1, HR.out⟩, ?_⟩, ?_⟩
  · exact (own_set3 O5.out HRL.out.1 HRL.out.2 _ _ _).below (below1 _ _)
  · rw [dv_shift (e := (k : Int) + e) (f := e) (by omega) (by have := HE.out; omega), show ((k : Int) + e - e).toNat = k from by omega, HO9.out.2.1]
  · exact Below.on (bSet (bSet (bSet hbw _ _ _ HGr.out) _ _ _ HGr.out) _ _ _ HGr.out) (below1 _ _)
set_option maxRecDepth 20000 in
set_option maxHeartbeats 8000000 in
theorem makep_e {p : Option Addr} {m c : Nat} {w : World} {z e : Int} {s : Bool} (h : ZN w s p m c z) (he : -3145728 ≤ e ∧ e ≤ 3145728) (hT : Tab w) {k : Nat} (hz : z ≠ 0) (hk : TzO z.natAbs k) (hr : ¬ (-1048576 ≤ k + e ∧ k + e ≤ 1048576)) :
    Calls Tryz.prog 34 #[ZV s p m c, .int .i64 e] w fun en w' => MakeP w.heap.size w' en z e ∧ Below w.heap.size w w' := by
  have H : Hid (ZN w s p m c z) := h
  have HE : Hid (-3145728 ≤ e ∧ e ≤ 3145728) := he
  have TB : Hid (Tab w) := hT
  have HZ : Hid (z ≠ 0) := hz
  have HR : Hid (¬ (-1048576 ≤ k + e ∧ k + e ≤ 1048576)) := hr
  have HK : Hid (TzO z.natAbs k) := hk
  clear h he hT hz hr
  go_enter Tryz.func34, Tryz.ntmps34
  go_wp2_with fail
  obtain ⟨W0, hW0⟩ : ∃ W0, W0 = ((w.alloc (.cells #[.bool s, .slice p m c] 26)).alloc (.cells #[.bool false, .slice none 0 0, .int .i64 0] 28)) := ⟨_, rfl⟩
  have Xm : Hid (Box W0 (w.heap.size) (.bool s) (.slice p m c)) := by rw [hW0]; exact ⟨by go_simp, by go_simp, by go_simp, by go_simp⟩
  have Xr : Hid (B3q W0 (w.heap.size + 1) (.bool false) (.slice none 0 0) (.int .i64 0)) := by rw [hW0]; exact ⟨by go_simp, by go_simp, by go_simp, by go_simp, by go_simp, by go_simp⟩
  have hb0 : Below w.heap.size w W0 := by rw [hW0]; exact below2 w _ _
  rw [← hW0]
  clear hW0
  have hbw : Below w.heap.size w w := Below.refl _ _
  obtain ⟨gr, hgr⟩ : ∃ g, g = w.heap.size + 1 := ⟨_, rfl⟩
  have HGr : Hid (w.heap.size ≤ gr) := by rw [hgr]; show _ ≤ _; omega
  rw [← hgr] at Xr
  try rw [← hgr]
  obtain ⟨gm, hgm⟩ : ∃ g, g = w.heap.size := ⟨_, rfl⟩
  have HGm : Hid (w.heap.size ≤ gm) := by rw [hgm]; show _ ≤ _; omega
  rw [← hgm] at Xm
  try rw [← hgm]
  have HGD : Hid (gm ≠ gr ∧ gr ≠ gm) := by rw [hgm, hgr]; exact ⟨by omega, by omega⟩
  clear hgm hgr
  replace hbw := Below.on hbw hb0
  clear hb0
  refine (zform (H.out.below hbw)).mono ?_
  rintro e v1 ⟨rfl, hb1⟩
  replace Xm : Hid _ := Xm.out.below hb1
  replace Xr : Hid _ := Xr.out.below hb1
  replace hbw := Below.on hbw hb1
  clear hb1
  obtain ⟨cm0, cm1, fm0, fm1⟩ := Xm.out
  have hnem := Xm.out.lt
  go_wp2_with fail
  clear cm0 cm1 fm0 fm1 hnem
  refine (zsign (H.out.below hbw)).mono ?_
  rintro e v2 ⟨rfl, hb2⟩
  obtain ⟨sg, hsg⟩ : ∃ sg, sg = sgnI (z) := ⟨_, rfl⟩
  rw [← hsg]
  have hs0 : (sg == 0) = false := by rw [hsg]; have := HZ.out; unfold sgnI; split <;> (try split) <;> simp <;> omega
  clear hsg
  replace Xm : Hid _ := Xm.out.below hb2
  replace Xr : Hid _ := Xr.out.below hb2
  replace hbw := Below.on hbw hb2
  clear hb2
  obtain ⟨cm0, cm1, fm0, fm1⟩ := Xm.out
  have hnem := Xm.out.lt
  go_wp2_with fail
  clear cm0 cm1 fm0 fm1 hnem
  have hkb : k ≤ 524288 := by
    have h1 := (lim_bits z.natAbs).1 H.out.lim
    rcases hk with ⟨h0, _⟩ | ⟨_, h2, h3⟩
    · exact absurd (Int.natAbs_eq_zero.1 h0) HZ.out
    · have h4 : 2 ^ k ≤ z.natAbs := by
        rcases Nat.lt_or_ge z.natAbs (2 ^ k) with h | h
        · rw [Nat.div_eq_of_lt h] at h3; omega
        · exact h
      have h5 := bitsN_lt z.natAbs
      have h6 := (Nat.pow_lt_pow_iff_right (by omega : 1 < 2)).1 (Nat.lt_of_le_of_lt h4 h5)
      omega
  have HKB : Hid (k ≤ 524288) := hkb
  clear hk hkb
  obtain ⟨xs, hX⟩ := (H.out.below hbw).ex
  refine (trail_any hX.at_ (by have := hX.le; omega) (k := k) (by rw [hX.nf.val]; exact HK.out) (TB.out.below hbw)).mono ?_
  rintro e2 v3 ⟨rfl, hw⟩
  obtain rfl := hw.symm
  clear hw hX
  go_wp2_with fail
  refine (moved_no k e _ (by have := HKB.out; omega) HR.out).mono ?_
  rintro e2 v4 ⟨rfl, hw⟩
  obtain rfl := hw.symm
  clear hw
  obtain ⟨cr0, cr1, cr2, fr0, fr1, fr2⟩ := Xr.out
  have hner : gr < v2.heap.size := World.block_lt_of_cell? v2 _ cr0
  go_wp2_with fail
  refine bodyPost_ret (v := .tuple #[DV false none 0 0 0, .int .i64 5]) (by rw [results_cell_tmp rfl]; go_simp) rfl ⟨.inr ⟨rfl, make_no HZ.out HK.out (by have := HE.out; omega) HR.out⟩, ?_⟩
  first | exact hbw | exact bSet (bSet (bSet hbw _ _ _ HGr.out) _ _ _ HGr.out) _ _ _ HGr.out
set_option maxRecDepth 20000 in
set_option maxHeartbeats 8000000 in
theorem makep_z {p : Option Addr} {m c : Nat} {w : World} {z e : Int} {s : Bool} (h : ZN w s p m c z) (hz : z = 0) :
    Calls Tryz.prog 34 #[ZV s p m c, .int .i64 e] w fun en w' => MakeP w.heap.size w' en z e ∧ Below w.heap.size w w' := by
  have H : Hid (ZN w s p m c z) := h
  subst hz
  clear h
  go_enter Tryz.func34, Tryz.ntmps34
  go_wp2_with fail
  obtain ⟨W0, hW0⟩ : ∃ W0, W0 = ((w.alloc (.cells #[.bool s, .slice p m c] 26)).alloc (.cells #[.bool false, .slice none 0 0, .int .i64 0] 28)) := ⟨_, rfl⟩
  have Xm : Hid (Box W0 (w.heap.size) (.bool s) (.slice p m c)) := by rw [hW0]; exact ⟨by go_simp, by go_simp, by go_simp, by go_simp⟩
  have Xr : Hid (B3q W0 (w.heap.size + 1) (.bool false) (.slice none 0 0) (.int .i64 0)) := by rw [hW0]; exact ⟨by go_simp, by go_simp, by go_simp, by go_simp, by go_simp, by go_simp⟩
  have hb0 : Below w.heap.size w W0 := by rw [hW0]; exact below2 w _ _
  rw [← hW0]
  clear hW0
  have hbw : Below w.heap.size w w := Below.refl _ _
  obtain ⟨gr, hgr⟩ : ∃ g, g = w.heap.size + 1 := ⟨_, rfl⟩
  have HGr : Hid (w.heap.size ≤ gr) := by rw [hgr]; show _ ≤ _; omega
  rw [← hgr] at Xr
  try rw [← hgr]
  obtain ⟨gm, hgm⟩ : ∃ g, g = w.heap.size := ⟨_, rfl⟩
  have HGm : Hid (w.heap.size ≤ gm) := by rw [hgm]; show _ ≤ _; omega
  rw [← hgm] at Xm
  try rw [← hgm]
  have HGD : Hid (gm ≠ gr ∧ gr ≠ gm) := by rw [hgm, hgr]; exact ⟨by omega, by omega⟩
  clear hgm hgr
  replace hbw := Below.on hbw hb0
  clear hb0
  refine (zform (H.out.below hbw)).mono ?_
  rintro e v1 ⟨rfl, hb1⟩
  replace Xm : Hid _ := Xm.out.below hb1
  replace Xr : Hid _ := Xr.out.below hb1
  replace hbw := Below.on hbw hb1
  clear hb1
  obtain ⟨cm0, cm1, fm0, fm1⟩ := Xm.out
  have hnem := Xm.out.lt
  go_wp2_with fail
  clear cm0 cm1 fm0 fm1 hnem
  refine (zsign (H.out.below hbw)).mono ?_
  rintro e v2 ⟨rfl, hb2⟩
  rw [show sgnI 0 = 0 from rfl]
  replace Xm : Hid _ := Xm.out.below hb2
  replace Xr : Hid _ := Xr.out.below hb2
  replace hbw := Below.on hbw hb2
  clear hb2
  obtain ⟨cr0, cr1, cr2, fr0, fr1, fr2⟩ := Xr.out
  have hner : gr < v2.heap.size := World.block_lt_of_cell? v2 _ cr0
  go_wp2_with fail
  refine bodyPost_ret (v := .tuple #[DV false none 0 0 0, .int .i64 0]) (by rw [results_cell_tmp rfl]; go_simp) rfl ⟨.inl ⟨_, 0, 0, rfl, ⟨none, 0, [], rfl, ⟨rfl, Dig.nil _, .inl rfl⟩, Nf.nil _, by omega⟩, .inl ⟨rfl, rfl⟩, by rw [dv_zero, dv_zero]⟩, ?_⟩
  first | exact hbw | exact bSet (bSet (bSet hbw _ _ _ HGr.out) _ _ _ HGr.out) _ _ _ HGr.out
theorem makep {p : Option Addr} {m c : Nat} {w : World} {z e : Int} {s : Bool} (h : ZN w s p m c z) (he : -3145728 ≤ e ∧ e ≤ 3145728) (hT : Tab w) :
    Calls Tryz.prog 34 #[ZV s p m c, .int .i64 e] w fun en w' => MakeP w.heap.size w' en z e ∧ Below w.heap.size w w' := by
  by_cases hz : z = 0
  · exact makep_z h hz
  obtain ⟨k, hk⟩ := TzO.ex z.natAbs
  by_cases hr : -1048576 ≤ k + e ∧ k + e ≤ 1048576
  · exact makep_n h he hT hz hk hr
  · exact makep_e h he hT hz hk hr
def formZ (s : Bool) (xs : List Nat) : Bool := formB xs && !(s && decide (xs = []))
set_option maxRecDepth 20000 in
set_option maxHeartbeats 8000000 in
theorem sameD_t {p q : Option Addr} {m c n d : Nat} {w : World} {z e : Int} {s t : Bool} (h : DN w s p m c e z) (k : DN w t q n d e z) :
    Calls Tryz.prog 11 #[DV s p m c e, DV t q n d e] w fun en w' => en = .returned (.bool true) ∧ Below w.heap.size w w' := by
  obtain rfl : s = t := by rw [h.zn.sg, k.zn.sg]
  have H : Hid (DN w s p m c e z) := h
  have K : Hid (DN w s q n d e z) := k
  have hbb : (s == s) = true := by simp
  have hee : (e == e) = true := by simp
  clear h k
  go_enter Tryz.func11, Tryz.ntmps11
  go_wp2_with fail
  obtain ⟨W0, hW0⟩ : ∃ W0, W0 = ((w.alloc (.cells #[.bool s, .slice p m c, .int .i64 e] 28)).alloc (.cells #[.bool s, .slice q n d, .int .i64 e] 28)) := ⟨_, rfl⟩
  have Xa : Hid (B3q W0 (w.heap.size) (.bool s) (.slice p m c) (.int .i64 e)) := by rw [hW0]; exact ⟨by go_simp, by go_simp, by go_simp, by go_simp, by go_simp, by go_simp⟩
  have Xb : Hid (B3q W0 (w.heap.size + 1) (.bool s) (.slice q n d) (.int .i64 e)) := by rw [hW0]; exact ⟨by go_simp, by go_simp, by go_simp, by go_simp, by go_simp, by go_simp⟩
  have hb0 : Below w.heap.size w W0 := by rw [hW0]; exact below2 w _ _
  rw [← hW0]
  clear hW0
  have hbw : Below w.heap.size w w := Below.refl _ _
  obtain ⟨gb, hgb⟩ : ∃ g, g = w.heap.size + 1 := ⟨_, rfl⟩
  have HGb : Hid (w.heap.size ≤ gb) := by rw [hgb]; show _ ≤ _; omega
  rw [← hgb] at Xb
  try rw [← hgb]
  obtain ⟨ga, hga⟩ : ∃ g, g = w.heap.size := ⟨_, rfl⟩
  have HGa : Hid (w.heap.size ≤ ga) := by rw [hga]; show _ ≤ _; omega
  rw [← hga] at Xa
  try rw [← hga]
  have HGD : Hid (ga ≠ gb ∧ gb ≠ ga) := by rw [hga, hgb]; exact ⟨by omega, by omega⟩
  clear hga hgb
  replace hbw := Below.on hbw hb0
  clear hb0
  obtain ⟨xs, hX⟩ := (H.out.zn.below hbw).ex
  obtain ⟨ys, hY⟩ := (K.out.zn.below hbw).ex
  obtain rfl := hX.nf.inj B64_one hY.nf
  refine (same_t hX.at_ hY.at_).mono ?_
  rintro e2 v1 ⟨rfl, hb1⟩
  clear hX hY
  replace Xa : Hid _ := Xa.out.below hb1
  replace Xb : Hid _ := Xb.out.below hb1
  replace hbw := Below.on hbw hb1
  clear hb1
  go_wp2_with fail
  go_ret
  exact ⟨rfl, hbw⟩
structure RSubR (w : World) (g N : Nat) (xs ys : List Nat) (i ow : Nat) (ss : List Nat) (wr : World) : Prop where
  bel : Below g w wr
  own : wr.ownsRow g 203 1 (.slice (some ⟨g, 0, none⟩) i N) i (cellsV ss)
  len : ss.length = i
  dig : Dig B32 ss
  car : ow ≤ 1
  sum : valB B32 ss + valB B32 (ys.take i) = valB B32 (xs.take i) + B32 ^ i * ow
theorem rsub_step {xs ys ss : List Nat} {i ow x y lo o2 : Nat} (h : valB B32 ss + valB B32 (ys.take i) = valB B32 (xs.take i) + B32 ^ i * ow) (hl : ss.length = i) (ex : x = xs.getD i 0) (ey : y = ys.getD i 0) (hs : lo + ow + y = x + B32 * o2) :
    valB B32 (ss ++ [lo]) + valB B32 (ys.take (i + 1)) = valB B32 (xs.take (i + 1)) + B32 ^ (i + 1) * o2 := by
  rw [valB_snoc, hl, valB_take_any _ xs i, valB_take_any _ ys i, ← ex, ← ey, Nat.pow_succ]
  have e1 : B32 ^ i * (lo + ow + y) = B32 ^ i * (x + B32 * o2) := by rw [hs]
  rw [Nat.mul_add, Nat.mul_add, Nat.mul_add, ← Nat.mul_assoc] at e1
  omega
theorem RSubR.at_ {w : World} {g N : Nat} {xs ys : List Nat} {i cy : Nat} {ss : List Nat} {wr : World} (h : RSubR w g N xs ys i cy ss wr) : At32 wr (some ⟨g, 0, none⟩) i N ss := by
  rcases h.own.2 with ⟨h', _⟩ | ⟨g', cap', cur, h', hbase, hgc, hcap', hmx, hsz, htake⟩
  · simp at h'
  · simp only [Value.slice.injEq, Option.some.injEq, Addr.mk.injEq, and_true, true_and] at h'
    obtain ⟨rfl, rfl⟩ := h'
    refine ⟨h.len, hcap', hmx, h.dig, .inr ⟨g, 0, rfl, fun jj hj => ?_⟩⟩
    rw [Nat.zero_add, cell_of_row wr g jj _ _ _ hgc]
    have e1 := cellsV_get ss jj (by rw [h.len]; exact hj)
    rw [← htake, Nat.mul_one, List.getElem?_take, if_pos hj] at e1
    rw [← Array.getElem?_toList]; exact e1

set_option maxRecDepth 20000 in
set_option maxHeartbeats 2000000 in
theorem rsub_gt {p q : Option Addr} {n m c d : Nat} {xs ys : List Nat} {a b : Nat} {w : World} (h : At32 w p n c xs) (k : At32 w q m d ys) (hx : Nf B32 xs a) (hy : Nf B32 ys b) (hn : n ≤ 4398046511104) (hlt : b < a) :
    Calls Tryz.prog 155 #[.slice p n c, .slice q m d] w fun e w' => ∃ p' m' zs, e = .returned (.slice p' m' m') ∧ At32 w' p' m' m' zs ∧ Nf B32 zs (a - b) ∧ m' ≤ n ∧ Below w.heap.size w w' := by
  obtain ⟨i0, hi, hz0, hz1, hz2⟩ := info_parts Tryz.infoU32
  have HX : Hid (Nf B32 xs a) := hx
  have HY : Hid (Nf B32 ys b) := hy
  have HLX : Hid (xs.length = n) := h.len
  have HLY : Hid (ys.length = m) := k.len
  have HLT : Hid (b < a) := hlt
  have hmn : m ≤ n := by
    rcases Nat.lt_or_ge n m with e | e
    · exfalso
      have h1 := nf32_lt hx (K := n) (by rw [h.len]; exact Nat.le_refl _)
      have h2 := nf32_ge hy (K := n) (by rw [k.len]; exact e)
      omega
    · exact e
  have hcap := h.cap; have hbig := h.big; have kcap := k.cap; have kbig := k.big
  unfold maxLen at hbig kbig
  have HA : Hid (At32 w p n c xs) := h
  have HB : Hid (At32 w q m d ys) := k
  clear hx hy h k hlt
  go_enter Tryz.func155, Tryz.ntmps155
  go_wp2_with fail
  refine (rcmp_any HA.out HB.out HX.out HY.out).mono ?_
  rintro e w' ⟨rfl, r, rfl⟩
  rw [cmpN_gt HLT.out]
  have h := HA.out.drewN r
  have k := HB.out.drewN r
  have hb0 : Below w.heap.size w (w.drewN r) := bDrewN (Below.refl _ _) r
  clear HA HB
  generalize w.drewN r = w0 at *
  go_wp2_with (at_make; refine wpList_make_own _ rfl _ _ 108 rfl w0.heap.size 203 i0 (.int .u32 0) 1 Tryz.underlying108 hi hz0 hz1 _ _ _ n rfl rfl (by omega) (by rw [hz2]; omega) (by unfold maxLen; omega) (Nat.le_refl _) ?_; intro w1 hown hgrow)
  have hb1 : Below w0.heap.size w0 w1 := (Below.refl _ _).grown hgrow (Nat.le_refl _) (fun k hk => by simp at hk)
  have HO : Hid (RSubR w0 w0.heap.size n xs ys 0 0 [] w1) := ⟨hb1, hown, rfl, Dig.nil _, by omega, by simp [valB]⟩
  clear hown hgrow hb1
  go_loopg [5, 6, 7] n (fun gk sv ov iv wr => ∃ (i ow : Nat) (ss : List Nat), i + gk = n ∧ iv = .int .i64 i ∧ ov = U ow ∧ sv = .slice (some ⟨w0.heap.size, 0, none⟩) i n ∧ Hid (RSubR w0 w0.heap.size n xs ys i ow ss wr))
  case atStart => exact ⟨0, 0, [], by omega, rfl, rfl, rfl, HO⟩
  case round =>
    obtain ⟨i, ow, ss, hig, rfl, rfl, rfl, HR⟩ := hrel
    have how := HR.out.car
    cases gk with
    | zero =>
      obtain rfl : i = n := by omega
      have A32 := HR.out.at_
      have hv := HR.out.sum
      rw [List.take_of_length_le (l := ys) (by rw [HLY.out]; omega), List.take_of_length_le (l := xs) (by rw [HLX.out]; omega), HX.out.val, HY.out.val] at hv
      have hvl := valB_lt B32_pos HR.out.dig
      rw [HR.out.len] at hvl
      have hsv : valB B32 ss = a - b := sub_abs hv hvl how (Nat.le_of_lt HLT.out)
      have HNF : Hid (Nf B32 (trimL ss) (a - b)) := by
        have := Nf.trim HR.out.dig
        rw [hsv] at this; exact this
      have hle := trimL_length_le ss
      have HLE : Hid ((trimL ss).length ≤ i) := by have := HR.out.len; show _ ≤ _; omega
      have hbx := HR.out.bel
      have hni : ¬ (i : Int) < (i : Int) := by omega
      clear hv hle hvl hsv
      go_wp2_with fail
      refine (rnorm_any A32 (by omega)).mono ?_
      rintro e w5 ⟨g5, rfl, hg5, hblk5, hb5⟩
      have hd5 := HNF.out.dig
      generalize trimL ss = zs at *
      go_wp2_with fail
      go_ret
      exact ⟨_, _, zs, rfl, hblk5.at_ hd5 rfl (by have := HLE.out; unfold maxLen; omega), HNF.out, HLE.out, Below.on hb0 (Below.on hbx hb5)⟩
    | succ gg =>
      obtain ⟨x, hx⟩ : ∃ x, x = xs.getD i 0 := ⟨_, rfl⟩
      obtain ⟨y, hy⟩ : ∃ y, y = ys.getD i 0 := ⟨_, rfl⟩
      have hxb : x < B32 := by rw [hx]; exact HX.out.dig.getD B32_pos i
      have hyb : y < B32 := by rw [hy]; exact HY.out.dig.getD B32_pos i
      have HXE : Hid (x = xs.getD i 0) := hx
      have HYE : Hid (y = ys.getD i 0) := hy
      have hin : i < n := by omega
      obtain ⟨g, off, rfl, hc⟩ := h.cells.resolve_left (by omega)
      have hcx0 : w0.cell? ⟨g, off + i, none⟩ = some (V x) := by rw [HXE.out]; exact hc i hin
      have hcx : wr.cell? ⟨g, off + i, none⟩ = some (V x) := (HR.out.bel.cell (p := ⟨g, off + i, none⟩) (World.block_lt_of_cell? w0 _ hcx0)).trans hcx0
      have hxw : IntKind.u64.wrap (x : Int) = (x : Int) := wrap_mod _ _ (by rw [B32_eq] at hxb; omega)
      have hyw : IntKind.u64.wrap (y : Int) = (y : Int) := wrap_mod _ _ (by rw [B32_eq] at hyb; omega)
      rw [B32_eq] at hxb hyb
      have hsp : i + 1 ≤ n := by omega
      clear hc hcx0 hx hy
      by_cases hb : i < m
      · have him : i < m := hb
        obtain ⟨g2, off2, rfl, hc2⟩ := k.cells.resolve_left (by omega)
        have hcy0 : w0.cell? ⟨g2, off2 + i, none⟩ = some (V y) := by rw [HYE.out]; exact hc2 i him
        have hcy1 : wr.cell? ⟨g2, off2 + i, none⟩ = some (V y) := (HR.out.bel.cell (p := ⟨g2, off2 + i, none⟩) (World.block_lt_of_cell? w0 _ hcy0)).trans hcy0
        clear hc2 hcy0
        obtain ⟨t, et⟩ : ∃ t, t = ow + y := ⟨_, rfl⟩
        have f1 : IntKind.u64.wrap ((ow : Int) + (y : Int)) = (t : Int) := wrap_mod _ _ (by omega)
        by_cases hu : x < t
        · obtain ⟨x2, ex2⟩ : ∃ x2, x2 = x + 4294967296 := ⟨_, rfl⟩
          have f2 : IntKind.u64.wrap ((x : Int) + 4294967296) = (x2 : Int) := wrap_mod _ _ (by omega)
          obtain ⟨lo, elo⟩ : ∃ lo, lo = x2 - t := ⟨_, rfl⟩
          have f3 : IntKind.u64.wrap ((x2 : Int) - (t : Int)) = (lo : Int) := wrap_mod _ _ (by omega)
          have hui : (x : Int) < (t : Int) := by omega
          have hlob : lo < B32 := by rw [B32_eq]; omega
          have f6 : IntKind.u32.wrap (lo : Int) = (lo : Int) := wrap32 lo hlob
          have f7 : (lo : Int) % 4294967296 = (lo : Int) := by rw [B32_eq] at hlob; omega
          have HSUM : Hid (lo + ow + y = x + B32 * 1) := by show _ = _; rw [B32_eq]; omega
          have HOA : Hid ((wr.alloc (.cells #[V lo] 203)).ownsRow w0.heap.size 203 1 (.slice (some ⟨w0.heap.size, 0, none⟩) i n) i (cellsV ss)) := HR.out.own.alloc _
          clear elo ex2 et hxb hyb
          go_wp2_with (at_builtin; refine wpList_append_fits _ rfl (.tmp 46) (.tmp 51) 108 rfl w0.heap.size 203 i0 1 Tryz.underlying108 hi hz1 w0.heap.size i n (cellsV ss) rfl HOA.out ⟨wr.heap.size, 0, none⟩ 1 1 [V lo] rfl rfl (one_cell wr lo) (by intro u hu; simp at hu; subst hu; rfl) hsp ?_; intro w3 hw3 hgr3)
          have HR3 : Hid (RSubR w0 w0.heap.size n xs ys (i + 1) 1 (ss ++ [lo]) w3) := by
            have hR := HR.out
            refine ⟨(hR.bel.alloc hR.bel.size _).grown hgr3 (by have := hR.bel.size; simp; omega) (fun q hq => by simp at hq; omega), ?_, by simp [hR.len], hR.dig.append (Dig.cons hlob (Dig.nil _)), by omega, rsub_step hR.sum hR.len HXE.out HYE.out HSUM.out⟩
            have e0 : cellsV (ss ++ [lo]) = cellsV ss ++ [V lo] := by unfold cellsV; rw [List.map_append]; rfl
            rw [e0]; exact hw3
          clear hw3 hgr3
          go_roundg gg
          case measure => omega
          case rel => exact ⟨i + 1, 1, ss ++ [lo], by omega, by go_num, rfl, rfl, HR3⟩
        · obtain ⟨lo, elo⟩ : ∃ lo, lo = x - t := ⟨_, rfl⟩
          have f3 : IntKind.u64.wrap ((x : Int) - (t : Int)) = (lo : Int) := wrap_mod _ _ (by omega)
          have hui : ¬ (x : Int) < (t : Int) := by omega
          have hlob : lo < B32 := by rw [B32_eq]; omega
          have f6 : IntKind.u32.wrap (lo : Int) = (lo : Int) := wrap32 lo hlob
          have f7 : (lo : Int) % 4294967296 = (lo : Int) := by rw [B32_eq] at hlob; omega
          have HSUM : Hid (lo + ow + y = x + B32 * 0) := by show _ = _; rw [B32_eq]; omega
          have HOA : Hid ((wr.alloc (.cells #[V lo] 203)).ownsRow w0.heap.size 203 1 (.slice (some ⟨w0.heap.size, 0, none⟩) i n) i (cellsV ss)) := HR.out.own.alloc _
          clear elo et hxb hyb
          go_wp2_with (at_builtin; refine wpList_append_fits _ rfl (.tmp 46) (.tmp 51) 108 rfl w0.heap.size 203 i0 1 Tryz.underlying108 hi hz1 w0.heap.size i n (cellsV ss) rfl HOA.out ⟨wr.heap.size, 0, none⟩ 1 1 [V lo] rfl rfl (one_cell wr lo) (by intro u hu; simp at hu; subst hu; rfl) hsp ?_; intro w3 hw3 hgr3)
          have HR3 : Hid (RSubR w0 w0.heap.size n xs ys (i + 1) 0 (ss ++ [lo]) w3) := by
            have hR := HR.out
            refine ⟨(hR.bel.alloc hR.bel.size _).grown hgr3 (by have := hR.bel.size; simp; omega) (fun q hq => by simp at hq; omega), ?_, by simp [hR.len], hR.dig.append (Dig.cons hlob (Dig.nil _)), by omega, rsub_step hR.sum hR.len HXE.out HYE.out HSUM.out⟩
            have e0 : cellsV (ss ++ [lo]) = cellsV ss ++ [V lo] := by unfold cellsV; rw [List.map_append]; rfl
            rw [e0]; exact hw3
          clear hw3 hgr3
          go_roundg gg
          case measure => omega
          case rel => exact ⟨i + 1, 0, ss ++ [lo], by omega, by go_num, rfl, rfl, HR3⟩
      · have hy0 : y = 0 := by rw [HYE.out, List.getD_eq_getElem?_getD, List.getElem?_eq_none (by rw [HLY.out]; omega)]; rfl
        have HY0 : Hid (y = 0) := hy0
        clear hy0
        by_cases hu : x < ow
        · obtain ⟨x2, ex2⟩ : ∃ x2, x2 = x + 4294967296 := ⟨_, rfl⟩
          have f2 : IntKind.u64.wrap ((x : Int) + 4294967296) = (x2 : Int) := wrap_mod _ _ (by omega)
          obtain ⟨lo, elo⟩ : ∃ lo, lo = x2 - ow := ⟨_, rfl⟩
          have f3 : IntKind.u64.wrap ((x2 : Int) - (ow : Int)) = (lo : Int) := wrap_mod _ _ (by omega)
          have hui : (x : Int) < (ow : Int) := by omega
          have hlob : lo < B32 := by rw [B32_eq]; omega
          have f6 : IntKind.u32.wrap (lo : Int) = (lo : Int) := wrap32 lo hlob
          have f7 : (lo : Int) % 4294967296 = (lo : Int) := by rw [B32_eq] at hlob; omega
          have HSUM : Hid (lo + ow + y = x + B32 * 1) := by have h0 := HY0.out; show _ = _; rw [B32_eq]; omega
          have HOA : Hid ((wr.alloc (.cells #[V lo] 203)).ownsRow w0.heap.size 203 1 (.slice (some ⟨w0.heap.size, 0, none⟩) i n) i (cellsV ss)) := HR.out.own.alloc _
          clear elo ex2 hxb hyb
          go_wp2_with (at_builtin; refine wpList_append_fits _ rfl (.tmp 46) (.tmp 51) 108 rfl w0.heap.size 203 i0 1 Tryz.underlying108 hi hz1 w0.heap.size i n (cellsV ss) rfl HOA.out ⟨wr.heap.size, 0, none⟩ 1 1 [V lo] rfl rfl (one_cell wr lo) (by intro u hu; simp at hu; subst hu; rfl) hsp ?_; intro w3 hw3 hgr3)
          have HR3 : Hid (RSubR w0 w0.heap.size n xs ys (i + 1) 1 (ss ++ [lo]) w3) := by
            have hR := HR.out
            refine ⟨(hR.bel.alloc hR.bel.size _).grown hgr3 (by have := hR.bel.size; simp; omega) (fun q hq => by simp at hq; omega), ?_, by simp [hR.len], hR.dig.append (Dig.cons hlob (Dig.nil _)), by omega, rsub_step hR.sum hR.len HXE.out HYE.out HSUM.out⟩
            have e0 : cellsV (ss ++ [lo]) = cellsV ss ++ [V lo] := by unfold cellsV; rw [List.map_append]; rfl
            rw [e0]; exact hw3
          clear hw3 hgr3
          go_roundg gg
          case measure => omega
          case rel => exact ⟨i + 1, 1, ss ++ [lo], by omega, by go_num, rfl, rfl, HR3⟩
        · obtain ⟨lo, elo⟩ : ∃ lo, lo = x - ow := ⟨_, rfl⟩
          have f3 : IntKind.u64.wrap ((x : Int) - (ow : Int)) = (lo : Int) := wrap_mod _ _ (by omega)
          have hui : ¬ (x : Int) < (ow : Int) := by omega
          have hlob : lo < B32 := by rw [B32_eq]; omega
          have f6 : IntKind.u32.wrap (lo : Int) = (lo : Int) := wrap32 lo hlob
          have f7 : (lo : Int) % 4294967296 = (lo : Int) := by rw [B32_eq] at hlob; omega
          have HSUM : Hid (lo + ow + y = x + B32 * 0) := by have h0 := HY0.out; show _ = _; rw [B32_eq]; omega
          have HOA : Hid ((wr.alloc (.cells #[V lo] 203)).ownsRow w0.heap.size 203 1 (.slice (some ⟨w0.heap.size, 0, none⟩) i n) i (cellsV ss)) := HR.out.own.alloc _
          clear elo hxb hyb
          go_wp2_with (at_builtin; refine wpList_append_fits _ rfl (.tmp 46) (.tmp 51) 108 rfl w0.heap.size 203 i0 1 Tryz.underlying108 hi hz1 w0.heap.size i n (cellsV ss) rfl HOA.out ⟨wr.heap.size, 0, none⟩ 1 1 [V lo] rfl rfl (one_cell wr lo) (by intro u hu; simp at hu; subst hu; rfl) hsp ?_; intro w3 hw3 hgr3)
          have HR3 : Hid (RSubR w0 w0.heap.size n xs ys (i + 1) 0 (ss ++ [lo]) w3) := by
            have hR := HR.out
            refine ⟨(hR.bel.alloc hR.bel.size _).grown hgr3 (by have := hR.bel.size; simp; omega) (fun q hq => by simp at hq; omega), ?_, by simp [hR.len], hR.dig.append (Dig.cons hlob (Dig.nil _)), by omega, rsub_step hR.sum hR.len HXE.out HYE.out HSUM.out⟩
            have e0 : cellsV (ss ++ [lo]) = cellsV ss ++ [V lo] := by unfold cellsV; rw [List.map_append]; rfl
            rw [e0]; exact hw3
          clear hw3 hgr3
          go_roundg gg
          case measure => omega
          case rel => exact ⟨i + 1, 0, ss ++ [lo], by omega, by go_num, rfl, rfl, HR3⟩

theorem lit_at32q (w : World) (x y : Nat) (hx : x < B32) (hy : y < B32) : At32 (w.alloc (.cells #[V x, V y] 203)) (some ⟨w.heap.size, 0, none⟩) 2 2 [x, y] := by
  refine ⟨rfl, Nat.le_refl _, by decide, ?_, .inr ⟨w.heap.size, 0, rfl, ?_⟩⟩
  · intro z hz
    simp at hz
    rcases hz with rfl | rfl <;> assumption
  · intro j hj
    match j, hj with
    | 0, _ => exact World.cell?_alloc_new ..
    | 1, _ => exact World.cell?_alloc_new ..
theorem nf32_nilq : Nf B32 [] 0 := ⟨Dig.nil _, by intro x hx; simp at hx, rfl⟩
set_option maxRecDepth 20000 in
set_option maxHeartbeats 1000000 in
theorem rword0 (w : World) : Calls Tryz.prog 149 #[.int .u64 0] w fun e w' => ∃ g, e = .returned (.slice (some ⟨g, 0, none⟩) 0 0) ∧ Below w.heap.size w w' := by
  go_enter Tryz.func149, Tryz.ntmps149
  go_wp2_with fail
  refine (rnorm_any (lit_at32q w 0 0 (by decide) (by decide)) (by omega)).mono ?_
  rw [show trimL [0, 0] = [] from by decide]
  rintro e w1 ⟨g, rfl, hg, hb, hbl⟩
  have hbw := Below.on (below1 w _) hbl
  clear hb hbl
  go_wp2_with fail
  go_ret
  exact ⟨g, rfl, hbw⟩
set_option maxRecDepth 20000 in
set_option maxHeartbeats 1000000 in
theorem rsub_any {p q : Option Addr} {n m c d : Nat} {xs ys : List Nat} {a b : Nat} {w : World} (h : At32 w p n c xs) (k : At32 w q m d ys) (hx : Nf B32 xs a) (hy : Nf B32 ys b) (hn : n ≤ 4398046511104) (hle : b ≤ a) :
    Calls Tryz.prog 155 #[.slice p n c, .slice q m d] w fun e w' => ∃ p' m' zs, e = .returned (.slice p' m' m') ∧ At32 w' p' m' m' zs ∧ Nf B32 zs (a - b) ∧ m' ≤ n ∧ Below w.heap.size w w' := by
  rcases Nat.lt_or_ge b a with hlt | hge
  · exact rsub_gt h k hx hy hn hlt
  · have HE : Hid (a = b) := Nat.le_antisymm hge hle
    have HA : Hid (At32 w p n c xs) := h
    have HB : Hid (At32 w q m d ys) := k
    have HX : Hid (Nf B32 xs a) := hx
    have HY : Hid (Nf B32 ys b) := hy
    clear h k hx hy hle hge
    go_enter Tryz.func155, Tryz.ntmps155
    go_wp2_with fail
    refine (rcmp_any HA.out HB.out HX.out HY.out).mono ?_
    rintro e w' ⟨rfl, r, rfl⟩
    rw [cmpN_eq HE.out]
    have hb0 : Below w.heap.size w (w.drewN r) := bDrewN (Below.refl _ _) r
    generalize w.drewN r = w0 at *
    go_wp2_with fail
    refine (rword0 w0).mono ?_
    rintro e w1 ⟨g, rfl, hb1⟩
    have hbw := Below.on hb0 hb1
    clear hb1 hb0
    go_wp2_with fail
    go_ret
    exact ⟨_, 0, [], rfl, At32.empty _ _ 0 (by decide), by rw [HE.out, Nat.sub_self]; exact nf32_nilq, by omega, hbw⟩
structure ZR (w : World) (s : Bool) (p : Option Addr) (m : Nat) (z : Int) : Prop where
  ex : ∃ zs, At32 w p m m zs ∧ Nf B32 zs z.natAbs
  sg : s = decide (z < 0)
theorem ZR.below {w w' : World} {s : Bool} {p : Option Addr} {m : Nat} {z : Int} (h : ZR w s p m z) (hb : Below w.heap.size w w') : ZR w' s p m z := by
  obtain ⟨zs, hA, hN⟩ := h.ex
  exact ⟨⟨zs, hA.below hb, hN⟩, h.sg⟩
theorem ZR.cast {w : World} {s : Bool} {p : Option Addr} {m : Nat} {z z' : Int} (h : ZR w s p m z) (e : z = z') : ZR w s p m z' := e ▸ h
theorem ZR.zero {w : World} {s : Bool} {p : Option Addr} {m : Nat} {z : Int} (h : ZR w s p m z) : m = 0 ↔ z = 0 := by
  obtain ⟨zs, hA, hN⟩ := h.ex
  have h1 := hN.zero_iff B32_one
  have h2 := hA.len
  constructor
  · intro e
    have := h1.1 (List.eq_nil_of_length_eq_zero (by omega))
    omega
  · intro e
    have := h1.2 (by omega)
    rw [← h2, this]; rfl
theorem ZR.iv {w : World} {s : Bool} {p : Option Addr} {m : Nat} {z : Int} (h : ZR w s p m z) : Go.Proofs.YtoalblaklcekeaaGreatDoor.iv s z.natAbs = z := by rw [h.sg]; exact iv_abs z
def GotR (B : Nat) (w' : World) (v : Value) (z : Int) (L : Nat) : Prop := ∃ s g m, v = .agg #[.bool s, .slice (some ⟨g, 0, none⟩) m m] ∧ B ≤ g ∧ ZR w' s (some ⟨g, 0, none⟩) m z ∧ m ≤ L
theorem ZR.set {w : World} {s : Bool} {g m : Nat} {z : Int} (h : ZR w s (some ⟨g, 0, none⟩) m z) (g2 o2 : Nat) (v : Value) (hne : g ≠ g2) : ZR (w.setCell ⟨g2, o2, none⟩ v) s (some ⟨g, 0, none⟩) m z := by
  obtain ⟨zs, hA, hN⟩ := h.ex
  exact ⟨⟨zs, hA.setOther g2 o2 v hne, hN⟩, h.sg⟩
theorem rmk_any {p : Option Addr} {n c : Nat} {xs : List Nat} {a : Nat} {w : World} (s : Bool) (h : At32 w p n c xs) (hx : Nf B32 xs a) (hn : n ≤ 35184372088832) :
    Calls Tryz.prog 109 #[.bool s, .slice p n c] w fun e w' => ∃ v, e = .returned v ∧ GotR w.heap.size w' v (iv s a) n ∧ Below w.heap.size w w' := by
  refine (mk04 s h hn).mono ?_
  rintro e w1 ⟨g, m, hm, rfl, hg, hA, hb⟩
  rw [trimL_of_Top hx.top] at hm hA
  have hl := h.len
  refine ⟨_, rfl, ⟨_, g, m, rfl, hg, ⟨⟨xs, hA, by rw [iv_natAbs]; exact hx⟩, ?_⟩, by omega⟩, hb⟩
  rw [iv_lt]
  have : decide (0 < m) = decide (0 < a) := by
    refine decide_eq_decide.2 ?_
    have h1 := hx.zero_iff B32_one
    constructor
    · intro h0
      rcases Nat.eq_zero_or_pos a with e | e
      · have := h1.2 e; rw [this] at hm; simp at hm; omega
      · exact e
    · intro h0
      rcases Nat.eq_zero_or_pos m with e | e
      · have := h1.1 (List.eq_nil_of_length_eq_zero (by omega)); omega
      · exact e
  rw [this]
set_option maxRecDepth 20000 in
set_option maxHeartbeats 4000000 in
theorem rflip_any {p : Option Addr} {m : Nat} {w : World} {z : Int} (s : Bool) (h : ZR w s p m z) (hm : m ≤ 100000) :
    Calls Tryz.prog 156 #[.agg #[.bool s, .slice p m m]] w fun e w' => ∃ v, e = .returned v ∧ GotR w.heap.size w' v (-z) m ∧ Below w.heap.size w w' := by
  have HA : Hid (ZR w s p m z) := h
  have HM : Hid (m ≤ 100000) := hm
  clear h hm
  go_enter Tryz.func156, Tryz.ntmps156
  go_wp2_with fail
  obtain ⟨W0, hW0⟩ : ∃ W0, W0 = ((w.alloc (.cells #[.bool s, .slice p m m] 110)).alloc (.cells #[.bool false, .slice none 0 0] 110)) := ⟨_, rfl⟩
  have Xa : Hid (Box W0 (w.heap.size) (.bool s) (.slice p m m)) := by rw [hW0]; exact ⟨by go_simp, by go_simp, by go_simp, by go_simp⟩
  have Xr : Hid (Box W0 (w.heap.size + 1) (.bool false) (.slice none 0 0)) := by rw [hW0]; exact ⟨by go_simp, by go_simp, by go_simp, by go_simp⟩
  have hb0 : Below w.heap.size w W0 := by rw [hW0]; exact below2 w _ _
  rw [← hW0]
  clear hW0
  have hbw : Below w.heap.size w w := Below.refl _ _
  obtain ⟨gr, hgr⟩ : ∃ g, g = w.heap.size + 1 := ⟨_, rfl⟩
  have HGr : Hid (w.heap.size ≤ gr) := by rw [hgr]; show _ ≤ _; omega
  rw [← hgr] at Xr
  try rw [← hgr]
  obtain ⟨ga, hga⟩ : ∃ g, g = w.heap.size := ⟨_, rfl⟩
  have HGa : Hid (w.heap.size ≤ ga) := by rw [hga]; show _ ≤ _; omega
  rw [← hga] at Xa
  try rw [← hga]
  have HGD : Hid (ga ≠ gr ∧ gr ≠ ga) := by rw [hga, hgr]; exact ⟨by omega, by omega⟩
  clear hga hgr
  replace HA : Hid _ := HA.out.below hb0
  replace hbw := Below.on hbw hb0
  clear hb0
  obtain ⟨zs, hA, hN⟩ := HA.out.ex
  have HRL : Hid (gr < W0.heap.size) := Xr.out.lt
  have hiv : iv (!s) z.natAbs = -z := by rw [iv_not, HA.out.iv]
  refine (rmk_any (!s) hA hN (by have := HM.out; omega)).mono ?_
  rintro e w1 ⟨v, rfl, hv, hb1⟩
  rw [hiv] at hv
  obtain ⟨s1, g1, m1, rfl, hg1, hz1, hl1⟩ := hv
  clear hA hN hiv
  have HGE : Hid (W0.heap.size ≤ g1 ∧ w.heap.size ≤ W0.heap.size) := ⟨hg1, hbw.size⟩
  replace Xa : Hid _ := Xa.out.below hb1
  replace Xr : Hid _ := Xr.out.below hb1
  replace HA : Hid _ := HA.out.below hb1
  replace hbw := Below.on hbw hb1
  clear hb1
  have ZA : Hid (ZR w1 s1 (some ⟨g1, 0, none⟩) m1 (-z)) := hz1
  have HL : Hid (m1 ≤ m) := hl1
  clear hg1 hz1 hl1
  obtain ⟨cr0, cr1, fr0, fr1⟩ := Xr.out
  have hner := Xr.out.lt
  go_wp2_with fail
  refine bodyPost_ret (v := .agg #[.bool s1, .slice (some ⟨g1, 0, none⟩) m1 m1]) (by rw [results_cell1 rfl]; go_simp) rfl ⟨_, rfl, ⟨s1, g1, m1, rfl, ?_, ?_, HL.out⟩, ?_⟩
  · exact Nat.le_trans HGE.out.2 HGE.out.1
  · have := HGE.out.1; have := HRL.out
    exact (ZA.out.set _ _ _ (by omega)).set _ _ _ (by omega)
  · exact bSet (bSet hbw _ _ _ HGr.out) _ _ _ HGr.out
theorem divsmall_abs {L x d B V W q r : Nat} (h : V * d + L = W) (hq : L * B + x = q * d + r) : (q + B * V) * d + r = x + B * W := by
  rw [← h, Nat.add_mul, Nat.mul_add]
  have e : B * V * d = B * (V * d) := by rw [Nat.mul_assoc]
  rw [e]
  have e2 : B * L = L * B := Nat.mul_comm _ _
  omega
theorem drop_set_self (qs : List Nat) (j y : Nat) (h : j < qs.length) : (qs.set j y).drop j = y :: qs.drop (j + 1) := by
  rw [List.drop_eq_getElem_cons (by simpa using h), List.getElem_set_self, List.drop_set_of_lt (by omega)]

theorem bSet0 {B : Nat} {a w : World} (h : Below B a w) (g o : Nat) (v : Value) (hB : B ≤ g) : Below B a (w.setCell ⟨g, o, none⟩ v) :=
  h.trans ((Wr.refl g o 1 w).setCell o ⟨by omega, by omega⟩ v |>.below hB)
structure DSm (w : World) (g n d : Nat) (xs : List Nat) (k L : Nat) (qs : List Nat) (wr : World) : Prop where
  bel : Below w.heap.size w wr
  row : Row32 wr g 0 n qs
  lt : L < d
  val : valB B32 (qs.drop k) * d + L = valB B32 (xs.drop k)

set_option maxRecDepth 20000 in
set_option maxHeartbeats 2000000 in
theorem rdivsmall {p : Option Addr} {n c : Nat} {xs : List Nat} {w : World} (h : At32 w p n c xs) (hn : n ≤ 1099511627776) (d : Nat) (hd : 1 ≤ d) (hdb : d < B32) :
    Calls Tryz.prog 159 #[.slice p n c, .int .u32 d] w fun e w' => ∃ p' m' zs r, e = .returned (.tuple #[.slice p' m' m', .int .u32 r]) ∧ At32 w' p' m' m' zs ∧ Nf B32 zs (valB B32 xs / d) ∧ m' ≤ n ∧ Below w.heap.size w w' := by
  obtain ⟨i0, hi, hz0, hz1, hz2⟩ := info_parts Tryz.infoU32
  have HLX : Hid (xs.length = n) := h.len
  have hcap := h.cap; have hbig := h.big
  unfold maxLen at hbig
  have hd0 : ((d : Int) == 0) = false := by simp; omega
  have HDB : Hid (1 ≤ d ∧ d < B32) := ⟨hd, hdb⟩
  have hdw : IntKind.u64.wrap (d : Int) = (d : Int) := wrap_mod _ _ (by rw [B32_eq] at hdb; omega)
  clear hdb
  go_enter Tryz.func159, Tryz.ntmps159
  go_wp2_with (at_make; refine wpList_make_full _ rfl _ _ 108 rfl w.heap.size 203 i0 (.int .u32 0) 1 Tryz.underlying108 hi hz0 hz1 _ _ _ _ n rfl rfl (by omega) (by omega) (by rw [hz2]; omega) (by unfold maxLen; omega) (Nat.le_refl _) ?_; intro w1 hown hgrow; have hb := made_blk32 hown hgrow; clear hown hgrow)
  have HO : Hid (DSm w w.heap.size n d xs n 0 (List.replicate n 0) w1) := by
    have hr := hb.1.row (Dig.replicate B32 n B32_pos)
    rw [List.length_replicate] at hr
    refine ⟨hb.2, hr, by omega, ?_⟩
    rw [List.drop_of_length_le (by rw [List.length_replicate]; exact Nat.le_refl _), List.drop_of_length_le (by rw [HLX.out]; exact Nat.le_refl _)]
    simp [valB]
  clear hb
  go_loopg [7, 8] n (fun gk lv iv wr => ∃ (L : Nat) (z : Int) (qs : List Nat), lv = U L ∧ iv = .int .i64 z ∧ z = (gk : Int) - 1 ∧ gk ≤ n ∧ Hid (DSm w w.heap.size n d xs gk L qs wr))
  case atStart => exact ⟨0, (n : Int) - 1, _, rfl, rfl, rfl, Nat.le_refl _, HO⟩
  case round =>
    obtain ⟨L, z, qs, rfl, rfl, hz, hgn, HR⟩ := hrel
    cases gk with
    | zero =>
      obtain rfl : z = -1 := by omega
      have hR := HR.out
      have A32 : At32 wr (some ⟨w.heap.size, 0, none⟩) n n qs := hR.row.at_ (Nat.le_refl _) (by unfold maxLen; omega)
      have hv := hR.val
      rw [List.drop_zero, List.drop_zero] at hv
      have HV : Hid (valB B32 qs = valB B32 xs / d) := by
        show _ = _
        have h1 := hR.lt
        rw [← hv, Nat.mul_comm, Nat.mul_add_div (by omega), Nat.div_eq_of_lt h1, Nat.add_zero]
      have HNF : Hid (Nf B32 (trimL qs) (valB B32 xs / d)) := by
        have := Nf.trim hR.row.dig
        rw [HV.out] at this; exact this
      have hle := trimL_length_le qs
      have HLE : Hid ((trimL qs).length ≤ n) := by have := hR.row.len; show _ ≤ _; omega
      have hLw : IntKind.u32.wrap (L : Int) = (L : Int) := wrap32 L (by have := hR.lt; have := HDB.out.2; omega)
      have hbx := hR.bel
      clear hR hv hle hz HR
      go_wp2_with fail
      refine (rnorm_any A32 (by omega)).mono ?_
      rintro e w5 ⟨g5, rfl, hg5, hblk5, hb5⟩
      have hd5 := HNF.out.dig
      generalize trimL qs = us at *
      go_wp2_with fail
      go_ret2
      exact ⟨_, _, us, _, rfl, hblk5.at_ hd5 rfl (by have := HLE.out; unfold maxLen; omega), HNF.out, HLE.out, Below.on hbx hb5⟩
    | succ j =>
      obtain rfl : z = (j : Int) := by omega
      obtain ⟨g, off, rfl, hc⟩ := h.cells.resolve_left (by omega)
      obtain ⟨x, hx⟩ : ∃ x, x = xs.getD j 0 := ⟨_, rfl⟩
      have hcx0 : w.cell? ⟨g, off + j, none⟩ = some (V x) := by rw [hx]; exact hc j (by omega)
      have hcx : wr.cell? ⟨g, off + j, none⟩ = some (V x) := (HR.out.bel.cell (p := ⟨g, off + j, none⟩) (World.block_lt_of_cell? w _ hcx0)).trans hcx0
      have hxb : x < B32 := by rw [hx]; exact h.dig.getD B32_pos j
      have hjn : j < n := by omega
      have hct : wr.cell? ⟨w.heap.size, j, none⟩ = some (V (qs.getD j 0)) := by
        have := HR.out.row.cell j hjn
        rw [Nat.zero_add] at this; exact this
      have hft : wr.frozen? ⟨w.heap.size, j, none⟩ = false := by
        have := HR.out.row.frozen j hjn
        rw [Nat.zero_add] at this; exact this
      have hL := HR.out.lt
      have hdB := HDB.out.2
      rw [B32_eq] at hdB hxb
      obtain ⟨T, hT⟩ : ∃ T, T = L * 4294967296 + x := ⟨_, rfl⟩
      obtain ⟨lh, hlh⟩ : ∃ lh, lh = L * 4294967296 := ⟨_, rfl⟩
      have f1 : IntKind.u64.wrap ((L : Int) * 4294967296) = (lh : Int) := wrap_mod _ _ (by omega)
      have f2 : IntKind.u64.wrap ((lh : Int) + (x : Int)) = (T : Int) := wrap_mod _ _ (by omega)
      have fx : IntKind.u64.wrap (x : Int) = (x : Int) := wrap_mod _ _ (by omega)
      obtain ⟨Q, hQ⟩ : ∃ Q, Q = T / d := ⟨_, rfl⟩
      obtain ⟨R, hRr⟩ : ∃ R, R = T % d := ⟨_, rfl⟩
      have q1 : (T : Int).tdiv (d : Int) = (Q : Int) := by rw [hQ, Int.tdiv_eq_ediv_of_nonneg (Int.natCast_nonneg T)]; norm_cast
      have q2 : (T : Int) / (d : Int) = (Q : Int) := by rw [hQ]; norm_cast
      have r1 : (T : Int).tmod (d : Int) = (R : Int) := by rw [hRr, Int.tmod_eq_emod_of_nonneg (Int.natCast_nonneg T)]; norm_cast
      have r2 : (T : Int) % (d : Int) = (R : Int) := by rw [hRr]; norm_cast
      have hRd : R < d := by rw [hRr]; exact Nat.mod_lt _ hd
      have hQB : Q < B32 := by
        rw [hQ, B32_eq]
        refine Nat.div_lt_of_lt_mul ?_
        have : L * 4294967296 + 4294967296 ≤ d * 4294967296 := by
          have := Nat.mul_le_mul_right 4294967296 (show L + 1 ≤ d by omega)
          rw [Nat.add_mul] at this; omega
        omega
      have fq : IntKind.u32.wrap (Q : Int) = (Q : Int) := wrap32 Q hQB
      have fq2 : IntKind.u64.wrap (Q : Int) = (Q : Int) := wrap_mod _ _ (by rw [B32_eq] at hQB; omega)
      have fq3 : (Q : Int) % 4294967296 = (Q : Int) := by rw [B32_eq] at hQB; omega
      have hQR : L * B32 + x = Q * d + R := by rw [B32_eq, ← hT, hQ, hRr, Nat.mul_comm]; exact (Nat.div_add_mod T d).symm
      have HS : Hid (DSm w w.heap.size n d xs j R (qs.set j Q) (wr.setCell ⟨w.heap.size, j, none⟩ (V Q))) := by
        have hR := HR.out
        have hs := hR.row.set j Q hjn hQB
        rw [Nat.zero_add] at hs
        refine ⟨bSet0 hR.bel _ _ _ (Nat.le_refl _), hs, hRd, ?_⟩
        rw [drop_set_self qs j Q (by rw [hR.row.len]; exact hjn), valB_cons, valB_drop B32 xs j (by rw [HLX.out]; exact hjn), ← hx]
        exact divsmall_abs hR.val hQR
      clear hz HR hc hx hcx0 hQ hRr hT hlh hQR hL hdB hxb hRd hQB
      go_wp2_with fail
      go_roundg j
      case measure => omega
      case rel => exact ⟨R, (j : Int) - 1, qs.set j Q, rfl, rfl, rfl, by omega, HS⟩
theorem At32.dropq {w : World} {g off n c : Nat} {xs : List Nat} (h : At32 w (some ⟨g, off, none⟩) n c xs) (k : Nat) (hk : k < n) : At32 w (some ⟨g, off + k, none⟩) (n - k) (c - k) (xs.drop k) := by
  refine ⟨by rw [List.length_drop, h.len], by have := h.cap; omega, by have := h.big; unfold maxLen at *; omega, h.dig.drop k, .inr ⟨g, off + k, rfl, fun j hj => ?_⟩⟩
  rcases h.cells with h0 | ⟨g', off', he, hc⟩
  · omega
  · simp only [Option.some.injEq, Addr.mk.injEq, and_true] at he
    obtain ⟨rfl, rfl⟩ := he
    have := hc (k + j) (by omega)
    rw [Nat.add_assoc, this]
    congr 2
    simp [List.getD_eq_getElem?_getD, List.getElem?_drop]
theorem drop_div32q {xs : List Nat} {v k : Nat} (hx : Nf B32 xs v) (hk : k ≤ xs.length) : valB B32 (xs.drop k) = v / B32 ^ k := by
  have h1 := valB_split B32 xs k hk
  have h2 := valB_lt B32_pos (hx.dig.take k)
  rw [List.length_take, Nat.min_eq_left hk] at h2
  rw [← hx.val, h1, Nat.add_mul_div_left _ _ (Nat.pow_pos B32_pos), Nat.div_eq_of_lt h2, Nat.zero_add]

set_option maxRecDepth 20000 in
set_option maxHeartbeats 2000000 in
theorem rfshr_any {p : Option Addr} {n c : Nat} {xs : List Nat} {v : Nat} {w : World} (h : At32 w p n c xs) (hx : Nf B32 xs v) (hn : n ≤ 16384) (N : Nat) (hN : 1 ≤ N) (hN2 : N ≤ 9223372036854775807) :
    Calls Tryz.prog 116 #[.slice p n c, .int .i64 N] w fun e w' => ∃ p' m' zs, e = .returned (.slice p' m' m') ∧ At32 w' p' m' m' zs ∧ Nf B32 zs (v / 2 ^ N) ∧ m' ≤ n ∧ Below w.heap.size w w' := by
  have HX : Hid (Nf B32 xs v) := hx
  have hl := h.len
  have cap := h.cap
  have big := h.big
  unfold maxLen at big
  obtain ⟨D, hD⟩ : ∃ D, D = N / 32 := ⟨_, rfl⟩
  obtain ⟨R, hR⟩ : ∃ R, R = N % 32 := ⟨_, rfl⟩
  have d1 : (N : Int).tdiv 32 = (D : Int) := by rw [Int.tdiv_eq_ediv_of_nonneg (by omega)]; omega
  have d2 : (N : Int).tmod 32 = (R : Int) := by rw [Int.tmod_eq_emod_of_nonneg (by omega)]; omega
  have hNp : ¬ (N : Int) ≤ 0 := by omega
  have hN0 : ¬ N = 0 := by omega
  have hR32 : R < 32 := by omega
  have hDb : D ≤ 288230376151711743 := by omega
  have hwD : IntKind.i64.wrap (D : Int) = (D : Int) := by simp [IntKind.wrap, IntKind.signed, IntKind.bits]; omega
  have HD : Hid (2 ^ N = B32 ^ D * 2 ^ R) := by show _ = _; rw [show B32 = 2 ^ 32 from rfl, ← Nat.pow_mul, ← Nat.pow_add]; congr 1; omega
  have HLX : Hid (xs.length = n) := hl
  clear hx hD hR hl
  by_cases hc : n ≤ D
  · have hci : (n : Int) ≤ (D : Int) := by omega
    have hcb : decide (n ≤ D) = true := decide_eq_true hc
    have HZ : Hid (v / 2 ^ N = 0) := by
      show _ = _
      rw [HD.out]
      refine Nat.div_eq_of_lt ?_
      have h1 := nf32_lt HX.out (K := D) (by rw [HLX.out]; exact hc)
      exact Nat.lt_of_lt_of_le h1 (Nat.le_mul_of_pos_right _ (Nat.pow_pos (by decide)))
    clear h
    go_enter Tryz.func116, Tryz.ntmps116
    go_wp2_with fail
    refine (rword0 w).mono ?_
    rintro e w1 ⟨g, rfl, hb⟩
    go_wp2_with fail
    go_ret
    exact ⟨_, 0, [], rfl, At32.empty _ _ 0 (by decide), by rw [HZ.out]; exact nf32_nilq, by omega, hb⟩
  · have hci : ¬ (n : Int) ≤ (D : Int) := by omega
    have hcb : decide (n ≤ D) = false := decide_eq_false hc
    have hDn : D < n := by omega
    have hDc : D < c := by omega
    have hDc2 : D ≤ c := by omega
    have hcD : ¬ c = D := by omega
    have hDn2 : D ≤ n := by omega
    obtain ⟨g, off, rfl, hcs⟩ := h.cells.resolve_left (by omega)
    have A1 : Hid (At32 w (some ⟨g, off + D, none⟩) (n - D) (c - D) (xs.drop D)) := h.dropq D hDn
    obtain ⟨d, hd⟩ : ∃ d, d = 2 ^ R := ⟨_, rfl⟩
    have hd1 : 1 ≤ d := by rw [hd]; exact Nat.pow_pos (by decide)
    have hdB : d < B32 := by rw [hd, show B32 = 2 ^ 32 from rfl]; exact Nat.pow_lt_pow_right (by decide) hR32
    have hdw : IntKind.u32.wrap (d : Int) = (d : Int) := wrap32 d hdB
    have hdI : (2 : Int) ^ R = (d : Int) := by rw [hd]; norm_cast
    have HV : Hid (valB B32 (xs.drop D) / d = v / 2 ^ N) := by
      show _ = _
      rw [HD.out, hd, drop_div32q HX.out (by rw [HLX.out]; omega), Nat.div_div_eq_div_mul]
    have A1d : Hid (At32 w.drew (some ⟨g, off + D, none⟩) (n - D) (c - D) (xs.drop D)) := A1.out.drewN 1
    have hbd : Below w.heap.size w w.drew := bDrew (Below.refl _ _)
    have HDD : Hid (1 ≤ d ∧ d < B32) := ⟨hd1, hdB⟩
    clear h hcs A1 hd hd1 hdB
    go_enter Tryz.func116, Tryz.ntmps116
    go_wp2_with fail
    (go_region_with (go_at_call 159; refine (rdivsmall A1d.out (by omega) d HDD.out.1 HDD.out.2).mono ?_; rintro e w1 ⟨p1, m1, z1, r1, rfl, hA1, hN1, hm1, hb1⟩; have A2 : Hid (At32 w1 p1 m1 m1 z1) := hA1; have N2 : Hid (Nf B32 z1 (v / 2 ^ N)) := (by rw [HV.out] at hN1; exact hN1); have hbw : Below w.heap.size w w1 := Below.on hbd hb1; have hm1' : m1 ≤ n := (by omega); clear hA1 hN1 hb1))
    all_goals
      (go_wp2_with fail
       go_ret
       exact ⟨p1, m1, z1, rfl, A2.out, N2.out, hm1', hbw⟩)
set_option maxRecDepth 20000 in
set_option maxHeartbeats 8000000 in
theorem rshr_0 {p : Option Addr} {n c : Nat} {xs : List Nat} {v : Nat} {w : World} (h : At32 w p n c xs) (hx : Nf B32 xs v) (hn : n ≤ 16384) :
    Calls Tryz.prog 116 #[.slice p n c, .int .i64 0] w fun e w' => ∃ g, e = .returned (.slice (some ⟨g, 0, none⟩) n n) ∧ At32 w' (some ⟨g, 0, none⟩) n n xs ∧ Below w.heap.size w w' := by
  have H : Hid (At32 w p n c xs) := h
  have HX : Hid (Nf B32 xs v) := hx
  have HN : Hid (n ≤ 16384) := hn
  have HL : Hid (xs.length = n) := h.len
  clear h hx hn
  go_enter Tryz.func116, Tryz.ntmps116
  go_wp2_with fail
  refine (rnorm_any H.out (by have := HN.out; omega)).mono ?_
  rintro e w1 ⟨g, rfl, hg, hblk, hb⟩
  rw [trimL_of_Top HX.out.top] at hblk ⊢
  rw [HL.out]
  have HB : Hid (At32 w1 (some ⟨g, 0, none⟩) n n xs) := hblk.at_ HX.out.dig HL.out (by unfold maxLen; have := HN.out; omega)
  clear hblk hg
  go_wp2_with fail
  go_ret
  exact ⟨g, rfl, HB.out, hb⟩
set_option maxRecDepth 20000 in
set_option maxHeartbeats 8000000 in
theorem told5 {p : Option Addr} {m : Nat} {w : World} {z e : Int} (s : Bool) (h : ZR w s p m z) (hz : z % 2 = 1) (hm : m ≤ 8000) (he : -1048576 ≤ e ∧ e ≤ 1048576) :
    Calls Tryz.prog 61 #[.agg #[.bool s, .slice p m m], .int .i64 e] w fun en w' => ∃ g m' c', en = .returned (.tuple #[DV s (some ⟨g, 0, none⟩) m' c' e, .int .i64 0]) ∧ w.heap.size ≤ g ∧ DN w' s (some ⟨g, 0, none⟩) m' c' e z ∧ Below w.heap.size w w' := by
  obtain ⟨xs, hA, hN⟩ := h.ex
  have AX : Hid (At32 w p m m xs) := hA
  have NX : Hid (Nf B32 xs z.natAbs) := hN
  have HZ : Hid (z % 2 = 1 ∧ s = decide (z < 0) ∧ m ≤ 8000) := ⟨hz, h.sg, hm⟩
  have HE : Hid (-1048576 ≤ e ∧ e ≤ 1048576) := he
  have hm0 : ¬ m = 0 := fun e0 => by have := h.zero.1 e0; omega
  have hm1 : ((m : Int) == 0) = false := by simp; omega
  have g1 : ¬ 1048576 < e := by omega
  have g2 : ¬ e < -1099511627776 := by omega
  have g3 : ¬ e < -1048576 := by omega
  have g4 : ¬ (16384 : Int) < (m : Int) := by omega
  have g5 : wrap64 e = e := by simp only [wrap64]; omega
  clear h hz hm hA hN he
  go_enter Tryz.func61, Tryz.ntmps61
  go_wp2_with fail
  obtain ⟨W0, hW0⟩ : ∃ W0, W0 = ((w.alloc (.cells #[.bool s, .slice p m m] 110)).alloc (.cells #[.bool false, .slice none 0 0, .int .i64 0] 28)) := ⟨_, rfl⟩
  have Xm : Hid (Box W0 (w.heap.size) (.bool s) (.slice p m m)) := by rw [hW0]; exact ⟨by go_simp, by go_simp, by go_simp, by go_simp⟩
  have Xr : Hid (B3q W0 (w.heap.size + 1) (.bool false) (.slice none 0 0) (.int .i64 0)) := by rw [hW0]; exact ⟨by go_simp, by go_simp, by go_simp, by go_simp, by go_simp, by go_simp⟩
  have hb0 : Below w.heap.size w W0 := by rw [hW0]; exact below2 w _ _
  rw [← hW0]
  clear hW0
  have hbw : Below w.heap.size w w := Below.refl _ _
  obtain ⟨gr, hgr⟩ : ∃ g, g = w.heap.size + 1 := ⟨_, rfl⟩
  have HGr : Hid (w.heap.size ≤ gr) := by rw [hgr]; show _ ≤ _; omega
  rw [← hgr] at Xr
  try rw [← hgr]
  obtain ⟨gm, hgm⟩ : ∃ g, g = w.heap.size := ⟨_, rfl⟩
  have HGm : Hid (w.heap.size ≤ gm) := by rw [hgm]; show _ ≤ _; omega
  rw [← hgm] at Xm
  try rw [← hgm]
  have HGD : Hid (gm ≠ gr ∧ gr ≠ gm) := by rw [hgm, hgr]; exact ⟨by omega, by omega⟩
  clear hgm hgr
  replace hbw := Below.on hbw hb0
  clear hb0
  refine (rzeros_any (k := 0) (AX.out.below hbw) NX.out (by have := HZ.out; omega) ⟨by rw [Nat.pow_zero, Nat.mod_one], by rw [Nat.pow_zero, Nat.div_one]; have := HZ.out; omega⟩ (by have := HZ.out; omega)).mono ?_
  rintro e2 v1 ⟨rfl, hw⟩
  obtain rfl := hw.symm
  clear hw
  obtain ⟨cm0, cm1, fm0, fm1⟩ := Xm.out
  have hnem := Xm.out.lt
  go_wp2_with fail
  clear cm0 cm1 fm0 fm1 hnem
  refine (rshr_0 (AX.out.below hbw) NX.out (by have := HZ.out; omega)).mono ?_
  rintro e2 v3 ⟨g3, rfl, hA3, hb3⟩
  replace Xm : Hid _ := Xm.out.below hb3
  replace Xr : Hid _ := Xr.out.below hb3
  replace hbw := Below.on hbw hb3
  clear hb3
  have A3 : Hid (At32 v3 (some ⟨g3, 0, none⟩) m m xs) := hA3
  clear hA3
  obtain ⟨cm0, cm1, fm0, fm1⟩ := Xm.out
  have hnem := Xm.out.lt
  go_wp2_with fail
  clear cm0 cm1 fm0 fm1 hnem
  refine (rmk_any s A3.out NX.out (by have := HZ.out; omega)).mono ?_
  rintro e v5 ⟨v, rfl, hv, hb5⟩
  obtain ⟨s5, g5, m5, rfl, hg5, hz5, hl5⟩ := hv
  have HN5 : Hid (v3.heap.size ≤ g5) := hg5
  have HB5 : Hid (v3.heap.size ≤ v5.heap.size) := hb5.size
  replace Xm : Hid _ := Xm.out.below hb5
  replace Xr : Hid _ := Xr.out.below hb5
  replace A3 : Hid _ := A3.out.below hb5
  replace hbw := Below.on hbw hb5
  clear hb5
  have Z5 : Hid (ZR v5 s5 (some ⟨g5, 0, none⟩) m5 (iv s z.natAbs)) := hz5
  have HL5 : Hid (m5 ≤ m) := hl5
  clear hz5 hl5 hg5
  have hz5 := Z5.out.cast (show iv s z.natAbs = z from by rw [HZ.out.2.1]; exact iv_abs z)
  obtain rfl : s5 = s := by rw [hz5.sg, HZ.out.2.1]
  obtain ⟨zs, hA5, hN5⟩ := hz5.ex
  have h05 : s5 = true → 0 < m5 := fun h8 => Nat.pos_of_ne_zero fun e0 => by have := hz5.zero.1 e0; have := HZ.out.1; omega
  have HZ5 : Hid (At32 v5 (some ⟨g5, 0, none⟩) m5 m5 zs ∧ Nf B32 zs z.natAbs ∧ (s5 = true → 0 < m5) ∧ m5 ≤ m) := ⟨hA5, hN5, h05, HL5.out⟩
  clear hz5 hA5 hN5 h05 Z5
  go_wp2_with fail
  have HRL : Hid (gr < v5.heap.size ∧ w.heap.size ≤ v5.heap.size) := ⟨Xr.out.lt, hbw.size⟩
  refine (to04_any s5 HZ5.out.1 HZ5.out.2.1 (by have := HZ5.out; have := HZ.out; omega) HZ5.out.2.2.1).mono ?_
  rintro e2 v6 ⟨g6, k6, c6, us, rfl, hA6, hN6, hg6, hb6⟩
  replace Xm : Hid _ := Xm.out.below hb6
  replace Xr : Hid _ := Xr.out.below hb6
  replace A3 : Hid _ := A3.out.below hb6
  replace hbw := Below.on hbw hb6
  clear hb6
  have A6 : Hid (At v6 (some ⟨g6, 0, none⟩) k6 c6 us) := hA6
  have N6 : Hid (Nf B64 us z.natAbs ∧ gr < g6) := ⟨hN6, Nat.lt_of_lt_of_le HRL.out.1 hg6⟩
  clear hA6 hN6 hg6
  obtain ⟨cr0, cr1, cr2, fr0, fr1, fr2⟩ := Xr.out
  have hner : gr < v6.heap.size := World.block_lt_of_cell? v6 _ cr0
  go_wp2_with fail
  refine bodyPost_ret (v := .tuple #[DV s5 (some ⟨g6, 0, none⟩) k6 c6 e, .int .i64 0]) (by rw [results_cell_tmp rfl]; go_simp) rfl ⟨g6, k6, c6, rfl, Nat.le_trans HGr.out (Nat.le_of_lt N6.out.2), ⟨⟨⟨us, ?_, N6.out.1, ?_⟩, HZ.out.2.1⟩, .inr ⟨HZ.out.1, HE.out⟩⟩, ?_⟩
  · have := N6.out.2
    exact ((A6.out.setOther _ _ _ (by omega)).setOther _ _ _ (by omega)).setOther _ _ _ (by omega)
  · have h1 := (NX.out.len_le B32_one (k := m)).1 (by rw [AX.out.len]; exact Nat.le_refl _)
    have h2 := (N6.out.1.len_le B64_one (k := m)).2 (Nat.lt_of_lt_of_le h1 (Nat.pow_le_pow_left (by decide) m))
    rw [A6.out.len] at h2
    have := HZ.out
    omega
  · exact bSet (bSet (bSet hbw _ _ _ HGr.out) _ _ _ HGr.out) _ _ _ HGr.out
theorem DN.set {w : World} {s : Bool} {g m c : Nat} {e z : Int} (h : DN w s (some ⟨g, 0, none⟩) m c e z) (g2 o2 : Nat) (v : Value) (hne : g ≠ g2) : DN (w.setCell ⟨g2, o2, none⟩ v) s (some ⟨g, 0, none⟩) m c e z := by
  obtain ⟨xs, hX⟩ := h.zn.ex
  exact ⟨⟨⟨xs, hX.at_.setOther g2 o2 v hne, hX.nf, hX.le⟩, h.zn.sg⟩, h.fm⟩
set_option maxRecDepth 20000 in
set_option maxHeartbeats 8000000 in
theorem docof5 {w : World} (z : Int) (h0 : -9223372036854775808 ≤ z) (h1 : z ≤ 9223372036854775807) (hz : z % 2 = 1) :
    Calls Tryz.prog 73 #[.int .i64 z] w fun en w' => ∃ s' g m' c', en = .returned (DV s' (some ⟨g, 0, none⟩) m' c' 0) ∧ w.heap.size ≤ g ∧ DN w' s' (some ⟨g, 0, none⟩) m' c' 0 z ∧ Below w.heap.size w w' := by
  have HZ : Hid (-9223372036854775808 ≤ z ∧ z ≤ 9223372036854775807 ∧ z % 2 = 1) := ⟨h0, h1, hz⟩
  clear h0 h1 hz
  go_enter Tryz.func73, Tryz.ntmps73
  go_wp2_with fail
  obtain ⟨W0, hW0⟩ : ∃ W0, W0 = (w.alloc (.cells #[.bool false, .slice none 0 0, .int .i64 0] 28)) := ⟨_, rfl⟩
  have Xr : Hid (B3q W0 (w.heap.size) (.bool false) (.slice none 0 0) (.int .i64 0)) := by rw [hW0]; exact ⟨by go_simp, by go_simp, by go_simp, by go_simp, by go_simp, by go_simp⟩
  have hb0 : Below w.heap.size w W0 := by rw [hW0]; exact below1 w _
  rw [← hW0]
  clear hW0
  have hbw : Below w.heap.size w w := Below.refl _ _
  obtain ⟨gr, hgr⟩ : ∃ g, g = w.heap.size := ⟨_, rfl⟩
  have HGr : Hid (w.heap.size ≤ gr) := by rw [hgr]; show _ ≤ _; omega
  rw [← hgr] at Xr
  try rw [← hgr]
  clear hgr
  replace hbw := Below.on hbw hb0
  clear hb0
  refine (rof_any z _ HZ.out.1 HZ.out.2.1).mono ?_
  rintro e2 v1 ⟨g1, m1, zs, rfl, hA1, hN1, hl1, hb1⟩
  replace Xr : Hid _ := Xr.out.below hb1
  replace hbw := Below.on hbw hb1
  clear hb1
  have Z1 : Hid (ZR v1 (decide (z < 0)) (some ⟨g1, 0, none⟩) m1 z) := ⟨⟨zs, hA1, hN1⟩, rfl⟩
  have HL1 : Hid (m1 ≤ 3) := hl1
  clear hA1 hN1 hl1
  obtain ⟨s1, hs1⟩ : ∃ b, b = decide (z < 0) := ⟨_, rfl⟩
  rw [← hs1] at Z1 ⊢
  clear hs1
  go_wp2_with fail
  refine (told5 s1 Z1.out HZ.out.2.2 (by have := HL1.out; omega) (by omega)).mono ?_
  rintro e2 v2 ⟨g2, m2, c2, rfl, hg2, hd2, hb2⟩
  have HR2 : Hid (gr < g2 ∧ w.heap.size ≤ g2) := ⟨Nat.lt_of_lt_of_le Xr.out.lt hg2, Nat.le_trans hbw.size hg2⟩
  replace Xr : Hid _ := Xr.out.below hb2
  replace Z1 : Hid _ := Z1.out.below hb2
  replace hbw := Below.on hbw hb2
  clear hb2
  have D2 : Hid (DN v2 s1 (some ⟨g2, 0, none⟩) m2 c2 0 z) := hd2
  clear hd2 hg2
  obtain ⟨cr0, cr1, cr2, fr0, fr1, fr2⟩ := Xr.out
  have hner : gr < v2.heap.size := World.block_lt_of_cell? v2 _ cr0
  go_wp2_with fail
  refine bodyPost_ret (v := DV s1 (some ⟨g2, 0, none⟩) m2 c2 0) (by rw [results_cell1 rfl]; go_simp) rfl ⟨s1, g2, m2, c2, rfl, HR2.out.2, ?_, ?_⟩
  · have := HR2.out.1
    exact (((D2.out.set _ _ _ (by omega)).set _ _ _ (by omega)).set _ _ _ (by omega)).below (below1 _ _)
  · exact Below.on (bSet (bSet (bSet hbw _ _ _ HGr.out) _ _ _ HGr.out) _ _ _ HGr.out) (below1 _ _)
end Go.Proofs.YtoalblaklcekeaaGreatDoor
