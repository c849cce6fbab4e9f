import Derived.Test.YtmolnhpfmgmfgaaGreatDoorJ12
import Derived.Test.YtmolnhpfmgmfgaaGreatDoorJ11
import Derived.Test.YtmolnhpfmgmfgaaGreatDoorJ9
namespace Go.Proofs.YtmolnhpfmgmfgaaGreatDoor
open Go.RowKit Go.Shelf
set_option maxRecDepth 20000
set_option maxHeartbeats 0
theorem tg_zd {q : Option Addr} {m c : Nat} {w : World} {z e E : Int} {s : Bool} (h : DN w s q m c e z) (hz : z = 0) :
    Calls Tryz.prog 14 #[WVd, DV s q m c e, .int .i64 E] w fun en w' => ∃ v, en = .returned (.tuple #[v, .int .i64 0]) ∧ AnsD w.heap.size w' v z e ∧ Below w.heap.size w w' := by
  have H : Hid (DN w s q m c e z) := h
  have HZ : Hid (z = 0) := hz
  clear h hz
  go_enter Tryz.func14, Tryz.ntmps14
  go_wp2_with fail
  obtain ⟨W0, hW0⟩ : ∃ W0, W0 = (((w.alloc (.cells #[.func (.func 17) #[] #[], .func (.func 18) #[] #[]] 38)).alloc (.cells #[.bool s, .slice q m c, .int .i64 e] 27)).alloc (.cells #[.bool false, .slice none 0 0, .int .i64 0] 27)) := ⟨_, rfl⟩
  have Xy : Hid (Box W0 (w.heap.size) (.func (.func 17) #[] #[]) (.func (.func 18) #[] #[])) := by rw [hW0]; exact ⟨by go_simp, by go_simp, by go_simp, by go_simp⟩
  have Xd : Hid (B3q W0 (w.heap.size + 1) (.bool s) (.slice q m c) (.int .i64 e)) := by rw [hW0]; exact ⟨by go_simp, by go_simp, by go_simp, by go_simp, by go_simp, by go_simp⟩
  have Xr : Hid (B3q W0 (w.heap.size + 1 + 1) (.bool false) (.slice none 0 0) (.int .i64 0)) := by rw [hW0]; exact ⟨by go_simp, by go_simp, by go_simp, by go_simp, by go_simp, by go_simp⟩
  have hb0 : Below w.heap.size w W0 := by rw [hW0]; exact below3 w _ _ _
  rw [← hW0]
  clear hW0
  have hbw : Below w.heap.size w w := Below.refl _ _
  obtain ⟨gr, hgr⟩ : ∃ g, g = w.heap.size + 1 + 1 := ⟨_, rfl⟩
  have HGr : Hid (w.heap.size ≤ gr) := by rw [hgr]; show _ ≤ _; omega
  rw [← hgr] at Xr
  try rw [← hgr]
  obtain ⟨gd, hgd⟩ : ∃ g, g = w.heap.size + 1 := ⟨_, rfl⟩
  have HGd : Hid (w.heap.size ≤ gd) := by rw [hgd]; show _ ≤ _; omega
  rw [← hgd] at Xd
  try rw [← hgd]
  obtain ⟨gy, hgy⟩ : ∃ g, g = w.heap.size := ⟨_, rfl⟩
  have HGy : Hid (w.heap.size ≤ gy) := by rw [hgy]; show _ ≤ _; omega
  rw [← hgy] at Xy
  try rw [← hgy]
  have HGD : Hid (gy ≠ gd ∧ gy ≠ gr ∧ gd ≠ gy ∧ gd ≠ gr ∧ gr ≠ gy ∧ gr ≠ gd) := by rw [hgy, hgd, hgr]; exact ⟨by omega, by omega, by omega, by omega, by omega, by omega⟩
  clear hgy hgd hgr
  replace hbw := Below.on hbw hb0
  clear hb0
  refine (dform_t (H.out.below hbw)).mono ?_
  rintro e v1 ⟨rfl, hb1⟩
  replace Xy : Hid _ := Xy.out.below hb1
  replace Xd : Hid _ := Xd.out.below hb1
  replace Xr : Hid _ := Xr.out.below hb1
  replace hbw := Below.on hbw hb1
  clear hb1
  obtain ⟨cd0, cd1, cd2, fd0, fd1, fd2⟩ := Xd.out
  have hned : gd < v1.heap.size := World.block_lt_of_cell? v1 _ cd0
  go_wp2_with fail
  clear cd0 cd1 cd2 fd0 fd1 fd2 hned
  refine (zsign (H.out.zn.below hbw)).mono ?_
  rintro e v2 ⟨rfl, hb2⟩
  obtain ⟨sg2, hsg⟩ : ∃ sg, sg = sgnI (z) := ⟨_, rfl⟩
  rw [← hsg]
  have hs2 : (sg2 == 0) = true := by rw [hsg]; have := HZ.out; unfold sgnI; split <;> (try split) <;> simp <;> omega
  clear hsg
  replace Xy : Hid _ := Xy.out.below hb2
  replace Xd : Hid _ := Xd.out.below hb2
  replace Xr : Hid _ := Xr.out.below hb2
  replace hbw := Below.on hbw hb2
  clear hb2
  obtain ⟨cd0, cd1, cd2, fd0, fd1, fd2⟩ := Xd.out
  have hned : gd < v2.heap.size := World.block_lt_of_cell? v2 _ cd0
  go_wp2_with fail
  clear cd0 cd1 cd2 fd0 fd1 fd2 hned
  have HRL : Hid (gr < v2.heap.size ∧ w.heap.size ≤ v2.heap.size) := ⟨Xr.out.lt, hbw.size⟩
  obtain ⟨xs, hX⟩ := (H.out.zn.below hbw).ex
  have N6 : Hid (Nf B64 xs z.natAbs ∧ m ≤ 8192 ∧ s = decide (z < 0)) := ⟨hX.nf, hX.le, H.out.zn.sg⟩
  refine (dcopied s hX.at_ hX.le).mono ?_
  rintro e2 v5 ⟨p5, rfl, ho5, hb5⟩
  clear hX
  replace Xy : Hid _ := Xy.out.below hb5
  replace Xd : Hid _ := Xd.out.below hb5
  replace Xr : Hid _ := Xr.out.below hb5
  replace hbw := Below.on hbw hb5
  clear hb5
  have O5 : Hid (Own v2.heap.size v5 p5 m xs) := ho5
  clear ho5
  obtain ⟨cr0, cr1, cr2, fr0, fr1, fr2⟩ := Xr.out
  have hner : gr < v5.heap.size := World.block_lt_of_cell? v5 _ cr0
  go_wp2_with fail
  refine bodyPost_ret (v := .tuple #[DV s p5 m m e, .int .i64 0]) (by rw [results_cell_tmp rfl]; go_simp) rfl ⟨_, rfl, ⟨p5, m, xs, by rw [N6.out.2.2], ?_, N6.out.1, N6.out.2.1⟩, ?_⟩
  · exact own_set3 O5.out HRL.out.1 HRL.out.2 _ _ _
  · exact bSet (bSet (bSet hbw _ _ _ HGr.out) _ _ _ HGr.out) _ _ _ HGr.out
theorem tg_cd {q : Option Addr} {m c : Nat} {w : World} {z e E : Int} {s : Bool} (h : DN w s q m c e z) (hz : z ≠ 0) (hE : E ≤ e) :
    Calls Tryz.prog 14 #[WVd, DV s q m c e, .int .i64 E] w fun en w' => ∃ v, en = .returned (.tuple #[v, .int .i64 0]) ∧ AnsD w.heap.size w' v z e ∧ Below w.heap.size w w' := by
  have H : Hid (DN w s q m c e z) := h
  have HZ : Hid (z ≠ 0) := hz
  have f1 : E ≤ e := hE
  clear h hz
  go_enter Tryz.func14, Tryz.ntmps14
  go_wp2_with fail
  obtain ⟨W0, hW0⟩ : ∃ W0, W0 = (((w.alloc (.cells #[.func (.func 17) #[] #[], .func (.func 18) #[] #[]] 38)).alloc (.cells #[.bool s, .slice q m c, .int .i64 e] 27)).alloc (.cells #[.bool false, .slice none 0 0, .int .i64 0] 27)) := ⟨_, rfl⟩
  have Xy : Hid (Box W0 (w.heap.size) (.func (.func 17) #[] #[]) (.func (.func 18) #[] #[])) := by rw [hW0]; exact ⟨by go_simp, by go_simp, by go_simp, by go_simp⟩
  have Xd : Hid (B3q W0 (w.heap.size + 1) (.bool s) (.slice q m c) (.int .i64 e)) := by rw [hW0]; exact ⟨by go_simp, by go_simp, by go_simp, by go_simp, by go_simp, by go_simp⟩
  have Xr : Hid (B3q W0 (w.heap.size + 1 + 1) (.bool false) (.slice none 0 0) (.int .i64 0)) := by rw [hW0]; exact ⟨by go_simp, by go_simp, by go_simp, by go_simp, by go_simp, by go_simp⟩
  have hb0 : Below w.heap.size w W0 := by rw [hW0]; exact below3 w _ _ _
  rw [← hW0]
  clear hW0
  have hbw : Below w.heap.size w w := Below.refl _ _
  obtain ⟨gr, hgr⟩ : ∃ g, g = w.heap.size + 1 + 1 := ⟨_, rfl⟩
  have HGr : Hid (w.heap.size ≤ gr) := by rw [hgr]; show _ ≤ _; omega
  rw [← hgr] at Xr
  try rw [← hgr]
  obtain ⟨gd, hgd⟩ : ∃ g, g = w.heap.size + 1 := ⟨_, rfl⟩
  have HGd : Hid (w.heap.size ≤ gd) := by rw [hgd]; show _ ≤ _; omega
  rw [← hgd] at Xd
  try rw [← hgd]
  obtain ⟨gy, hgy⟩ : ∃ g, g = w.heap.size := ⟨_, rfl⟩
  have HGy : Hid (w.heap.size ≤ gy) := by rw [hgy]; show _ ≤ _; omega
  rw [← hgy] at Xy
  try rw [← hgy]
  have HGD : Hid (gy ≠ gd ∧ gy ≠ gr ∧ gd ≠ gy ∧ gd ≠ gr ∧ gr ≠ gy ∧ gr ≠ gd) := by rw [hgy, hgd, hgr]; exact ⟨by omega, by omega, by omega, by omega, by omega, by omega⟩
  clear hgy hgd hgr
  replace hbw := Below.on hbw hb0
  clear hb0
  refine (dform_t (H.out.below hbw)).mono ?_
  rintro e v1 ⟨rfl, hb1⟩
  replace Xy : Hid _ := Xy.out.below hb1
  replace Xd : Hid _ := Xd.out.below hb1
  replace Xr : Hid _ := Xr.out.below hb1
  replace hbw := Below.on hbw hb1
  clear hb1
  obtain ⟨cd0, cd1, cd2, fd0, fd1, fd2⟩ := Xd.out
  have hned : gd < v1.heap.size := World.block_lt_of_cell? v1 _ cd0
  go_wp2_with fail
  clear cd0 cd1 cd2 fd0 fd1 fd2 hned
  refine (zsign (H.out.zn.below hbw)).mono ?_
  rintro e v2 ⟨rfl, hb2⟩
  obtain ⟨sg2, hsg⟩ : ∃ sg, sg = sgnI (z) := ⟨_, rfl⟩
  rw [← hsg]
  have hs2 : (sg2 == 0) = false := by rw [hsg]; have := HZ.out; unfold sgnI; split <;> (try split) <;> simp <;> omega
  clear hsg
  replace Xy : Hid _ := Xy.out.below hb2
  replace Xd : Hid _ := Xd.out.below hb2
  replace Xr : Hid _ := Xr.out.below hb2
  replace hbw := Below.on hbw hb2
  clear hb2
  obtain ⟨cd0, cd1, cd2, fd0, fd1, fd2⟩ := Xd.out
  have hned : gd < v2.heap.size := World.block_lt_of_cell? v2 _ cd0
  go_wp2_with fail
  clear cd0 cd1 cd2 fd0 fd1 fd2 hned
  have HRL : Hid (gr < v2.heap.size ∧ w.heap.size ≤ v2.heap.size) := ⟨Xr.out.lt, hbw.size⟩
  obtain ⟨xs, hX⟩ := (H.out.zn.below hbw).ex
  have N6 : Hid (Nf B64 xs z.natAbs ∧ m ≤ 8192 ∧ s = decide (z < 0)) := ⟨hX.nf, hX.le, H.out.zn.sg⟩
  refine (dcopied s hX.at_ hX.le).mono ?_
  rintro e2 v5 ⟨p5, rfl, ho5, hb5⟩
  clear hX
  replace Xy : Hid _ := Xy.out.below hb5
  replace Xd : Hid _ := Xd.out.below hb5
  replace Xr : Hid _ := Xr.out.below hb5
  replace hbw := Below.on hbw hb5
  clear hb5
  have O5 : Hid (Own v2.heap.size v5 p5 m xs) := ho5
  clear ho5
  obtain ⟨cr0, cr1, cr2, fr0, fr1, fr2⟩ := Xr.out
  have hner : gr < v5.heap.size := World.block_lt_of_cell? v5 _ cr0
  go_wp2_with fail
  refine bodyPost_ret (v := .tuple #[DV s p5 m m e, .int .i64 0]) (by rw [results_cell_tmp rfl]; go_simp) rfl ⟨_, rfl, ⟨p5, m, xs, by rw [N6.out.2.2], ?_, N6.out.1, N6.out.2.1⟩, ?_⟩
  · exact own_set3 O5.out HRL.out.1 HRL.out.2 _ _ _
  · exact bSet (bSet (bSet hbw _ _ _ HGr.out) _ _ _ HGr.out) _ _ _ HGr.out
theorem at_zd {q : Option Addr} {m c : Nat} {w : World} {z e E : Int} {s : Bool} (h : DN w s q m c e z) (hz : z = 0) :
    Calls Tryz.prog 74 #[DV s q m c e, .int .i64 E] w fun en w' => ∃ v, en = .returned (.tuple #[v, .int .i64 0]) ∧ AnsD w.heap.size w' v z e ∧ Below w.heap.size w w' := by
  have H : Hid (DN w s q m c e z) := h
  have HZ : Hid (z = 0) := hz
  clear h hz
  go_enter Tryz.func74, Tryz.ntmps74
  go_wp2_with fail
  obtain ⟨W0, hW0⟩ : ∃ W0, W0 = ((w.alloc (.cells #[.bool s, .slice q m c, .int .i64 e] 27)).alloc (.cells #[.bool false, .slice none 0 0, .int .i64 0] 27)) := ⟨_, rfl⟩
  have Xd : Hid (B3q W0 (w.heap.size) (.bool s) (.slice q m c) (.int .i64 e)) := by rw [hW0]; exact ⟨by go_simp, by go_simp, by go_simp, by go_simp, by go_simp, by go_simp⟩
  have Xr : Hid (B3q W0 (w.heap.size + 1) (.bool false) (.slice none 0 0) (.int .i64 0)) := by rw [hW0]; exact ⟨by go_simp, by go_simp, by go_simp, by go_simp, by go_simp, by go_simp⟩
  have hb0 : Below w.heap.size w W0 := by rw [hW0]; exact below2 w _ _
  rw [← hW0]
  clear hW0
  have hbw : Below w.heap.size w w := Below.refl _ _
  obtain ⟨gr, hgr⟩ : ∃ g, g = w.heap.size + 1 := ⟨_, rfl⟩
  have HGr : Hid (w.heap.size ≤ gr) := by rw [hgr]; show _ ≤ _; omega
  rw [← hgr] at Xr
  try rw [← hgr]
  obtain ⟨gd, hgd⟩ : ∃ g, g = w.heap.size := ⟨_, rfl⟩
  have HGd : Hid (w.heap.size ≤ gd) := by rw [hgd]; show _ ≤ _; omega
  rw [← hgd] at Xd
  try rw [← hgd]
  have HGD : Hid (gd ≠ gr ∧ gr ≠ gd) := by rw [hgd, hgr]; exact ⟨by omega, by omega⟩
  clear hgd hgr
  replace hbw := Below.on hbw hb0
  clear hb0
  obtain ⟨W1, hW1⟩ : ∃ W1, W1 = W0.drew := ⟨_, rfl⟩
  have hbd : Below W0.heap.size W0 W1 := by rw [hW1]; exact bDrew1 (Below.refl _ _)
  replace Xd : Hid _ := Xd.out.below hbd
  replace Xr : Hid _ := Xr.out.below hbd
  replace hbw := Below.on hbw hbd
  clear hbd
  have HJ : Hid ((fun W' : World => W'.cell? ⟨gd, 0, none⟩ = some (.bool s) ∧ W'.cell? ⟨gd, 1, none⟩ = some (.slice q m c) ∧ W'.cell? ⟨gd, 2, none⟩ = some (.int .i64 e)) W1) := ⟨Xd.out.c0, Xd.out.c1, Xd.out.c2⟩
  refine wp_region_J (fun W' => W'.cell? ⟨gd, 0, none⟩ = some (.bool s) ∧ W'.cell? ⟨gd, 1, none⟩ = some (.slice q m c) ∧ W'.cell? ⟨gd, 2, none⟩ = some (.int .i64 e)) (by kernel_rfl) ?_
  rw [← hW1]
  clear hW1
  refine wpJ_tq 1 rfl HJ.out ?_
  refine wpJ_tq 2 rfl HJ.out ?_
  refine wpJ_on 0 rfl fun KJ hK => ?_
  go_simp
  refine (way_d _).mono ?_
  rintro e v1 ⟨rfl, hb1⟩
  replace Xd : Hid _ := Xd.out.below hb1
  replace Xr : Hid _ := Xr.out.below hb1
  replace hbw := Below.on hbw hb1
  clear hb1
  refine hK _ _ ⟨Xd.out.c0, Xd.out.c1, Xd.out.c2⟩ ?_
  clear hK
  refine wpJ_on 3 rfl fun KJ hK => ?_
  go_simp
  have HRL : Hid (gr < v1.heap.size ∧ w.heap.size ≤ v1.heap.size) := ⟨Xr.out.lt, hbw.size⟩
  refine (tg_zd (H.out.below hbw) HZ.out).mono ?_
  rintro e2 v6 ⟨v, rfl, hv, hb6⟩
  obtain ⟨p6, m6, z6, rfl, ho6, hn6, hm6⟩ := hv
  replace Xd : Hid _ := Xd.out.below hb6
  replace Xr : Hid _ := Xr.out.below hb6
  replace hbw := Below.on hbw hb6
  clear hb6
  have O6 : Hid (Own v1.heap.size v6 p6 m6 z6) := ho6
  have N6 : Hid (Nf B64 z6 (z).natAbs ∧ m6 ≤ 8192) := ⟨hn6, hm6⟩
  clear ho6 hn6 hm6
  obtain ⟨so, hso⟩ : ∃ b, b = decide ((z) < 0) := ⟨_, rfl⟩
  rw [← hso]
  have HSO : Hid (so = decide ((z) < 0)) := hso
  clear hso
  clear HJ
  have HJ : Hid ((fun W' : World => W'.cell? ⟨gd, 0, none⟩ = some (.bool s) ∧ W'.cell? ⟨gd, 1, none⟩ = some (.slice q m c) ∧ W'.cell? ⟨gd, 2, none⟩ = some (.int .i64 e)) v6) := ⟨Xd.out.c0, Xd.out.c1, Xd.out.c2⟩
  refine hK _ _ HJ.out ?_
  clear hK
  refine wpJ_tq 4 rfl HJ.out ?_
  refine wpJ_tq 5 rfl HJ.out ?_
  obtain ⟨cr0, cr1, cr2, fr0, fr1, fr2⟩ := Xr.out
  have hner : gr < v6.heap.size := World.block_lt_of_cell? v6 _ cr0
  obtain ⟨cd0, cd1, cd2, fd0, fd1, fd2⟩ := Xd.out
  have hned : gd < v6.heap.size := World.block_lt_of_cell? v6 _ cd0
  obtain ⟨hgd0, hgd1⟩ := HGD.out
  refine wpJ_on 6 rfl fun KJ hK => ?_
  go_simp
  have HJ2 : Hid ((fun W' : World => W'.cell? ⟨gd, 0, none⟩ = some (.bool s) ∧ W'.cell? ⟨gd, 1, none⟩ = some (.slice q m c) ∧ W'.cell? ⟨gd, 2, none⟩ = some (.int .i64 e)) (((v6.setCell ⟨gr, 0, none⟩ (.bool so)).setCell ⟨gr, 1, none⟩ (.slice p6 m6 m6)).setCell ⟨gr, 2, none⟩ (.int .i64 (e)))) := ⟨by go_simp, by go_simp, by go_simp⟩
  refine hK _ _ HJ2.out ?_
  clear hK HJ
  have HJ := HJ2
  clear HJ2
  refine wpJ_tq 7 rfl HJ.out ?_
  refine wpJ_done (by kernel_rfl) ?_ _
  clear HJ
  go_wp2_with fail
  refine bodyPost_ret (v := .tuple #[DV so p6 m6 m6 (e), .int .i64 0]) (by rw [results_cell_tmp rfl]; go_simp) rfl ⟨_, rfl, ⟨p6, m6, z6, by rw [HSO.out], ?_, N6.out.1, N6.out.2⟩, ?_⟩
  · exact own_set3 O6.out HRL.out.1 HRL.out.2 _ _ _
  · exact bSet (bSet (bSet hbw _ _ _ HGr.out) _ _ _ HGr.out) _ _ _ HGr.out
theorem at_cd {q : Option Addr} {m c : Nat} {w : World} {z e E : Int} {s : Bool} (h : DN w s q m c e z) (hz : z ≠ 0) (hE : E ≤ e) :
    Calls Tryz.prog 74 #[DV s q m c e, .int .i64 E] w fun en w' => ∃ v, en = .returned (.tuple #[v, .int .i64 0]) ∧ AnsD w.heap.size w' v z e ∧ Below w.heap.size w w' := by
  have H : Hid (DN w s q m c e z) := h
  have HZ : Hid (z ≠ 0 ∧ E ≤ e) := ⟨hz, hE⟩
  clear h hz hE
  go_enter Tryz.func74, Tryz.ntmps74
  go_wp2_with fail
  obtain ⟨W0, hW0⟩ : ∃ W0, W0 = ((w.alloc (.cells #[.bool s, .slice q m c, .int .i64 e] 27)).alloc (.cells #[.bool false, .slice none 0 0, .int .i64 0] 27)) := ⟨_, rfl⟩
  have Xd : Hid (B3q W0 (w.heap.size) (.bool s) (.slice q m c) (.int .i64 e)) := by rw [hW0]; exact ⟨by go_simp, by go_simp, by go_simp, by go_simp, by go_simp, by go_simp⟩
  have Xr : Hid (B3q W0 (w.heap.size + 1) (.bool false) (.slice none 0 0) (.int .i64 0)) := by rw [hW0]; exact ⟨by go_simp, by go_simp, by go_simp, by go_simp, by go_simp, by go_simp⟩
  have hb0 : Below w.heap.size w W0 := by rw [hW0]; exact below2 w _ _
  rw [← hW0]
  clear hW0
  have hbw : Below w.heap.size w w := Below.refl _ _
  obtain ⟨gr, hgr⟩ : ∃ g, g = w.heap.size + 1 := ⟨_, rfl⟩
  have HGr : Hid (w.heap.size ≤ gr) := by rw [hgr]; show _ ≤ _; omega
  rw [← hgr] at Xr
  try rw [← hgr]
  obtain ⟨gd, hgd⟩ : ∃ g, g = w.heap.size := ⟨_, rfl⟩
  have HGd : Hid (w.heap.size ≤ gd) := by rw [hgd]; show _ ≤ _; omega
  rw [← hgd] at Xd
  try rw [← hgd]
  have HGD : Hid (gd ≠ gr ∧ gr ≠ gd) := by rw [hgd, hgr]; exact ⟨by omega, by omega⟩
  clear hgd hgr
  replace hbw := Below.on hbw hb0
  clear hb0
  obtain ⟨W1, hW1⟩ : ∃ W1, W1 = W0.drew := ⟨_, rfl⟩
  have hbd : Below W0.heap.size W0 W1 := by rw [hW1]; exact bDrew1 (Below.refl _ _)
  replace Xd : Hid _ := Xd.out.below hbd
  replace Xr : Hid _ := Xr.out.below hbd
  replace hbw := Below.on hbw hbd
  clear hbd
  have HJ : Hid ((fun W' : World => W'.cell? ⟨gd, 0, none⟩ = some (.bool s) ∧ W'.cell? ⟨gd, 1, none⟩ = some (.slice q m c) ∧ W'.cell? ⟨gd, 2, none⟩ = some (.int .i64 e)) W1) := ⟨Xd.out.c0, Xd.out.c1, Xd.out.c2⟩
  refine wp_region_J (fun W' => W'.cell? ⟨gd, 0, none⟩ = some (.bool s) ∧ W'.cell? ⟨gd, 1, none⟩ = some (.slice q m c) ∧ W'.cell? ⟨gd, 2, none⟩ = some (.int .i64 e)) (by kernel_rfl) ?_
  rw [← hW1]
  clear hW1
  refine wpJ_tq 1 rfl HJ.out ?_
  refine wpJ_tq 2 rfl HJ.out ?_
  refine wpJ_on 0 rfl fun KJ hK => ?_
  go_simp
  refine (way_d _).mono ?_
  rintro e v1 ⟨rfl, hb1⟩
  replace Xd : Hid _ := Xd.out.below hb1
  replace Xr : Hid _ := Xr.out.below hb1
  replace hbw := Below.on hbw hb1
  clear hb1
  refine hK _ _ ⟨Xd.out.c0, Xd.out.c1, Xd.out.c2⟩ ?_
  clear hK
  refine wpJ_on 3 rfl fun KJ hK => ?_
  go_simp
  have HRL : Hid (gr < v1.heap.size ∧ w.heap.size ≤ v1.heap.size) := ⟨Xr.out.lt, hbw.size⟩
  refine (tg_cd (H.out.below hbw) HZ.out.1 HZ.out.2).mono ?_
  rintro e2 v6 ⟨v, rfl, hv, hb6⟩
  obtain ⟨p6, m6, z6, rfl, ho6, hn6, hm6⟩ := hv
  replace Xd : Hid _ := Xd.out.below hb6
  replace Xr : Hid _ := Xr.out.below hb6
  replace hbw := Below.on hbw hb6
  clear hb6
  have O6 : Hid (Own v1.heap.size v6 p6 m6 z6) := ho6
  have N6 : Hid (Nf B64 z6 (z).natAbs ∧ m6 ≤ 8192) := ⟨hn6, hm6⟩
  clear ho6 hn6 hm6
  obtain ⟨so, hso⟩ : ∃ b, b = decide ((z) < 0) := ⟨_, rfl⟩
  rw [← hso]
  have HSO : Hid (so = decide ((z) < 0)) := hso
  clear hso
  clear HJ
  have HJ : Hid ((fun W' : World => W'.cell? ⟨gd, 0, none⟩ = some (.bool s) ∧ W'.cell? ⟨gd, 1, none⟩ = some (.slice q m c) ∧ W'.cell? ⟨gd, 2, none⟩ = some (.int .i64 e)) v6) := ⟨Xd.out.c0, Xd.out.c1, Xd.out.c2⟩
  refine hK _ _ HJ.out ?_
  clear hK
  refine wpJ_tq 4 rfl HJ.out ?_
  refine wpJ_tq 5 rfl HJ.out ?_
  obtain ⟨cr0, cr1, cr2, fr0, fr1, fr2⟩ := Xr.out
  have hner : gr < v6.heap.size := World.block_lt_of_cell? v6 _ cr0
  obtain ⟨cd0, cd1, cd2, fd0, fd1, fd2⟩ := Xd.out
  have hned : gd < v6.heap.size := World.block_lt_of_cell? v6 _ cd0
  obtain ⟨hgd0, hgd1⟩ := HGD.out
  refine wpJ_on 6 rfl fun KJ hK => ?_
  go_simp
  have HJ2 : Hid ((fun W' : World => W'.cell? ⟨gd, 0, none⟩ = some (.bool s) ∧ W'.cell? ⟨gd, 1, none⟩ = some (.slice q m c) ∧ W'.cell? ⟨gd, 2, none⟩ = some (.int .i64 e)) (((v6.setCell ⟨gr, 0, none⟩ (.bool so)).setCell ⟨gr, 1, none⟩ (.slice p6 m6 m6)).setCell ⟨gr, 2, none⟩ (.int .i64 (e)))) := ⟨by go_simp, by go_simp, by go_simp⟩
  refine hK _ _ HJ2.out ?_
  clear hK HJ
  have HJ := HJ2
  clear HJ2
  refine wpJ_tq 7 rfl HJ.out ?_
  refine wpJ_done (by kernel_rfl) ?_ _
  clear HJ
  go_wp2_with fail
  refine bodyPost_ret (v := .tuple #[DV so p6 m6 m6 (e), .int .i64 0]) (by rw [results_cell_tmp rfl]; go_simp) rfl ⟨_, rfl, ⟨p6, m6, z6, by rw [HSO.out], ?_, N6.out.1, N6.out.2⟩, ?_⟩
  · exact own_set3 O6.out HRL.out.1 HRL.out.2 _ _ _
  · exact bSet (bSet (bSet hbw _ _ _ HGr.out) _ _ _ HGr.out) _ _ _ HGr.out
theorem tg_zu {q : Option Addr} {m c : Nat} {w : World} {z e E : Int} {s : Bool} (h : DN w s q m c e z) (hz : z = 0) :
    Calls Tryz.prog 14 #[WVu, DV s q m c e, .int .i64 E] w fun en w' => ∃ v, en = .returned (.tuple #[v, .int .i64 0]) ∧ AnsD w.heap.size w' v z e ∧ Below w.heap.size w w' := by
  have H : Hid (DN w s q m c e z) := h
  have HZ : Hid (z = 0) := hz
  clear h hz
  go_enter Tryz.func14, Tryz.ntmps14
  go_wp2_with fail
  obtain ⟨W0, hW0⟩ : ∃ W0, W0 = (((w.alloc (.cells #[.func (.func 26) #[] #[], .func (.func 27) #[] #[]] 38)).alloc (.cells #[.bool s, .slice q m c, .int .i64 e] 27)).alloc (.cells #[.bool false, .slice none 0 0, .int .i64 0] 27)) := ⟨_, rfl⟩
  have Xy : Hid (Box W0 (w.heap.size) (.func (.func 26) #[] #[]) (.func (.func 27) #[] #[])) := by rw [hW0]; exact ⟨by go_simp, by go_simp, by go_simp, by go_simp⟩
  have Xd : Hid (B3q W0 (w.heap.size + 1) (.bool s) (.slice q m c) (.int .i64 e)) := by rw [hW0]; exact ⟨by go_simp, by go_simp, by go_simp, by go_simp, by go_simp, by go_simp⟩
  have Xr : Hid (B3q W0 (w.heap.size + 1 + 1) (.bool false) (.slice none 0 0) (.int .i64 0)) := by rw [hW0]; exact ⟨by go_simp, by go_simp, by go_simp, by go_simp, by go_simp, by go_simp⟩
  have hb0 : Below w.heap.size w W0 := by rw [hW0]; exact below3 w _ _ _
  rw [← hW0]
  clear hW0
  have hbw : Below w.heap.size w w := Below.refl _ _
  obtain ⟨gr, hgr⟩ : ∃ g, g = w.heap.size + 1 + 1 := ⟨_, rfl⟩
  have HGr : Hid (w.heap.size ≤ gr) := by rw [hgr]; show _ ≤ _; omega
  rw [← hgr] at Xr
  try rw [← hgr]
  obtain ⟨gd, hgd⟩ : ∃ g, g = w.heap.size + 1 := ⟨_, rfl⟩
  have HGd : Hid (w.heap.size ≤ gd) := by rw [hgd]; show _ ≤ _; omega
  rw [← hgd] at Xd
  try rw [← hgd]
  obtain ⟨gy, hgy⟩ : ∃ g, g = w.heap.size := ⟨_, rfl⟩
  have HGy : Hid (w.heap.size ≤ gy) := by rw [hgy]; show _ ≤ _; omega
  rw [← hgy] at Xy
  try rw [← hgy]
  have HGD : Hid (gy ≠ gd ∧ gy ≠ gr ∧ gd ≠ gy ∧ gd ≠ gr ∧ gr ≠ gy ∧ gr ≠ gd) := by rw [hgy, hgd, hgr]; exact ⟨by omega, by omega, by omega, by omega, by omega, by omega⟩
  clear hgy hgd hgr
  replace hbw := Below.on hbw hb0
  clear hb0
  refine (dform_t (H.out.below hbw)).mono ?_
  rintro e v1 ⟨rfl, hb1⟩
  replace Xy : Hid _ := Xy.out.below hb1
  replace Xd : Hid _ := Xd.out.below hb1
  replace Xr : Hid _ := Xr.out.below hb1
  replace hbw := Below.on hbw hb1
  clear hb1
  obtain ⟨cd0, cd1, cd2, fd0, fd1, fd2⟩ := Xd.out
  have hned : gd < v1.heap.size := World.block_lt_of_cell? v1 _ cd0
  go_wp2_with fail
  clear cd0 cd1 cd2 fd0 fd1 fd2 hned
  refine (zsign (H.out.zn.below hbw)).mono ?_
  rintro e v2 ⟨rfl, hb2⟩
  obtain ⟨sg2, hsg⟩ : ∃ sg, sg = sgnI (z) := ⟨_, rfl⟩
  rw [← hsg]
  have hs2 : (sg2 == 0) = true := by rw [hsg]; have := HZ.out; unfold sgnI; split <;> (try split) <;> simp <;> omega
  clear hsg
  replace Xy : Hid _ := Xy.out.below hb2
  replace Xd : Hid _ := Xd.out.below hb2
  replace Xr : Hid _ := Xr.out.below hb2
  replace hbw := Below.on hbw hb2
  clear hb2
  obtain ⟨cd0, cd1, cd2, fd0, fd1, fd2⟩ := Xd.out
  have hned : gd < v2.heap.size := World.block_lt_of_cell? v2 _ cd0
  go_wp2_with fail
  clear cd0 cd1 cd2 fd0 fd1 fd2 hned
  have HRL : Hid (gr < v2.heap.size ∧ w.heap.size ≤ v2.heap.size) := ⟨Xr.out.lt, hbw.size⟩
  obtain ⟨xs, hX⟩ := (H.out.zn.below hbw).ex
  have N6 : Hid (Nf B64 xs z.natAbs ∧ m ≤ 8192 ∧ s = decide (z < 0)) := ⟨hX.nf, hX.le, H.out.zn.sg⟩
  refine (dcopied s hX.at_ hX.le).mono ?_
  rintro e2 v5 ⟨p5, rfl, ho5, hb5⟩
  clear hX
  replace Xy : Hid _ := Xy.out.below hb5
  replace Xd : Hid _ := Xd.out.below hb5
  replace Xr : Hid _ := Xr.out.below hb5
  replace hbw := Below.on hbw hb5
  clear hb5
  have O5 : Hid (Own v2.heap.size v5 p5 m xs) := ho5
  clear ho5
  obtain ⟨cr0, cr1, cr2, fr0, fr1, fr2⟩ := Xr.out
  have hner : gr < v5.heap.size := World.block_lt_of_cell? v5 _ cr0
  go_wp2_with fail
  refine bodyPost_ret (v := .tuple #[DV s p5 m m e, .int .i64 0]) (by rw [results_cell_tmp rfl]; go_simp) rfl ⟨_, rfl, ⟨p5, m, xs, by rw [N6.out.2.2], ?_, N6.out.1, N6.out.2.1⟩, ?_⟩
  · exact own_set3 O5.out HRL.out.1 HRL.out.2 _ _ _
  · exact bSet (bSet (bSet hbw _ _ _ HGr.out) _ _ _ HGr.out) _ _ _ HGr.out
theorem tg_cu {q : Option Addr} {m c : Nat} {w : World} {z e E : Int} {s : Bool} (h : DN w s q m c e z) (hz : z ≠ 0) (hE : E ≤ e) :
    Calls Tryz.prog 14 #[WVu, DV s q m c e, .int .i64 E] w fun en w' => ∃ v, en = .returned (.tuple #[v, .int .i64 0]) ∧ AnsD w.heap.size w' v z e ∧ Below w.heap.size w w' := by
  have H : Hid (DN w s q m c e z) := h
  have HZ : Hid (z ≠ 0) := hz
  have f1 : E ≤ e := hE
  clear h hz
  go_enter Tryz.func14, Tryz.ntmps14
  go_wp2_with fail
  obtain ⟨W0, hW0⟩ : ∃ W0, W0 = (((w.alloc (.cells #[.func (.func 26) #[] #[], .func (.func 27) #[] #[]] 38)).alloc (.cells #[.bool s, .slice q m c, .int .i64 e] 27)).alloc (.cells #[.bool false, .slice none 0 0, .int .i64 0] 27)) := ⟨_, rfl⟩
  have Xy : Hid (Box W0 (w.heap.size) (.func (.func 26) #[] #[]) (.func (.func 27) #[] #[])) := by rw [hW0]; exact ⟨by go_simp, by go_simp, by go_simp, by go_simp⟩
  have Xd : Hid (B3q W0 (w.heap.size + 1) (.bool s) (.slice q m c) (.int .i64 e)) := by rw [hW0]; exact ⟨by go_simp, by go_simp, by go_simp, by go_simp, by go_simp, by go_simp⟩
  have Xr : Hid (B3q W0 (w.heap.size + 1 + 1) (.bool false) (.slice none 0 0) (.int .i64 0)) := by rw [hW0]; exact ⟨by go_simp, by go_simp, by go_simp, by go_simp, by go_simp, by go_simp⟩
  have hb0 : Below w.heap.size w W0 := by rw [hW0]; exact below3 w _ _ _
  rw [← hW0]
  clear hW0
  have hbw : Below w.heap.size w w := Below.refl _ _
  obtain ⟨gr, hgr⟩ : ∃ g, g = w.heap.size + 1 + 1 := ⟨_, rfl⟩
  have HGr : Hid (w.heap.size ≤ gr) := by rw [hgr]; show _ ≤ _; omega
  rw [← hgr] at Xr
  try rw [← hgr]
  obtain ⟨gd, hgd⟩ : ∃ g, g = w.heap.size + 1 := ⟨_, rfl⟩
  have HGd : Hid (w.heap.size ≤ gd) := by rw [hgd]; show _ ≤ _; omega
  rw [← hgd] at Xd
  try rw [← hgd]
  obtain ⟨gy, hgy⟩ : ∃ g, g = w.heap.size := ⟨_, rfl⟩
  have HGy : Hid (w.heap.size ≤ gy) := by rw [hgy]; show _ ≤ _; omega
  rw [← hgy] at Xy
  try rw [← hgy]
  have HGD : Hid (gy ≠ gd ∧ gy ≠ gr ∧ gd ≠ gy ∧ gd ≠ gr ∧ gr ≠ gy ∧ gr ≠ gd) := by rw [hgy, hgd, hgr]; exact ⟨by omega, by omega, by omega, by omega, by omega, by omega⟩
  clear hgy hgd hgr
  replace hbw := Below.on hbw hb0
  clear hb0
  refine (dform_t (H.out.below hbw)).mono ?_
  rintro e v1 ⟨rfl, hb1⟩
  replace Xy : Hid _ := Xy.out.below hb1
  replace Xd : Hid _ := Xd.out.below hb1
  replace Xr : Hid _ := Xr.out.below hb1
  replace hbw := Below.on hbw hb1
  clear hb1
  obtain ⟨cd0, cd1, cd2, fd0, fd1, fd2⟩ := Xd.out
  have hned : gd < v1.heap.size := World.block_lt_of_cell? v1 _ cd0
  go_wp2_with fail
  clear cd0 cd1 cd2 fd0 fd1 fd2 hned
  refine (zsign (H.out.zn.below hbw)).mono ?_
  rintro e v2 ⟨rfl, hb2⟩
  obtain ⟨sg2, hsg⟩ : ∃ sg, sg = sgnI (z) := ⟨_, rfl⟩
  rw [← hsg]
  have hs2 : (sg2 == 0) = false := by rw [hsg]; have := HZ.out; unfold sgnI; split <;> (try split) <;> simp <;> omega
  clear hsg
  replace Xy : Hid _ := Xy.out.below hb2
  replace Xd : Hid _ := Xd.out.below hb2
  replace Xr : Hid _ := Xr.out.below hb2
  replace hbw := Below.on hbw hb2
  clear hb2
  obtain ⟨cd0, cd1, cd2, fd0, fd1, fd2⟩ := Xd.out
  have hned : gd < v2.heap.size := World.block_lt_of_cell? v2 _ cd0
  go_wp2_with fail
  clear cd0 cd1 cd2 fd0 fd1 fd2 hned
  have HRL : Hid (gr < v2.heap.size ∧ w.heap.size ≤ v2.heap.size) := ⟨Xr.out.lt, hbw.size⟩
  obtain ⟨xs, hX⟩ := (H.out.zn.below hbw).ex
  have N6 : Hid (Nf B64 xs z.natAbs ∧ m ≤ 8192 ∧ s = decide (z < 0)) := ⟨hX.nf, hX.le, H.out.zn.sg⟩
  refine (dcopied s hX.at_ hX.le).mono ?_
  rintro e2 v5 ⟨p5, rfl, ho5, hb5⟩
  clear hX
  replace Xy : Hid _ := Xy.out.below hb5
  replace Xd : Hid _ := Xd.out.below hb5
  replace Xr : Hid _ := Xr.out.below hb5
  replace hbw := Below.on hbw hb5
  clear hb5
  have O5 : Hid (Own v2.heap.size v5 p5 m xs) := ho5
  clear ho5
  obtain ⟨cr0, cr1, cr2, fr0, fr1, fr2⟩ := Xr.out
  have hner : gr < v5.heap.size := World.block_lt_of_cell? v5 _ cr0
  go_wp2_with fail
  refine bodyPost_ret (v := .tuple #[DV s p5 m m e, .int .i64 0]) (by rw [results_cell_tmp rfl]; go_simp) rfl ⟨_, rfl, ⟨p5, m, xs, by rw [N6.out.2.2], ?_, N6.out.1, N6.out.2.1⟩, ?_⟩
  · exact own_set3 O5.out HRL.out.1 HRL.out.2 _ _ _
  · exact bSet (bSet (bSet hbw _ _ _ HGr.out) _ _ _ HGr.out) _ _ _ HGr.out
theorem tg_su {q : Option Addr} {m c n : Nat} {w : World} {z e E : Int} {s : Bool} (h : DN w s q m c e z) (hz : z ≠ 0) (hE : e < E ∧ E ≤ 1048576) (hn : n = (E - e).toNat) (hT : Tab w) :
    Calls Tryz.prog 14 #[WVu, DV s q m c e, .int .i64 E] w fun en w' => MakeP w.heap.size w' en (rd true z (2 ^ n)) E ∧ Below w.heap.size w w' := by
  have H : Hid (DN w s q m c e z) := h
  have TB : Hid (Tab w) := hT
  have HZ : Hid (z ≠ 0) := hz
  have hb := (lim_bits z.natAbs).1 h.zn.lim
  have he : -1048576 ≤ e ∧ e ≤ 1048576 := by rcases h.fm with ⟨h0, _⟩ | ⟨_, h5⟩; (exact absurd h0 hz); exact h5
  obtain ⟨pl, hpl⟩ : ∃ pl, pl = min n (bitsN z.natAbs) := ⟨_, rfl⟩
  obtain ⟨B, hB⟩ : ∃ B, B = bitsN z.natAbs := ⟨_, rfl⟩
  rw [← hB] at hb hpl
  have HB : Hid (bitsN z.natAbs = B) := hB.symm
  have f0 : ¬ E ≤ e := by omega
  have f1 : wrap64 (e + B) = e + B := by simp only [wrap64]; omega
  have f2 : min E (e + (B : Int)) = e + pl := by omega
  have f3 : wrap64 (e + (pl : Int) - e) = pl := by simp only [wrap64]; omega
  have f4 : IntKind.i64.wrap (e + B) = e + B := by simp [IntKind.wrap, IntKind.signed, IntKind.bits]; omega
  have f5 : IntKind.i64.wrap (e + (pl : Int) - e) = pl := by simp [IntKind.wrap, IntKind.signed, IntKind.bits]; omega
  have HF : Hid (pl ≤ 9223372036854775807 ∧ -3145728 ≤ E ∧ E ≤ 3145728) := ⟨by omega, by omega, by omega⟩
  have HR : Hid (ce (decide (z < 0)) z.natAbs (2 ^ pl) = rd true z (2 ^ n)) := by
    rw [ce_eq _ _ (Nat.pow_pos (by omega))]
    show rd true z (2 ^ pl) = _
    by_cases h9 : n ≤ B
    · rw [show pl = n from by omega]
    · rw [show pl = B from by omega]
      exact (rd_far true (by rw [hB]; exact bitsN_lt _) (by omega)).symm
  clear h hz hE hn hT hb he hpl hB
  go_enter Tryz.func14, Tryz.ntmps14
  go_wp2_with fail
  obtain ⟨W0, hW0⟩ : ∃ W0, W0 = (((w.alloc (.cells #[.func (.func 26) #[] #[], .func (.func 27) #[] #[]] 38)).alloc (.cells #[.bool s, .slice q m c, .int .i64 e] 27)).alloc (.cells #[.bool false, .slice none 0 0, .int .i64 0] 27)) := ⟨_, rfl⟩
  have Xy : Hid (Box W0 (w.heap.size) (.func (.func 26) #[] #[]) (.func (.func 27) #[] #[])) := by rw [hW0]; exact ⟨by go_simp, by go_simp, by go_simp, by go_simp⟩
  have Xd : Hid (B3q W0 (w.heap.size + 1) (.bool s) (.slice q m c) (.int .i64 e)) := by rw [hW0]; exact ⟨by go_simp, by go_simp, by go_simp, by go_simp, by go_simp, by go_simp⟩
  have Xr : Hid (B3q W0 (w.heap.size + 1 + 1) (.bool false) (.slice none 0 0) (.int .i64 0)) := by rw [hW0]; exact ⟨by go_simp, by go_simp, by go_simp, by go_simp, by go_simp, by go_simp⟩
  have hb0 : Below w.heap.size w W0 := by rw [hW0]; exact below3 w _ _ _
  rw [← hW0]
  clear hW0
  have hbw : Below w.heap.size w w := Below.refl _ _
  obtain ⟨gr, hgr⟩ : ∃ g, g = w.heap.size + 1 + 1 := ⟨_, rfl⟩
  have HGr : Hid (w.heap.size ≤ gr) := by rw [hgr]; show _ ≤ _; omega
  rw [← hgr] at Xr
  try rw [← hgr]
  obtain ⟨gd, hgd⟩ : ∃ g, g = w.heap.size + 1 := ⟨_, rfl⟩
  have HGd : Hid (w.heap.size ≤ gd) := by rw [hgd]; show _ ≤ _; omega
  rw [← hgd] at Xd
  try rw [← hgd]
  obtain ⟨gy, hgy⟩ : ∃ g, g = w.heap.size := ⟨_, rfl⟩
  have HGy : Hid (w.heap.size ≤ gy) := by rw [hgy]; show _ ≤ _; omega
  rw [← hgy] at Xy
  try rw [← hgy]
  have HGD : Hid (gy ≠ gd ∧ gy ≠ gr ∧ gd ≠ gy ∧ gd ≠ gr ∧ gr ≠ gy ∧ gr ≠ gd) := by rw [hgy, hgd, hgr]; exact ⟨by omega, by omega, by omega, by omega, by omega, by omega⟩
  clear hgy hgd hgr
  replace hbw := Below.on hbw hb0
  clear hb0
  refine (dform_t (H.out.below hbw)).mono ?_
  rintro e v1 ⟨rfl, hb1⟩
  replace Xy : Hid _ := Xy.out.below hb1
  replace Xd : Hid _ := Xd.out.below hb1
  replace Xr : Hid _ := Xr.out.below hb1
  replace hbw := Below.on hbw hb1
  clear hb1
  obtain ⟨cd0, cd1, cd2, fd0, fd1, fd2⟩ := Xd.out
  have hned : gd < v1.heap.size := World.block_lt_of_cell? v1 _ cd0
  go_wp2_with fail
  clear cd0 cd1 cd2 fd0 fd1 fd2 hned
  refine (zsign (H.out.zn.below hbw)).mono ?_
  rintro e v2 ⟨rfl, hb2⟩
  obtain ⟨sg2, hsg⟩ : ∃ sg, sg = sgnI (z) := ⟨_, rfl⟩
  rw [← hsg]
  have hs2 : (sg2 == 0) = false := by rw [hsg]; have := HZ.out; unfold sgnI; split <;> (try split) <;> simp <;> omega
  clear hsg
  replace Xy : Hid _ := Xy.out.below hb2
  replace Xd : Hid _ := Xd.out.below hb2
  replace Xr : Hid _ := Xr.out.below hb2
  replace hbw := Below.on hbw hb2
  clear hb2
  obtain ⟨cd0, cd1, cd2, fd0, fd1, fd2⟩ := Xd.out
  have hned : gd < v2.heap.size := World.block_lt_of_cell? v2 _ cd0
  go_wp2_with fail
  clear cd0 cd1 cd2 fd0 fd1 fd2 hned
  clear hs2 f0
  obtain ⟨W1, hW1⟩ : ∃ W1, W1 = v2.drew := ⟨_, rfl⟩
  have hbd : Below v2.heap.size v2 W1 := by rw [hW1]; exact bDrew1 (Below.refl _ _)
  replace Xy : Hid _ := Xy.out.below hbd
  replace Xd : Hid _ := Xd.out.below hbd
  replace Xr : Hid _ := Xr.out.below hbd
  replace hbw := Below.on hbw hbd
  clear hbd
  have HJ : Hid ((fun W' : World => W'.cell? ⟨gd, 1, none⟩ = some (.slice q m c) ∧ W'.cell? ⟨gd, 2, none⟩ = some (.int .i64 e)) W1) := ⟨Xd.out.c1, Xd.out.c2⟩
  refine wp_region_J (fun W' => W'.cell? ⟨gd, 1, none⟩ = some (.slice q m c) ∧ W'.cell? ⟨gd, 2, none⟩ = some (.int .i64 e)) (by kernel_rfl) ?_
  rw [← hW1]
  clear hW1
  refine wpJ_tq 0 rfl HJ.out ?_
  refine wpJ_tq 1 rfl HJ.out ?_
  refine wpJ_tq 2 rfl HJ.out ?_
  refine wpJ_tq 3 rfl HJ.out ?_
  refine wpJ_tq 4 rfl HJ.out ?_
  refine wpJ_tq 5 rfl HJ.out ?_
  refine wpJ_tq 9 rfl HJ.out ?_
  refine wpJ_tq 10 rfl HJ.out ?_
  refine wpJ_on 6 rfl fun KJ hK => ?_
  go_simp
  obtain ⟨xs, hX⟩ := (H.out.zn.below hbw).ex
  refine (bits_any hX.at_ (by have := hX.le; omega)).mono ?_
  rintro e2 v3 ⟨rfl, hw⟩
  obtain rfl := hw.symm
  clear hw
  rw [hX.nf.val, HB.out]
  clear hX
  clear HJ
  have HJ : Hid ((fun W' : World => W'.cell? ⟨gd, 1, none⟩ = some (.slice q m c) ∧ W'.cell? ⟨gd, 2, none⟩ = some (.int .i64 e)) W1) := ⟨Xd.out.c1, Xd.out.c2⟩
  refine hK _ _ HJ.out ?_
  clear hK
  refine wpJ_tq 7 rfl HJ.out ?_
  refine wpJ_tq 8 rfl HJ.out ?_
  refine wpJ_tq 11 rfl HJ.out ?_
  refine wpJ_tq 12 rfl HJ.out ?_
  refine wpJ_done (by kernel_rfl) ?_ _
  clear HJ
  obtain ⟨cy0, cy1, fy0, fy1⟩ := Xy.out
  have hney := Xy.out.lt
  obtain ⟨cd0, cd1, cd2, fd0, fd1, fd2⟩ := Xd.out
  have hned : gd < W1.heap.size := World.block_lt_of_cell? W1 _ cd0
  go_wp2_with fail
  clear cy0 cy1 fy0 fy1 hney
  clear cd0 cd1 cd2 fd0 fd1 fd2 hned
  clear f1 f2 f3 f4 f5
  refine (zcshr (H.out.zn.below hbw) pl HF.out.1 (TB.out.below hbw)).mono ?_
  rintro e v5 ⟨⟨s5, p5, m5, rfl, hz⟩, hb5⟩
  replace Xy : Hid _ := Xy.out.below hb5
  replace Xd : Hid _ := Xd.out.below hb5
  replace Xr : Hid _ := Xr.out.below hb5
  replace hbw := Below.on hbw hb5
  clear hb5
  have hz := hz.cast (z' := rd true z (2 ^ n)) (HR.out)
  have Z5 : Hid (ZN v5 s5 p5 m5 m5 (rd true z (2 ^ n))) := hz
  clear hz
  go_wp2_with fail
  have Xq0 : Hid (Box (v5.alloc (.cells #[.bool s5, .slice p5 m5 m5] 25)) v5.heap.size (.bool s5) (.slice p5 m5 m5)) := Box.new v5 _ _ _
  have hbn : Below v5.heap.size v5 (v5.alloc (.cells #[.bool s5, .slice p5 m5 m5] 25)) := below1 v5 _
  generalize v5.alloc (.cells #[.bool s5, .slice p5 m5 m5] 25) = Wq at *
  have HGq : Hid (w.heap.size ≤ v5.heap.size) := hbw.size
  replace Xy : Hid _ := Xy.out.below hbn
  replace Xd : Hid _ := Xd.out.below hbn
  replace Xr : Hid _ := Xr.out.below hbn
  replace Z5 : Hid _ := Z5.out.below hbn
  replace hbw := Below.on hbw hbn
  clear hbn
  generalize v5.heap.size = gq at *
  have Xq := Xq0
  clear Xq0
  have HRL : Hid (gr < Wq.heap.size ∧ w.heap.size ≤ Wq.heap.size) := ⟨Xr.out.lt, hbw.size⟩
  refine (makep Z5.out HF.out.2 (TB.out.below hbw)).mono ?_
  rintro e2 v6 ⟨hv, hb6⟩
  obtain ⟨s6, p6, m6, eo, er, rfl, hmp⟩ := hv.open
  clear hv
  replace Xy : Hid _ := Xy.out.below hb6
  replace Xd : Hid _ := Xd.out.below hb6
  replace Xr : Hid _ := Xr.out.below hb6
  replace Xq : Hid _ := Xq.out.below hb6
  replace Z5 : Hid _ := Z5.out.below hb6
  replace hbw := Below.on hbw hb6
  clear hb6
  have M6 : Hid (MP Wq.heap.size v6 s6 p6 m6 eo er (rd true z (2 ^ n)) (E)) := hmp
  clear hmp
  obtain ⟨cr0, cr1, cr2, fr0, fr1, fr2⟩ := Xr.out
  have hner : gr < v6.heap.size := World.block_lt_of_cell? v6 _ cr0
  go_wp2_with fail
  refine bodyPost_ret (v := .tuple #[DV s6 p6 m6 m6 eo, .int .i64 er]) (by rw [results_cell_tmp rfl]; go_simp) rfl ⟨(M6.out.set HRL.out.1 HRL.out.2 _ _ _).close, ?_⟩
  exact bSet (bSet (bSet hbw _ _ _ HGr.out) _ _ _ HGr.out) _ _ _ HGr.out
theorem at_zu {q : Option Addr} {m c : Nat} {w : World} {z e E : Int} {s : Bool} (h : DN w s q m c e z) (hz : z = 0) :
    Calls Tryz.prog 6 #[DV s q m c e, .int .i64 E] w fun en w' => ∃ v, en = .returned (.tuple #[v, .int .i64 0]) ∧ AnsD w.heap.size w' v z e ∧ Below w.heap.size w w' := by
  have H : Hid (DN w s q m c e z) := h
  have HZ : Hid (z = 0) := hz
  clear h hz
  go_enter Tryz.func6, Tryz.ntmps6
  go_wp2_with fail
  obtain ⟨W0, hW0⟩ : ∃ W0, W0 = ((w.alloc (.cells #[.bool s, .slice q m c, .int .i64 e] 27)).alloc (.cells #[.bool false, .slice none 0 0, .int .i64 0] 27)) := ⟨_, rfl⟩
  have Xd : Hid (B3q W0 (w.heap.size) (.bool s) (.slice q m c) (.int .i64 e)) := by rw [hW0]; exact ⟨by go_simp, by go_simp, by go_simp, by go_simp, by go_simp, by go_simp⟩
  have Xr : Hid (B3q W0 (w.heap.size + 1) (.bool false) (.slice none 0 0) (.int .i64 0)) := by rw [hW0]; exact ⟨by go_simp, by go_simp, by go_simp, by go_simp, by go_simp, by go_simp⟩
  have hb0 : Below w.heap.size w W0 := by rw [hW0]; exact below2 w _ _
  rw [← hW0]
  clear hW0
  have hbw : Below w.heap.size w w := Below.refl _ _
  obtain ⟨gr, hgr⟩ : ∃ g, g = w.heap.size + 1 := ⟨_, rfl⟩
  have HGr : Hid (w.heap.size ≤ gr) := by rw [hgr]; show _ ≤ _; omega
  rw [← hgr] at Xr
  try rw [← hgr]
  obtain ⟨gd, hgd⟩ : ∃ g, g = w.heap.size := ⟨_, rfl⟩
  have HGd : Hid (w.heap.size ≤ gd) := by rw [hgd]; show _ ≤ _; omega
  rw [← hgd] at Xd
  try rw [← hgd]
  have HGD : Hid (gd ≠ gr ∧ gr ≠ gd) := by rw [hgd, hgr]; exact ⟨by omega, by omega⟩
  clear hgd hgr
  replace hbw := Below.on hbw hb0
  clear hb0
  obtain ⟨W1, hW1⟩ : ∃ W1, W1 = W0.drew := ⟨_, rfl⟩
  have hbd : Below W0.heap.size W0 W1 := by rw [hW1]; exact bDrew1 (Below.refl _ _)
  replace Xd : Hid _ := Xd.out.below hbd
  replace Xr : Hid _ := Xr.out.below hbd
  replace hbw := Below.on hbw hbd
  clear hbd
  have HJ : Hid ((fun W' : World => W'.cell? ⟨gd, 0, none⟩ = some (.bool s) ∧ W'.cell? ⟨gd, 1, none⟩ = some (.slice q m c) ∧ W'.cell? ⟨gd, 2, none⟩ = some (.int .i64 e)) W1) := ⟨Xd.out.c0, Xd.out.c1, Xd.out.c2⟩
  refine wp_region_J (fun W' => W'.cell? ⟨gd, 0, none⟩ = some (.bool s) ∧ W'.cell? ⟨gd, 1, none⟩ = some (.slice q m c) ∧ W'.cell? ⟨gd, 2, none⟩ = some (.int .i64 e)) (by kernel_rfl) ?_
  rw [← hW1]
  clear hW1
  refine wpJ_tq 1 rfl HJ.out ?_
  refine wpJ_tq 2 rfl HJ.out ?_
  refine wpJ_on 0 rfl fun KJ hK => ?_
  go_simp
  refine (way_u _).mono ?_
  rintro e v1 ⟨rfl, hb1⟩
  replace Xd : Hid _ := Xd.out.below hb1
  replace Xr : Hid _ := Xr.out.below hb1
  replace hbw := Below.on hbw hb1
  clear hb1
  refine hK _ _ ⟨Xd.out.c0, Xd.out.c1, Xd.out.c2⟩ ?_
  clear hK
  refine wpJ_on 3 rfl fun KJ hK => ?_
  go_simp
  have HRL : Hid (gr < v1.heap.size ∧ w.heap.size ≤ v1.heap.size) := ⟨Xr.out.lt, hbw.size⟩
  refine (tg_zu (H.out.below hbw) HZ.out).mono ?_
  rintro e2 v6 ⟨v, rfl, hv, hb6⟩
  obtain ⟨p6, m6, z6, rfl, ho6, hn6, hm6⟩ := hv
  replace Xd : Hid _ := Xd.out.below hb6
  replace Xr : Hid _ := Xr.out.below hb6
  replace hbw := Below.on hbw hb6
  clear hb6
  have O6 : Hid (Own v1.heap.size v6 p6 m6 z6) := ho6
  have N6 : Hid (Nf B64 z6 (z).natAbs ∧ m6 ≤ 8192) := ⟨hn6, hm6⟩
  clear ho6 hn6 hm6
  obtain ⟨so, hso⟩ : ∃ b, b = decide ((z) < 0) := ⟨_, rfl⟩
  rw [← hso]
  have HSO : Hid (so = decide ((z) < 0)) := hso
  clear hso
  clear HJ
  have HJ : Hid ((fun W' : World => W'.cell? ⟨gd, 0, none⟩ = some (.bool s) ∧ W'.cell? ⟨gd, 1, none⟩ = some (.slice q m c) ∧ W'.cell? ⟨gd, 2, none⟩ = some (.int .i64 e)) v6) := ⟨Xd.out.c0, Xd.out.c1, Xd.out.c2⟩
  refine hK _ _ HJ.out ?_
  clear hK
  refine wpJ_tq 4 rfl HJ.out ?_
  refine wpJ_tq 5 rfl HJ.out ?_
  obtain ⟨cr0, cr1, cr2, fr0, fr1, fr2⟩ := Xr.out
  have hner : gr < v6.heap.size := World.block_lt_of_cell? v6 _ cr0
  obtain ⟨cd0, cd1, cd2, fd0, fd1, fd2⟩ := Xd.out
  have hned : gd < v6.heap.size := World.block_lt_of_cell? v6 _ cd0
  obtain ⟨hgd0, hgd1⟩ := HGD.out
  refine wpJ_on 6 rfl fun KJ hK => ?_
  go_simp
  have HJ2 : Hid ((fun W' : World => W'.cell? ⟨gd, 0, none⟩ = some (.bool s) ∧ W'.cell? ⟨gd, 1, none⟩ = some (.slice q m c) ∧ W'.cell? ⟨gd, 2, none⟩ = some (.int .i64 e)) (((v6.setCell ⟨gr, 0, none⟩ (.bool so)).setCell ⟨gr, 1, none⟩ (.slice p6 m6 m6)).setCell ⟨gr, 2, none⟩ (.int .i64 (e)))) := ⟨by go_simp, by go_simp, by go_simp⟩
  refine hK _ _ HJ2.out ?_
  clear hK HJ
  have HJ := HJ2
  clear HJ2
  refine wpJ_tq 7 rfl HJ.out ?_
  refine wpJ_done (by kernel_rfl) ?_ _
  clear HJ
  go_wp2_with fail
  refine bodyPost_ret (v := .tuple #[DV so p6 m6 m6 (e), .int .i64 0]) (by rw [results_cell_tmp rfl]; go_simp) rfl ⟨_, rfl, ⟨p6, m6, z6, by rw [HSO.out], ?_, N6.out.1, N6.out.2⟩, ?_⟩
  · exact own_set3 O6.out HRL.out.1 HRL.out.2 _ _ _
  · exact bSet (bSet (bSet hbw _ _ _ HGr.out) _ _ _ HGr.out) _ _ _ HGr.out
theorem at_cu {q : Option Addr} {m c : Nat} {w : World} {z e E : Int} {s : Bool} (h : DN w s q m c e z) (hz : z ≠ 0) (hE : E ≤ e) :
    Calls Tryz.prog 6 #[DV s q m c e, .int .i64 E] w fun en w' => ∃ v, en = .returned (.tuple #[v, .int .i64 0]) ∧ AnsD w.heap.size w' v z e ∧ Below w.heap.size w w' := by
  have H : Hid (DN w s q m c e z) := h
  have HZ : Hid (z ≠ 0 ∧ E ≤ e) := ⟨hz, hE⟩
  clear h hz hE
  go_enter Tryz.func6, Tryz.ntmps6
  go_wp2_with fail
  obtain ⟨W0, hW0⟩ : ∃ W0, W0 = ((w.alloc (.cells #[.bool s, .slice q m c, .int .i64 e] 27)).alloc (.cells #[.bool false, .slice none 0 0, .int .i64 0] 27)) := ⟨_, rfl⟩
  have Xd : Hid (B3q W0 (w.heap.size) (.bool s) (.slice q m c) (.int .i64 e)) := by rw [hW0]; exact ⟨by go_simp, by go_simp, by go_simp, by go_simp, by go_simp, by go_simp⟩
  have Xr : Hid (B3q W0 (w.heap.size + 1) (.bool false) (.slice none 0 0) (.int .i64 0)) := by rw [hW0]; exact ⟨by go_simp, by go_simp, by go_simp, by go_simp, by go_simp, by go_simp⟩
  have hb0 : Below w.heap.size w W0 := by rw [hW0]; exact below2 w _ _
  rw [← hW0]
  clear hW0
  have hbw : Below w.heap.size w w := Below.refl _ _
  obtain ⟨gr, hgr⟩ : ∃ g, g = w.heap.size + 1 := ⟨_, rfl⟩
  have HGr : Hid (w.heap.size ≤ gr) := by rw [hgr]; show _ ≤ _; omega
  rw [← hgr] at Xr
  try rw [← hgr]
  obtain ⟨gd, hgd⟩ : ∃ g, g = w.heap.size := ⟨_, rfl⟩
  have HGd : Hid (w.heap.size ≤ gd) := by rw [hgd]; show _ ≤ _; omega
  rw [← hgd] at Xd
  try rw [← hgd]
  have HGD : Hid (gd ≠ gr ∧ gr ≠ gd) := by rw [hgd, hgr]; exact ⟨by omega, by omega⟩
  clear hgd hgr
  replace hbw := Below.on hbw hb0
  clear hb0
  obtain ⟨W1, hW1⟩ : ∃ W1, W1 = W0.drew := ⟨_, rfl⟩
  have hbd : Below W0.heap.size W0 W1 := by rw [hW1]; exact bDrew1 (Below.refl _ _)
  replace Xd : Hid _ := Xd.out.below hbd
  replace Xr : Hid _ := Xr.out.below hbd
  replace hbw := Below.on hbw hbd
  clear hbd
  have HJ : Hid ((fun W' : World => W'.cell? ⟨gd, 0, none⟩ = some (.bool s) ∧ W'.cell? ⟨gd, 1, none⟩ = some (.slice q m c) ∧ W'.cell? ⟨gd, 2, none⟩ = some (.int .i64 e)) W1) := ⟨Xd.out.c0, Xd.out.c1, Xd.out.c2⟩
  refine wp_region_J (fun W' => W'.cell? ⟨gd, 0, none⟩ = some (.bool s) ∧ W'.cell? ⟨gd, 1, none⟩ = some (.slice q m c) ∧ W'.cell? ⟨gd, 2, none⟩ = some (.int .i64 e)) (by kernel_rfl) ?_
  rw [← hW1]
  clear hW1
  refine wpJ_tq 1 rfl HJ.out ?_
  refine wpJ_tq 2 rfl HJ.out ?_
  refine wpJ_on 0 rfl fun KJ hK => ?_
  go_simp
  refine (way_u _).mono ?_
  rintro e v1 ⟨rfl, hb1⟩
  replace Xd : Hid _ := Xd.out.below hb1
  replace Xr : Hid _ := Xr.out.below hb1
  replace hbw := Below.on hbw hb1
  clear hb1
  refine hK _ _ ⟨Xd.out.c0, Xd.out.c1, Xd.out.c2⟩ ?_
  clear hK
  refine wpJ_on 3 rfl fun KJ hK => ?_
  go_simp
  have HRL : Hid (gr < v1.heap.size ∧ w.heap.size ≤ v1.heap.size) := ⟨Xr.out.lt, hbw.size⟩
  refine (tg_cu (H.out.below hbw) HZ.out.1 HZ.out.2).mono ?_
  rintro e2 v6 ⟨v, rfl, hv, hb6⟩
  obtain ⟨p6, m6, z6, rfl, ho6, hn6, hm6⟩ := hv
  replace Xd : Hid _ := Xd.out.below hb6
  replace Xr : Hid _ := Xr.out.below hb6
  replace hbw := Below.on hbw hb6
  clear hb6
  have O6 : Hid (Own v1.heap.size v6 p6 m6 z6) := ho6
  have N6 : Hid (Nf B64 z6 (z).natAbs ∧ m6 ≤ 8192) := ⟨hn6, hm6⟩
  clear ho6 hn6 hm6
  obtain ⟨so, hso⟩ : ∃ b, b = decide ((z) < 0) := ⟨_, rfl⟩
  rw [← hso]
  have HSO : Hid (so = decide ((z) < 0)) := hso
  clear hso
  clear HJ
  have HJ : Hid ((fun W' : World => W'.cell? ⟨gd, 0, none⟩ = some (.bool s) ∧ W'.cell? ⟨gd, 1, none⟩ = some (.slice q m c) ∧ W'.cell? ⟨gd, 2, none⟩ = some (.int .i64 e)) v6) := ⟨Xd.out.c0, Xd.out.c1, Xd.out.c2⟩
  refine hK _ _ HJ.out ?_
  clear hK
  refine wpJ_tq 4 rfl HJ.out ?_
  refine wpJ_tq 5 rfl HJ.out ?_
  obtain ⟨cr0, cr1, cr2, fr0, fr1, fr2⟩ := Xr.out
  have hner : gr < v6.heap.size := World.block_lt_of_cell? v6 _ cr0
  obtain ⟨cd0, cd1, cd2, fd0, fd1, fd2⟩ := Xd.out
  have hned : gd < v6.heap.size := World.block_lt_of_cell? v6 _ cd0
  obtain ⟨hgd0, hgd1⟩ := HGD.out
  refine wpJ_on 6 rfl fun KJ hK => ?_
  go_simp
  have HJ2 : Hid ((fun W' : World => W'.cell? ⟨gd, 0, none⟩ = some (.bool s) ∧ W'.cell? ⟨gd, 1, none⟩ = some (.slice q m c) ∧ W'.cell? ⟨gd, 2, none⟩ = some (.int .i64 e)) (((v6.setCell ⟨gr, 0, none⟩ (.bool so)).setCell ⟨gr, 1, none⟩ (.slice p6 m6 m6)).setCell ⟨gr, 2, none⟩ (.int .i64 (e)))) := ⟨by go_simp, by go_simp, by go_simp⟩
  refine hK _ _ HJ2.out ?_
  clear hK HJ
  have HJ := HJ2
  clear HJ2
  refine wpJ_tq 7 rfl HJ.out ?_
  refine wpJ_done (by kernel_rfl) ?_ _
  clear HJ
  go_wp2_with fail
  refine bodyPost_ret (v := .tuple #[DV so p6 m6 m6 (e), .int .i64 0]) (by rw [results_cell_tmp rfl]; go_simp) rfl ⟨_, rfl, ⟨p6, m6, z6, by rw [HSO.out], ?_, N6.out.1, N6.out.2⟩, ?_⟩
  · exact own_set3 O6.out HRL.out.1 HRL.out.2 _ _ _
  · exact bSet (bSet (bSet hbw _ _ _ HGr.out) _ _ _ HGr.out) _ _ _ HGr.out
theorem at_su {q : Option Addr} {m c n : Nat} {w : World} {z e E : Int} {s : Bool} (h : DN w s q m c e z) (hz : z ≠ 0) (hE : e < E ∧ E ≤ 1048576) (hn : n = (E - e).toNat) (hT : Tab w) :
    Calls Tryz.prog 6 #[DV s q m c e, .int .i64 E] w fun en w' => MakeP w.heap.size w' en (rd true z (2 ^ n)) E ∧ Below w.heap.size w w' := by
  have H : Hid (DN w s q m c e z) := h
  have TB : Hid (Tab w) := hT
  have HZ : Hid (z ≠ 0 ∧ (e < E ∧ E ≤ 1048576) ∧ n = (E - e).toNat) := ⟨hz, hE, hn⟩
  clear h hz hE hn hT
  go_enter Tryz.func6, Tryz.ntmps6
  go_wp2_with fail
  obtain ⟨W0, hW0⟩ : ∃ W0, W0 = ((w.alloc (.cells #[.bool s, .slice q m c, .int .i64 e] 27)).alloc (.cells #[.bool false, .slice none 0 0, .int .i64 0] 27)) := ⟨_, rfl⟩
  have Xd : Hid (B3q W0 (w.heap.size) (.bool s) (.slice q m c) (.int .i64 e)) := by rw [hW0]; exact ⟨by go_simp, by go_simp, by go_simp, by go_simp, by go_simp, by go_simp⟩
  have Xr : Hid (B3q W0 (w.heap.size + 1) (.bool false) (.slice none 0 0) (.int .i64 0)) := by rw [hW0]; exact ⟨by go_simp, by go_simp, by go_simp, by go_simp, by go_simp, by go_simp⟩
  have hb0 : Below w.heap.size w W0 := by rw [hW0]; exact below2 w _ _
  rw [← hW0]
  clear hW0
  have hbw : Below w.heap.size w w := Below.refl _ _
  obtain ⟨gr, hgr⟩ : ∃ g, g = w.heap.size + 1 := ⟨_, rfl⟩
  have HGr : Hid (w.heap.size ≤ gr) := by rw [hgr]; show _ ≤ _; omega
  rw [← hgr] at Xr
  try rw [← hgr]
  obtain ⟨gd, hgd⟩ : ∃ g, g = w.heap.size := ⟨_, rfl⟩
  have HGd : Hid (w.heap.size ≤ gd) := by rw [hgd]; show _ ≤ _; omega
  rw [← hgd] at Xd
  try rw [← hgd]
  have HGD : Hid (gd ≠ gr ∧ gr ≠ gd) := by rw [hgd, hgr]; exact ⟨by omega, by omega⟩
  clear hgd hgr
  replace hbw := Below.on hbw hb0
  clear hb0
  obtain ⟨W1, hW1⟩ : ∃ W1, W1 = W0.drew := ⟨_, rfl⟩
  have hbd : Below W0.heap.size W0 W1 := by rw [hW1]; exact bDrew1 (Below.refl _ _)
  replace Xd : Hid _ := Xd.out.below hbd
  replace Xr : Hid _ := Xr.out.below hbd
  replace hbw := Below.on hbw hbd
  clear hbd
  have HJ : Hid ((fun W' : World => W'.cell? ⟨gd, 0, none⟩ = some (.bool s) ∧ W'.cell? ⟨gd, 1, none⟩ = some (.slice q m c) ∧ W'.cell? ⟨gd, 2, none⟩ = some (.int .i64 e)) W1) := ⟨Xd.out.c0, Xd.out.c1, Xd.out.c2⟩
  refine wp_region_J (fun W' => W'.cell? ⟨gd, 0, none⟩ = some (.bool s) ∧ W'.cell? ⟨gd, 1, none⟩ = some (.slice q m c) ∧ W'.cell? ⟨gd, 2, none⟩ = some (.int .i64 e)) (by kernel_rfl) ?_
  rw [← hW1]
  clear hW1
  refine wpJ_tq 1 rfl HJ.out ?_
  refine wpJ_tq 2 rfl HJ.out ?_
  refine wpJ_on 0 rfl fun KJ hK => ?_
  go_simp
  refine (way_u _).mono ?_
  rintro e v1 ⟨rfl, hb1⟩
  replace Xd : Hid _ := Xd.out.below hb1
  replace Xr : Hid _ := Xr.out.below hb1
  replace hbw := Below.on hbw hb1
  clear hb1
  refine hK _ _ ⟨Xd.out.c0, Xd.out.c1, Xd.out.c2⟩ ?_
  clear hK
  refine wpJ_on 3 rfl fun KJ hK => ?_
  go_simp
  have HRL : Hid (gr < v1.heap.size ∧ w.heap.size ≤ v1.heap.size) := ⟨Xr.out.lt, hbw.size⟩
  refine (tg_su (H.out.below hbw) HZ.out.1 HZ.out.2.1 HZ.out.2.2 (TB.out.below hbw)).mono ?_
  rintro e2 v6 ⟨hv, hb6⟩
  obtain ⟨s6, p6, m6, eo, er, rfl, hmp⟩ := hv.open
  clear hv
  replace Xd : Hid _ := Xd.out.below hb6
  replace Xr : Hid _ := Xr.out.below hb6
  replace hbw := Below.on hbw hb6
  clear hb6
  have M6 : Hid (MP v1.heap.size v6 s6 p6 m6 eo er (rd true z (2 ^ n)) (E)) := hmp
  clear hmp
  clear HJ
  have HJ : Hid ((fun W' : World => W'.cell? ⟨gd, 0, none⟩ = some (.bool s) ∧ W'.cell? ⟨gd, 1, none⟩ = some (.slice q m c) ∧ W'.cell? ⟨gd, 2, none⟩ = some (.int .i64 e)) v6) := ⟨Xd.out.c0, Xd.out.c1, Xd.out.c2⟩
  refine hK _ _ HJ.out ?_
  clear hK
  refine wpJ_tq 4 rfl HJ.out ?_
  refine wpJ_tq 5 rfl HJ.out ?_
  obtain ⟨cr0, cr1, cr2, fr0, fr1, fr2⟩ := Xr.out
  have hner : gr < v6.heap.size := World.block_lt_of_cell? v6 _ cr0
  obtain ⟨cd0, cd1, cd2, fd0, fd1, fd2⟩ := Xd.out
  have hned : gd < v6.heap.size := World.block_lt_of_cell? v6 _ cd0
  obtain ⟨hgd0, hgd1⟩ := HGD.out
  refine wpJ_on 6 rfl fun KJ hK => ?_
  go_simp
  have HJ2 : Hid ((fun W' : World => W'.cell? ⟨gd, 0, none⟩ = some (.bool s) ∧ W'.cell? ⟨gd, 1, none⟩ = some (.slice q m c) ∧ W'.cell? ⟨gd, 2, none⟩ = some (.int .i64 e)) (((v6.setCell ⟨gr, 0, none⟩ (.bool s6)).setCell ⟨gr, 1, none⟩ (.slice p6 m6 m6)).setCell ⟨gr, 2, none⟩ (.int .i64 eo))) := ⟨by go_simp, by go_simp, by go_simp⟩
  refine hK _ _ HJ2.out ?_
  clear hK HJ
  have HJ := HJ2
  clear HJ2
  refine wpJ_tq 7 rfl HJ.out ?_
  refine wpJ_done (by kernel_rfl) ?_ _
  clear HJ
  go_wp2_with fail
  refine bodyPost_ret (v := .tuple #[DV s6 p6 m6 m6 eo, .int .i64 er]) (by rw [results_cell_tmp rfl]; go_simp) rfl ⟨(M6.out.set HRL.out.1 HRL.out.2 _ _ _).close, ?_⟩
  exact bSet (bSet (bSet hbw _ _ _ HGr.out) _ _ _ HGr.out) _ _ _ HGr.out
def MkR (z e zo eo er : Int) : Prop := (z = 0 ∧ zo = 0 ∧ eo = 0 ∧ er = 0) ∨
  (z ≠ 0 ∧ ∃ k : Nat, TzIs z.natAbs k ∧ ((-1048576 ≤ e + k ∧ e + k ≤ 1048576 ∧ zo * ((2 ^ k : Nat) : Int) = z ∧ eo = e + k ∧ er = 0) ∨ (¬ (-1048576 ≤ e + k ∧ e + k ≤ 1048576) ∧ zo = 0 ∧ eo = 0 ∧ er = 5)))
theorem MkR.uniq {z e zo eo er zo' eo' er' : Int} (h : MkR z e zo eo er) (k : MkR z e zo' eo' er') : zo = zo' ∧ eo = eo' ∧ er = er' := by
  rcases h with ⟨h0, rfl, rfl, rfl⟩ | ⟨h0, K, hK, h⟩
  · rcases k with ⟨_, rfl, rfl, rfl⟩ | ⟨k0, _⟩
    · exact ⟨rfl, rfl, rfl⟩
    · exact absurd h0 k0
  · rcases k with ⟨k0, _⟩ | ⟨_, L, hL, k⟩
    · exact absurd k0 h0
    · obtain rfl := hK.inj hL
      rcases h with ⟨h1, h2, h3, rfl, rfl⟩ | ⟨h1, rfl, rfl, rfl⟩
      · rcases k with ⟨_, _, k3, rfl, rfl⟩ | ⟨k1, _⟩
        · exact ⟨Int.eq_of_mul_eq_mul_right (pow_pos_int K) (h3.trans k3.symm), rfl, rfl⟩
        · exact absurd ⟨h1, h2⟩ k1
      · rcases k with ⟨k1, k2, _⟩ | ⟨_, rfl, rfl, rfl⟩
        · exact absurd ⟨k1, k2⟩ h1
        · exact ⟨rfl, rfl, rfl⟩
theorem MkR.zero (e : Int) : MkR 0 e 0 0 0 := .inl ⟨rfl, rfl, rfl, rfl⟩
theorem TzIs.zero_of_odd {v : Nat} (h : v % 2 = 1) : TzIs v 0 := ⟨by simp [Nat.mod_one], by simpa using h⟩
theorem MkR.odd {z e : Int} (hz : z % 2 = 1) (he : -1048576 ≤ e ∧ e ≤ 1048576) : MkR z e z e 0 :=
  .inr ⟨by omega, 0, TzIs.zero_of_odd (by omega), .inl ⟨by omega, by omega, by simp, by omega, rfl⟩⟩
theorem MkR.big {z e : Int} (hz : z % 2 = 1) (he : ¬ (-1048576 ≤ e ∧ e ≤ 1048576)) : MkR z e 0 0 5 :=
  .inr ⟨by omega, 0, TzIs.zero_of_odd (by omega), .inr ⟨by omega, rfl, rfl, rfl⟩⟩
theorem MkR.fm {z e zo eo er : Int} (h : MkR z e zo eo er) : DFm zo eo := by
  rcases h with ⟨_, rfl, rfl, _⟩ | ⟨h0, K, hK, ⟨h1, h2, h3, rfl, _⟩ | ⟨_, rfl, rfl, _⟩⟩
  · exact .inl ⟨rfl, rfl⟩
  · refine .inr ⟨?_, h1, h2⟩
    have h4 : zo.natAbs * 2 ^ K = z.natAbs := by
      have := congrArg Int.natAbs h3
      rw [Int.natAbs_mul] at this
      simpa using this
    have h5 := hK.2
    rw [← h4, Nat.mul_div_cancel _ (Nat.two_pow_pos K)] at h5
    omega
  · exact .inl ⟨rfl, rfl⟩
structure DQ (B : Nat) (w : World) (s : Bool) (p : Option Addr) (m c : Nat) (e z : Int) : Prop where
  dn : DN w s p m c e z
  nw : m = 0 ∨ ∃ g, p = some ⟨g, 0, none⟩ ∧ B ≤ g
theorem DQ.below {B : Nat} {w w' : World} {s : Bool} {p : Option Addr} {m c : Nat} {e z : Int} (h : DQ B w s p m c e z) (hb : Below w.heap.size w w') : DQ B w' s p m c e z := ⟨h.dn.below hb, h.nw⟩
theorem DQ.mono {B B' : Nat} {w : World} {s : Bool} {p : Option Addr} {m c : Nat} {e z : Int} (h : DQ B w s p m c e z) (hB : B' ≤ B) : DQ B' w s p m c e z := ⟨h.dn, h.nw.imp id fun ⟨g, h1, h2⟩ => ⟨g, h1, Nat.le_trans hB h2⟩⟩
theorem DN.setOff {w : World} {s : Bool} {p : Option Addr} {m c g o : Nat} {e z : Int} {v : Value} (h : DN w s p m c e z) (hf : m = 0 ∨ ∃ g', p = some ⟨g', 0, none⟩ ∧ g' ≠ g) : DN (w.setCell ⟨g, o, none⟩ v) s p m c e z := by
  obtain ⟨xs, hX⟩ := h.zn.ex
  refine ⟨⟨⟨xs, ?_, hX.nf, hX.le⟩, h.zn.sg⟩, h.fm⟩
  rcases hf with rfl | ⟨g', rfl, hg⟩
  · obtain rfl : xs = [] := List.eq_nil_of_length_eq_zero hX.at_.len
    exact At.empty _ _ _ hX.at_.big
  · exact hX.at_.setOther _ _ _ hg
theorem DQ.set {B : Nat} {w : World} {s : Bool} {p : Option Addr} {m c : Nat} {e z : Int} (h : DQ B w s p m c e z) (g o : Nat) (v : Value) (hg : g < B) : DQ B (w.setCell ⟨g, o, none⟩ v) s p m c e z :=
  ⟨h.dn.setOff (h.nw.imp id fun ⟨g', h1, h2⟩ => ⟨g', h1, by omega⟩), h.nw⟩
theorem DQ.set3 {B b : Nat} {w : World} {s : Bool} {p : Option Addr} {m c : Nat} {e z : Int} (h : DQ B w s p m c e z) {r : Nat} (hr : r < B) (hb : b ≤ B) (v0 v1 v2 : Value) : DQ b (((w.setCell ⟨r, 0, none⟩ v0).setCell ⟨r, 1, none⟩ v1).setCell ⟨r, 2, none⟩ v2) s p m c e z :=
  (((h.set _ _ _ hr).set _ _ _ hr).set _ _ _ hr).mono hb
theorem DQ.zero (B : Nat) (w : World) : DQ B w false none 0 0 0 0 :=
  ⟨⟨⟨⟨[], At.empty _ _ _ (by decide), Nf.nil _, by omega⟩, rfl⟩, .inl ⟨rfl, rfl⟩⟩, .inl rfl⟩
theorem AnsD.dq {B : Nat} {w' : World} {v : Value} {z e : Int} (h : AnsD B w' v z e) (hf : DFm z e) : ∃ s p m, v = DV s p m m e ∧ DQ B w' s p m m e z := by
  obtain ⟨p, m, zs, rfl, ho, hn, hm⟩ := h
  exact ⟨_, p, m, rfl, ⟨⟨⟨zs, Num.of ho hn hm⟩, rfl⟩, hf⟩, ho.mem.imp id fun ⟨g, e, hg, _⟩ => ⟨g, e, hg⟩⟩
def SaidD (B : Nat) (w' : World) (en : Ending) (z e er : Int) : Prop := ∃ s p m c, en = .returned (.tuple #[DV s p m c e, .int .i64 er]) ∧ DQ B w' s p m c e z
theorem SaidD.err (B : Nat) (w' : World) (er : Int) : SaidD B w' (.returned (.tuple #[DV false none 0 0 0, .int .i64 er])) 0 0 er := ⟨_, _, _, _, rfl, DQ.zero _ _⟩
theorem SaidD.ans {B : Nat} {w' : World} {v : Value} {z e : Int} (h : AnsD B w' v z e) (hf : DFm z e) : SaidD B w' (.returned (.tuple #[v, .int .i64 0])) z e 0 := by
  obtain ⟨s, p, m, rfl, hd⟩ := h.dq hf
  exact ⟨s, p, m, m, rfl, hd⟩
theorem TzO.is {z : Int} {k : Nat} (hz : z ≠ 0) (h : TzO z.natAbs k) : TzIs z.natAbs k := by
  rcases h with ⟨h0, _⟩ | ⟨_, h1, h2⟩
  · omega
  · exact ⟨h1, h2⟩
theorem MakeP.mk {B : Nat} {w' : World} {en : Ending} {z e : Int} (h : MakeP B w' en z e) (he : -4194304 ≤ e) : ∃ zo eo er, SaidD B w' en zo eo er ∧ MkR z e zo eo er := by
  by_cases hz : z = 0
  · subst hz
    obtain ⟨v, rfl, hv⟩ := h.form (.inl ⟨rfl, rfl⟩) (by rw [dv_zero, dv_zero])
    exact ⟨0, 0, 0, SaidD.ans hv (.inl ⟨rfl, rfl⟩), MkR.zero e⟩
  · obtain ⟨k, hk⟩ := TzO.ex z.natAbs
    have hki := hk.is hz
    obtain ⟨h1, h2, _⟩ := tz_split hz hk
    generalize fl (decide (z < 0)) z.natAbs (2 ^ k) = o at *
    by_cases hr : -1048576 ≤ e + k ∧ e + k ≤ 1048576
    · have hf : DFm o (e + k) := .inr ⟨h1, hr⟩
      obtain ⟨v, rfl, hv⟩ := h.form hf (by rw [dv_up k he, h2])
      exact ⟨o, e + k, 0, SaidD.ans hv hf, .inr ⟨hz, k, hki, .inl ⟨hr.1, hr.2, h2, rfl, rfl⟩⟩⟩
    · rcases h with ⟨v, zo, eo, _, _, h5, h6⟩ | ⟨rfl, _⟩
      · exact absurd h6 (make_no hz hk he (by omega) zo eo h5)
      · exact ⟨0, 0, 5, SaidD.err _ _ _, .inr ⟨hz, k, hki, .inr ⟨hr, rfl, rfl, rfl⟩⟩⟩
def OneD (R : Int → Int → Int → Int → Int → Prop) (sx : Bool) (xx : List Nat) (ex zo eo er : Int) : Prop :=
  (formD sx xx ex = false ∧ zo = 0 ∧ eo = 0 ∧ er = 2) ∨ (formD sx xx ex = true ∧ R (iv sx (valB B64 xx)) ex zo eo er)
def TwoD (R : Int → Int → Int → Int → Int → Int → Int → Prop) (sx : Bool) (xx : List Nat) (ex : Int) (sy : Bool) (yy : List Nat) (ey zo eo er : Int) : Prop :=
  ((formD sx xx ex = false ∨ formD sy yy ey = false) ∧ zo = 0 ∧ eo = 0 ∧ er = 2) ∨ (formD sx xx ex = true ∧ formD sy yy ey = true ∧ R (iv sx (valB B64 xx)) ex (iv sy (valB B64 yy)) ey zo eo er)
theorem OneD.uniq {R : Int → Int → Int → Int → Int → Prop} {sx : Bool} {xx : List Nat} {ex zo eo er zo' eo' er' : Int} (hR : ∀ x e a b c a' b' c', R x e a b c → R x e a' b' c' → a = a' ∧ b = b' ∧ c = c')
    (h : OneD R sx xx ex zo eo er) (k : OneD R sx xx ex zo' eo' er') : zo = zo' ∧ eo = eo' ∧ er = er' := by
  rcases h with ⟨h0, rfl, rfl, rfl⟩ | ⟨h0, h⟩ <;> rcases k with ⟨k0, rfl, rfl, rfl⟩ | ⟨k0, k⟩
  · exact ⟨rfl, rfl, rfl⟩
  · simp_all
  · simp_all
  · exact hR _ _ _ _ _ _ _ _ h k
theorem TwoD.uniq {R : Int → Int → Int → Int → Int → Int → Int → Prop} {sx sy : Bool} {xx yy : List Nat} {ex ey zo eo er zo' eo' er' : Int} (hR : ∀ x e y f a b c a' b' c', R x e y f a b c → R x e y f a' b' c' → a = a' ∧ b = b' ∧ c = c')
    (h : TwoD R sx xx ex sy yy ey zo eo er) (k : TwoD R sx xx ex sy yy ey zo' eo' er') : zo = zo' ∧ eo = eo' ∧ er = er' := by
  rcases h with ⟨h0, rfl, rfl, rfl⟩ | ⟨h0, h1, h⟩ <;> rcases k with ⟨k0, rfl, rfl, rfl⟩ | ⟨k0, k1, k⟩
  · exact ⟨rfl, rfl, rfl⟩
  · rcases h0 with h0 | h0 <;> simp_all
  · rcases k0 with k0 | k0 <;> simp_all
  · exact hR _ _ _ _ _ _ _ _ _ _ h k
def MulR (x e y f zo eo er : Int) : Prop := ((x * y).natAbs < LIM ∧ MkR (x * y) (e + f) zo eo er) ∨ (LIM ≤ (x * y).natAbs ∧ zo = 0 ∧ eo = 0 ∧ er = 5)
theorem MulR.uniq (x e y f a b c a' b' c' : Int) (h : MulR x e y f a b c) (k : MulR x e y f a' b' c') : a = a' ∧ b = b' ∧ c = c' := by
  rcases h with ⟨h0, h⟩ | ⟨h0, rfl, rfl, rfl⟩ <;> rcases k with ⟨k0, k⟩ | ⟨k0, rfl, rfl, rfl⟩
  · exact h.uniq k
  · omega
  · omega
  · exact ⟨rfl, rfl, rfl⟩
def ScaleR (n x e zo eo er : Int) : Prop := (x = 0 ∧ zo = 0 ∧ eo = 0 ∧ er = 0) ∨ (x ≠ 0 ∧ ((-1048576 ≤ e + n ∧ e + n ≤ 1048576 ∧ zo = x ∧ eo = e + n ∧ er = 0) ∨ (¬ (-1048576 ≤ e + n ∧ e + n ≤ 1048576) ∧ zo = 0 ∧ eo = 0 ∧ er = 5)))
theorem ScaleR.uniq (n x e a b c a' b' c' : Int) (h : ScaleR n x e a b c) (k : ScaleR n x e a' b' c') : a = a' ∧ b = b' ∧ c = c' := by
  unfold ScaleR at h k; omega
theorem make_far {p : Option Addr} {m c : Nat} {w : World} {z e : Int} {s : Bool} (h : ZN w s p m c z) (hT : Tab w) {k : Nat} (hz : z ≠ 0) (hk : TzO z.natAbs k) (hr : ¬ (-1048576 ≤ k + e ∧ k + e ≤ 1048576)) :
    Calls Tryz.prog 31 #[ZV s p m c, .int .i64 e] w fun en w' => en = .returned (.tuple #[DV false none 0 0 0, .int .i64 5]) ∧ Below w.heap.size w w' := by
  have H : Hid (ZN w s p m c z) := h
  have TB : Hid (Tab w) := hT
  have HZ : Hid (z ≠ 0) := hz
  have HR : Hid (¬ (-1048576 ≤ k + e ∧ k + e ≤ 1048576)) := hr
  have HK : Hid (TzO z.natAbs k) := hk
  clear h hT hz hr
  go_enter Tryz.func31, Tryz.ntmps31
  go_wp2_with fail
  obtain ⟨W0, hW0⟩ : ∃ W0, W0 = ((w.alloc (.cells #[.bool s, .slice p m c] 25)).alloc (.cells #[.bool false, .slice none 0 0, .int .i64 0] 27)) := ⟨_, rfl⟩
  have Xm : Hid (Box W0 (w.heap.size) (.bool s) (.slice p m c)) := by rw [hW0]; exact ⟨by go_simp, by go_simp, by go_simp, by go_simp⟩
  have Xr : Hid (B3q W0 (w.heap.size + 1) (.bool false) (.slice none 0 0) (.int .i64 0)) := by rw [hW0]; exact ⟨by go_simp, by go_simp, by go_simp, by go_simp, by go_simp, by go_simp⟩
  have hb0 : Below w.heap.size w W0 := by rw [hW0]; exact below2 w _ _
  rw [← hW0]
  clear hW0
  have hbw : Below w.heap.size w w := Below.refl _ _
  obtain ⟨gr, hgr⟩ : ∃ g, g = w.heap.size + 1 := ⟨_, rfl⟩
  have HGr : Hid (w.heap.size ≤ gr) := by rw [hgr]; show _ ≤ _; omega
  rw [← hgr] at Xr
  try rw [← hgr]
  obtain ⟨gm, hgm⟩ : ∃ g, g = w.heap.size := ⟨_, rfl⟩
  have HGm : Hid (w.heap.size ≤ gm) := by rw [hgm]; show _ ≤ _; omega
  rw [← hgm] at Xm
  try rw [← hgm]
  have HGD : Hid (gm ≠ gr ∧ gr ≠ gm) := by rw [hgm, hgr]; exact ⟨by omega, by omega⟩
  clear hgm hgr
  replace hbw := Below.on hbw hb0
  clear hb0
  refine (zform (H.out.below hbw)).mono ?_
  rintro e v1 ⟨rfl, hb1⟩
  replace Xm : Hid _ := Xm.out.below hb1
  replace Xr : Hid _ := Xr.out.below hb1
  replace hbw := Below.on hbw hb1
  clear hb1
  obtain ⟨cm0, cm1, fm0, fm1⟩ := Xm.out
  have hnem := Xm.out.lt
  go_wp2_with fail
  clear cm0 cm1 fm0 fm1 hnem
  refine (zsign (H.out.below hbw)).mono ?_
  rintro e v2 ⟨rfl, hb2⟩
  obtain ⟨sg, hsg⟩ : ∃ sg, sg = sgnI (z) := ⟨_, rfl⟩
  rw [← hsg]
  have hs0 : (sg == 0) = false := by rw [hsg]; have := HZ.out; unfold sgnI; split <;> (try split) <;> simp <;> omega
  clear hsg
  replace Xm : Hid _ := Xm.out.below hb2
  replace Xr : Hid _ := Xr.out.below hb2
  replace hbw := Below.on hbw hb2
  clear hb2
  obtain ⟨cm0, cm1, fm0, fm1⟩ := Xm.out
  have hnem := Xm.out.lt
  go_wp2_with fail
  clear cm0 cm1 fm0 fm1 hnem
  have hkb : k ≤ 524288 := by
    have h1 := (lim_bits z.natAbs).1 H.out.lim
    rcases hk with ⟨h0, _⟩ | ⟨_, h2, h3⟩
    · exact absurd (Int.natAbs_eq_zero.1 h0) HZ.out
    · have h4 : 2 ^ k ≤ z.natAbs := by
        rcases Nat.lt_or_ge z.natAbs (2 ^ k) with h | h
        · rw [Nat.div_eq_of_lt h] at h3; omega
        · exact h
      have h5 := bitsN_lt z.natAbs
      have h6 := (Nat.pow_lt_pow_iff_right (by omega : 1 < 2)).1 (Nat.lt_of_le_of_lt h4 h5)
      omega
  have HKB : Hid (k ≤ 524288) := hkb
  clear hk hkb
  obtain ⟨xs, hX⟩ := (H.out.below hbw).ex
  refine (trail_any hX.at_ (by have := hX.le; omega) (k := k) (by rw [hX.nf.val]; exact HK.out) (TB.out.below hbw)).mono ?_
  rintro e2 v3 ⟨rfl, hw⟩
  obtain rfl := hw.symm
  clear hw hX
  go_wp2_with fail
  refine (moved_no k e _ (by have := HKB.out; omega) HR.out).mono ?_
  rintro e2 v4 ⟨rfl, hw⟩
  obtain rfl := hw.symm
  clear hw
  obtain ⟨cr0, cr1, cr2, fr0, fr1, fr2⟩ := Xr.out
  have hner : gr < v2.heap.size := World.block_lt_of_cell? v2 _ cr0
  go_wp2_with fail
  refine bodyPost_ret (v := .tuple #[DV false none 0 0 0, .int .i64 5]) (by rw [results_cell_tmp rfl]; go_simp) rfl ⟨rfl, ?_⟩
  first | exact hbw | exact bSet (bSet (bSet hbw _ _ _ HGr.out) _ _ _ HGr.out) _ _ _ HGr.out
theorem tz_lim {p : Option Addr} {m c : Nat} {w : World} {z : Int} {s : Bool} (h : ZN w s p m c z) (hz : z ≠ 0) {k : Nat} (hk : TzO z.natAbs k) : k ≤ 524288 := by
  have h1 := (lim_bits z.natAbs).1 h.lim
  rcases hk with ⟨h0, _⟩ | ⟨_, h2, h3⟩
  · exact absurd (Int.natAbs_eq_zero.1 h0) hz
  · have h4 : 2 ^ k ≤ z.natAbs := by
      rcases Nat.lt_or_ge z.natAbs (2 ^ k) with h | h
      · rw [Nat.div_eq_of_lt h] at h3; omega
      · exact h
    have h5 := bitsN_lt z.natAbs
    have h6 := (Nat.pow_lt_pow_iff_right (by omega : 1 < 2)).1 (Nat.lt_of_le_of_lt h4 h5)
    omega
theorem makep_z0 {B : Nat} {w' : World} {en : Ending} {e : Int} (h : MakeP B w' en 0 e) : MakeP B w' en 0 0 := by
  rcases h with ⟨v, zo, eo, h1, h2, h3, h4⟩ | ⟨h1, h2⟩
  · exact .inl ⟨v, zo, eo, h1, h2, h3, by rw [h4, dv_zero, dv_zero]⟩
  · exact absurd (by rw [dv_zero, dv_zero]) (h2 0 0 (.inl ⟨rfl, rfl⟩))
def MakeA (s : Bool) (xs : List Nat) (e zo eo er : Int) : Prop := (formZ s xs = false ∧ zo = 0 ∧ eo = 0 ∧ er = 2) ∨ (formZ s xs = true ∧ MkR (iv s (valB B64 xs)) e zo eo er)
theorem MakeA.uniq {s : Bool} {xs : List Nat} {e zo eo er zo' eo' er' : Int} (h : MakeA s xs e zo eo er) (k : MakeA s xs e zo' eo' er') : zo = zo' ∧ eo = eo' ∧ er = er' := by
  rcases h with ⟨h0, rfl, rfl, rfl⟩ | ⟨h0, h⟩ <;> rcases k with ⟨k0, rfl, rfl, rfl⟩ | ⟨k0, k⟩
  · exact ⟨rfl, rfl, rfl⟩
  · rw [h0] at k0; cases k0
  · rw [h0] at k0; cases k0
  · exact h.uniq k
theorem makeZ {p : Option Addr} {m c : Nat} {w : World} {z e : Int} {s : Bool} (h : ZN w s p m c z) (hT : Tab w) :
    Calls Tryz.prog 31 #[ZV s p m c, .int .i64 e] w fun en w' => ∃ zo eo er, SaidD w.heap.size w' en zo eo er ∧ MkR z e zo eo er ∧ Below w.heap.size w w' := by
  by_cases he : -3145728 ≤ e ∧ e ≤ 3145728
  · exact (makep h he hT).mono fun en w' ⟨h1, h2⟩ => by
      obtain ⟨zo, eo, er, h3, h4⟩ := h1.mk (by omega)
      exact ⟨zo, eo, er, h3, h4, h2⟩
  by_cases h0 : z = 0
  · exact (makep_z h h0).mono fun en w' ⟨h1, h2⟩ => by
      subst h0
      obtain ⟨zo, eo, er, h3, h4⟩ := (makep_z0 h1).mk (by decide)
      refine ⟨zo, eo, er, h3, ?_, h2⟩
      rcases h4 with h4 | h4
      · exact .inl h4
      · exact absurd rfl h4.1
  · obtain ⟨k, hk⟩ := TzO.ex z.natAbs
    have hb : k ≤ 524288 := tz_lim h h0 hk
    have hr : ¬ (-1048576 ≤ (k : Int) + e ∧ (k : Int) + e ≤ 1048576) := by omega
    exact (make_far h hT h0 hk hr).mono fun en w' ⟨h1, h2⟩ => ⟨0, 0, 5, h1 ▸ SaidD.err _ _ 5, .inr ⟨h0, k, hk.is h0, .inr ⟨by omega, rfl, rfl, rfl⟩⟩, h2⟩
theorem dn_exp7 {w : World} {s : Bool} {p : Option Addr} {m c : Nat} {e z : Int} (h : DN w s p m c e z) : -1048576 ≤ e ∧ e ≤ 1048576 := by
  rcases h.fm with ⟨_, h⟩ | ⟨_, h, h'⟩ <;> omega
def CutA (up : Bool) (s : Bool) (xs : List Nat) (e P zo eo er : Int) : Prop :=
  (¬ (1 ≤ P ∧ P ≤ 70000) ∧ zo = 0 ∧ eo = 0 ∧ er = 1) ∨ ((1 ≤ P ∧ P ≤ 70000) ∧ formD s xs e = false ∧ zo = 0 ∧ eo = 0 ∧ er = 2) ∨
  ((1 ≤ P ∧ P ≤ 70000) ∧ formD s xs e = true ∧ MkR (rd up (iv s (valB B64 xs)) (2 ^ (bitsN (iv s (valB B64 xs)).natAbs - P.toNat))) (e + ((bitsN (iv s (valB B64 xs)).natAbs - P.toNat : Nat) : Int)) zo eo er)
theorem CutA.uniq {up s : Bool} {xs : List Nat} {e P zo eo er zo' eo' er' : Int} (h : CutA up s xs e P zo eo er) (k : CutA up s xs e P zo' eo' er') : zo = zo' ∧ eo = eo' ∧ er = er' := by
  rcases h with ⟨h0, rfl, rfl, rfl⟩ | ⟨h0, h1, rfl, rfl, rfl⟩ | ⟨h0, h1, h⟩ <;> rcases k with ⟨k0, rfl, rfl, rfl⟩ | ⟨k0, k1, rfl, rfl, rfl⟩ | ⟨k0, k1, k⟩
  · exact ⟨rfl, rfl, rfl⟩
  · exact absurd k0 h0
  · exact absurd k0 h0
  · exact absurd h0 k0
  · exact ⟨rfl, rfl, rfl⟩
  · rw [h1] at k1; cases k1
  · exact absurd h0 k0
  · rw [h1] at k1; cases k1
  · exact h.uniq k
theorem ddownA {q : Option Addr} {m c : Nat} {xs : List Nat} {w : World} {e P : Int} (s : Bool) (h : At w q m c xs) (hT : Tab w) :
    Calls Tryz.prog 4 #[DV s q m c e, .int .i64 P] w fun en w' => ∃ zo eo er, SaidD w.heap.size w' en zo eo er ∧ CutA false s xs e P zo eo er ∧ Below w.heap.size w w' := by
  by_cases h1 : 1 ≤ P ∧ P ≤ 70000
  · cases hf : formD s xs e
    · exact (bits_fd h hf h1).mono fun en w' ⟨h2, h3⟩ => ⟨0, 0, 2, h2 ▸ SaidD.err _ _ 2, .inr (.inl ⟨h1, hf, rfl, rfl, rfl⟩), h3⟩
    · obtain ⟨n, hn⟩ : ∃ n : Nat, P = n := ⟨P.toNat, by omega⟩
      subst hn
      have hd := formD_dn h hf
      have he := dn_exp7 hd
      refine (bits_d hd (by omega) rfl hT).mono fun en w' ⟨h2, h3⟩ => ?_
      obtain ⟨zo, eo, er, h4, h5⟩ := h2.mk (by omega)
      exact ⟨zo, eo, er, h4, .inr (.inr ⟨h1, hf, h5⟩), h3⟩
  · by_cases h2 : P < 1
    · exact (bits_ld h2).mono fun en w' ⟨h3, h4⟩ => ⟨0, 0, 1, h3 ▸ SaidD.err _ _ 1, .inl ⟨h1, rfl, rfl, rfl⟩, h4⟩
    · exact (bits_gd (by omega)).mono fun en w' ⟨h3, h4⟩ => ⟨0, 0, 1, h3 ▸ SaidD.err _ _ 1, .inl ⟨h1, rfl, rfl, rfl⟩, h4⟩
theorem dupA {q : Option Addr} {m c : Nat} {xs : List Nat} {w : World} {e P : Int} (s : Bool) (h : At w q m c xs) (hT : Tab w) :
    Calls Tryz.prog 73 #[DV s q m c e, .int .i64 P] w fun en w' => ∃ zo eo er, SaidD w.heap.size w' en zo eo er ∧ CutA true s xs e P zo eo er ∧ Below w.heap.size w w' := by
  by_cases h1 : 1 ≤ P ∧ P ≤ 70000
  · cases hf : formD s xs e
    · exact (bits_fu h hf h1).mono fun en w' ⟨h2, h3⟩ => ⟨0, 0, 2, h2 ▸ SaidD.err _ _ 2, .inr (.inl ⟨h1, hf, rfl, rfl, rfl⟩), h3⟩
    · obtain ⟨n, hn⟩ : ∃ n : Nat, P = n := ⟨P.toNat, by omega⟩
      subst hn
      have hd := formD_dn h hf
      have he := dn_exp7 hd
      refine (bits_u hd (by omega) rfl hT).mono fun en w' ⟨h2, h3⟩ => ?_
      obtain ⟨zo, eo, er, h4, h5⟩ := h2.mk (by omega)
      exact ⟨zo, eo, er, h4, .inr (.inr ⟨h1, hf, h5⟩), h3⟩
  · by_cases h2 : P < 1
    · exact (bits_lu h2).mono fun en w' ⟨h3, h4⟩ => ⟨0, 0, 1, h3 ▸ SaidD.err _ _ 1, .inl ⟨h1, rfl, rfl, rfl⟩, h4⟩
    · exact (bits_gu (by omega)).mono fun en w' ⟨h3, h4⟩ => ⟨0, 0, 1, h3 ▸ SaidD.err _ _ 1, .inl ⟨h1, rfl, rfl, rfl⟩, h4⟩
theorem tgx_sd {q : Option Addr} {m c n : Nat} {w : World} {z e E : Int} {s : Bool} (h : DN w s q m c e z) (hz : z ≠ 0) (hE : e < E ∧ E ≤ 9223372036854775807) (hn : n = (E - e).toNat) (hT : Tab w) :
    Calls Tryz.prog 14 #[WVd, DV s q m c e, .int .i64 E] w fun en w' => ∃ zo eo er, SaidD w.heap.size w' en zo eo er ∧ MkR (rd false z (2 ^ n)) E zo eo er ∧ Below w.heap.size w w' := by
  have H : Hid (DN w s q m c e z) := h
  have TB : Hid (Tab w) := hT
  have HZ : Hid (z ≠ 0) := hz
  have hb := (lim_bits z.natAbs).1 h.zn.lim
  have he : -1048576 ≤ e ∧ e ≤ 1048576 := by rcases h.fm with ⟨h0, _⟩ | ⟨_, h5⟩; (exact absurd h0 hz); exact h5
  obtain ⟨pl, hpl⟩ : ∃ pl, pl = min n (bitsN z.natAbs) := ⟨_, rfl⟩
  obtain ⟨B, hB⟩ : ∃ B, B = bitsN z.natAbs := ⟨_, rfl⟩
  rw [← hB] at hb hpl
  have HB : Hid (bitsN z.natAbs = B) := hB.symm
  have f0 : ¬ E ≤ e := by omega
  have f1 : wrap64 (e + B) = e + B := by simp only [wrap64]; omega
  have f2 : min E (e + (B : Int)) = e + pl := by omega
  have f3 : wrap64 (e + (pl : Int) - e) = pl := by simp only [wrap64]; omega
  have f4 : IntKind.i64.wrap (e + B) = e + B := by simp [IntKind.wrap, IntKind.signed, IntKind.bits]; omega
  have f5 : IntKind.i64.wrap (e + (pl : Int) - e) = pl := by simp [IntKind.wrap, IntKind.signed, IntKind.bits]; omega
  have HF : Hid (pl ≤ 9223372036854775807) := by show _ ≤ _; omega
  have HR : Hid (fl (decide (z < 0)) z.natAbs (2 ^ pl) = rd false z (2 ^ n)) := by
    rw [fl_eq _ _ (Nat.pow_pos (by omega))]
    show rd false z (2 ^ pl) = _
    by_cases h9 : n ≤ B
    · rw [show pl = n from by omega]
    · rw [show pl = B from by omega]
      exact (rd_far false (by rw [hB]; exact bitsN_lt _) (by omega)).symm
  clear h hz hE hn hT hb he hpl hB
  go_enter Tryz.func14, Tryz.ntmps14
  go_wp2_with fail
  obtain ⟨W0, hW0⟩ : ∃ W0, W0 = (((w.alloc (.cells #[.func (.func 17) #[] #[], .func (.func 18) #[] #[]] 38)).alloc (.cells #[.bool s, .slice q m c, .int .i64 e] 27)).alloc (.cells #[.bool false, .slice none 0 0, .int .i64 0] 27)) := ⟨_, rfl⟩
  have Xy : Hid (Box W0 (w.heap.size) (.func (.func 17) #[] #[]) (.func (.func 18) #[] #[])) := by rw [hW0]; exact ⟨by go_simp, by go_simp, by go_simp, by go_simp⟩
  have Xd : Hid (B3q W0 (w.heap.size + 1) (.bool s) (.slice q m c) (.int .i64 e)) := by rw [hW0]; exact ⟨by go_simp, by go_simp, by go_simp, by go_simp, by go_simp, by go_simp⟩
  have Xr : Hid (B3q W0 (w.heap.size + 1 + 1) (.bool false) (.slice none 0 0) (.int .i64 0)) := by rw [hW0]; exact ⟨by go_simp, by go_simp, by go_simp, by go_simp, by go_simp, by go_simp⟩
  have hb0 : Below w.heap.size w W0 := by rw [hW0]; exact below3 w _ _ _
  rw [← hW0]
  clear hW0
  have hbw : Below w.heap.size w w := Below.refl _ _
  obtain ⟨gr, hgr⟩ : ∃ g, g = w.heap.size + 1 + 1 := ⟨_, rfl⟩
  have HGr : Hid (w.heap.size ≤ gr) := by rw [hgr]; show _ ≤ _; omega
  rw [← hgr] at Xr
  try rw [← hgr]
  obtain ⟨gd, hgd⟩ : ∃ g, g = w.heap.size + 1 := ⟨_, rfl⟩
  have HGd : Hid (w.heap.size ≤ gd) := by rw [hgd]; show _ ≤ _; omega
  rw [← hgd] at Xd
  try rw [← hgd]
  obtain ⟨gy, hgy⟩ : ∃ g, g = w.heap.size := ⟨_, rfl⟩
  have HGy : Hid (w.heap.size ≤ gy) := by rw [hgy]; show _ ≤ _; omega
  rw [← hgy] at Xy
  try rw [← hgy]
  have HGD : Hid (gy ≠ gd ∧ gy ≠ gr ∧ gd ≠ gy ∧ gd ≠ gr ∧ gr ≠ gy ∧ gr ≠ gd) := by rw [hgy, hgd, hgr]; exact ⟨by omega, by omega, by omega, by omega, by omega, by omega⟩
  clear hgy hgd hgr
  replace hbw := Below.on hbw hb0
  clear hb0
  refine (dform_t (H.out.below hbw)).mono ?_
  rintro e v1 ⟨rfl, hb1⟩
  replace Xy : Hid _ := Xy.out.below hb1
  replace Xd : Hid _ := Xd.out.below hb1
  replace Xr : Hid _ := Xr.out.below hb1
  replace hbw := Below.on hbw hb1
  clear hb1
  obtain ⟨cd0, cd1, cd2, fd0, fd1, fd2⟩ := Xd.out
  have hned : gd < v1.heap.size := World.block_lt_of_cell? v1 _ cd0
  go_wp2_with fail
  clear cd0 cd1 cd2 fd0 fd1 fd2 hned
  refine (zsign (H.out.zn.below hbw)).mono ?_
  rintro e v2 ⟨rfl, hb2⟩
  obtain ⟨sg2, hsg⟩ : ∃ sg, sg = sgnI (z) := ⟨_, rfl⟩
  rw [← hsg]
  have hs2 : (sg2 == 0) = false := by rw [hsg]; have := HZ.out; unfold sgnI; split <;> (try split) <;> simp <;> omega
  clear hsg
  replace Xy : Hid _ := Xy.out.below hb2
  replace Xd : Hid _ := Xd.out.below hb2
  replace Xr : Hid _ := Xr.out.below hb2
  replace hbw := Below.on hbw hb2
  clear hb2
  obtain ⟨cd0, cd1, cd2, fd0, fd1, fd2⟩ := Xd.out
  have hned : gd < v2.heap.size := World.block_lt_of_cell? v2 _ cd0
  go_wp2_with fail
  clear cd0 cd1 cd2 fd0 fd1 fd2 hned
  clear hs2 f0
  obtain ⟨W1, hW1⟩ : ∃ W1, W1 = v2.drew := ⟨_, rfl⟩
  have hbd : Below v2.heap.size v2 W1 := by rw [hW1]; exact bDrew1 (Below.refl _ _)
  replace Xy : Hid _ := Xy.out.below hbd
  replace Xd : Hid _ := Xd.out.below hbd
  replace Xr : Hid _ := Xr.out.below hbd
  replace hbw := Below.on hbw hbd
  clear hbd
  have HJ : Hid ((fun W' : World => W'.cell? ⟨gd, 1, none⟩ = some (.slice q m c) ∧ W'.cell? ⟨gd, 2, none⟩ = some (.int .i64 e)) W1) := ⟨Xd.out.c1, Xd.out.c2⟩
  refine wp_region_J (fun W' => W'.cell? ⟨gd, 1, none⟩ = some (.slice q m c) ∧ W'.cell? ⟨gd, 2, none⟩ = some (.int .i64 e)) (by kernel_rfl) ?_
  rw [← hW1]
  clear hW1
  refine wpJ_tq 0 rfl HJ.out ?_
  refine wpJ_tq 1 rfl HJ.out ?_
  refine wpJ_tq 2 rfl HJ.out ?_
  refine wpJ_tq 3 rfl HJ.out ?_
  refine wpJ_tq 4 rfl HJ.out ?_
  go_simp
  refine wpJ_tq 5 rfl HJ.out ?_
  refine wpJ_tq 9 rfl HJ.out ?_
  refine wpJ_tq 10 rfl HJ.out ?_
  refine wpJ_on 6 rfl fun KJ hK => ?_
  go_simp
  obtain ⟨xs, hX⟩ := (H.out.zn.below hbw).ex
  refine (bits_any hX.at_ (by have := hX.le; omega)).mono ?_
  rintro e2 v3 ⟨rfl, hw⟩
  obtain rfl := hw.symm
  clear hw
  rw [hX.nf.val, HB.out]
  clear hX
  clear HJ
  have HJ : Hid ((fun W' : World => W'.cell? ⟨gd, 1, none⟩ = some (.slice q m c) ∧ W'.cell? ⟨gd, 2, none⟩ = some (.int .i64 e)) W1) := ⟨Xd.out.c1, Xd.out.c2⟩
  refine hK _ _ HJ.out ?_
  clear hK
  refine wpJ_tq 7 rfl HJ.out ?_
  refine wpJ_tq 8 rfl HJ.out ?_
  refine wpJ_tq 11 rfl HJ.out ?_
  refine wpJ_tq 12 rfl HJ.out ?_
  refine wpJ_done (by kernel_rfl) ?_ _
  clear HJ
  obtain ⟨cy0, cy1, fy0, fy1⟩ := Xy.out
  have hney := Xy.out.lt
  obtain ⟨cd0, cd1, cd2, fd0, fd1, fd2⟩ := Xd.out
  have hned : gd < W1.heap.size := World.block_lt_of_cell? W1 _ cd0
  go_wp2_with fail
  clear cy0 cy1 fy0 fy1 hney
  clear cd0 cd1 cd2 fd0 fd1 fd2 hned
  clear f1 f2 f3 f4 f5
  refine (zfshr (H.out.zn.below hbw) pl HF.out (TB.out.below hbw)).mono ?_
  rintro e v5 ⟨⟨s5, p5, m5, rfl, hz⟩, hb5⟩
  replace Xy : Hid _ := Xy.out.below hb5
  replace Xd : Hid _ := Xd.out.below hb5
  replace Xr : Hid _ := Xr.out.below hb5
  replace hbw := Below.on hbw hb5
  clear hb5
  have hz := hz.cast (z' := rd false z (2 ^ n)) (HR.out)
  have Z5 : Hid (ZN v5 s5 p5 m5 m5 (rd false z (2 ^ n))) := hz
  clear hz
  go_wp2_with fail
  have Xq0 : Hid (Box (v5.alloc (.cells #[.bool s5, .slice p5 m5 m5] 25)) v5.heap.size (.bool s5) (.slice p5 m5 m5)) := Box.new v5 _ _ _
  have hbn : Below v5.heap.size v5 (v5.alloc (.cells #[.bool s5, .slice p5 m5 m5] 25)) := below1 v5 _
  generalize v5.alloc (.cells #[.bool s5, .slice p5 m5 m5] 25) = Wq at *
  have HGq : Hid (w.heap.size ≤ v5.heap.size) := hbw.size
  replace Xy : Hid _ := Xy.out.below hbn
  replace Xd : Hid _ := Xd.out.below hbn
  replace Xr : Hid _ := Xr.out.below hbn
  replace Z5 : Hid _ := Z5.out.below hbn
  replace hbw := Below.on hbw hbn
  clear hbn
  generalize v5.heap.size = gq at *
  have Xq := Xq0
  clear Xq0
  have HRL : Hid (gr < Wq.heap.size ∧ w.heap.size ≤ Wq.heap.size) := ⟨Xr.out.lt, hbw.size⟩
  refine (makeZ Z5.out (TB.out.below hbw)).mono ?_
  rintro e2 v6 ⟨zo, eo, er, ⟨s6, p6, m6, c6, rfl, hq6⟩, hr6, hb6⟩
  replace Xy : Hid _ := Xy.out.below hb6
  replace Xd : Hid _ := Xd.out.below hb6
  replace Xr : Hid _ := Xr.out.below hb6
  replace Xq : Hid _ := Xq.out.below hb6
  replace Z5 : Hid _ := Z5.out.below hb6
  replace hbw := Below.on hbw hb6
  clear hb6
  have Q6 : Hid (DQ Wq.heap.size v6 s6 p6 m6 c6 eo zo) := hq6
  have R6 : Hid (MkR (rd false z (2 ^ n)) E zo eo er) := hr6
  clear hq6 hr6
  obtain ⟨cr0, cr1, cr2, fr0, fr1, fr2⟩ := Xr.out
  have hner : gr < v6.heap.size := World.block_lt_of_cell? v6 _ cr0
  go_wp2_with fail
  refine bodyPost_ret (v := .tuple #[DV s6 p6 m6 c6 eo, .int .i64 er]) (by rw [results_cell_tmp rfl]; go_simp) rfl ⟨zo, eo, er, ⟨s6, p6, m6, c6, rfl, Q6.out.set3 HRL.out.1 HRL.out.2 _ _ _⟩, R6.out, ?_⟩
  exact bSet (bSet (bSet hbw _ _ _ HGr.out) _ _ _ HGr.out) _ _ _ HGr.out
theorem tgx_wd {q : Option Addr} {m c : Nat} {xs : List Nat} {w : World} {e E : Int} {s : Bool} (h : At w q m c xs) (hf : formD s xs e = false) :
    Calls Tryz.prog 14 #[WVd, DV s q m c e, .int .i64 E] w fun en w' => en = .returned (.tuple #[DV false none 0 0 0, .int .i64 2]) ∧ Below w.heap.size w w' := by
  have H : Hid (At w q m c xs ∧ formD s xs e = false) := ⟨h, hf⟩
  clear h hf
  go_enter Tryz.func14, Tryz.ntmps14
  go_wp2_with fail
  obtain ⟨W0, hW0⟩ : ∃ W0, W0 = (((w.alloc (.cells #[.func (.func 17) #[] #[], .func (.func 18) #[] #[]] 38)).alloc (.cells #[.bool s, .slice q m c, .int .i64 e] 27)).alloc (.cells #[.bool false, .slice none 0 0, .int .i64 0] 27)) := ⟨_, rfl⟩
  have Xy : Hid (Box W0 (w.heap.size) (.func (.func 17) #[] #[]) (.func (.func 18) #[] #[])) := by rw [hW0]; exact ⟨by go_simp, by go_simp, by go_simp, by go_simp⟩
  have Xd : Hid (B3q W0 (w.heap.size + 1) (.bool s) (.slice q m c) (.int .i64 e)) := by rw [hW0]; exact ⟨by go_simp, by go_simp, by go_simp, by go_simp, by go_simp, by go_simp⟩
  have Xr : Hid (B3q W0 (w.heap.size + 1 + 1) (.bool false) (.slice none 0 0) (.int .i64 0)) := by rw [hW0]; exact ⟨by go_simp, by go_simp, by go_simp, by go_simp, by go_simp, by go_simp⟩
  have hb0 : Below w.heap.size w W0 := by rw [hW0]; exact below3 w _ _ _
  rw [← hW0]
  clear hW0
  have hbw : Below w.heap.size w w := Below.refl _ _
  obtain ⟨gr, hgr⟩ : ∃ g, g = w.heap.size + 1 + 1 := ⟨_, rfl⟩
  have HGr : Hid (w.heap.size ≤ gr) := by rw [hgr]; show _ ≤ _; omega
  rw [← hgr] at Xr
  try rw [← hgr]
  obtain ⟨gd, hgd⟩ : ∃ g, g = w.heap.size + 1 := ⟨_, rfl⟩
  have HGd : Hid (w.heap.size ≤ gd) := by rw [hgd]; show _ ≤ _; omega
  rw [← hgd] at Xd
  try rw [← hgd]
  obtain ⟨gy, hgy⟩ : ∃ g, g = w.heap.size := ⟨_, rfl⟩
  have HGy : Hid (w.heap.size ≤ gy) := by rw [hgy]; show _ ≤ _; omega
  rw [← hgy] at Xy
  try rw [← hgy]
  have HGD : Hid (gy ≠ gd ∧ gy ≠ gr ∧ gd ≠ gy ∧ gd ≠ gr ∧ gr ≠ gy ∧ gr ≠ gd) := by rw [hgy, hgd, hgr]; exact ⟨by omega, by omega, by omega, by omega, by omega, by omega⟩
  clear hgy hgd hgr
  replace hbw := Below.on hbw hb0
  clear hb0
  refine (dform_f s (H.out.1.below hbw) H.out.2).mono ?_
  rintro e v1 ⟨rfl, hb1⟩
  replace Xy : Hid _ := Xy.out.below hb1
  replace Xd : Hid _ := Xd.out.below hb1
  replace Xr : Hid _ := Xr.out.below hb1
  replace hbw := Below.on hbw hb1
  clear hb1
  obtain ⟨cr0, cr1, cr2, fr0, fr1, fr2⟩ := Xr.out
  have hner : gr < v1.heap.size := World.block_lt_of_cell? v1 _ cr0
  go_wp2_with fail
  refine bodyPost_ret (v := .tuple #[DV false none 0 0 0, .int .i64 2]) (by rw [results_cell_tmp rfl]; go_simp) rfl ⟨rfl, ?_⟩
  first | exact hbw | exact bSet (bSet (bSet hbw _ _ _ HGr.out) _ _ _ HGr.out) _ _ _ HGr.out
theorem atx_sd {q : Option Addr} {m c n : Nat} {w : World} {z e E : Int} {s : Bool} (h : DN w s q m c e z) (hz : z ≠ 0) (hE : e < E ∧ E ≤ 9223372036854775807) (hn : n = (E - e).toNat) (hT : Tab w) :
    Calls Tryz.prog 74 #[DV s q m c e, .int .i64 E] w fun en w' => ∃ zo eo er, SaidD w.heap.size w' en zo eo er ∧ MkR (rd false z (2 ^ n)) E zo eo er ∧ Below w.heap.size w w' := by
  have H : Hid (DN w s q m c e z) := h
  have TB : Hid (Tab w) := hT
  have HZ : Hid (z ≠ 0 ∧ (e < E ∧ E ≤ 9223372036854775807) ∧ n = (E - e).toNat) := ⟨hz, hE, hn⟩
  clear h hz hE hn hT
  go_enter Tryz.func74, Tryz.ntmps74
  go_wp2_with fail
  obtain ⟨W0, hW0⟩ : ∃ W0, W0 = ((w.alloc (.cells #[.bool s, .slice q m c, .int .i64 e] 27)).alloc (.cells #[.bool false, .slice none 0 0, .int .i64 0] 27)) := ⟨_, rfl⟩
  have Xd : Hid (B3q W0 (w.heap.size) (.bool s) (.slice q m c) (.int .i64 e)) := by rw [hW0]; exact ⟨by go_simp, by go_simp, by go_simp, by go_simp, by go_simp, by go_simp⟩
  have Xr : Hid (B3q W0 (w.heap.size + 1) (.bool false) (.slice none 0 0) (.int .i64 0)) := by rw [hW0]; exact ⟨by go_simp, by go_simp, by go_simp, by go_simp, by go_simp, by go_simp⟩
  have hb0 : Below w.heap.size w W0 := by rw [hW0]; exact below2 w _ _
  rw [← hW0]
  clear hW0
  have hbw : Below w.heap.size w w := Below.refl _ _
  obtain ⟨gr, hgr⟩ : ∃ g, g = w.heap.size + 1 := ⟨_, rfl⟩
  have HGr : Hid (w.heap.size ≤ gr) := by rw [hgr]; show _ ≤ _; omega
  rw [← hgr] at Xr
  try rw [← hgr]
  obtain ⟨gd, hgd⟩ : ∃ g, g = w.heap.size := ⟨_, rfl⟩
  have HGd : Hid (w.heap.size ≤ gd) := by rw [hgd]; show _ ≤ _; omega
  rw [← hgd] at Xd
  try rw [← hgd]
  have HGD : Hid (gd ≠ gr ∧ gr ≠ gd) := by rw [hgd, hgr]; exact ⟨by omega, by omega⟩
  clear hgd hgr
  replace hbw := Below.on hbw hb0
  clear hb0
  obtain ⟨W1, hW1⟩ : ∃ W1, W1 = W0.drew := ⟨_, rfl⟩
  have hbd : Below W0.heap.size W0 W1 := by rw [hW1]; exact bDrew1 (Below.refl _ _)
  replace Xd : Hid _ := Xd.out.below hbd
  replace Xr : Hid _ := Xr.out.below hbd
  replace hbw := Below.on hbw hbd
  clear hbd
  have HJ : Hid ((fun W' : World => W'.cell? ⟨gd, 0, none⟩ = some (.bool s) ∧ W'.cell? ⟨gd, 1, none⟩ = some (.slice q m c) ∧ W'.cell? ⟨gd, 2, none⟩ = some (.int .i64 e)) W1) := ⟨Xd.out.c0, Xd.out.c1, Xd.out.c2⟩
  refine wp_region_J (fun W' => W'.cell? ⟨gd, 0, none⟩ = some (.bool s) ∧ W'.cell? ⟨gd, 1, none⟩ = some (.slice q m c) ∧ W'.cell? ⟨gd, 2, none⟩ = some (.int .i64 e)) (by kernel_rfl) ?_
  rw [← hW1]
  clear hW1
  refine wpJ_tq 1 rfl HJ.out ?_
  refine wpJ_tq 2 rfl HJ.out ?_
  refine wpJ_on 0 rfl fun KJ hK => ?_
  go_simp
  refine (way_d _).mono ?_
  rintro e v1 ⟨rfl, hb1⟩
  replace Xd : Hid _ := Xd.out.below hb1
  replace Xr : Hid _ := Xr.out.below hb1
  replace hbw := Below.on hbw hb1
  clear hb1
  refine hK _ _ ⟨Xd.out.c0, Xd.out.c1, Xd.out.c2⟩ ?_
  clear hK
  refine wpJ_on 3 rfl fun KJ hK => ?_
  go_simp
  have HRL : Hid (gr < v1.heap.size ∧ w.heap.size ≤ v1.heap.size) := ⟨Xr.out.lt, hbw.size⟩
  refine (tgx_sd (H.out.below hbw) HZ.out.1 HZ.out.2.1 HZ.out.2.2 (TB.out.below hbw)).mono ?_
  rintro e2 v6 ⟨zo, eo, er, ⟨s6, p6, m6, c6, rfl, hq6⟩, hr6, hb6⟩
  replace Xd : Hid _ := Xd.out.below hb6
  replace Xr : Hid _ := Xr.out.below hb6
  replace hbw := Below.on hbw hb6
  clear hb6
  have Q6 : Hid (DQ v1.heap.size v6 s6 p6 m6 c6 eo zo) := hq6
  have R6 : Hid (MkR (rd false z (2 ^ n)) E zo eo er) := hr6
  clear hq6 hr6
  clear HJ
  have HJ : Hid ((fun W' : World => W'.cell? ⟨gd, 0, none⟩ = some (.bool s) ∧ W'.cell? ⟨gd, 1, none⟩ = some (.slice q m c) ∧ W'.cell? ⟨gd, 2, none⟩ = some (.int .i64 e)) v6) := ⟨Xd.out.c0, Xd.out.c1, Xd.out.c2⟩
  refine hK _ _ HJ.out ?_
  clear hK
  refine wpJ_tq 4 rfl HJ.out ?_
  refine wpJ_tq 5 rfl HJ.out ?_
  obtain ⟨cr0, cr1, cr2, fr0, fr1, fr2⟩ := Xr.out
  have hner : gr < v6.heap.size := World.block_lt_of_cell? v6 _ cr0
  obtain ⟨cd0, cd1, cd2, fd0, fd1, fd2⟩ := Xd.out
  have hned : gd < v6.heap.size := World.block_lt_of_cell? v6 _ cd0
  obtain ⟨hgd0, hgd1⟩ := HGD.out
  refine wpJ_on 6 rfl fun KJ hK => ?_
  go_simp
  have HJ2 : Hid ((fun W' : World => W'.cell? ⟨gd, 0, none⟩ = some (.bool s) ∧ W'.cell? ⟨gd, 1, none⟩ = some (.slice q m c) ∧ W'.cell? ⟨gd, 2, none⟩ = some (.int .i64 e)) (((v6.setCell ⟨gr, 0, none⟩ (.bool s6)).setCell ⟨gr, 1, none⟩ (.slice p6 m6 c6)).setCell ⟨gr, 2, none⟩ (.int .i64 eo))) := ⟨by go_simp, by go_simp, by go_simp⟩
  refine hK _ _ HJ2.out ?_
  clear hK HJ
  have HJ := HJ2
  clear HJ2
  refine wpJ_tq 7 rfl HJ.out ?_
  refine wpJ_done (by kernel_rfl) ?_ _
  clear HJ
  go_wp2_with fail
  refine bodyPost_ret (v := .tuple #[DV s6 p6 m6 c6 eo, .int .i64 er]) (by rw [results_cell_tmp rfl]; go_simp) rfl ⟨zo, eo, er, ⟨s6, p6, m6, c6, rfl, Q6.out.set3 HRL.out.1 HRL.out.2 _ _ _⟩, R6.out, ?_⟩
  exact bSet (bSet (bSet hbw _ _ _ HGr.out) _ _ _ HGr.out) _ _ _ HGr.out
theorem atx_wd {q : Option Addr} {m c : Nat} {xs : List Nat} {w : World} {e E : Int} {s : Bool} (h : At w q m c xs) (hf : formD s xs e = false) :
    Calls Tryz.prog 74 #[DV s q m c e, .int .i64 E] w fun en w' => en = .returned (.tuple #[DV false none 0 0 0, .int .i64 2]) ∧ Below w.heap.size w w' := by
  have H : Hid (At w q m c xs ∧ formD s xs e = false) := ⟨h, hf⟩
  clear h hf
  go_enter Tryz.func74, Tryz.ntmps74
  go_wp2_with fail
  obtain ⟨W0, hW0⟩ : ∃ W0, W0 = ((w.alloc (.cells #[.bool s, .slice q m c, .int .i64 e] 27)).alloc (.cells #[.bool false, .slice none 0 0, .int .i64 0] 27)) := ⟨_, rfl⟩
  have Xd : Hid (B3q W0 (w.heap.size) (.bool s) (.slice q m c) (.int .i64 e)) := by rw [hW0]; exact ⟨by go_simp, by go_simp, by go_simp, by go_simp, by go_simp, by go_simp⟩
  have Xr : Hid (B3q W0 (w.heap.size + 1) (.bool false) (.slice none 0 0) (.int .i64 0)) := by rw [hW0]; exact ⟨by go_simp, by go_simp, by go_simp, by go_simp, by go_simp, by go_simp⟩
  have hb0 : Below w.heap.size w W0 := by rw [hW0]; exact below2 w _ _
  rw [← hW0]
  clear hW0
  have hbw : Below w.heap.size w w := Below.refl _ _
  obtain ⟨gr, hgr⟩ : ∃ g, g = w.heap.size + 1 := ⟨_, rfl⟩
  have HGr : Hid (w.heap.size ≤ gr) := by rw [hgr]; show _ ≤ _; omega
  rw [← hgr] at Xr
  try rw [← hgr]
  obtain ⟨gd, hgd⟩ : ∃ g, g = w.heap.size := ⟨_, rfl⟩
  have HGd : Hid (w.heap.size ≤ gd) := by rw [hgd]; show _ ≤ _; omega
  rw [← hgd] at Xd
  try rw [← hgd]
  have HGD : Hid (gd ≠ gr ∧ gr ≠ gd) := by rw [hgd, hgr]; exact ⟨by omega, by omega⟩
  clear hgd hgr
  replace hbw := Below.on hbw hb0
  clear hb0
  obtain ⟨W1, hW1⟩ : ∃ W1, W1 = W0.drew := ⟨_, rfl⟩
  have hbd : Below W0.heap.size W0 W1 := by rw [hW1]; exact bDrew1 (Below.refl _ _)
  replace Xd : Hid _ := Xd.out.below hbd
  replace Xr : Hid _ := Xr.out.below hbd
  replace hbw := Below.on hbw hbd
  clear hbd
  have HJ : Hid ((fun W' : World => W'.cell? ⟨gd, 0, none⟩ = some (.bool s) ∧ W'.cell? ⟨gd, 1, none⟩ = some (.slice q m c) ∧ W'.cell? ⟨gd, 2, none⟩ = some (.int .i64 e)) W1) := ⟨Xd.out.c0, Xd.out.c1, Xd.out.c2⟩
  refine wp_region_J (fun W' => W'.cell? ⟨gd, 0, none⟩ = some (.bool s) ∧ W'.cell? ⟨gd, 1, none⟩ = some (.slice q m c) ∧ W'.cell? ⟨gd, 2, none⟩ = some (.int .i64 e)) (by kernel_rfl) ?_
  rw [← hW1]
  clear hW1
  refine wpJ_tq 1 rfl HJ.out ?_
  refine wpJ_tq 2 rfl HJ.out ?_
  refine wpJ_on 0 rfl fun KJ hK => ?_
  go_simp
  refine (way_d _).mono ?_
  rintro e v1 ⟨rfl, hb1⟩
  replace Xd : Hid _ := Xd.out.below hb1
  replace Xr : Hid _ := Xr.out.below hb1
  replace hbw := Below.on hbw hb1
  clear hb1
  refine hK _ _ ⟨Xd.out.c0, Xd.out.c1, Xd.out.c2⟩ ?_
  clear hK
  refine wpJ_on 3 rfl fun KJ hK => ?_
  go_simp
  refine (tgx_wd (H.out.1.below hbw) H.out.2).mono ?_
  rintro e v6 ⟨rfl, hb6⟩
  replace Xd : Hid _ := Xd.out.below hb6
  replace Xr : Hid _ := Xr.out.below hb6
  replace hbw := Below.on hbw hb6
  clear hb6
  clear HJ
  have HJ : Hid ((fun W' : World => W'.cell? ⟨gd, 0, none⟩ = some (.bool s) ∧ W'.cell? ⟨gd, 1, none⟩ = some (.slice q m c) ∧ W'.cell? ⟨gd, 2, none⟩ = some (.int .i64 e)) v6) := ⟨Xd.out.c0, Xd.out.c1, Xd.out.c2⟩
  refine hK _ _ HJ.out ?_
  clear hK
  refine wpJ_tq 4 rfl HJ.out ?_
  refine wpJ_tq 5 rfl HJ.out ?_
  obtain ⟨cr0, cr1, cr2, fr0, fr1, fr2⟩ := Xr.out
  have hner : gr < v6.heap.size := World.block_lt_of_cell? v6 _ cr0
  obtain ⟨cd0, cd1, cd2, fd0, fd1, fd2⟩ := Xd.out
  have hned : gd < v6.heap.size := World.block_lt_of_cell? v6 _ cd0
  obtain ⟨hgd0, hgd1⟩ := HGD.out
  refine wpJ_on 6 rfl fun KJ hK => ?_
  go_simp
  have HJ2 : Hid ((fun W' : World => W'.cell? ⟨gd, 0, none⟩ = some (.bool s) ∧ W'.cell? ⟨gd, 1, none⟩ = some (.slice q m c) ∧ W'.cell? ⟨gd, 2, none⟩ = some (.int .i64 e)) (((v6.setCell ⟨gr, 0, none⟩ (.bool false)).setCell ⟨gr, 1, none⟩ (.slice none 0 0)).setCell ⟨gr, 2, none⟩ (.int .i64 0))) := ⟨by go_simp, by go_simp, by go_simp⟩
  refine hK _ _ HJ2.out ?_
  clear hK HJ
  have HJ := HJ2
  clear HJ2
  refine wpJ_tq 7 rfl HJ.out ?_
  refine wpJ_done (by kernel_rfl) ?_ _
  clear HJ
  go_wp2_with fail
  refine bodyPost_ret (v := .tuple #[DV false none 0 0 0, .int .i64 2]) (by rw [results_cell_tmp rfl]; go_simp) rfl ⟨rfl, ?_⟩
  first | exact hbw | exact bSet (bSet (bSet hbw _ _ _ HGr.out) _ _ _ HGr.out) _ _ _ HGr.out
theorem tgx_su {q : Option Addr} {m c n : Nat} {w : World} {z e E : Int} {s : Bool} (h : DN w s q m c e z) (hz : z ≠ 0) (hE : e < E ∧ E ≤ 9223372036854775807) (hn : n = (E - e).toNat) (hT : Tab w) :
    Calls Tryz.prog 14 #[WVu, DV s q m c e, .int .i64 E] w fun en w' => ∃ zo eo er, SaidD w.heap.size w' en zo eo er ∧ MkR (rd true z (2 ^ n)) E zo eo er ∧ Below w.heap.size w w' := by
  have H : Hid (DN w s q m c e z) := h
  have TB : Hid (Tab w) := hT
  have HZ : Hid (z ≠ 0) := hz
  have hb := (lim_bits z.natAbs).1 h.zn.lim
  have he : -1048576 ≤ e ∧ e ≤ 1048576 := by rcases h.fm with ⟨h0, _⟩ | ⟨_, h5⟩; (exact absurd h0 hz); exact h5
  obtain ⟨pl, hpl⟩ : ∃ pl, pl = min n (bitsN z.natAbs) := ⟨_, rfl⟩
  obtain ⟨B, hB⟩ : ∃ B, B = bitsN z.natAbs := ⟨_, rfl⟩
  rw [← hB] at hb hpl
  have HB : Hid (bitsN z.natAbs = B) := hB.symm
  have f0 : ¬ E ≤ e := by omega
  have f1 : wrap64 (e + B) = e + B := by simp only [wrap64]; omega
  have f2 : min E (e + (B : Int)) = e + pl := by omega
  have f3 : wrap64 (e + (pl : Int) - e) = pl := by simp only [wrap64]; omega
  have f4 : IntKind.i64.wrap (e + B) = e + B := by simp [IntKind.wrap, IntKind.signed, IntKind.bits]; omega
  have f5 : IntKind.i64.wrap (e + (pl : Int) - e) = pl := by simp [IntKind.wrap, IntKind.signed, IntKind.bits]; omega
  have HF : Hid (pl ≤ 9223372036854775807) := by show _ ≤ _; omega
  have HR : Hid (ce (decide (z < 0)) z.natAbs (2 ^ pl) = rd true z (2 ^ n)) := by
    rw [ce_eq _ _ (Nat.pow_pos (by omega))]
    show rd true z (2 ^ pl) = _
    by_cases h9 : n ≤ B
    · rw [show pl = n from by omega]
    · rw [show pl = B from by omega]
      exact (rd_far true (by rw [hB]; exact bitsN_lt _) (by omega)).symm
  clear h hz hE hn hT hb he hpl hB
  go_enter Tryz.func14, Tryz.ntmps14
  go_wp2_with fail
  obtain ⟨W0, hW0⟩ : ∃ W0, W0 = (((w.alloc (.cells #[.func (.func 26) #[] #[], .func (.func 27) #[] #[]] 38)).alloc (.cells #[.bool s, .slice q m c, .int .i64 e] 27)).alloc (.cells #[.bool false, .slice none 0 0, .int .i64 0] 27)) := ⟨_, rfl⟩
  have Xy : Hid (Box W0 (w.heap.size) (.func (.func 26) #[] #[]) (.func (.func 27) #[] #[])) := by rw [hW0]; exact ⟨by go_simp, by go_simp, by go_simp, by go_simp⟩
  have Xd : Hid (B3q W0 (w.heap.size + 1) (.bool s) (.slice q m c) (.int .i64 e)) := by rw [hW0]; exact ⟨by go_simp, by go_simp, by go_simp, by go_simp, by go_simp, by go_simp⟩
  have Xr : Hid (B3q W0 (w.heap.size + 1 + 1) (.bool false) (.slice none 0 0) (.int .i64 0)) := by rw [hW0]; exact ⟨by go_simp, by go_simp, by go_simp, by go_simp, by go_simp, by go_simp⟩
  have hb0 : Below w.heap.size w W0 := by rw [hW0]; exact below3 w _ _ _
  rw [← hW0]
  clear hW0
  have hbw : Below w.heap.size w w := Below.refl _ _
  obtain ⟨gr, hgr⟩ : ∃ g, g = w.heap.size + 1 + 1 := ⟨_, rfl⟩
  have HGr : Hid (w.heap.size ≤ gr) := by rw [hgr]; show _ ≤ _; omega
  rw [← hgr] at Xr
  try rw [← hgr]
  obtain ⟨gd, hgd⟩ : ∃ g, g = w.heap.size + 1 := ⟨_, rfl⟩
  have HGd : Hid (w.heap.size ≤ gd) := by rw [hgd]; show _ ≤ _; omega
  rw [← hgd] at Xd
  try rw [← hgd]
  obtain ⟨gy, hgy⟩ : ∃ g, g = w.heap.size := ⟨_, rfl⟩
  have HGy : Hid (w.heap.size ≤ gy) := by rw [hgy]; show _ ≤ _; omega
  rw [← hgy] at Xy
  try rw [← hgy]
  have HGD : Hid (gy ≠ gd ∧ gy ≠ gr ∧ gd ≠ gy ∧ gd ≠ gr ∧ gr ≠ gy ∧ gr ≠ gd) := by rw [hgy, hgd, hgr]; exact ⟨by omega, by omega, by omega, by omega, by omega, by omega⟩
  clear hgy hgd hgr
  replace hbw := Below.on hbw hb0
  clear hb0
  refine (dform_t (H.out.below hbw)).mono ?_
  rintro e v1 ⟨rfl, hb1⟩
  replace Xy : Hid _ := Xy.out.below hb1
  replace Xd : Hid _ := Xd.out.below hb1
  replace Xr : Hid _ := Xr.out.below hb1
  replace hbw := Below.on hbw hb1
  clear hb1
  obtain ⟨cd0, cd1, cd2, fd0, fd1, fd2⟩ := Xd.out
  have hned : gd < v1.heap.size := World.block_lt_of_cell? v1 _ cd0
  go_wp2_with fail
  clear cd0 cd1 cd2 fd0 fd1 fd2 hned
  refine (zsign (H.out.zn.below hbw)).mono ?_
  rintro e v2 ⟨rfl, hb2⟩
  obtain ⟨sg2, hsg⟩ : ∃ sg, sg = sgnI (z) := ⟨_, rfl⟩
  rw [← hsg]
  have hs2 : (sg2 == 0) = false := by rw [hsg]; have := HZ.out; unfold sgnI; split <;> (try split) <;> simp <;> omega
  clear hsg
  replace Xy : Hid _ := Xy.out.below hb2
  replace Xd : Hid _ := Xd.out.below hb2
  replace Xr : Hid _ := Xr.out.below hb2
  replace hbw := Below.on hbw hb2
  clear hb2
  obtain ⟨cd0, cd1, cd2, fd0, fd1, fd2⟩ := Xd.out
  have hned : gd < v2.heap.size := World.block_lt_of_cell? v2 _ cd0
  go_wp2_with fail
  clear cd0 cd1 cd2 fd0 fd1 fd2 hned
  clear hs2 f0
  obtain ⟨W1, hW1⟩ : ∃ W1, W1 = v2.drew := ⟨_, rfl⟩
  have hbd : Below v2.heap.size v2 W1 := by rw [hW1]; exact bDrew1 (Below.refl _ _)
  replace Xy : Hid _ := Xy.out.below hbd
  replace Xd : Hid _ := Xd.out.below hbd
  replace Xr : Hid _ := Xr.out.below hbd
  replace hbw := Below.on hbw hbd
  clear hbd
  have HJ : Hid ((fun W' : World => W'.cell? ⟨gd, 1, none⟩ = some (.slice q m c) ∧ W'.cell? ⟨gd, 2, none⟩ = some (.int .i64 e)) W1) := ⟨Xd.out.c1, Xd.out.c2⟩
  refine wp_region_J (fun W' => W'.cell? ⟨gd, 1, none⟩ = some (.slice q m c) ∧ W'.cell? ⟨gd, 2, none⟩ = some (.int .i64 e)) (by kernel_rfl) ?_
  rw [← hW1]
  clear hW1
  refine wpJ_tq 0 rfl HJ.out ?_
  refine wpJ_tq 1 rfl HJ.out ?_
  refine wpJ_tq 2 rfl HJ.out ?_
  refine wpJ_tq 3 rfl HJ.out ?_
  refine wpJ_tq 4 rfl HJ.out ?_
  go_simp
  refine wpJ_tq 5 rfl HJ.out ?_
  refine wpJ_tq 9 rfl HJ.out ?_
  refine wpJ_tq 10 rfl HJ.out ?_
  refine wpJ_on 6 rfl fun KJ hK => ?_
  go_simp
  obtain ⟨xs, hX⟩ := (H.out.zn.below hbw).ex
  refine (bits_any hX.at_ (by have := hX.le; omega)).mono ?_
  rintro e2 v3 ⟨rfl, hw⟩
  obtain rfl := hw.symm
  clear hw
  rw [hX.nf.val, HB.out]
  clear hX
  clear HJ
  have HJ : Hid ((fun W' : World => W'.cell? ⟨gd, 1, none⟩ = some (.slice q m c) ∧ W'.cell? ⟨gd, 2, none⟩ = some (.int .i64 e)) W1) := ⟨Xd.out.c1, Xd.out.c2⟩
  refine hK _ _ HJ.out ?_
  clear hK
  refine wpJ_tq 7 rfl HJ.out ?_
  refine wpJ_tq 8 rfl HJ.out ?_
  refine wpJ_tq 11 rfl HJ.out ?_
  refine wpJ_tq 12 rfl HJ.out ?_
  refine wpJ_done (by kernel_rfl) ?_ _
  clear HJ
  obtain ⟨cy0, cy1, fy0, fy1⟩ := Xy.out
  have hney := Xy.out.lt
  obtain ⟨cd0, cd1, cd2, fd0, fd1, fd2⟩ := Xd.out
  have hned : gd < W1.heap.size := World.block_lt_of_cell? W1 _ cd0
  go_wp2_with fail
  clear cy0 cy1 fy0 fy1 hney
  clear cd0 cd1 cd2 fd0 fd1 fd2 hned
  clear f1 f2 f3 f4 f5
  refine (zcshr (H.out.zn.below hbw) pl HF.out (TB.out.below hbw)).mono ?_
  rintro e v5 ⟨⟨s5, p5, m5, rfl, hz⟩, hb5⟩
  replace Xy : Hid _ := Xy.out.below hb5
  replace Xd : Hid _ := Xd.out.below hb5
  replace Xr : Hid _ := Xr.out.below hb5
  replace hbw := Below.on hbw hb5
  clear hb5
  have hz := hz.cast (z' := rd true z (2 ^ n)) (HR.out)
  have Z5 : Hid (ZN v5 s5 p5 m5 m5 (rd true z (2 ^ n))) := hz
  clear hz
  go_wp2_with fail
  have Xq0 : Hid (Box (v5.alloc (.cells #[.bool s5, .slice p5 m5 m5] 25)) v5.heap.size (.bool s5) (.slice p5 m5 m5)) := Box.new v5 _ _ _
  have hbn : Below v5.heap.size v5 (v5.alloc (.cells #[.bool s5, .slice p5 m5 m5] 25)) := below1 v5 _
  generalize v5.alloc (.cells #[.bool s5, .slice p5 m5 m5] 25) = Wq at *
  have HGq : Hid (w.heap.size ≤ v5.heap.size) := hbw.size
  replace Xy : Hid _ := Xy.out.below hbn
  replace Xd : Hid _ := Xd.out.below hbn
  replace Xr : Hid _ := Xr.out.below hbn
  replace Z5 : Hid _ := Z5.out.below hbn
  replace hbw := Below.on hbw hbn
  clear hbn
  generalize v5.heap.size = gq at *
  have Xq := Xq0
  clear Xq0
  have HRL : Hid (gr < Wq.heap.size ∧ w.heap.size ≤ Wq.heap.size) := ⟨Xr.out.lt, hbw.size⟩
  refine (makeZ Z5.out (TB.out.below hbw)).mono ?_
  rintro e2 v6 ⟨zo, eo, er, ⟨s6, p6, m6, c6, rfl, hq6⟩, hr6, hb6⟩
  replace Xy : Hid _ := Xy.out.below hb6
  replace Xd : Hid _ := Xd.out.below hb6
  replace Xr : Hid _ := Xr.out.below hb6
  replace Xq : Hid _ := Xq.out.below hb6
  replace Z5 : Hid _ := Z5.out.below hb6
  replace hbw := Below.on hbw hb6
  clear hb6
  have Q6 : Hid (DQ Wq.heap.size v6 s6 p6 m6 c6 eo zo) := hq6
  have R6 : Hid (MkR (rd true z (2 ^ n)) E zo eo er) := hr6
  clear hq6 hr6
  obtain ⟨cr0, cr1, cr2, fr0, fr1, fr2⟩ := Xr.out
  have hner : gr < v6.heap.size := World.block_lt_of_cell? v6 _ cr0
  go_wp2_with fail
  refine bodyPost_ret (v := .tuple #[DV s6 p6 m6 c6 eo, .int .i64 er]) (by rw [results_cell_tmp rfl]; go_simp) rfl ⟨zo, eo, er, ⟨s6, p6, m6, c6, rfl, Q6.out.set3 HRL.out.1 HRL.out.2 _ _ _⟩, R6.out, ?_⟩
  exact bSet (bSet (bSet hbw _ _ _ HGr.out) _ _ _ HGr.out) _ _ _ HGr.out
theorem tgx_wu {q : Option Addr} {m c : Nat} {xs : List Nat} {w : World} {e E : Int} {s : Bool} (h : At w q m c xs) (hf : formD s xs e = false) :
    Calls Tryz.prog 14 #[WVu, DV s q m c e, .int .i64 E] w fun en w' => en = .returned (.tuple #[DV false none 0 0 0, .int .i64 2]) ∧ Below w.heap.size w w' := by
  have H : Hid (At w q m c xs ∧ formD s xs e = false) := ⟨h, hf⟩
  clear h hf
  go_enter Tryz.func14, Tryz.ntmps14
  go_wp2_with fail
  obtain ⟨W0, hW0⟩ : ∃ W0, W0 = (((w.alloc (.cells #[.func (.func 26) #[] #[], .func (.func 27) #[] #[]] 38)).alloc (.cells #[.bool s, .slice q m c, .int .i64 e] 27)).alloc (.cells #[.bool false, .slice none 0 0, .int .i64 0] 27)) := ⟨_, rfl⟩
  have Xy : Hid (Box W0 (w.heap.size) (.func (.func 26) #[] #[]) (.func (.func 27) #[] #[])) := by rw [hW0]; exact ⟨by go_simp, by go_simp, by go_simp, by go_simp⟩
  have Xd : Hid (B3q W0 (w.heap.size + 1) (.bool s) (.slice q m c) (.int .i64 e)) := by rw [hW0]; exact ⟨by go_simp, by go_simp, by go_simp, by go_simp, by go_simp, by go_simp⟩
  have Xr : Hid (B3q W0 (w.heap.size + 1 + 1) (.bool false) (.slice none 0 0) (.int .i64 0)) := by rw [hW0]; exact ⟨by go_simp, by go_simp, by go_simp, by go_simp, by go_simp, by go_simp⟩
  have hb0 : Below w.heap.size w W0 := by rw [hW0]; exact below3 w _ _ _
  rw [← hW0]
  clear hW0
  have hbw : Below w.heap.size w w := Below.refl _ _
  obtain ⟨gr, hgr⟩ : ∃ g, g = w.heap.size + 1 + 1 := ⟨_, rfl⟩
  have HGr : Hid (w.heap.size ≤ gr) := by rw [hgr]; show _ ≤ _; omega
  rw [← hgr] at Xr
  try rw [← hgr]
  obtain ⟨gd, hgd⟩ : ∃ g, g = w.heap.size + 1 := ⟨_, rfl⟩
  have HGd : Hid (w.heap.size ≤ gd) := by rw [hgd]; show _ ≤ _; omega
  rw [← hgd] at Xd
  try rw [← hgd]
  obtain ⟨gy, hgy⟩ : ∃ g, g = w.heap.size := ⟨_, rfl⟩
  have HGy : Hid (w.heap.size ≤ gy) := by rw [hgy]; show _ ≤ _; omega
  rw [← hgy] at Xy
  try rw [← hgy]
  have HGD : Hid (gy ≠ gd ∧ gy ≠ gr ∧ gd ≠ gy ∧ gd ≠ gr ∧ gr ≠ gy ∧ gr ≠ gd) := by rw [hgy, hgd, hgr]; exact ⟨by omega, by omega, by omega, by omega, by omega, by omega⟩
  clear hgy hgd hgr
  replace hbw := Below.on hbw hb0
  clear hb0
  refine (dform_f s (H.out.1.below hbw) H.out.2).mono ?_
  rintro e v1 ⟨rfl, hb1⟩
  replace Xy : Hid _ := Xy.out.below hb1
  replace Xd : Hid _ := Xd.out.below hb1
  replace Xr : Hid _ := Xr.out.below hb1
  replace hbw := Below.on hbw hb1
  clear hb1
  obtain ⟨cr0, cr1, cr2, fr0, fr1, fr2⟩ := Xr.out
  have hner : gr < v1.heap.size := World.block_lt_of_cell? v1 _ cr0
  go_wp2_with fail
  refine bodyPost_ret (v := .tuple #[DV false none 0 0 0, .int .i64 2]) (by rw [results_cell_tmp rfl]; go_simp) rfl ⟨rfl, ?_⟩
  first | exact hbw | exact bSet (bSet (bSet hbw _ _ _ HGr.out) _ _ _ HGr.out) _ _ _ HGr.out
theorem atx_su {q : Option Addr} {m c n : Nat} {w : World} {z e E : Int} {s : Bool} (h : DN w s q m c e z) (hz : z ≠ 0) (hE : e < E ∧ E ≤ 9223372036854775807) (hn : n = (E - e).toNat) (hT : Tab w) :
    Calls Tryz.prog 6 #[DV s q m c e, .int .i64 E] w fun en w' => ∃ zo eo er, SaidD w.heap.size w' en zo eo er ∧ MkR (rd true z (2 ^ n)) E zo eo er ∧ Below w.heap.size w w' := by
  have H : Hid (DN w s q m c e z) := h
  have TB : Hid (Tab w) := hT
  have HZ : Hid (z ≠ 0 ∧ (e < E ∧ E ≤ 9223372036854775807) ∧ n = (E - e).toNat) := ⟨hz, hE, hn⟩
  clear h hz hE hn hT
  go_enter Tryz.func6, Tryz.ntmps6
  go_wp2_with fail
  obtain ⟨W0, hW0⟩ : ∃ W0, W0 = ((w.alloc (.cells #[.bool s, .slice q m c, .int .i64 e] 27)).alloc (.cells #[.bool false, .slice none 0 0, .int .i64 0] 27)) := ⟨_, rfl⟩
  have Xd : Hid (B3q W0 (w.heap.size) (.bool s) (.slice q m c) (.int .i64 e)) := by rw [hW0]; exact ⟨by go_simp, by go_simp, by go_simp, by go_simp, by go_simp, by go_simp⟩
  have Xr : Hid (B3q W0 (w.heap.size + 1) (.bool false) (.slice none 0 0) (.int .i64 0)) := by rw [hW0]; exact ⟨by go_simp, by go_simp, by go_simp, by go_simp, by go_simp, by go_simp⟩
  have hb0 : Below w.heap.size w W0 := by rw [hW0]; exact below2 w _ _
  rw [← hW0]
  clear hW0
  have hbw : Below w.heap.size w w := Below.refl _ _
  obtain ⟨gr, hgr⟩ : ∃ g, g = w.heap.size + 1 := ⟨_, rfl⟩
  have HGr : Hid (w.heap.size ≤ gr) := by rw [hgr]; show _ ≤ _; omega
  rw [← hgr] at Xr
  try rw [← hgr]
  obtain ⟨gd, hgd⟩ : ∃ g, g = w.heap.size := ⟨_, rfl⟩
  have HGd : Hid (w.heap.size ≤ gd) := by rw [hgd]; show _ ≤ _; omega
  rw [← hgd] at Xd
  try rw [← hgd]
  have HGD : Hid (gd ≠ gr ∧ gr ≠ gd) := by rw [hgd, hgr]; exact ⟨by omega, by omega⟩
  clear hgd hgr
  replace hbw := Below.on hbw hb0
  clear hb0
  obtain ⟨W1, hW1⟩ : ∃ W1, W1 = W0.drew := ⟨_, rfl⟩
  have hbd : Below W0.heap.size W0 W1 := by rw [hW1]; exact bDrew1 (Below.refl _ _)
  replace Xd : Hid _ := Xd.out.below hbd
  replace Xr : Hid _ := Xr.out.below hbd
  replace hbw := Below.on hbw hbd
  clear hbd
  have HJ : Hid ((fun W' : World => W'.cell? ⟨gd, 0, none⟩ = some (.bool s) ∧ W'.cell? ⟨gd, 1, none⟩ = some (.slice q m c) ∧ W'.cell? ⟨gd, 2, none⟩ = some (.int .i64 e)) W1) := ⟨Xd.out.c0, Xd.out.c1, Xd.out.c2⟩
  refine wp_region_J (fun W' => W'.cell? ⟨gd, 0, none⟩ = some (.bool s) ∧ W'.cell? ⟨gd, 1, none⟩ = some (.slice q m c) ∧ W'.cell? ⟨gd, 2, none⟩ = some (.int .i64 e)) (by kernel_rfl) ?_
  rw [← hW1]
  clear hW1
  refine wpJ_tq 1 rfl HJ.out ?_
  refine wpJ_tq 2 rfl HJ.out ?_
  refine wpJ_on 0 rfl fun KJ hK => ?_
  go_simp
  refine (way_u _).mono ?_
  rintro e v1 ⟨rfl, hb1⟩
  replace Xd : Hid _ := Xd.out.below hb1
  replace Xr : Hid _ := Xr.out.below hb1
  replace hbw := Below.on hbw hb1
  clear hb1
  refine hK _ _ ⟨Xd.out.c0, Xd.out.c1, Xd.out.c2⟩ ?_
  clear hK
  refine wpJ_on 3 rfl fun KJ hK => ?_
  go_simp
  have HRL : Hid (gr < v1.heap.size ∧ w.heap.size ≤ v1.heap.size) := ⟨Xr.out.lt, hbw.size⟩
  refine (tgx_su (H.out.below hbw) HZ.out.1 HZ.out.2.1 HZ.out.2.2 (TB.out.below hbw)).mono ?_
  rintro e2 v6 ⟨zo, eo, er, ⟨s6, p6, m6, c6, rfl, hq6⟩, hr6, hb6⟩
  replace Xd : Hid _ := Xd.out.below hb6
  replace Xr : Hid _ := Xr.out.below hb6
  replace hbw := Below.on hbw hb6
  clear hb6
  have Q6 : Hid (DQ v1.heap.size v6 s6 p6 m6 c6 eo zo) := hq6
  have R6 : Hid (MkR (rd true z (2 ^ n)) E zo eo er) := hr6
  clear hq6 hr6
  clear HJ
  have HJ : Hid ((fun W' : World => W'.cell? ⟨gd, 0, none⟩ = some (.bool s) ∧ W'.cell? ⟨gd, 1, none⟩ = some (.slice q m c) ∧ W'.cell? ⟨gd, 2, none⟩ = some (.int .i64 e)) v6) := ⟨Xd.out.c0, Xd.out.c1, Xd.out.c2⟩
  refine hK _ _ HJ.out ?_
  clear hK
  refine wpJ_tq 4 rfl HJ.out ?_
  refine wpJ_tq 5 rfl HJ.out ?_
  obtain ⟨cr0, cr1, cr2, fr0, fr1, fr2⟩ := Xr.out
  have hner : gr < v6.heap.size := World.block_lt_of_cell? v6 _ cr0
  obtain ⟨cd0, cd1, cd2, fd0, fd1, fd2⟩ := Xd.out
  have hned : gd < v6.heap.size := World.block_lt_of_cell? v6 _ cd0
  obtain ⟨hgd0, hgd1⟩ := HGD.out
  refine wpJ_on 6 rfl fun KJ hK => ?_
  go_simp
  have HJ2 : Hid ((fun W' : World => W'.cell? ⟨gd, 0, none⟩ = some (.bool s) ∧ W'.cell? ⟨gd, 1, none⟩ = some (.slice q m c) ∧ W'.cell? ⟨gd, 2, none⟩ = some (.int .i64 e)) (((v6.setCell ⟨gr, 0, none⟩ (.bool s6)).setCell ⟨gr, 1, none⟩ (.slice p6 m6 c6)).setCell ⟨gr, 2, none⟩ (.int .i64 eo))) := ⟨by go_simp, by go_simp, by go_simp⟩
  refine hK _ _ HJ2.out ?_
  clear hK HJ
  have HJ := HJ2
  clear HJ2
  refine wpJ_tq 7 rfl HJ.out ?_
  refine wpJ_done (by kernel_rfl) ?_ _
  clear HJ
  go_wp2_with fail
  refine bodyPost_ret (v := .tuple #[DV s6 p6 m6 c6 eo, .int .i64 er]) (by rw [results_cell_tmp rfl]; go_simp) rfl ⟨zo, eo, er, ⟨s6, p6, m6, c6, rfl, Q6.out.set3 HRL.out.1 HRL.out.2 _ _ _⟩, R6.out, ?_⟩
  exact bSet (bSet (bSet hbw _ _ _ HGr.out) _ _ _ HGr.out) _ _ _ HGr.out
theorem atx_wu {q : Option Addr} {m c : Nat} {xs : List Nat} {w : World} {e E : Int} {s : Bool} (h : At w q m c xs) (hf : formD s xs e = false) :
    Calls Tryz.prog 6 #[DV s q m c e, .int .i64 E] w fun en w' => en = .returned (.tuple #[DV false none 0 0 0, .int .i64 2]) ∧ Below w.heap.size w w' := by
  have H : Hid (At w q m c xs ∧ formD s xs e = false) := ⟨h, hf⟩
  clear h hf
  go_enter Tryz.func6, Tryz.ntmps6
  go_wp2_with fail
  obtain ⟨W0, hW0⟩ : ∃ W0, W0 = ((w.alloc (.cells #[.bool s, .slice q m c, .int .i64 e] 27)).alloc (.cells #[.bool false, .slice none 0 0, .int .i64 0] 27)) := ⟨_, rfl⟩
  have Xd : Hid (B3q W0 (w.heap.size) (.bool s) (.slice q m c) (.int .i64 e)) := by rw [hW0]; exact ⟨by go_simp, by go_simp, by go_simp, by go_simp, by go_simp, by go_simp⟩
  have Xr : Hid (B3q W0 (w.heap.size + 1) (.bool false) (.slice none 0 0) (.int .i64 0)) := by rw [hW0]; exact ⟨by go_simp, by go_simp, by go_simp, by go_simp, by go_simp, by go_simp⟩
  have hb0 : Below w.heap.size w W0 := by rw [hW0]; exact below2 w _ _
  rw [← hW0]
  clear hW0
  have hbw : Below w.heap.size w w := Below.refl _ _
  obtain ⟨gr, hgr⟩ : ∃ g, g = w.heap.size + 1 := ⟨_, rfl⟩
  have HGr : Hid (w.heap.size ≤ gr) := by rw [hgr]; show _ ≤ _; omega
  rw [← hgr] at Xr
  try rw [← hgr]
  obtain ⟨gd, hgd⟩ : ∃ g, g = w.heap.size := ⟨_, rfl⟩
  have HGd : Hid (w.heap.size ≤ gd) := by rw [hgd]; show _ ≤ _; omega
  rw [← hgd] at Xd
  try rw [← hgd]
  have HGD : Hid (gd ≠ gr ∧ gr ≠ gd) := by rw [hgd, hgr]; exact ⟨by omega, by omega⟩
  clear hgd hgr
  replace hbw := Below.on hbw hb0
  clear hb0
  obtain ⟨W1, hW1⟩ : ∃ W1, W1 = W0.drew := ⟨_, rfl⟩
  have hbd : Below W0.heap.size W0 W1 := by rw [hW1]; exact bDrew1 (Below.refl _ _)
  replace Xd : Hid _ := Xd.out.below hbd
  replace Xr : Hid _ := Xr.out.below hbd
  replace hbw := Below.on hbw hbd
  clear hbd
  have HJ : Hid ((fun W' : World => W'.cell? ⟨gd, 0, none⟩ = some (.bool s) ∧ W'.cell? ⟨gd, 1, none⟩ = some (.slice q m c) ∧ W'.cell? ⟨gd, 2, none⟩ = some (.int .i64 e)) W1) := ⟨Xd.out.c0, Xd.out.c1, Xd.out.c2⟩
  refine wp_region_J (fun W' => W'.cell? ⟨gd, 0, none⟩ = some (.bool s) ∧ W'.cell? ⟨gd, 1, none⟩ = some (.slice q m c) ∧ W'.cell? ⟨gd, 2, none⟩ = some (.int .i64 e)) (by kernel_rfl) ?_
  rw [← hW1]
  clear hW1
  refine wpJ_tq 1 rfl HJ.out ?_
  refine wpJ_tq 2 rfl HJ.out ?_
  refine wpJ_on 0 rfl fun KJ hK => ?_
  go_simp
  refine (way_u _).mono ?_
  rintro e v1 ⟨rfl, hb1⟩
  replace Xd : Hid _ := Xd.out.below hb1
  replace Xr : Hid _ := Xr.out.below hb1
  replace hbw := Below.on hbw hb1
  clear hb1
  refine hK _ _ ⟨Xd.out.c0, Xd.out.c1, Xd.out.c2⟩ ?_
  clear hK
  refine wpJ_on 3 rfl fun KJ hK => ?_
  go_simp
  refine (tgx_wu (H.out.1.below hbw) H.out.2).mono ?_
  rintro e v6 ⟨rfl, hb6⟩
  replace Xd : Hid _ := Xd.out.below hb6
  replace Xr : Hid _ := Xr.out.below hb6
  replace hbw := Below.on hbw hb6
  clear hb6
  clear HJ
  have HJ : Hid ((fun W' : World => W'.cell? ⟨gd, 0, none⟩ = some (.bool s) ∧ W'.cell? ⟨gd, 1, none⟩ = some (.slice q m c) ∧ W'.cell? ⟨gd, 2, none⟩ = some (.int .i64 e)) v6) := ⟨Xd.out.c0, Xd.out.c1, Xd.out.c2⟩
  refine hK _ _ HJ.out ?_
  clear hK
  refine wpJ_tq 4 rfl HJ.out ?_
  refine wpJ_tq 5 rfl HJ.out ?_
  obtain ⟨cr0, cr1, cr2, fr0, fr1, fr2⟩ := Xr.out
  have hner : gr < v6.heap.size := World.block_lt_of_cell? v6 _ cr0
  obtain ⟨cd0, cd1, cd2, fd0, fd1, fd2⟩ := Xd.out
  have hned : gd < v6.heap.size := World.block_lt_of_cell? v6 _ cd0
  obtain ⟨hgd0, hgd1⟩ := HGD.out
  refine wpJ_on 6 rfl fun KJ hK => ?_
  go_simp
  have HJ2 : Hid ((fun W' : World => W'.cell? ⟨gd, 0, none⟩ = some (.bool s) ∧ W'.cell? ⟨gd, 1, none⟩ = some (.slice q m c) ∧ W'.cell? ⟨gd, 2, none⟩ = some (.int .i64 e)) (((v6.setCell ⟨gr, 0, none⟩ (.bool false)).setCell ⟨gr, 1, none⟩ (.slice none 0 0)).setCell ⟨gr, 2, none⟩ (.int .i64 0))) := ⟨by go_simp, by go_simp, by go_simp⟩
  refine hK _ _ HJ2.out ?_
  clear hK HJ
  have HJ := HJ2
  clear HJ2
  refine wpJ_tq 7 rfl HJ.out ?_
  refine wpJ_done (by kernel_rfl) ?_ _
  clear HJ
  go_wp2_with fail
  refine bodyPost_ret (v := .tuple #[DV false none 0 0 0, .int .i64 2]) (by rw [results_cell_tmp rfl]; go_simp) rfl ⟨rfl, ?_⟩
  first | exact hbw | exact bSet (bSet (bSet hbw _ _ _ HGr.out) _ _ _ HGr.out) _ _ _ HGr.out
def GridA (up : Bool) (s : Bool) (xs : List Nat) (e E zo eo er : Int) : Prop :=
  (formD s xs e = false ∧ zo = 0 ∧ eo = 0 ∧ er = 2) ∨
  (formD s xs e = true ∧ (iv s (valB B64 xs) = 0 ∨ E ≤ e) ∧ zo = iv s (valB B64 xs) ∧ eo = e ∧ er = 0) ∨
  (formD s xs e = true ∧ ¬ (iv s (valB B64 xs) = 0 ∨ E ≤ e) ∧ MkR (rd up (iv s (valB B64 xs)) (2 ^ (E - e).toNat)) E zo eo er)
theorem GridA.uniq {up s : Bool} {xs : List Nat} {e P zo eo er zo' eo' er' : Int} (h : GridA up s xs e P zo eo er) (k : GridA up s xs e P zo' eo' er') : zo = zo' ∧ eo = eo' ∧ er = er' := by
  rcases h with ⟨h0, rfl, rfl, rfl⟩ | ⟨h0, h1, rfl, rfl, rfl⟩ | ⟨h0, h1, h⟩ <;> rcases k with ⟨k0, rfl, rfl, rfl⟩ | ⟨k0, k1, rfl, rfl, rfl⟩ | ⟨k0, k1, k⟩
  · exact ⟨rfl, rfl, rfl⟩
  · rw [h0] at k0; cases k0
  · rw [h0] at k0; cases k0
  · rw [h0] at k0; cases k0
  · exact ⟨rfl, rfl, rfl⟩
  · exact absurd h1 k1
  · rw [h0] at k0; cases k0
  · exact absurd k1 h1
  · exact h.uniq k
theorem ddownatA {q : Option Addr} {m c : Nat} {xs : List Nat} {w : World} {e E : Int} (s : Bool) (h : At w q m c xs) (hE : E ≤ 9223372036854775807) (hT : Tab w) :
    Calls Tryz.prog 74 #[DV s q m c e, .int .i64 E] w fun en w' => ∃ zo eo er, SaidD w.heap.size w' en zo eo er ∧ GridA false s xs e E zo eo er ∧ Below w.heap.size w w' := by
  cases hf : formD s xs e
  · exact (atx_wd h hf).mono fun en w' ⟨h2, h3⟩ => ⟨0, 0, 2, h2 ▸ SaidD.err _ _ 2, .inl ⟨hf, rfl, rfl, rfl⟩, h3⟩
  have hd := formD_dn h hf
  by_cases h0 : iv s (valB B64 xs) = 0
  · exact (at_zd hd h0).mono fun en w' ⟨v, h2, h3, h4⟩ => ⟨_, e, 0, h2 ▸ SaidD.ans h3 hd.fm, .inr (.inl ⟨hf, .inl h0, rfl, rfl, rfl⟩), h4⟩
  by_cases h1 : E ≤ e
  · exact (at_cd hd h0 h1).mono fun en w' ⟨v, h2, h3, h4⟩ => ⟨_, e, 0, h2 ▸ SaidD.ans h3 hd.fm, .inr (.inl ⟨hf, .inr h1, rfl, rfl, rfl⟩), h4⟩
  · exact (atx_sd hd h0 ⟨by omega, hE⟩ rfl hT).mono fun en w' ⟨zo, eo, er, h2, h3, h4⟩ => ⟨zo, eo, er, h2, .inr (.inr ⟨hf, fun h => h.elim h0 h1, h3⟩), h4⟩
theorem dupatA {q : Option Addr} {m c : Nat} {xs : List Nat} {w : World} {e E : Int} (s : Bool) (h : At w q m c xs) (hE : E ≤ 9223372036854775807) (hT : Tab w) :
    Calls Tryz.prog 6 #[DV s q m c e, .int .i64 E] w fun en w' => ∃ zo eo er, SaidD w.heap.size w' en zo eo er ∧ GridA true s xs e E zo eo er ∧ Below w.heap.size w w' := by
  cases hf : formD s xs e
  · exact (atx_wu h hf).mono fun en w' ⟨h2, h3⟩ => ⟨0, 0, 2, h2 ▸ SaidD.err _ _ 2, .inl ⟨hf, rfl, rfl, rfl⟩, h3⟩
  have hd := formD_dn h hf
  by_cases h0 : iv s (valB B64 xs) = 0
  · exact (at_zu hd h0).mono fun en w' ⟨v, h2, h3, h4⟩ => ⟨_, e, 0, h2 ▸ SaidD.ans h3 hd.fm, .inr (.inl ⟨hf, .inl h0, rfl, rfl, rfl⟩), h4⟩
  by_cases h1 : E ≤ e
  · exact (at_cu hd h0 h1).mono fun en w' ⟨v, h2, h3, h4⟩ => ⟨_, e, 0, h2 ▸ SaidD.ans h3 hd.fm, .inr (.inl ⟨hf, .inr h1, rfl, rfl, rfl⟩), h4⟩
  · exact (atx_su hd h0 ⟨by omega, hE⟩ rfl hT).mono fun en w' ⟨zo, eo, er, h2, h3, h4⟩ => ⟨zo, eo, er, h2, .inr (.inr ⟨hf, fun h => h.elim h0 h1, h3⟩), h4⟩
end Go.Proofs.YtmolnhpfmgmfgaaGreatDoor
