import Derived.Test.YtmolnhpfmgmfgaaGreatDoorJ16
import Derived.Deep.LoopGhost
import Derived.Test.YtmolnhpfmgmfgaaGreatDoorJ8
namespace Go.Proofs.YtmolnhpfmgmfgaaGreatDoor
open Go.RowKit Go.Shelf
set_option maxRecDepth 20000
set_option maxHeartbeats 0
theorem dn_m0 {w : World} {s : Bool} {p : Option Addr} {m c : Nat} {e z : Int} (h : DN w s p m c e z) (hz : z = 0) : m = 0 := by
  obtain ⟨xs, h1⟩ := h.zn.ex
  have h3 := h1.nf
  rw [hz] at h3
  have h4 : xs = [] := h3.inj B64_one (Nf.nil _)
  rw [← h1.at_.len, h4]
  rfl
theorem grid_wd {q : Option Addr} {m c : Nat} {xs : List Nat} {w : World} {e E : Int} {s : Bool} (h : At w q m c xs) (hf : formD s xs e = false) :
    Calls Tryz.prog 115 #[DV s q m c e, .int .i64 E, .bool false] w fun en w' => en = .returned (.tuple #[DV false none 0 0 0, .int .i64 2]) ∧ Below w.heap.size w w' := by
  have H : Hid (At w q m c xs ∧ formD s xs e = false) := ⟨h, hf⟩
  clear h hf
  go_enter Tryz.func115, Tryz.ntmps115
  go_wp2_with fail
  obtain ⟨W0, hW0⟩ : ∃ W0, W0 = ((w.alloc (.cells #[.bool s, .slice q m c, .int .i64 e] 27)).alloc (.cells #[.bool false, .slice none 0 0, .int .i64 0] 27)) := ⟨_, rfl⟩
  have Xd : Hid (B3q W0 (w.heap.size) (.bool s) (.slice q m c) (.int .i64 e)) := by rw [hW0]; exact ⟨by go_simp, by go_simp, by go_simp, by go_simp, by go_simp, by go_simp⟩
  have Xr : Hid (B3q W0 (w.heap.size + 1) (.bool false) (.slice none 0 0) (.int .i64 0)) := by rw [hW0]; exact ⟨by go_simp, by go_simp, by go_simp, by go_simp, by go_simp, by go_simp⟩
  have hb0 : Below w.heap.size w W0 := by rw [hW0]; exact below2 w _ _
  rw [← hW0]
  clear hW0
  have hbw : Below w.heap.size w w := Below.refl _ _
  obtain ⟨gr, hgr⟩ : ∃ g, g = w.heap.size + 1 := ⟨_, rfl⟩
  have HGr : Hid (w.heap.size ≤ gr) := by rw [hgr]; show _ ≤ _; omega
  rw [← hgr] at Xr
  try rw [← hgr]
  obtain ⟨gd, hgd⟩ : ∃ g, g = w.heap.size := ⟨_, rfl⟩
  have HGd : Hid (w.heap.size ≤ gd) := by rw [hgd]; show _ ≤ _; omega
  rw [← hgd] at Xd
  try rw [← hgd]
  have HGD : Hid (gd ≠ gr ∧ gr ≠ gd) := by rw [hgd, hgr]; exact ⟨by omega, by omega⟩
  clear hgd hgr
  replace hbw := Below.on hbw hb0
  clear hb0
  refine (docformd s (H.out.1.below hbw)).mono ?_
  rintro e v1 ⟨rfl, hb1⟩
  rw [H.out.2]
  replace Xd : Hid _ := Xd.out.below hb1
  replace Xr : Hid _ := Xr.out.below hb1
  replace hbw := Below.on hbw hb1
  clear hb1
  obtain ⟨cr0, cr1, cr2, fr0, fr1, fr2⟩ := Xr.out
  have hner : gr < v1.heap.size := World.block_lt_of_cell? v1 _ cr0
  go_wp2_with fail
  refine bodyPost_ret (v := .tuple #[DV false none 0 0 0, .int .i64 2]) (by rw [results_cell_tmp rfl]; go_simp) rfl ⟨rfl, ?_⟩
  first | exact hbw | exact bSet (bSet (bSet hbw _ _ _ HGr.out) _ _ _ HGr.out) _ _ _ HGr.out
theorem grid_zd {q : Option Addr} {m c : Nat} {xs : List Nat} {w : World} {e E : Int} {s : Bool} (h : At w q m c xs) (hf : formD s xs e = true) (hm : m = 0) :
    Calls Tryz.prog 115 #[DV s q m c e, .int .i64 E, .bool false] w fun en w' => SaidD w.heap.size w' en (iv s (valB B64 xs)) e 0 ∧ Below w.heap.size w w' := by
  have H : Hid (At w q m c xs ∧ formD s xs e = true) := ⟨h, hf⟩
  have HM : Hid (m ≤ 17592186044416 ∧ m = 0) := ⟨by omega, hm⟩
  clear h hf hm
  go_enter Tryz.func115, Tryz.ntmps115
  go_wp2_with fail
  obtain ⟨W0, hW0⟩ : ∃ W0, W0 = ((w.alloc (.cells #[.bool s, .slice q m c, .int .i64 e] 27)).alloc (.cells #[.bool false, .slice none 0 0, .int .i64 0] 27)) := ⟨_, rfl⟩
  have Xd : Hid (B3q W0 (w.heap.size) (.bool s) (.slice q m c) (.int .i64 e)) := by rw [hW0]; exact ⟨by go_simp, by go_simp, by go_simp, by go_simp, by go_simp, by go_simp⟩
  have Xr : Hid (B3q W0 (w.heap.size + 1) (.bool false) (.slice none 0 0) (.int .i64 0)) := by rw [hW0]; exact ⟨by go_simp, by go_simp, by go_simp, by go_simp, by go_simp, by go_simp⟩
  have hb0 : Below w.heap.size w W0 := by rw [hW0]; exact below2 w _ _
  rw [← hW0]
  clear hW0
  have hbw : Below w.heap.size w w := Below.refl _ _
  obtain ⟨gr, hgr⟩ : ∃ g, g = w.heap.size + 1 := ⟨_, rfl⟩
  have HGr : Hid (w.heap.size ≤ gr) := by rw [hgr]; show _ ≤ _; omega
  rw [← hgr] at Xr
  try rw [← hgr]
  obtain ⟨gd, hgd⟩ : ∃ g, g = w.heap.size := ⟨_, rfl⟩
  have HGd : Hid (w.heap.size ≤ gd) := by rw [hgd]; show _ ≤ _; omega
  rw [← hgd] at Xd
  try rw [← hgd]
  have HGD : Hid (gd ≠ gr ∧ gr ≠ gd) := by rw [hgd, hgr]; exact ⟨by omega, by omega⟩
  clear hgd hgr
  replace hbw := Below.on hbw hb0
  clear hb0
  refine (docformd s (H.out.1.below hbw)).mono ?_
  rintro e v1 ⟨rfl, hb1⟩
  rw [H.out.2]
  replace Xd : Hid _ := Xd.out.below hb1
  replace Xr : Hid _ := Xr.out.below hb1
  replace hbw := Below.on hbw hb1
  clear hb1
  obtain ⟨cd0, cd1, cd2, fd0, fd1, fd2⟩ := Xd.out
  have hned : gd < v1.heap.size := World.block_lt_of_cell? v1 _ cd0
  go_wp2_with fail
  clear cd0 cd1 cd2 fd0 fd1 fd2 hned
  refine (nought).mono ?_
  rintro e v2 ⟨rfl, hb2⟩
  rw [decide_eq_true HM.out.2]
  replace Xd : Hid _ := Xd.out.below hb2
  replace Xr : Hid _ := Xr.out.below hb2
  replace hbw := Below.on hbw hb2
  clear hb2
  obtain ⟨cd0, cd1, cd2, fd0, fd1, fd2⟩ := Xd.out
  have hned : gd < v2.heap.size := World.block_lt_of_cell? v2 _ cd0
  go_wp2_with fail
  clear cd0 cd1 cd2 fd0 fd1 fd2 hned
  have HRL : Hid (gr < v2.heap.size ∧ w.heap.size ≤ v2.heap.size) := ⟨Xr.out.lt, hbw.size⟩
  refine (twinD s (H.out.1.below hbw) HM.out.1).mono ?_
  rintro e2 v3 ⟨g3, rfl, hg3, ha3, hb3⟩
  replace Xd : Hid _ := Xd.out.below hb3
  replace Xr : Hid _ := Xr.out.below hb3
  replace hbw := Below.on hbw hb3
  clear hb3
  have Q6 : Hid (DQ v2.heap.size v3 s (some ⟨g3, 0, none⟩) m m e (iv s (valB B64 xs))) := ⟨formD_dn ha3 H.out.2, .inr ⟨g3, rfl, hg3⟩⟩
  clear ha3 hg3
  obtain ⟨cr0, cr1, cr2, fr0, fr1, fr2⟩ := Xr.out
  have hner : gr < v3.heap.size := World.block_lt_of_cell? v3 _ cr0
  go_wp2_with fail
  refine bodyPost_ret (v := .tuple #[DV s (some ⟨g3, 0, none⟩) m m e, .int .i64 0]) (by rw [results_cell_tmp rfl]; go_simp) rfl ⟨⟨s, _, m, m, rfl, Q6.out.set3 HRL.out.1 HRL.out.2 _ _ _⟩, ?_⟩
  exact bSet (bSet (bSet hbw _ _ _ HGr.out) _ _ _ HGr.out) _ _ _ HGr.out
theorem grid_cd {q : Option Addr} {m c : Nat} {xs : List Nat} {w : World} {e E : Int} {s : Bool} (h : At w q m c xs) (hf : formD s xs e = true) (hl : m ≤ 8192) (hm : m ≠ 0) (hE : E ≤ e) :
    Calls Tryz.prog 115 #[DV s q m c e, .int .i64 E, .bool false] w fun en w' => SaidD w.heap.size w' en (iv s (valB B64 xs)) e 0 ∧ Below w.heap.size w w' := by
  have H : Hid (At w q m c xs ∧ formD s xs e = true) := ⟨h, hf⟩
  have HM : Hid (m ≤ 17592186044416 ∧ m ≠ 0) := ⟨by omega, hm⟩
  have f1 : E ≤ e := hE
  clear h hf hm hl hE
  go_enter Tryz.func115, Tryz.ntmps115
  go_wp2_with fail
  obtain ⟨W0, hW0⟩ : ∃ W0, W0 = ((w.alloc (.cells #[.bool s, .slice q m c, .int .i64 e] 27)).alloc (.cells #[.bool false, .slice none 0 0, .int .i64 0] 27)) := ⟨_, rfl⟩
  have Xd : Hid (B3q W0 (w.heap.size) (.bool s) (.slice q m c) (.int .i64 e)) := by rw [hW0]; exact ⟨by go_simp, by go_simp, by go_simp, by go_simp, by go_simp, by go_simp⟩
  have Xr : Hid (B3q W0 (w.heap.size + 1) (.bool false) (.slice none 0 0) (.int .i64 0)) := by rw [hW0]; exact ⟨by go_simp, by go_simp, by go_simp, by go_simp, by go_simp, by go_simp⟩
  have hb0 : Below w.heap.size w W0 := by rw [hW0]; exact below2 w _ _
  rw [← hW0]
  clear hW0
  have hbw : Below w.heap.size w w := Below.refl _ _
  obtain ⟨gr, hgr⟩ : ∃ g, g = w.heap.size + 1 := ⟨_, rfl⟩
  have HGr : Hid (w.heap.size ≤ gr) := by rw [hgr]; show _ ≤ _; omega
  rw [← hgr] at Xr
  try rw [← hgr]
  obtain ⟨gd, hgd⟩ : ∃ g, g = w.heap.size := ⟨_, rfl⟩
  have HGd : Hid (w.heap.size ≤ gd) := by rw [hgd]; show _ ≤ _; omega
  rw [← hgd] at Xd
  try rw [← hgd]
  have HGD : Hid (gd ≠ gr ∧ gr ≠ gd) := by rw [hgd, hgr]; exact ⟨by omega, by omega⟩
  clear hgd hgr
  replace hbw := Below.on hbw hb0
  clear hb0
  refine (docformd s (H.out.1.below hbw)).mono ?_
  rintro e v1 ⟨rfl, hb1⟩
  rw [H.out.2]
  replace Xd : Hid _ := Xd.out.below hb1
  replace Xr : Hid _ := Xr.out.below hb1
  replace hbw := Below.on hbw hb1
  clear hb1
  obtain ⟨cd0, cd1, cd2, fd0, fd1, fd2⟩ := Xd.out
  have hned : gd < v1.heap.size := World.block_lt_of_cell? v1 _ cd0
  go_wp2_with fail
  clear cd0 cd1 cd2 fd0 fd1 fd2 hned
  refine (nought).mono ?_
  rintro e v2 ⟨rfl, hb2⟩
  rw [decide_eq_false HM.out.2]
  replace Xd : Hid _ := Xd.out.below hb2
  replace Xr : Hid _ := Xr.out.below hb2
  replace hbw := Below.on hbw hb2
  clear hb2
  obtain ⟨cd0, cd1, cd2, fd0, fd1, fd2⟩ := Xd.out
  have hned : gd < v2.heap.size := World.block_lt_of_cell? v2 _ cd0
  go_wp2_with fail
  clear cd0 cd1 cd2 fd0 fd1 fd2 hned
  have HRL : Hid (gr < v2.heap.size ∧ w.heap.size ≤ v2.heap.size) := ⟨Xr.out.lt, hbw.size⟩
  refine (twinD s (H.out.1.below hbw) HM.out.1).mono ?_
  rintro e2 v3 ⟨g3, rfl, hg3, ha3, hb3⟩
  replace Xd : Hid _ := Xd.out.below hb3
  replace Xr : Hid _ := Xr.out.below hb3
  replace hbw := Below.on hbw hb3
  clear hb3
  have Q6 : Hid (DQ v2.heap.size v3 s (some ⟨g3, 0, none⟩) m m e (iv s (valB B64 xs))) := ⟨formD_dn ha3 H.out.2, .inr ⟨g3, rfl, hg3⟩⟩
  clear ha3 hg3
  obtain ⟨cr0, cr1, cr2, fr0, fr1, fr2⟩ := Xr.out
  have hner : gr < v3.heap.size := World.block_lt_of_cell? v3 _ cr0
  go_wp2_with fail
  refine bodyPost_ret (v := .tuple #[DV s (some ⟨g3, 0, none⟩) m m e, .int .i64 0]) (by rw [results_cell_tmp rfl]; go_simp) rfl ⟨⟨s, _, m, m, rfl, Q6.out.set3 HRL.out.1 HRL.out.2 _ _ _⟩, ?_⟩
  exact bSet (bSet (bSet hbw _ _ _ HGr.out) _ _ _ HGr.out) _ _ _ HGr.out
theorem grid_nd {q : Option Addr} {m c : Nat} {w : World} {z e E : Int} {s : Bool} (h : DN w s q m c e z) (hm : m ≠ 0) (hE : e < E ∧ E ≤ 9223372036854775807) :
    Calls Tryz.prog 115 #[DV s q m c e, .int .i64 E, .bool false] w fun en w' => ∃ zo eo er, SaidD w.heap.size w' en zo eo er ∧ MkR (rd false z (2 ^ (E - e).toNat)) E zo eo er ∧ Below w.heap.size w w' := by
  have H : Hid (DN w s q m c e z) := h
  have HM : Hid (m ≠ 0) := hm
  have hx := dn_exp7 h
  have hb := (lim_bits z.natAbs).1 h.zn.lim
  obtain ⟨n, hn⟩ : ∃ n : Nat, n = (min E 4194304 - e).toNat := ⟨_, rfl⟩
  have f0 : ¬ E ≤ e := by omega
  have f1 : wrap64 (min E 4194304 - e) = (n : Int) := by simp only [wrap64]; omega
  have HN : Hid (n ≤ 9223372036854775807 ∧ z.natAbs < LIM) := ⟨by omega, h.zn.lim⟩
  have HR : Hid (rd false z (2 ^ n) = rd false z (2 ^ (E - e).toNat)) := by
    show rd false z (2 ^ n) = _
    by_cases h9 : E ≤ 4194304
    · rw [show n = (E - e).toNat from by omega]
    · rw [rd_far false (b := bitsN z.natAbs) (bitsN_lt _) (by omega : bitsN z.natAbs ≤ n)]
      exact (rd_far false (bitsN_lt _) (by omega)).symm
  clear h hm hE hx hb hn
  go_enter Tryz.func115, Tryz.ntmps115
  go_wp2_with fail
  obtain ⟨W0, hW0⟩ : ∃ W0, W0 = ((w.alloc (.cells #[.bool s, .slice q m c, .int .i64 e] 27)).alloc (.cells #[.bool false, .slice none 0 0, .int .i64 0] 27)) := ⟨_, rfl⟩
  have Xd : Hid (B3q W0 (w.heap.size) (.bool s) (.slice q m c) (.int .i64 e)) := by rw [hW0]; exact ⟨by go_simp, by go_simp, by go_simp, by go_simp, by go_simp, by go_simp⟩
  have Xr : Hid (B3q W0 (w.heap.size + 1) (.bool false) (.slice none 0 0) (.int .i64 0)) := by rw [hW0]; exact ⟨by go_simp, by go_simp, by go_simp, by go_simp, by go_simp, by go_simp⟩
  have hb0 : Below w.heap.size w W0 := by rw [hW0]; exact below2 w _ _
  rw [← hW0]
  clear hW0
  have hbw : Below w.heap.size w w := Below.refl _ _
  obtain ⟨gr, hgr⟩ : ∃ g, g = w.heap.size + 1 := ⟨_, rfl⟩
  have HGr : Hid (w.heap.size ≤ gr) := by rw [hgr]; show _ ≤ _; omega
  rw [← hgr] at Xr
  try rw [← hgr]
  obtain ⟨gd, hgd⟩ : ∃ g, g = w.heap.size := ⟨_, rfl⟩
  have HGd : Hid (w.heap.size ≤ gd) := by rw [hgd]; show _ ≤ _; omega
  rw [← hgd] at Xd
  try rw [← hgd]
  have HGD : Hid (gd ≠ gr ∧ gr ≠ gd) := by rw [hgd, hgr]; exact ⟨by omega, by omega⟩
  clear hgd hgr
  replace hbw := Below.on hbw hb0
  clear hb0
  refine (docformT8 (H.out.below hbw)).mono ?_
  rintro e v1 ⟨rfl, hb1⟩
  replace Xd : Hid _ := Xd.out.below hb1
  replace Xr : Hid _ := Xr.out.below hb1
  replace hbw := Below.on hbw hb1
  clear hb1
  obtain ⟨cd0, cd1, cd2, fd0, fd1, fd2⟩ := Xd.out
  have hned : gd < v1.heap.size := World.block_lt_of_cell? v1 _ cd0
  go_wp2_with fail
  clear cd0 cd1 cd2 fd0 fd1 fd2 hned
  refine (nought).mono ?_
  rintro e v2 ⟨rfl, hb2⟩
  rw [decide_eq_false HM.out]
  replace Xd : Hid _ := Xd.out.below hb2
  replace Xr : Hid _ := Xr.out.below hb2
  replace hbw := Below.on hbw hb2
  clear hb2
  obtain ⟨cd0, cd1, cd2, fd0, fd1, fd2⟩ := Xd.out
  have hned : gd < v2.heap.size := World.block_lt_of_cell? v2 _ cd0
  go_wp2_with fail
  clear cd0 cd1 cd2 fd0 fd1 fd2 hned
  refine (rfrom8 (H.out.below hbw)).mono ?_
  rintro e2 v3 ⟨s3, p3, m3, rfl, hz3, hl3, hb3⟩
  replace Xd : Hid _ := Xd.out.below hb3
  replace Xr : Hid _ := Xr.out.below hb3
  replace hbw := Below.on hbw hb3
  clear hb3
  have Z3 : Hid (ZR v3 s3 p3 m3 z) := hz3
  have HL3 : Hid (m3 ≤ 16384) := hl3
  clear hz3 hl3
  go_wp2_with fail
  refine (rwhole_d Z3.out HL3.out HN.out.2 n HN.out.1).mono ?_
  rintro e2 v4 ⟨s4, g4, m4, rfl, hz4, hl4, hb4⟩
  rw [HR.out] at hz4
  replace Xd : Hid _ := Xd.out.below hb4
  replace Xr : Hid _ := Xr.out.below hb4
  replace Z3 : Hid _ := Z3.out.below hb4
  replace hbw := Below.on hbw hb4
  clear hb4
  have Z4 : Hid (ZR v4 s4 (some ⟨g4, 0, none⟩) m4 (rd false z (2 ^ (E - e).toNat))) := hz4
  have HL4 : Hid (m4 ≤ 16384) := hl4
  clear hz4 hl4
  go_wp2_with fail
  have HRL : Hid (gr < v4.heap.size ∧ w.heap.size ≤ v4.heap.size) := ⟨Xr.out.lt, hbw.size⟩
  refine (told_a s4 Z4.out HL4.out).mono ?_
  rintro e2 v6 ⟨zo, eo, er, ⟨s6, p6, m6, c6, rfl, hq6⟩, hr6, hb6⟩
  replace Xd : Hid _ := Xd.out.below hb6
  replace Xr : Hid _ := Xr.out.below hb6
  replace Z3 : Hid _ := Z3.out.below hb6
  replace Z4 : Hid _ := Z4.out.below hb6
  replace hbw := Below.on hbw hb6
  clear hb6
  have Q6 : Hid (DQ v4.heap.size v6 s6 p6 m6 c6 eo zo) := hq6
  have R6 : Hid (MkR (rd false z (2 ^ (E - e).toNat)) E zo eo er) := hr6
  clear hq6 hr6
  obtain ⟨cr0, cr1, cr2, fr0, fr1, fr2⟩ := Xr.out
  have hner : gr < v6.heap.size := World.block_lt_of_cell? v6 _ cr0
  go_wp2_with fail
  refine bodyPost_ret (v := .tuple #[DV s6 p6 m6 c6 eo, .int .i64 er]) (by rw [results_cell_tmp rfl]; go_simp) rfl ⟨zo, eo, er, ⟨s6, p6, m6, c6, rfl, Q6.out.set3 HRL.out.1 HRL.out.2 _ _ _⟩, R6.out, ?_⟩
  exact bSet (bSet (bSet hbw _ _ _ HGr.out) _ _ _ HGr.out) _ _ _ HGr.out
theorem gridA_d {q : Option Addr} {m c : Nat} {xs : List Nat} {w : World} {e E : Int} (s : Bool) (h : At w q m c xs) (hE : E ≤ 9223372036854775807) :
    Calls Tryz.prog 115 #[DV s q m c e, .int .i64 E, .bool false] w fun en w' => ∃ zo eo er, SaidD w.heap.size w' en zo eo er ∧ GridA false s xs e E zo eo er ∧ Below w.heap.size w w' := by
  cases hf : formD s xs e
  · exact (grid_wd h hf).mono fun en w' ⟨h2, h3⟩ => ⟨0, 0, 2, h2 ▸ SaidD.err _ _ 2, .inl ⟨hf, rfl, rfl, rfl⟩, h3⟩
  have hd := formD_dn h hf
  have hl : m ≤ 8192 := by obtain ⟨ys, hY⟩ := hd.zn.ex; exact hY.le
  by_cases hm : m = 0
  · have h0 : iv s (valB B64 xs) = 0 := by
      have : xs = [] := List.length_eq_zero_iff.1 (by rw [h.len]; exact hm)
      subst this
      cases s <;> rfl
    exact (grid_zd h hf hm).mono fun en w' ⟨h2, h3⟩ => ⟨_, e, 0, h2, .inr (.inl ⟨hf, .inl h0, rfl, rfl, rfl⟩), h3⟩
  have h0 : iv s (valB B64 xs) ≠ 0 := fun h0 => by
    rcases hd.fm with ⟨_, _⟩ | ⟨h9, _⟩
    · exact hm (dn_m0 hd h0)
    · omega
  by_cases h1 : E ≤ e
  · exact (grid_cd h hf hl hm h1).mono fun en w' ⟨h2, h3⟩ => ⟨_, e, 0, h2, .inr (.inl ⟨hf, .inr h1, rfl, rfl, rfl⟩), h3⟩
  · exact (grid_nd hd hm ⟨by omega, hE⟩).mono fun en w' ⟨zo, eo, er, h2, h3, h4⟩ => ⟨zo, eo, er, h2, .inr (.inr ⟨hf, fun h => h.elim h0 h1, h3⟩), h4⟩
theorem docgrid_d {q : Option Addr} {m c : Nat} {xs : List Nat} {w : World} {e E : Int} (s : Bool) (h : At w q m c xs) (hE : E ≤ 9223372036854775807) :
    Calls Tryz.prog 84 #[DV s q m c e, .int .i64 E] w fun en w' => ∃ zo eo er, SaidD w.heap.size w' en zo eo er ∧ GridA false s xs e E zo eo er ∧ Below w.heap.size w w' := by
  have H : Hid (At w q m c xs ∧ E ≤ 9223372036854775807) := ⟨h, hE⟩
  clear h hE
  go_enter Tryz.func84, Tryz.ntmps84
  go_wp2_with fail
  obtain ⟨W0, hW0⟩ : ∃ W0, W0 = ((w.alloc (.cells #[.bool s, .slice q m c, .int .i64 e] 27)).alloc (.cells #[.bool false, .slice none 0 0, .int .i64 0] 27)) := ⟨_, rfl⟩
  have Xd : Hid (B3q W0 (w.heap.size) (.bool s) (.slice q m c) (.int .i64 e)) := by rw [hW0]; exact ⟨by go_simp, by go_simp, by go_simp, by go_simp, by go_simp, by go_simp⟩
  have Xr : Hid (B3q W0 (w.heap.size + 1) (.bool false) (.slice none 0 0) (.int .i64 0)) := by rw [hW0]; exact ⟨by go_simp, by go_simp, by go_simp, by go_simp, by go_simp, by go_simp⟩
  have hb0 : Below w.heap.size w W0 := by rw [hW0]; exact below2 w _ _
  rw [← hW0]
  clear hW0
  have hbw : Below w.heap.size w w := Below.refl _ _
  obtain ⟨gr, hgr⟩ : ∃ g, g = w.heap.size + 1 := ⟨_, rfl⟩
  have HGr : Hid (w.heap.size ≤ gr) := by rw [hgr]; show _ ≤ _; omega
  rw [← hgr] at Xr
  try rw [← hgr]
  obtain ⟨gd, hgd⟩ : ∃ g, g = w.heap.size := ⟨_, rfl⟩
  have HGd : Hid (w.heap.size ≤ gd) := by rw [hgd]; show _ ≤ _; omega
  rw [← hgd] at Xd
  try rw [← hgd]
  have HGD : Hid (gd ≠ gr ∧ gr ≠ gd) := by rw [hgd, hgr]; exact ⟨by omega, by omega⟩
  clear hgd hgr
  replace hbw := Below.on hbw hb0
  clear hb0
  obtain ⟨cd0, cd1, cd2, fd0, fd1, fd2⟩ := Xd.out
  have hned : gd < W0.heap.size := World.block_lt_of_cell? W0 _ cd0
  go_wp2_with fail
  clear cd0 cd1 cd2 fd0 fd1 fd2 hned
  have HRL : Hid (gr < W0.heap.size ∧ w.heap.size ≤ W0.heap.size) := ⟨Xr.out.lt, hbw.size⟩
  refine (gridA_d s (H.out.1.below hbw) H.out.2).mono ?_
  rintro e2 v6 ⟨zo, eo, er, ⟨s6, p6, m6, c6, rfl, hq6⟩, hr6, hb6⟩
  replace Xd : Hid _ := Xd.out.below hb6
  replace Xr : Hid _ := Xr.out.below hb6
  replace hbw := Below.on hbw hb6
  clear hb6
  have Q6 : Hid (DQ W0.heap.size v6 s6 p6 m6 c6 eo zo) := hq6
  have R6 : Hid (GridA false s xs e E zo eo er) := hr6
  clear hq6 hr6
  obtain ⟨cr0, cr1, cr2, fr0, fr1, fr2⟩ := Xr.out
  have hner : gr < v6.heap.size := World.block_lt_of_cell? v6 _ cr0
  go_wp2_with fail
  refine bodyPost_ret (v := .tuple #[DV s6 p6 m6 c6 eo, .int .i64 er]) (by rw [results_cell_tmp rfl]; go_simp) rfl ⟨zo, eo, er, ⟨s6, p6, m6, c6, rfl, Q6.out.set3 HRL.out.1 HRL.out.2 _ _ _⟩, R6.out, ?_⟩
  exact bSet (bSet (bSet hbw _ _ _ HGr.out) _ _ _ HGr.out) _ _ _ HGr.out
theorem grid_wu {q : Option Addr} {m c : Nat} {xs : List Nat} {w : World} {e E : Int} {s : Bool} (h : At w q m c xs) (hf : formD s xs e = false) :
    Calls Tryz.prog 115 #[DV s q m c e, .int .i64 E, .bool true] w fun en w' => en = .returned (.tuple #[DV false none 0 0 0, .int .i64 2]) ∧ Below w.heap.size w w' := by
  have H : Hid (At w q m c xs ∧ formD s xs e = false) := ⟨h, hf⟩
  clear h hf
  go_enter Tryz.func115, Tryz.ntmps115
  go_wp2_with fail
  obtain ⟨W0, hW0⟩ : ∃ W0, W0 = ((w.alloc (.cells #[.bool s, .slice q m c, .int .i64 e] 27)).alloc (.cells #[.bool false, .slice none 0 0, .int .i64 0] 27)) := ⟨_, rfl⟩
  have Xd : Hid (B3q W0 (w.heap.size) (.bool s) (.slice q m c) (.int .i64 e)) := by rw [hW0]; exact ⟨by go_simp, by go_simp, by go_simp, by go_simp, by go_simp, by go_simp⟩
  have Xr : Hid (B3q W0 (w.heap.size + 1) (.bool false) (.slice none 0 0) (.int .i64 0)) := by rw [hW0]; exact ⟨by go_simp, by go_simp, by go_simp, by go_simp, by go_simp, by go_simp⟩
  have hb0 : Below w.heap.size w W0 := by rw [hW0]; exact below2 w _ _
  rw [← hW0]
  clear hW0
  have hbw : Below w.heap.size w w := Below.refl _ _
  obtain ⟨gr, hgr⟩ : ∃ g, g = w.heap.size + 1 := ⟨_, rfl⟩
  have HGr : Hid (w.heap.size ≤ gr) := by rw [hgr]; show _ ≤ _; omega
  rw [← hgr] at Xr
  try rw [← hgr]
  obtain ⟨gd, hgd⟩ : ∃ g, g = w.heap.size := ⟨_, rfl⟩
  have HGd : Hid (w.heap.size ≤ gd) := by rw [hgd]; show _ ≤ _; omega
  rw [← hgd] at Xd
  try rw [← hgd]
  have HGD : Hid (gd ≠ gr ∧ gr ≠ gd) := by rw [hgd, hgr]; exact ⟨by omega, by omega⟩
  clear hgd hgr
  replace hbw := Below.on hbw hb0
  clear hb0
  refine (docformd s (H.out.1.below hbw)).mono ?_
  rintro e v1 ⟨rfl, hb1⟩
  rw [H.out.2]
  replace Xd : Hid _ := Xd.out.below hb1
  replace Xr : Hid _ := Xr.out.below hb1
  replace hbw := Below.on hbw hb1
  clear hb1
  obtain ⟨cr0, cr1, cr2, fr0, fr1, fr2⟩ := Xr.out
  have hner : gr < v1.heap.size := World.block_lt_of_cell? v1 _ cr0
  go_wp2_with fail
  refine bodyPost_ret (v := .tuple #[DV false none 0 0 0, .int .i64 2]) (by rw [results_cell_tmp rfl]; go_simp) rfl ⟨rfl, ?_⟩
  first | exact hbw | exact bSet (bSet (bSet hbw _ _ _ HGr.out) _ _ _ HGr.out) _ _ _ HGr.out
theorem grid_zu {q : Option Addr} {m c : Nat} {xs : List Nat} {w : World} {e E : Int} {s : Bool} (h : At w q m c xs) (hf : formD s xs e = true) (hm : m = 0) :
    Calls Tryz.prog 115 #[DV s q m c e, .int .i64 E, .bool true] w fun en w' => SaidD w.heap.size w' en (iv s (valB B64 xs)) e 0 ∧ Below w.heap.size w w' := by
  have H : Hid (At w q m c xs ∧ formD s xs e = true) := ⟨h, hf⟩
  have HM : Hid (m ≤ 17592186044416 ∧ m = 0) := ⟨by omega, hm⟩
  clear h hf hm
  go_enter Tryz.func115, Tryz.ntmps115
  go_wp2_with fail
  obtain ⟨W0, hW0⟩ : ∃ W0, W0 = ((w.alloc (.cells #[.bool s, .slice q m c, .int .i64 e] 27)).alloc (.cells #[.bool false, .slice none 0 0, .int .i64 0] 27)) := ⟨_, rfl⟩
  have Xd : Hid (B3q W0 (w.heap.size) (.bool s) (.slice q m c) (.int .i64 e)) := by rw [hW0]; exact ⟨by go_simp, by go_simp, by go_simp, by go_simp, by go_simp, by go_simp⟩
  have Xr : Hid (B3q W0 (w.heap.size + 1) (.bool false) (.slice none 0 0) (.int .i64 0)) := by rw [hW0]; exact ⟨by go_simp, by go_simp, by go_simp, by go_simp, by go_simp, by go_simp⟩
  have hb0 : Below w.heap.size w W0 := by rw [hW0]; exact below2 w _ _
  rw [← hW0]
  clear hW0
  have hbw : Below w.heap.size w w := Below.refl _ _
  obtain ⟨gr, hgr⟩ : ∃ g, g = w.heap.size + 1 := ⟨_, rfl⟩
  have HGr : Hid (w.heap.size ≤ gr) := by rw [hgr]; show _ ≤ _; omega
  rw [← hgr] at Xr
  try rw [← hgr]
  obtain ⟨gd, hgd⟩ : ∃ g, g = w.heap.size := ⟨_, rfl⟩
  have HGd : Hid (w.heap.size ≤ gd) := by rw [hgd]; show _ ≤ _; omega
  rw [← hgd] at Xd
  try rw [← hgd]
  have HGD : Hid (gd ≠ gr ∧ gr ≠ gd) := by rw [hgd, hgr]; exact ⟨by omega, by omega⟩
  clear hgd hgr
  replace hbw := Below.on hbw hb0
  clear hb0
  refine (docformd s (H.out.1.below hbw)).mono ?_
  rintro e v1 ⟨rfl, hb1⟩
  rw [H.out.2]
  replace Xd : Hid _ := Xd.out.below hb1
  replace Xr : Hid _ := Xr.out.below hb1
  replace hbw := Below.on hbw hb1
  clear hb1
  obtain ⟨cd0, cd1, cd2, fd0, fd1, fd2⟩ := Xd.out
  have hned : gd < v1.heap.size := World.block_lt_of_cell? v1 _ cd0
  go_wp2_with fail
  clear cd0 cd1 cd2 fd0 fd1 fd2 hned
  refine (nought).mono ?_
  rintro e v2 ⟨rfl, hb2⟩
  rw [decide_eq_true HM.out.2]
  replace Xd : Hid _ := Xd.out.below hb2
  replace Xr : Hid _ := Xr.out.below hb2
  replace hbw := Below.on hbw hb2
  clear hb2
  obtain ⟨cd0, cd1, cd2, fd0, fd1, fd2⟩ := Xd.out
  have hned : gd < v2.heap.size := World.block_lt_of_cell? v2 _ cd0
  go_wp2_with fail
  clear cd0 cd1 cd2 fd0 fd1 fd2 hned
  have HRL : Hid (gr < v2.heap.size ∧ w.heap.size ≤ v2.heap.size) := ⟨Xr.out.lt, hbw.size⟩
  refine (twinD s (H.out.1.below hbw) HM.out.1).mono ?_
  rintro e2 v3 ⟨g3, rfl, hg3, ha3, hb3⟩
  replace Xd : Hid _ := Xd.out.below hb3
  replace Xr : Hid _ := Xr.out.below hb3
  replace hbw := Below.on hbw hb3
  clear hb3
  have Q6 : Hid (DQ v2.heap.size v3 s (some ⟨g3, 0, none⟩) m m e (iv s (valB B64 xs))) := ⟨formD_dn ha3 H.out.2, .inr ⟨g3, rfl, hg3⟩⟩
  clear ha3 hg3
  obtain ⟨cr0, cr1, cr2, fr0, fr1, fr2⟩ := Xr.out
  have hner : gr < v3.heap.size := World.block_lt_of_cell? v3 _ cr0
  go_wp2_with fail
  refine bodyPost_ret (v := .tuple #[DV s (some ⟨g3, 0, none⟩) m m e, .int .i64 0]) (by rw [results_cell_tmp rfl]; go_simp) rfl ⟨⟨s, _, m, m, rfl, Q6.out.set3 HRL.out.1 HRL.out.2 _ _ _⟩, ?_⟩
  exact bSet (bSet (bSet hbw _ _ _ HGr.out) _ _ _ HGr.out) _ _ _ HGr.out
theorem grid_cu {q : Option Addr} {m c : Nat} {xs : List Nat} {w : World} {e E : Int} {s : Bool} (h : At w q m c xs) (hf : formD s xs e = true) (hl : m ≤ 8192) (hm : m ≠ 0) (hE : E ≤ e) :
    Calls Tryz.prog 115 #[DV s q m c e, .int .i64 E, .bool true] w fun en w' => SaidD w.heap.size w' en (iv s (valB B64 xs)) e 0 ∧ Below w.heap.size w w' := by
  have H : Hid (At w q m c xs ∧ formD s xs e = true) := ⟨h, hf⟩
  have HM : Hid (m ≤ 17592186044416 ∧ m ≠ 0) := ⟨by omega, hm⟩
  have f1 : E ≤ e := hE
  clear h hf hm hl hE
  go_enter Tryz.func115, Tryz.ntmps115
  go_wp2_with fail
  obtain ⟨W0, hW0⟩ : ∃ W0, W0 = ((w.alloc (.cells #[.bool s, .slice q m c, .int .i64 e] 27)).alloc (.cells #[.bool false, .slice none 0 0, .int .i64 0] 27)) := ⟨_, rfl⟩
  have Xd : Hid (B3q W0 (w.heap.size) (.bool s) (.slice q m c) (.int .i64 e)) := by rw [hW0]; exact ⟨by go_simp, by go_simp, by go_simp, by go_simp, by go_simp, by go_simp⟩
  have Xr : Hid (B3q W0 (w.heap.size + 1) (.bool false) (.slice none 0 0) (.int .i64 0)) := by rw [hW0]; exact ⟨by go_simp, by go_simp, by go_simp, by go_simp, by go_simp, by go_simp⟩
  have hb0 : Below w.heap.size w W0 := by rw [hW0]; exact below2 w _ _
  rw [← hW0]
  clear hW0
  have hbw : Below w.heap.size w w := Below.refl _ _
  obtain ⟨gr, hgr⟩ : ∃ g, g = w.heap.size + 1 := ⟨_, rfl⟩
  have HGr : Hid (w.heap.size ≤ gr) := by rw [hgr]; show _ ≤ _; omega
  rw [← hgr] at Xr
  try rw [← hgr]
  obtain ⟨gd, hgd⟩ : ∃ g, g = w.heap.size := ⟨_, rfl⟩
  have HGd : Hid (w.heap.size ≤ gd) := by rw [hgd]; show _ ≤ _; omega
  rw [← hgd] at Xd
  try rw [← hgd]
  have HGD : Hid (gd ≠ gr ∧ gr ≠ gd) := by rw [hgd, hgr]; exact ⟨by omega, by omega⟩
  clear hgd hgr
  replace hbw := Below.on hbw hb0
  clear hb0
  refine (docformd s (H.out.1.below hbw)).mono ?_
  rintro e v1 ⟨rfl, hb1⟩
  rw [H.out.2]
  replace Xd : Hid _ := Xd.out.below hb1
  replace Xr : Hid _ := Xr.out.below hb1
  replace hbw := Below.on hbw hb1
  clear hb1
  obtain ⟨cd0, cd1, cd2, fd0, fd1, fd2⟩ := Xd.out
  have hned : gd < v1.heap.size := World.block_lt_of_cell? v1 _ cd0
  go_wp2_with fail
  clear cd0 cd1 cd2 fd0 fd1 fd2 hned
  refine (nought).mono ?_
  rintro e v2 ⟨rfl, hb2⟩
  rw [decide_eq_false HM.out.2]
  replace Xd : Hid _ := Xd.out.below hb2
  replace Xr : Hid _ := Xr.out.below hb2
  replace hbw := Below.on hbw hb2
  clear hb2
  obtain ⟨cd0, cd1, cd2, fd0, fd1, fd2⟩ := Xd.out
  have hned : gd < v2.heap.size := World.block_lt_of_cell? v2 _ cd0
  go_wp2_with fail
  clear cd0 cd1 cd2 fd0 fd1 fd2 hned
  have HRL : Hid (gr < v2.heap.size ∧ w.heap.size ≤ v2.heap.size) := ⟨Xr.out.lt, hbw.size⟩
  refine (twinD s (H.out.1.below hbw) HM.out.1).mono ?_
  rintro e2 v3 ⟨g3, rfl, hg3, ha3, hb3⟩
  replace Xd : Hid _ := Xd.out.below hb3
  replace Xr : Hid _ := Xr.out.below hb3
  replace hbw := Below.on hbw hb3
  clear hb3
  have Q6 : Hid (DQ v2.heap.size v3 s (some ⟨g3, 0, none⟩) m m e (iv s (valB B64 xs))) := ⟨formD_dn ha3 H.out.2, .inr ⟨g3, rfl, hg3⟩⟩
  clear ha3 hg3
  obtain ⟨cr0, cr1, cr2, fr0, fr1, fr2⟩ := Xr.out
  have hner : gr < v3.heap.size := World.block_lt_of_cell? v3 _ cr0
  go_wp2_with fail
  refine bodyPost_ret (v := .tuple #[DV s (some ⟨g3, 0, none⟩) m m e, .int .i64 0]) (by rw [results_cell_tmp rfl]; go_simp) rfl ⟨⟨s, _, m, m, rfl, Q6.out.set3 HRL.out.1 HRL.out.2 _ _ _⟩, ?_⟩
  exact bSet (bSet (bSet hbw _ _ _ HGr.out) _ _ _ HGr.out) _ _ _ HGr.out
theorem grid_nu {q : Option Addr} {m c : Nat} {w : World} {z e E : Int} {s : Bool} (h : DN w s q m c e z) (hm : m ≠ 0) (hE : e < E ∧ E ≤ 9223372036854775807) :
    Calls Tryz.prog 115 #[DV s q m c e, .int .i64 E, .bool true] w fun en w' => ∃ zo eo er, SaidD w.heap.size w' en zo eo er ∧ MkR (rd true z (2 ^ (E - e).toNat)) E zo eo er ∧ Below w.heap.size w w' := by
  have H : Hid (DN w s q m c e z) := h
  have HM : Hid (m ≠ 0) := hm
  have hx := dn_exp7 h
  have hb := (lim_bits z.natAbs).1 h.zn.lim
  obtain ⟨n, hn⟩ : ∃ n : Nat, n = (min E 4194304 - e).toNat := ⟨_, rfl⟩
  have f0 : ¬ E ≤ e := by omega
  have f1 : wrap64 (min E 4194304 - e) = (n : Int) := by simp only [wrap64]; omega
  have HN : Hid (n ≤ 9223372036854775807 ∧ z.natAbs < LIM) := ⟨by omega, h.zn.lim⟩
  have HR : Hid (rd true z (2 ^ n) = rd true z (2 ^ (E - e).toNat)) := by
    show rd true z (2 ^ n) = _
    by_cases h9 : E ≤ 4194304
    · rw [show n = (E - e).toNat from by omega]
    · rw [rd_far true (b := bitsN z.natAbs) (bitsN_lt _) (by omega : bitsN z.natAbs ≤ n)]
      exact (rd_far true (bitsN_lt _) (by omega)).symm
  clear h hm hE hx hb hn
  go_enter Tryz.func115, Tryz.ntmps115
  go_wp2_with fail
  obtain ⟨W0, hW0⟩ : ∃ W0, W0 = ((w.alloc (.cells #[.bool s, .slice q m c, .int .i64 e] 27)).alloc (.cells #[.bool false, .slice none 0 0, .int .i64 0] 27)) := ⟨_, rfl⟩
  have Xd : Hid (B3q W0 (w.heap.size) (.bool s) (.slice q m c) (.int .i64 e)) := by rw [hW0]; exact ⟨by go_simp, by go_simp, by go_simp, by go_simp, by go_simp, by go_simp⟩
  have Xr : Hid (B3q W0 (w.heap.size + 1) (.bool false) (.slice none 0 0) (.int .i64 0)) := by rw [hW0]; exact ⟨by go_simp, by go_simp, by go_simp, by go_simp, by go_simp, by go_simp⟩
  have hb0 : Below w.heap.size w W0 := by rw [hW0]; exact below2 w _ _
  rw [← hW0]
  clear hW0
  have hbw : Below w.heap.size w w := Below.refl _ _
  obtain ⟨gr, hgr⟩ : ∃ g, g = w.heap.size + 1 := ⟨_, rfl⟩
  have HGr : Hid (w.heap.size ≤ gr) := by rw [hgr]; show _ ≤ _; omega
  rw [← hgr] at Xr
  try rw [← hgr]
  obtain ⟨gd, hgd⟩ : ∃ g, g = w.heap.size := ⟨_, rfl⟩
  have HGd : Hid (w.heap.size ≤ gd) := by rw [hgd]; show _ ≤ _; omega
  rw [← hgd] at Xd
  try rw [← hgd]
  have HGD : Hid (gd ≠ gr ∧ gr ≠ gd) := by rw [hgd, hgr]; exact ⟨by omega, by omega⟩
  clear hgd hgr
  replace hbw := Below.on hbw hb0
  clear hb0
  refine (docformT8 (H.out.below hbw)).mono ?_
  rintro e v1 ⟨rfl, hb1⟩
  replace Xd : Hid _ := Xd.out.below hb1
  replace Xr : Hid _ := Xr.out.below hb1
  replace hbw := Below.on hbw hb1
  clear hb1
  obtain ⟨cd0, cd1, cd2, fd0, fd1, fd2⟩ := Xd.out
  have hned : gd < v1.heap.size := World.block_lt_of_cell? v1 _ cd0
  go_wp2_with fail
  clear cd0 cd1 cd2 fd0 fd1 fd2 hned
  refine (nought).mono ?_
  rintro e v2 ⟨rfl, hb2⟩
  rw [decide_eq_false HM.out]
  replace Xd : Hid _ := Xd.out.below hb2
  replace Xr : Hid _ := Xr.out.below hb2
  replace hbw := Below.on hbw hb2
  clear hb2
  obtain ⟨cd0, cd1, cd2, fd0, fd1, fd2⟩ := Xd.out
  have hned : gd < v2.heap.size := World.block_lt_of_cell? v2 _ cd0
  go_wp2_with fail
  clear cd0 cd1 cd2 fd0 fd1 fd2 hned
  refine (rfrom8 (H.out.below hbw)).mono ?_
  rintro e2 v3 ⟨s3, p3, m3, rfl, hz3, hl3, hb3⟩
  replace Xd : Hid _ := Xd.out.below hb3
  replace Xr : Hid _ := Xr.out.below hb3
  replace hbw := Below.on hbw hb3
  clear hb3
  have Z3 : Hid (ZR v3 s3 p3 m3 z) := hz3
  have HL3 : Hid (m3 ≤ 16384) := hl3
  clear hz3 hl3
  go_wp2_with fail
  refine (rwhole_u Z3.out HL3.out HN.out.2 n HN.out.1).mono ?_
  rintro e2 v4 ⟨s4, g4, m4, rfl, hz4, hl4, hb4⟩
  rw [HR.out] at hz4
  replace Xd : Hid _ := Xd.out.below hb4
  replace Xr : Hid _ := Xr.out.below hb4
  replace Z3 : Hid _ := Z3.out.below hb4
  replace hbw := Below.on hbw hb4
  clear hb4
  have Z4 : Hid (ZR v4 s4 (some ⟨g4, 0, none⟩) m4 (rd true z (2 ^ (E - e).toNat))) := hz4
  have HL4 : Hid (m4 ≤ 16384) := hl4
  clear hz4 hl4
  go_wp2_with fail
  have HRL : Hid (gr < v4.heap.size ∧ w.heap.size ≤ v4.heap.size) := ⟨Xr.out.lt, hbw.size⟩
  refine (told_a s4 Z4.out HL4.out).mono ?_
  rintro e2 v6 ⟨zo, eo, er, ⟨s6, p6, m6, c6, rfl, hq6⟩, hr6, hb6⟩
  replace Xd : Hid _ := Xd.out.below hb6
  replace Xr : Hid _ := Xr.out.below hb6
  replace Z3 : Hid _ := Z3.out.below hb6
  replace Z4 : Hid _ := Z4.out.below hb6
  replace hbw := Below.on hbw hb6
  clear hb6
  have Q6 : Hid (DQ v4.heap.size v6 s6 p6 m6 c6 eo zo) := hq6
  have R6 : Hid (MkR (rd true z (2 ^ (E - e).toNat)) E zo eo er) := hr6
  clear hq6 hr6
  obtain ⟨cr0, cr1, cr2, fr0, fr1, fr2⟩ := Xr.out
  have hner : gr < v6.heap.size := World.block_lt_of_cell? v6 _ cr0
  go_wp2_with fail
  refine bodyPost_ret (v := .tuple #[DV s6 p6 m6 c6 eo, .int .i64 er]) (by rw [results_cell_tmp rfl]; go_simp) rfl ⟨zo, eo, er, ⟨s6, p6, m6, c6, rfl, Q6.out.set3 HRL.out.1 HRL.out.2 _ _ _⟩, R6.out, ?_⟩
  exact bSet (bSet (bSet hbw _ _ _ HGr.out) _ _ _ HGr.out) _ _ _ HGr.out
theorem gridA_u {q : Option Addr} {m c : Nat} {xs : List Nat} {w : World} {e E : Int} (s : Bool) (h : At w q m c xs) (hE : E ≤ 9223372036854775807) :
    Calls Tryz.prog 115 #[DV s q m c e, .int .i64 E, .bool true] w fun en w' => ∃ zo eo er, SaidD w.heap.size w' en zo eo er ∧ GridA true s xs e E zo eo er ∧ Below w.heap.size w w' := by
  cases hf : formD s xs e
  · exact (grid_wu h hf).mono fun en w' ⟨h2, h3⟩ => ⟨0, 0, 2, h2 ▸ SaidD.err _ _ 2, .inl ⟨hf, rfl, rfl, rfl⟩, h3⟩
  have hd := formD_dn h hf
  have hl : m ≤ 8192 := by obtain ⟨ys, hY⟩ := hd.zn.ex; exact hY.le
  by_cases hm : m = 0
  · have h0 : iv s (valB B64 xs) = 0 := by
      have : xs = [] := List.length_eq_zero_iff.1 (by rw [h.len]; exact hm)
      subst this
      cases s <;> rfl
    exact (grid_zu h hf hm).mono fun en w' ⟨h2, h3⟩ => ⟨_, e, 0, h2, .inr (.inl ⟨hf, .inl h0, rfl, rfl, rfl⟩), h3⟩
  have h0 : iv s (valB B64 xs) ≠ 0 := fun h0 => by
    rcases hd.fm with ⟨_, _⟩ | ⟨h9, _⟩
    · exact hm (dn_m0 hd h0)
    · omega
  by_cases h1 : E ≤ e
  · exact (grid_cu h hf hl hm h1).mono fun en w' ⟨h2, h3⟩ => ⟨_, e, 0, h2, .inr (.inl ⟨hf, .inr h1, rfl, rfl, rfl⟩), h3⟩
  · exact (grid_nu hd hm ⟨by omega, hE⟩).mono fun en w' ⟨zo, eo, er, h2, h3, h4⟩ => ⟨zo, eo, er, h2, .inr (.inr ⟨hf, fun h => h.elim h0 h1, h3⟩), h4⟩
theorem docgrid_u {q : Option Addr} {m c : Nat} {xs : List Nat} {w : World} {e E : Int} (s : Bool) (h : At w q m c xs) (hE : E ≤ 9223372036854775807) :
    Calls Tryz.prog 85 #[DV s q m c e, .int .i64 E] w fun en w' => ∃ zo eo er, SaidD w.heap.size w' en zo eo er ∧ GridA true s xs e E zo eo er ∧ Below w.heap.size w w' := by
  have H : Hid (At w q m c xs ∧ E ≤ 9223372036854775807) := ⟨h, hE⟩
  clear h hE
  go_enter Tryz.func85, Tryz.ntmps85
  go_wp2_with fail
  obtain ⟨W0, hW0⟩ : ∃ W0, W0 = ((w.alloc (.cells #[.bool s, .slice q m c, .int .i64 e] 27)).alloc (.cells #[.bool false, .slice none 0 0, .int .i64 0] 27)) := ⟨_, rfl⟩
  have Xd : Hid (B3q W0 (w.heap.size) (.bool s) (.slice q m c) (.int .i64 e)) := by rw [hW0]; exact ⟨by go_simp, by go_simp, by go_simp, by go_simp, by go_simp, by go_simp⟩
  have Xr : Hid (B3q W0 (w.heap.size + 1) (.bool false) (.slice none 0 0) (.int .i64 0)) := by rw [hW0]; exact ⟨by go_simp, by go_simp, by go_simp, by go_simp, by go_simp, by go_simp⟩
  have hb0 : Below w.heap.size w W0 := by rw [hW0]; exact below2 w _ _
  rw [← hW0]
  clear hW0
  have hbw : Below w.heap.size w w := Below.refl _ _
  obtain ⟨gr, hgr⟩ : ∃ g, g = w.heap.size + 1 := ⟨_, rfl⟩
  have HGr : Hid (w.heap.size ≤ gr) := by rw [hgr]; show _ ≤ _; omega
  rw [← hgr] at Xr
  try rw [← hgr]
  obtain ⟨gd, hgd⟩ : ∃ g, g = w.heap.size := ⟨_, rfl⟩
  have HGd : Hid (w.heap.size ≤ gd) := by rw [hgd]; show _ ≤ _; omega
  rw [← hgd] at Xd
  try rw [← hgd]
  have HGD : Hid (gd ≠ gr ∧ gr ≠ gd) := by rw [hgd, hgr]; exact ⟨by omega, by omega⟩
  clear hgd hgr
  replace hbw := Below.on hbw hb0
  clear hb0
  obtain ⟨cd0, cd1, cd2, fd0, fd1, fd2⟩ := Xd.out
  have hned : gd < W0.heap.size := World.block_lt_of_cell? W0 _ cd0
  go_wp2_with fail
  clear cd0 cd1 cd2 fd0 fd1 fd2 hned
  have HRL : Hid (gr < W0.heap.size ∧ w.heap.size ≤ W0.heap.size) := ⟨Xr.out.lt, hbw.size⟩
  refine (gridA_u s (H.out.1.below hbw) H.out.2).mono ?_
  rintro e2 v6 ⟨zo, eo, er, ⟨s6, p6, m6, c6, rfl, hq6⟩, hr6, hb6⟩
  replace Xd : Hid _ := Xd.out.below hb6
  replace Xr : Hid _ := Xr.out.below hb6
  replace hbw := Below.on hbw hb6
  clear hb6
  have Q6 : Hid (DQ W0.heap.size v6 s6 p6 m6 c6 eo zo) := hq6
  have R6 : Hid (GridA true s xs e E zo eo er) := hr6
  clear hq6 hr6
  obtain ⟨cr0, cr1, cr2, fr0, fr1, fr2⟩ := Xr.out
  have hner : gr < v6.heap.size := World.block_lt_of_cell? v6 _ cr0
  go_wp2_with fail
  refine bodyPost_ret (v := .tuple #[DV s6 p6 m6 c6 eo, .int .i64 er]) (by rw [results_cell_tmp rfl]; go_simp) rfl ⟨zo, eo, er, ⟨s6, p6, m6, c6, rfl, Q6.out.set3 HRL.out.1 HRL.out.2 _ _ _⟩, R6.out, ?_⟩
  exact bSet (bSet (bSet hbw _ _ _ HGr.out) _ _ _ HGr.out) _ _ _ HGr.out
def Play5 (k : Int) : Prop := ∀ (pa pb pm : Option Addr) (na ca nb cb nm cm : Nat) (xa xb xm : List Nat) (w : World) (ea eb nn : Int) (sa sb sm : Bool), At w pa na ca xa → At w pb nb cb xb → At w pm nm cm xm → (na ≤ 17592186044416 ∧ nb ≤ 17592186044416 ∧ nm ≤ 17592186044416 ∧ -9223372036854775808 ≤ nn ∧ nn ≤ 9223372036854775807) → Tab w →
    Calls Tryz.prog 16 #[.agg #[.int .i64 k, .bool sa, .slice pa na ca, .int .i64 ea, .bool sb, .slice pb nb cb, .int .i64 eb, .bool sm, .slice pm nm cm, .int .i64 nn]] w fun e w' => e = .returned (.bool true) ∧ Below w.heap.size w w'

theorem all5 {P : Option Addr} {N C : Nat} {its : List Op10} {w : World} {lo hi : Int} (h : Scr5 w P N C its) (hT : Tab w)
    (hp : ∀ k, lo ≤ k → k ≤ hi → Play5 k) :
    Calls Tryz.prog 8 #[.slice P N C, .int .i64 lo, .int .i64 hi] w fun e w' => e = .returned (.bool true) ∧ Below w.heap.size w w' := by
  have H : Hid (Scr5 w P N C its) := h
  have HP : Hid (∀ k, lo ≤ k → k ≤ hi → Play5 k) := hp
  have HT : Hid (Tab w) := hT
  have HLN : Hid (its.length = N) := h.len
  have cap := h.cap; have big := h.big
  unfold maxLen at big
  clear h hp hT
  go_enter Tryz.func8, Tryz.ntmps8
  go_wp2_with fail
  go_loopg [11] N (fun gg iv wr => ∃ k : Nat, k + gg = N ∧ iv = .int .i64 k ∧ Below w.heap.size w wr)
  case atStart => exact ⟨0, by omega, rfl, Below.refl _ _⟩
  case round =>
    obtain ⟨k, hkg, rfl, hbw⟩ := hrel
    cases gk with
    | zero =>
      obtain rfl : k = N := by omega
      have hnk : ¬ (k : Int) < (k : Int) := by omega
      go_wp2_with fail
      go_ret
      exact ⟨rfl, hbw⟩
    | succ gg =>
      have hki : k < its.length := by rw [HLN.out]; omega
      have HR := H.out.below hbw
      obtain ⟨g, off, rfl, hc⟩ := HR.cells.resolve_left (by omega)
      obtain ⟨e0, e1, e2, e3, e4, e5, e6, e7, e8, e9⟩ := hc k hki
      have HAT : Hid (At wr its[k].pa its[k].na its[k].ca its[k].xa ∧ At wr its[k].pb its[k].nb its[k].cb its[k].xb ∧ At wr its[k].pm its[k].nm its[k].cm its[k].xm ∧ its[k].na ≤ 17592186044416 ∧ its[k].nb ≤ 17592186044416 ∧ its[k].nm ≤ 17592186044416 ∧ -9223372036854775808 ≤ its[k].nn ∧ its[k].nn ≤ 9223372036854775807) := HR.ats its[k] (List.getElem_mem hki)
      have HBW : Hid (Below w.heap.size w wr) := hbw
      have hkk : (k : Int) < (N : Int) := by omega
      have hlt : g < wr.heap.size := World.block_lt_of_cell? wr _ e0
      clear hc HR hbw
      generalize its[k].k = kd at *
      generalize its[k].sa = sa at *
      generalize its[k].pa = pa at *
      generalize its[k].na = na at *
      generalize its[k].ca = ca at *
      generalize its[k].xa = xa at *
      generalize its[k].ea = ea at *
      generalize its[k].sb = sb at *
      generalize its[k].pb = pb at *
      generalize its[k].nb = nb at *
      generalize its[k].cb = cb at *
      generalize its[k].xb = xb at *
      generalize its[k].eb = eb at *
      generalize its[k].sm = sm at *
      generalize its[k].pm = pm at *
      generalize its[k].nm = nm at *
      generalize its[k].cm = cm at *
      generalize its[k].xm = xm at *
      generalize its[k].nn = nn at *
      have hb0 : Below wr.heap.size wr (wr.alloc (.cells #[.int .i64 kd, .bool sa, .slice pa na ca, .int .i64 ea, .bool sb, .slice pb nb cb, .int .i64 eb, .bool sm, .slice pm nm cm, .int .i64 nn] 45)) := below1 wr _
      have HAO : Hid (At (wr.alloc (.cells #[.int .i64 kd, .bool sa, .slice pa na ca, .int .i64 ea, .bool sb, .slice pb nb cb, .int .i64 eb, .bool sm, .slice pm nm cm, .int .i64 nn] 45)) pa na ca xa ∧ At (wr.alloc (.cells #[.int .i64 kd, .bool sa, .slice pa na ca, .int .i64 ea, .bool sb, .slice pb nb cb, .int .i64 eb, .bool sm, .slice pm nm cm, .int .i64 nn] 45)) pb nb cb xb ∧ At (wr.alloc (.cells #[.int .i64 kd, .bool sa, .slice pa na ca, .int .i64 ea, .bool sb, .slice pb nb cb, .int .i64 eb, .bool sm, .slice pm nm cm, .int .i64 nn] 45)) pm nm cm xm ∧ na ≤ 17592186044416 ∧ nb ≤ 17592186044416 ∧ nm ≤ 17592186044416 ∧ -9223372036854775808 ≤ nn ∧ nn ≤ 9223372036854775807) := ⟨HAT.out.1.below hb0, HAT.out.2.1.below hb0, HAT.out.2.2.1.below hb0, HAT.out.2.2.2⟩
      have HBO : Hid (Below w.heap.size w (wr.alloc (.cells #[.int .i64 kd, .bool sa, .slice pa na ca, .int .i64 ea, .bool sb, .slice pb nb cb, .int .i64 eb, .bool sm, .slice pm nm cm, .int .i64 nn] 45))) := Below.on HBW.out hb0
      clear hb0 HAT HBW
      by_cases hlo : lo ≤ kd
      · have hlo2 : ¬ kd < lo := by omega
        by_cases hhi : kd ≤ hi
        · have hhi2 : ¬ hi < kd := by omega
          have HPK : Hid (Play5 kd) := HP.out kd hlo hhi
          go_wp2_with fail
          refine (HPK.out pa pb pm na ca nb cb nm cm xa xb xm _ ea eb nn sa sb sm HAO.out.1 HAO.out.2.1 HAO.out.2.2.1 HAO.out.2.2.2 (HT.out.below HBO.out)).mono ?_
          rintro e wz ⟨rfl, hbq⟩
          have hbz := Below.on HBO.out hbq
          clear hbq e0 e1 e2 e3 e4 e5 e6 e7 e8 e9
          go_wp2_with fail
          go_roundg gg
          case measure => omega
          case rel => exact ⟨k + 1, by omega, by go_num, hbz⟩
        · have hhi2 : hi < kd := by omega
          go_wp2_with fail
          go_roundg gg
          case measure => omega
          case rel => exact ⟨k + 1, by omega, by go_num, HBO.out⟩
      · have hlo2 : kd < lo := by omega
        go_wp2_with fail
        go_roundg gg
        case measure => omega
        case rel => exact ⟨k + 1, by omega, by go_num, HBO.out⟩
theorem answer5_11 {pa pb pm : Option Addr} {na ca nb cb nm cm : Nat} {xa xb xm : List Nat} {w : World} {ea eb nn : Int} (sa sb sm : Bool) (ha : At w pa na ca xa) (hb : At w pb nb cb xb) (hm : At w pm nm cm xm) (hn : na ≤ 17592186044416 ∧ nb ≤ 17592186044416 ∧ nm ≤ 17592186044416 ∧ -9223372036854775808 ≤ nn ∧ nn ≤ 9223372036854775807) (hT : Tab w) :
    Calls Tryz.prog 38 #[(.agg #[.int .i64 11, .bool sa, .slice pa na ca, .int .i64 ea, .bool sb, .slice pb nb cb, .int .i64 eb, .bool sm, .slice pm nm cm, .int .i64 nn])] w fun en w' => ∃ zo eo er, SaidD w.heap.size w' en zo eo er ∧ CutA false sa xa ea nn zo eo er ∧ Below w.heap.size w w' := by
  have HA : Hid (At w pa na ca xa) := ha
  have HB : Hid (At w pb nb cb xb) := hb
  have HM : Hid (At w pm nm cm xm) := hm
  have HN : Hid (na ≤ 17592186044416 ∧ nb ≤ 17592186044416 ∧ nm ≤ 17592186044416 ∧ -9223372036854775808 ≤ nn ∧ nn ≤ 9223372036854775807) := hn
  have TB : Hid (Tab w) := hT
  clear ha hb hm hn hT
  go_enter Tryz.func38, Tryz.ntmps38
  go_wp2_with fail
  obtain ⟨W0, hW0⟩ : ∃ W0, W0 = ((w.alloc (.cells #[.int .i64 11, .bool sa, .slice pa na ca, .int .i64 ea, .bool sb, .slice pb nb cb, .int .i64 eb, .bool sm, .slice pm nm cm, .int .i64 nn] 45)).alloc (.cells #[.bool false, .slice none 0 0, .int .i64 0] 27)) := ⟨_, rfl⟩
  have Xo : Hid (B10q W0 (w.heap.size) (.int .i64 11) (.bool sa) (.slice pa na ca) (.int .i64 ea) (.bool sb) (.slice pb nb cb) (.int .i64 eb) (.bool sm) (.slice pm nm cm) (.int .i64 nn)) := by rw [hW0]; exact ⟨by go_simp, by go_simp, by go_simp, by go_simp, by go_simp, by go_simp, by go_simp, by go_simp, by go_simp, by go_simp, by go_simp, by go_simp, by go_simp, by go_simp, by go_simp, by go_simp, by go_simp, by go_simp, by go_simp, by go_simp⟩
  have Xr : Hid (B3q W0 (w.heap.size + 1) (.bool false) (.slice none 0 0) (.int .i64 0)) := by rw [hW0]; exact ⟨by go_simp, by go_simp, by go_simp, by go_simp, by go_simp, by go_simp⟩
  have hb0 : Below w.heap.size w W0 := by rw [hW0]; exact below2 w _ _
  rw [← hW0]
  clear hW0
  have hbw : Below w.heap.size w w := Below.refl _ _
  obtain ⟨gr, hgr⟩ : ∃ g, g = w.heap.size + 1 := ⟨_, rfl⟩
  have HGr : Hid (w.heap.size ≤ gr) := by rw [hgr]; show _ ≤ _; omega
  rw [← hgr] at Xr
  try rw [← hgr]
  obtain ⟨go, hgo⟩ : ∃ g, g = w.heap.size := ⟨_, rfl⟩
  have HGo : Hid (w.heap.size ≤ go) := by rw [hgo]; show _ ≤ _; omega
  rw [← hgo] at Xo
  try rw [← hgo]
  have HGD : Hid (go ≠ gr ∧ gr ≠ go) := by rw [hgo, hgr]; exact ⟨by omega, by omega⟩
  clear hgo hgr
  replace HA : Hid _ := HA.out.below hb0
  replace HB : Hid _ := HB.out.below hb0
  replace HM : Hid _ := HM.out.below hb0
  replace hbw := Below.on hbw hb0
  clear hb0
  obtain ⟨co0, co1, co2, co3, co4, co5, co6, co7, co8, co9, fo0, fo1, fo2, fo3, fo4, fo5, fo6, fo7, fo8, fo9⟩ := Xo.out
  have hneo : go < W0.heap.size := World.block_lt_of_cell? W0 _ co0
  go_wp2_with fail
  clear co0 co1 co2 co3 co4 co5 co6 co7 co8 co9 fo0 fo1 fo2 fo3 fo4 fo5 fo6 fo7 fo8 fo9 hneo
  have HRL : Hid (gr < W0.heap.size ∧ w.heap.size ≤ W0.heap.size) := ⟨Xr.out.lt, hbw.size⟩
  refine (ddownA sa HA.out (TB.out.below hbw)).mono ?_
  rintro e2 v6 ⟨zo, eo, er, ⟨s6, p6, m6, c6, rfl, hq6⟩, hr6, hb6⟩
  replace Xo : Hid _ := Xo.out.below hb6
  replace Xr : Hid _ := Xr.out.below hb6
  replace HA : Hid _ := HA.out.below hb6
  replace HB : Hid _ := HB.out.below hb6
  replace HM : Hid _ := HM.out.below hb6
  replace hbw := Below.on hbw hb6
  clear hb6
  have Q6 : Hid (DQ W0.heap.size v6 s6 p6 m6 c6 eo zo) := hq6
  have R6 : Hid (CutA false sa xa ea nn zo eo er) := hr6
  clear hq6 hr6
  obtain ⟨cr0, cr1, cr2, fr0, fr1, fr2⟩ := Xr.out
  have hner : gr < v6.heap.size := World.block_lt_of_cell? v6 _ cr0
  go_wp2_with fail
  refine bodyPost_ret (v := .tuple #[DV s6 p6 m6 c6 eo, .int .i64 er]) (by rw [results_cell_tmp rfl]; go_simp) rfl ⟨zo, eo, er, ⟨s6, p6, m6, c6, rfl, Q6.out.set3 HRL.out.1 HRL.out.2 _ _ _⟩, R6.out, ?_⟩
  exact bSet (bSet (bSet hbw _ _ _ HGr.out) _ _ _ HGr.out) _ _ _ HGr.out
theorem doc5_11 {pa pb pm : Option Addr} {na ca nb cb nm cm : Nat} {xa xb xm : List Nat} {w : World} {ea eb nn : Int} (sa sb sm : Bool) (ha : At w pa na ca xa) (hb : At w pb nb cb xb) (hm : At w pm nm cm xm) (hn : na ≤ 17592186044416 ∧ nb ≤ 17592186044416 ∧ nm ≤ 17592186044416 ∧ -9223372036854775808 ≤ nn ∧ nn ≤ 9223372036854775807) (hT : Tab w) :
    Calls Tryz.prog 39 #[(.agg #[.int .i64 11, .bool sa, .slice pa na ca, .int .i64 ea, .bool sb, .slice pb nb cb, .int .i64 eb, .bool sm, .slice pm nm cm, .int .i64 nn])] w fun en w' => ∃ zo eo er, SaidD w.heap.size w' en zo eo er ∧ CutA false sa xa ea nn zo eo er ∧ Below w.heap.size w w' := by
  have HA : Hid (At w pa na ca xa) := ha
  have HB : Hid (At w pb nb cb xb) := hb
  have HM : Hid (At w pm nm cm xm) := hm
  have HN : Hid (na ≤ 17592186044416 ∧ nb ≤ 17592186044416 ∧ nm ≤ 17592186044416 ∧ -9223372036854775808 ≤ nn ∧ nn ≤ 9223372036854775807) := hn
  have TB : Hid (Tab w) := hT
  clear ha hb hm hn hT
  go_enter Tryz.func39, Tryz.ntmps39
  go_wp2_with fail
  obtain ⟨W0, hW0⟩ : ∃ W0, W0 = ((w.alloc (.cells #[.int .i64 11, .bool sa, .slice pa na ca, .int .i64 ea, .bool sb, .slice pb nb cb, .int .i64 eb, .bool sm, .slice pm nm cm, .int .i64 nn] 45)).alloc (.cells #[.bool false, .slice none 0 0, .int .i64 0] 27)) := ⟨_, rfl⟩
  have Xo : Hid (B10q W0 (w.heap.size) (.int .i64 11) (.bool sa) (.slice pa na ca) (.int .i64 ea) (.bool sb) (.slice pb nb cb) (.int .i64 eb) (.bool sm) (.slice pm nm cm) (.int .i64 nn)) := by rw [hW0]; exact ⟨by go_simp, by go_simp, by go_simp, by go_simp, by go_simp, by go_simp, by go_simp, by go_simp, by go_simp, by go_simp, by go_simp, by go_simp, by go_simp, by go_simp, by go_simp, by go_simp, by go_simp, by go_simp, by go_simp, by go_simp⟩
  have Xr : Hid (B3q W0 (w.heap.size + 1) (.bool false) (.slice none 0 0) (.int .i64 0)) := by rw [hW0]; exact ⟨by go_simp, by go_simp, by go_simp, by go_simp, by go_simp, by go_simp⟩
  have hb0 : Below w.heap.size w W0 := by rw [hW0]; exact below2 w _ _
  rw [← hW0]
  clear hW0
  have hbw : Below w.heap.size w w := Below.refl _ _
  obtain ⟨gr, hgr⟩ : ∃ g, g = w.heap.size + 1 := ⟨_, rfl⟩
  have HGr : Hid (w.heap.size ≤ gr) := by rw [hgr]; show _ ≤ _; omega
  rw [← hgr] at Xr
  try rw [← hgr]
  obtain ⟨go, hgo⟩ : ∃ g, g = w.heap.size := ⟨_, rfl⟩
  have HGo : Hid (w.heap.size ≤ go) := by rw [hgo]; show _ ≤ _; omega
  rw [← hgo] at Xo
  try rw [← hgo]
  have HGD : Hid (go ≠ gr ∧ gr ≠ go) := by rw [hgo, hgr]; exact ⟨by omega, by omega⟩
  clear hgo hgr
  replace HA : Hid _ := HA.out.below hb0
  replace HB : Hid _ := HB.out.below hb0
  replace HM : Hid _ := HM.out.below hb0
  replace hbw := Below.on hbw hb0
  clear hb0
  obtain ⟨co0, co1, co2, co3, co4, co5, co6, co7, co8, co9, fo0, fo1, fo2, fo3, fo4, fo5, fo6, fo7, fo8, fo9⟩ := Xo.out
  have hneo : go < W0.heap.size := World.block_lt_of_cell? W0 _ co0
  go_wp2_with fail
  clear co0 co1 co2 co3 co4 co5 co6 co7 co8 co9 fo0 fo1 fo2 fo3 fo4 fo5 fo6 fo7 fo8 fo9 hneo
  have HRL : Hid (gr < W0.heap.size ∧ w.heap.size ≤ W0.heap.size) := ⟨Xr.out.lt, hbw.size⟩
  refine (doccut_d sa HA.out).mono ?_
  rintro e2 v6 ⟨zo, eo, er, ⟨s6, p6, m6, c6, rfl, hq6⟩, hr6, hb6⟩
  replace Xo : Hid _ := Xo.out.below hb6
  replace Xr : Hid _ := Xr.out.below hb6
  replace HA : Hid _ := HA.out.below hb6
  replace HB : Hid _ := HB.out.below hb6
  replace HM : Hid _ := HM.out.below hb6
  replace hbw := Below.on hbw hb6
  clear hb6
  have Q6 : Hid (DQ W0.heap.size v6 s6 p6 m6 c6 eo zo) := hq6
  have R6 : Hid (CutA false sa xa ea nn zo eo er) := hr6
  clear hq6 hr6
  obtain ⟨cr0, cr1, cr2, fr0, fr1, fr2⟩ := Xr.out
  have hner : gr < v6.heap.size := World.block_lt_of_cell? v6 _ cr0
  go_wp2_with fail
  refine bodyPost_ret (v := .tuple #[DV s6 p6 m6 c6 eo, .int .i64 er]) (by rw [results_cell_tmp rfl]; go_simp) rfl ⟨zo, eo, er, ⟨s6, p6, m6, c6, rfl, Q6.out.set3 HRL.out.1 HRL.out.2 _ _ _⟩, R6.out, ?_⟩
  exact bSet (bSet (bSet hbw _ _ _ HGr.out) _ _ _ HGr.out) _ _ _ HGr.out
theorem plays5_11 {pa pb pm : Option Addr} {na ca nb cb nm cm : Nat} {xa xb xm : List Nat} {w : World} {ea eb nn : Int} (sa sb sm : Bool) (ha : At w pa na ca xa) (hb : At w pb nb cb xb) (hm : At w pm nm cm xm) (hn : na ≤ 17592186044416 ∧ nb ≤ 17592186044416 ∧ nm ≤ 17592186044416 ∧ -9223372036854775808 ≤ nn ∧ nn ≤ 9223372036854775807) (hT : Tab w) :
    Calls Tryz.prog 16 #[(.agg #[.int .i64 11, .bool sa, .slice pa na ca, .int .i64 ea, .bool sb, .slice pb nb cb, .int .i64 eb, .bool sm, .slice pm nm cm, .int .i64 nn])] w fun en w' => en = .returned (.bool true) ∧ Below w.heap.size w w' := by
  have HA : Hid (At w pa na ca xa) := ha
  have HB : Hid (At w pb nb cb xb) := hb
  have HM : Hid (At w pm nm cm xm) := hm
  have HN : Hid (na ≤ 17592186044416 ∧ nb ≤ 17592186044416 ∧ nm ≤ 17592186044416 ∧ -9223372036854775808 ≤ nn ∧ nn ≤ 9223372036854775807) := hn
  have TB : Hid (Tab w) := hT
  clear ha hb hm hn hT
  go_enter Tryz.func16, Tryz.ntmps16
  go_wp2_with fail
  obtain ⟨W0, hW0⟩ : ∃ W0, W0 = (w.alloc (.cells #[.int .i64 11, .bool sa, .slice pa na ca, .int .i64 ea, .bool sb, .slice pb nb cb, .int .i64 eb, .bool sm, .slice pm nm cm, .int .i64 nn] 45)) := ⟨_, rfl⟩
  have Xo : Hid (B10q W0 (w.heap.size) (.int .i64 11) (.bool sa) (.slice pa na ca) (.int .i64 ea) (.bool sb) (.slice pb nb cb) (.int .i64 eb) (.bool sm) (.slice pm nm cm) (.int .i64 nn)) := by rw [hW0]; exact ⟨by go_simp, by go_simp, by go_simp, by go_simp, by go_simp, by go_simp, by go_simp, by go_simp, by go_simp, by go_simp, by go_simp, by go_simp, by go_simp, by go_simp, by go_simp, by go_simp, by go_simp, by go_simp, by go_simp, by go_simp⟩
  have hb0 : Below w.heap.size w W0 := by rw [hW0]; exact below1 w _
  rw [← hW0]
  clear hW0
  have hbw : Below w.heap.size w w := Below.refl _ _
  obtain ⟨go, hgo⟩ : ∃ g, g = w.heap.size := ⟨_, rfl⟩
  have HGo : Hid (w.heap.size ≤ go) := by rw [hgo]; show _ ≤ _; omega
  rw [← hgo] at Xo
  try rw [← hgo]
  clear hgo
  replace HA : Hid _ := HA.out.below hb0
  replace HB : Hid _ := HB.out.below hb0
  replace HM : Hid _ := HM.out.below hb0
  replace hbw := Below.on hbw hb0
  clear hb0
  obtain ⟨co0, co1, co2, co3, co4, co5, co6, co7, co8, co9, fo0, fo1, fo2, fo3, fo4, fo5, fo6, fo7, fo8, fo9⟩ := Xo.out
  have hneo : go < W0.heap.size := World.block_lt_of_cell? W0 _ co0
  go_wp2_with fail
  clear co0 co1 co2 co3 co4 co5 co6 co7 co8 co9 fo0 fo1 fo2 fo3 fo4 fo5 fo6 fo7 fo8 fo9 hneo
  refine (twinO sa sb sm HA.out HB.out HM.out ⟨HN.out.1, HN.out.2.1, HN.out.2.2.1⟩).mono ?_
  rintro e2 v1 ⟨qa, qb, qm, rfl, ha1, hb1, hm1, hbb1⟩
  replace Xo : Hid _ := Xo.out.below hbb1
  replace HA : Hid _ := HA.out.below hbb1
  replace HB : Hid _ := HB.out.below hbb1
  replace HM : Hid _ := HM.out.below hbb1
  replace hbw := Below.on hbw hbb1
  clear hbb1
  have TA : Hid (At v1 qa na na xa) := ha1
  have TC : Hid (At v1 qb nb nb xb) := hb1
  have TM : Hid (At v1 qm nm nm xm) := hm1
  clear ha1 hb1 hm1
  obtain ⟨co0, co1, co2, co3, co4, co5, co6, co7, co8, co9, fo0, fo1, fo2, fo3, fo4, fo5, fo6, fo7, fo8, fo9⟩ := Xo.out
  have hneo : go < v1.heap.size := World.block_lt_of_cell? v1 _ co0
  go_wp2_with fail
  clear co0 co1 co2 co3 co4 co5 co6 co7 co8 co9 fo0 fo1 fo2 fo3 fo4 fo5 fo6 fo7 fo8 fo9 hneo
  have Xt0 : Hid (B10q (v1.alloc (.cells #[.int .i64 11, .bool sa, .slice qa na na, .int .i64 ea, .bool sb, .slice qb nb nb, .int .i64 eb, .bool sm, .slice qm nm nm, .int .i64 nn] 45)) v1.heap.size (.int .i64 11) (.bool sa) (.slice qa na na) (.int .i64 ea) (.bool sb) (.slice qb nb nb) (.int .i64 eb) (.bool sm) (.slice qm nm nm) (.int .i64 nn)) := B10q.new v1 _ _ _ _ _ _ _ _ _ _ _
  have hbn : Below v1.heap.size v1 (v1.alloc (.cells #[.int .i64 11, .bool sa, .slice qa na na, .int .i64 ea, .bool sb, .slice qb nb nb, .int .i64 eb, .bool sm, .slice qm nm nm, .int .i64 nn] 45)) := below1 v1 _
  generalize v1.alloc (.cells #[.int .i64 11, .bool sa, .slice qa na na, .int .i64 ea, .bool sb, .slice qb nb nb, .int .i64 eb, .bool sm, .slice qm nm nm, .int .i64 nn] 45) = Wt at *
  have HGt : Hid (w.heap.size ≤ v1.heap.size) := hbw.size
  replace Xo : Hid _ := Xo.out.below hbn
  replace HA : Hid _ := HA.out.below hbn
  replace HB : Hid _ := HB.out.below hbn
  replace HM : Hid _ := HM.out.below hbn
  replace TA : Hid _ := TA.out.below hbn
  replace TC : Hid _ := TC.out.below hbn
  replace TM : Hid _ := TM.out.below hbn
  replace hbw := Below.on hbw hbn
  clear hbn
  generalize v1.heap.size = gt at *
  have Xt := Xt0
  clear Xt0
  refine (answer5_11 sa sb sm TA.out TC.out TM.out HN.out (TB.out.below hbw)).mono ?_
  rintro e2 v2 ⟨z2, e2x, r2, ⟨s2, p2, m2, c2, rfl, hq2⟩, hr2, hb2⟩
  replace Xo : Hid _ := Xo.out.below hb2
  replace Xt : Hid _ := Xt.out.below hb2
  replace HA : Hid _ := HA.out.below hb2
  replace HB : Hid _ := HB.out.below hb2
  replace HM : Hid _ := HM.out.below hb2
  replace TA : Hid _ := TA.out.below hb2
  replace TC : Hid _ := TC.out.below hb2
  replace TM : Hid _ := TM.out.below hb2
  replace hbw := Below.on hbw hb2
  clear hb2
  have D2 : Hid (DN v2 s2 p2 m2 c2 e2x z2) := hq2.dn
  have R2 : Hid (CutA false sa xa ea nn z2 e2x r2) := hr2
  clear hq2 hr2
  obtain ⟨co0, co1, co2, co3, co4, co5, co6, co7, co8, co9, fo0, fo1, fo2, fo3, fo4, fo5, fo6, fo7, fo8, fo9⟩ := Xo.out
  have hneo : go < v2.heap.size := World.block_lt_of_cell? v2 _ co0
  go_wp2_with fail
  clear co0 co1 co2 co3 co4 co5 co6 co7 co8 co9 fo0 fo1 fo2 fo3 fo4 fo5 fo6 fo7 fo8 fo9 hneo
  have Xa0 : Hid (B3q (v2.alloc (.cells #[.bool s2, .slice p2 m2 c2, .int .i64 e2x] 27)) v2.heap.size (.bool s2) (.slice p2 m2 c2) (.int .i64 e2x)) := B3q.new v2 _ _ _ _
  have hbn : Below v2.heap.size v2 (v2.alloc (.cells #[.bool s2, .slice p2 m2 c2, .int .i64 e2x] 27)) := below1 v2 _
  generalize v2.alloc (.cells #[.bool s2, .slice p2 m2 c2, .int .i64 e2x] 27) = Wa at *
  have HGa : Hid (w.heap.size ≤ v2.heap.size) := hbw.size
  replace Xo : Hid _ := Xo.out.below hbn
  replace Xt : Hid _ := Xt.out.below hbn
  replace HA : Hid _ := HA.out.below hbn
  replace HB : Hid _ := HB.out.below hbn
  replace HM : Hid _ := HM.out.below hbn
  replace TA : Hid _ := TA.out.below hbn
  replace TC : Hid _ := TC.out.below hbn
  replace TM : Hid _ := TM.out.below hbn
  replace D2 : Hid _ := D2.out.below hbn
  replace hbw := Below.on hbw hbn
  clear hbn
  generalize v2.heap.size = ga at *
  have Xa := Xa0
  clear Xa0
  clear TA
  clear TC
  clear TM
  clear Xt
  refine (doc5_11 sa sb sm HA.out HB.out HM.out HN.out (TB.out.below hbw)).mono ?_
  rintro e3 v3 ⟨z3, e3x, r3, ⟨s3, p3, m3, c3, rfl, hq3⟩, hr3, hb3⟩
  replace Xo : Hid _ := Xo.out.below hb3
  replace Xa : Hid _ := Xa.out.below hb3
  replace HA : Hid _ := HA.out.below hb3
  replace HB : Hid _ := HB.out.below hb3
  replace HM : Hid _ := HM.out.below hb3
  replace D2 : Hid _ := D2.out.below hb3
  replace hbw := Below.on hbw hb3
  clear hb3
  have D3 : Hid (DN v3 s3 p3 m3 c3 e3x z3) := hq3.dn
  obtain ⟨rfl, rfl, rfl⟩ := CutA.uniq R2.out hr3
  clear hq3 hr3 R2
  obtain ⟨ca0, ca1, ca2, fa0, fa1, fa2⟩ := Xa.out
  have hnea : ga < v3.heap.size := World.block_lt_of_cell? v3 _ ca0
  go_wp2_with fail
  clear ca0 ca1 ca2 fa0 fa1 fa2 hnea
  have Xb0 : Hid (B3q (v3.alloc (.cells #[.bool s3, .slice p3 m3 c3, .int .i64 e2x] 27)) v3.heap.size (.bool s3) (.slice p3 m3 c3) (.int .i64 e2x)) := B3q.new v3 _ _ _ _
  have hbn : Below v3.heap.size v3 (v3.alloc (.cells #[.bool s3, .slice p3 m3 c3, .int .i64 e2x] 27)) := below1 v3 _
  generalize v3.alloc (.cells #[.bool s3, .slice p3 m3 c3, .int .i64 e2x] 27) = Wb at *
  have HGb : Hid (w.heap.size ≤ v3.heap.size) := hbw.size
  replace Xo : Hid _ := Xo.out.below hbn
  replace Xa : Hid _ := Xa.out.below hbn
  replace HA : Hid _ := HA.out.below hbn
  replace HB : Hid _ := HB.out.below hbn
  replace HM : Hid _ := HM.out.below hbn
  replace D2 : Hid _ := D2.out.below hbn
  replace D3 : Hid _ := D3.out.below hbn
  replace hbw := Below.on hbw hbn
  clear hbn
  generalize v3.heap.size = gb at *
  have Xb := Xb0
  clear Xb0
  clear HA
  clear HB
  clear HM
  clear Xo
  refine (told5e r2 D2.out D3.out).mono ?_
  rintro e v9 ⟨rfl, hb9⟩
  replace Xa : Hid _ := Xa.out.below hb9
  replace Xb : Hid _ := Xb.out.below hb9
  replace D2 : Hid _ := D2.out.below hb9
  replace D3 : Hid _ := D3.out.below hb9
  replace hbw := Below.on hbw hb9
  clear hb9
  go_wp2_with fail
  go_ret
  exact ⟨rfl, hbw⟩
theorem answer5_12 {pa pb pm : Option Addr} {na ca nb cb nm cm : Nat} {xa xb xm : List Nat} {w : World} {ea eb nn : Int} (sa sb sm : Bool) (ha : At w pa na ca xa) (hb : At w pb nb cb xb) (hm : At w pm nm cm xm) (hn : na ≤ 17592186044416 ∧ nb ≤ 17592186044416 ∧ nm ≤ 17592186044416 ∧ -9223372036854775808 ≤ nn ∧ nn ≤ 9223372036854775807) (hT : Tab w) :
    Calls Tryz.prog 38 #[(.agg #[.int .i64 12, .bool sa, .slice pa na ca, .int .i64 ea, .bool sb, .slice pb nb cb, .int .i64 eb, .bool sm, .slice pm nm cm, .int .i64 nn])] w fun en w' => ∃ zo eo er, SaidD w.heap.size w' en zo eo er ∧ CutA true sa xa ea nn zo eo er ∧ Below w.heap.size w w' := by
  have HA : Hid (At w pa na ca xa) := ha
  have HB : Hid (At w pb nb cb xb) := hb
  have HM : Hid (At w pm nm cm xm) := hm
  have HN : Hid (na ≤ 17592186044416 ∧ nb ≤ 17592186044416 ∧ nm ≤ 17592186044416 ∧ -9223372036854775808 ≤ nn ∧ nn ≤ 9223372036854775807) := hn
  have TB : Hid (Tab w) := hT
  clear ha hb hm hn hT
  go_enter Tryz.func38, Tryz.ntmps38
  go_wp2_with fail
  obtain ⟨W0, hW0⟩ : ∃ W0, W0 = ((w.alloc (.cells #[.int .i64 12, .bool sa, .slice pa na ca, .int .i64 ea, .bool sb, .slice pb nb cb, .int .i64 eb, .bool sm, .slice pm nm cm, .int .i64 nn] 45)).alloc (.cells #[.bool false, .slice none 0 0, .int .i64 0] 27)) := ⟨_, rfl⟩
  have Xo : Hid (B10q W0 (w.heap.size) (.int .i64 12) (.bool sa) (.slice pa na ca) (.int .i64 ea) (.bool sb) (.slice pb nb cb) (.int .i64 eb) (.bool sm) (.slice pm nm cm) (.int .i64 nn)) := by rw [hW0]; exact ⟨by go_simp, by go_simp, by go_simp, by go_simp, by go_simp, by go_simp, by go_simp, by go_simp, by go_simp, by go_simp, by go_simp, by go_simp, by go_simp, by go_simp, by go_simp, by go_simp, by go_simp, by go_simp, by go_simp, by go_simp⟩
  have Xr : Hid (B3q W0 (w.heap.size + 1) (.bool false) (.slice none 0 0) (.int .i64 0)) := by rw [hW0]; exact ⟨by go_simp, by go_simp, by go_simp, by go_simp, by go_simp, by go_simp⟩
  have hb0 : Below w.heap.size w W0 := by rw [hW0]; exact below2 w _ _
  rw [← hW0]
  clear hW0
  have hbw : Below w.heap.size w w := Below.refl _ _
  obtain ⟨gr, hgr⟩ : ∃ g, g = w.heap.size + 1 := ⟨_, rfl⟩
  have HGr : Hid (w.heap.size ≤ gr) := by rw [hgr]; show _ ≤ _; omega
  rw [← hgr] at Xr
  try rw [← hgr]
  obtain ⟨go, hgo⟩ : ∃ g, g = w.heap.size := ⟨_, rfl⟩
  have HGo : Hid (w.heap.size ≤ go) := by rw [hgo]; show _ ≤ _; omega
  rw [← hgo] at Xo
  try rw [← hgo]
  have HGD : Hid (go ≠ gr ∧ gr ≠ go) := by rw [hgo, hgr]; exact ⟨by omega, by omega⟩
  clear hgo hgr
  replace HA : Hid _ := HA.out.below hb0
  replace HB : Hid _ := HB.out.below hb0
  replace HM : Hid _ := HM.out.below hb0
  replace hbw := Below.on hbw hb0
  clear hb0
  obtain ⟨co0, co1, co2, co3, co4, co5, co6, co7, co8, co9, fo0, fo1, fo2, fo3, fo4, fo5, fo6, fo7, fo8, fo9⟩ := Xo.out
  have hneo : go < W0.heap.size := World.block_lt_of_cell? W0 _ co0
  go_wp2_with fail
  clear co0 co1 co2 co3 co4 co5 co6 co7 co8 co9 fo0 fo1 fo2 fo3 fo4 fo5 fo6 fo7 fo8 fo9 hneo
  have HRL : Hid (gr < W0.heap.size ∧ w.heap.size ≤ W0.heap.size) := ⟨Xr.out.lt, hbw.size⟩
  refine (dupA sa HA.out (TB.out.below hbw)).mono ?_
  rintro e2 v6 ⟨zo, eo, er, ⟨s6, p6, m6, c6, rfl, hq6⟩, hr6, hb6⟩
  replace Xo : Hid _ := Xo.out.below hb6
  replace Xr : Hid _ := Xr.out.below hb6
  replace HA : Hid _ := HA.out.below hb6
  replace HB : Hid _ := HB.out.below hb6
  replace HM : Hid _ := HM.out.below hb6
  replace hbw := Below.on hbw hb6
  clear hb6
  have Q6 : Hid (DQ W0.heap.size v6 s6 p6 m6 c6 eo zo) := hq6
  have R6 : Hid (CutA true sa xa ea nn zo eo er) := hr6
  clear hq6 hr6
  obtain ⟨cr0, cr1, cr2, fr0, fr1, fr2⟩ := Xr.out
  have hner : gr < v6.heap.size := World.block_lt_of_cell? v6 _ cr0
  go_wp2_with fail
  refine bodyPost_ret (v := .tuple #[DV s6 p6 m6 c6 eo, .int .i64 er]) (by rw [results_cell_tmp rfl]; go_simp) rfl ⟨zo, eo, er, ⟨s6, p6, m6, c6, rfl, Q6.out.set3 HRL.out.1 HRL.out.2 _ _ _⟩, R6.out, ?_⟩
  exact bSet (bSet (bSet hbw _ _ _ HGr.out) _ _ _ HGr.out) _ _ _ HGr.out
theorem doc5_12 {pa pb pm : Option Addr} {na ca nb cb nm cm : Nat} {xa xb xm : List Nat} {w : World} {ea eb nn : Int} (sa sb sm : Bool) (ha : At w pa na ca xa) (hb : At w pb nb cb xb) (hm : At w pm nm cm xm) (hn : na ≤ 17592186044416 ∧ nb ≤ 17592186044416 ∧ nm ≤ 17592186044416 ∧ -9223372036854775808 ≤ nn ∧ nn ≤ 9223372036854775807) (hT : Tab w) :
    Calls Tryz.prog 39 #[(.agg #[.int .i64 12, .bool sa, .slice pa na ca, .int .i64 ea, .bool sb, .slice pb nb cb, .int .i64 eb, .bool sm, .slice pm nm cm, .int .i64 nn])] w fun en w' => ∃ zo eo er, SaidD w.heap.size w' en zo eo er ∧ CutA true sa xa ea nn zo eo er ∧ Below w.heap.size w w' := by
  have HA : Hid (At w pa na ca xa) := ha
  have HB : Hid (At w pb nb cb xb) := hb
  have HM : Hid (At w pm nm cm xm) := hm
  have HN : Hid (na ≤ 17592186044416 ∧ nb ≤ 17592186044416 ∧ nm ≤ 17592186044416 ∧ -9223372036854775808 ≤ nn ∧ nn ≤ 9223372036854775807) := hn
  have TB : Hid (Tab w) := hT
  clear ha hb hm hn hT
  go_enter Tryz.func39, Tryz.ntmps39
  go_wp2_with fail
  obtain ⟨W0, hW0⟩ : ∃ W0, W0 = ((w.alloc (.cells #[.int .i64 12, .bool sa, .slice pa na ca, .int .i64 ea, .bool sb, .slice pb nb cb, .int .i64 eb, .bool sm, .slice pm nm cm, .int .i64 nn] 45)).alloc (.cells #[.bool false, .slice none 0 0, .int .i64 0] 27)) := ⟨_, rfl⟩
  have Xo : Hid (B10q W0 (w.heap.size) (.int .i64 12) (.bool sa) (.slice pa na ca) (.int .i64 ea) (.bool sb) (.slice pb nb cb) (.int .i64 eb) (.bool sm) (.slice pm nm cm) (.int .i64 nn)) := by rw [hW0]; exact ⟨by go_simp, by go_simp, by go_simp, by go_simp, by go_simp, by go_simp, by go_simp, by go_simp, by go_simp, by go_simp, by go_simp, by go_simp, by go_simp, by go_simp, by go_simp, by go_simp, by go_simp, by go_simp, by go_simp, by go_simp⟩
  have Xr : Hid (B3q W0 (w.heap.size + 1) (.bool false) (.slice none 0 0) (.int .i64 0)) := by rw [hW0]; exact ⟨by go_simp, by go_simp, by go_simp, by go_simp, by go_simp, by go_simp⟩
  have hb0 : Below w.heap.size w W0 := by rw [hW0]; exact below2 w _ _
  rw [← hW0]
  clear hW0
  have hbw : Below w.heap.size w w := Below.refl _ _
  obtain ⟨gr, hgr⟩ : ∃ g, g = w.heap.size + 1 := ⟨_, rfl⟩
  have HGr : Hid (w.heap.size ≤ gr) := by rw [hgr]; show _ ≤ _; omega
  rw [← hgr] at Xr
  try rw [← hgr]
  obtain ⟨go, hgo⟩ : ∃ g, g = w.heap.size := ⟨_, rfl⟩
  have HGo : Hid (w.heap.size ≤ go) := by rw [hgo]; show _ ≤ _; omega
  rw [← hgo] at Xo
  try rw [← hgo]
  have HGD : Hid (go ≠ gr ∧ gr ≠ go) := by rw [hgo, hgr]; exact ⟨by omega, by omega⟩
  clear hgo hgr
  replace HA : Hid _ := HA.out.below hb0
  replace HB : Hid _ := HB.out.below hb0
  replace HM : Hid _ := HM.out.below hb0
  replace hbw := Below.on hbw hb0
  clear hb0
  obtain ⟨co0, co1, co2, co3, co4, co5, co6, co7, co8, co9, fo0, fo1, fo2, fo3, fo4, fo5, fo6, fo7, fo8, fo9⟩ := Xo.out
  have hneo : go < W0.heap.size := World.block_lt_of_cell? W0 _ co0
  go_wp2_with fail
  clear co0 co1 co2 co3 co4 co5 co6 co7 co8 co9 fo0 fo1 fo2 fo3 fo4 fo5 fo6 fo7 fo8 fo9 hneo
  have HRL : Hid (gr < W0.heap.size ∧ w.heap.size ≤ W0.heap.size) := ⟨Xr.out.lt, hbw.size⟩
  refine (doccut_u sa HA.out).mono ?_
  rintro e2 v6 ⟨zo, eo, er, ⟨s6, p6, m6, c6, rfl, hq6⟩, hr6, hb6⟩
  replace Xo : Hid _ := Xo.out.below hb6
  replace Xr : Hid _ := Xr.out.below hb6
  replace HA : Hid _ := HA.out.below hb6
  replace HB : Hid _ := HB.out.below hb6
  replace HM : Hid _ := HM.out.below hb6
  replace hbw := Below.on hbw hb6
  clear hb6
  have Q6 : Hid (DQ W0.heap.size v6 s6 p6 m6 c6 eo zo) := hq6
  have R6 : Hid (CutA true sa xa ea nn zo eo er) := hr6
  clear hq6 hr6
  obtain ⟨cr0, cr1, cr2, fr0, fr1, fr2⟩ := Xr.out
  have hner : gr < v6.heap.size := World.block_lt_of_cell? v6 _ cr0
  go_wp2_with fail
  refine bodyPost_ret (v := .tuple #[DV s6 p6 m6 c6 eo, .int .i64 er]) (by rw [results_cell_tmp rfl]; go_simp) rfl ⟨zo, eo, er, ⟨s6, p6, m6, c6, rfl, Q6.out.set3 HRL.out.1 HRL.out.2 _ _ _⟩, R6.out, ?_⟩
  exact bSet (bSet (bSet hbw _ _ _ HGr.out) _ _ _ HGr.out) _ _ _ HGr.out
theorem plays5_12 {pa pb pm : Option Addr} {na ca nb cb nm cm : Nat} {xa xb xm : List Nat} {w : World} {ea eb nn : Int} (sa sb sm : Bool) (ha : At w pa na ca xa) (hb : At w pb nb cb xb) (hm : At w pm nm cm xm) (hn : na ≤ 17592186044416 ∧ nb ≤ 17592186044416 ∧ nm ≤ 17592186044416 ∧ -9223372036854775808 ≤ nn ∧ nn ≤ 9223372036854775807) (hT : Tab w) :
    Calls Tryz.prog 16 #[(.agg #[.int .i64 12, .bool sa, .slice pa na ca, .int .i64 ea, .bool sb, .slice pb nb cb, .int .i64 eb, .bool sm, .slice pm nm cm, .int .i64 nn])] w fun en w' => en = .returned (.bool true) ∧ Below w.heap.size w w' := by
  have HA : Hid (At w pa na ca xa) := ha
  have HB : Hid (At w pb nb cb xb) := hb
  have HM : Hid (At w pm nm cm xm) := hm
  have HN : Hid (na ≤ 17592186044416 ∧ nb ≤ 17592186044416 ∧ nm ≤ 17592186044416 ∧ -9223372036854775808 ≤ nn ∧ nn ≤ 9223372036854775807) := hn
  have TB : Hid (Tab w) := hT
  clear ha hb hm hn hT
  go_enter Tryz.func16, Tryz.ntmps16
  go_wp2_with fail
  obtain ⟨W0, hW0⟩ : ∃ W0, W0 = (w.alloc (.cells #[.int .i64 12, .bool sa, .slice pa na ca, .int .i64 ea, .bool sb, .slice pb nb cb, .int .i64 eb, .bool sm, .slice pm nm cm, .int .i64 nn] 45)) := ⟨_, rfl⟩
  have Xo : Hid (B10q W0 (w.heap.size) (.int .i64 12) (.bool sa) (.slice pa na ca) (.int .i64 ea) (.bool sb) (.slice pb nb cb) (.int .i64 eb) (.bool sm) (.slice pm nm cm) (.int .i64 nn)) := by rw [hW0]; exact ⟨by go_simp, by go_simp, by go_simp, by go_simp, by go_simp, by go_simp, by go_simp, by go_simp, by go_simp, by go_simp, by go_simp, by go_simp, by go_simp, by go_simp, by go_simp, by go_simp, by go_simp, by go_simp, by go_simp, by go_simp⟩
  have hb0 : Below w.heap.size w W0 := by rw [hW0]; exact below1 w _
  rw [← hW0]
  clear hW0
  have hbw : Below w.heap.size w w := Below.refl _ _
  obtain ⟨go, hgo⟩ : ∃ g, g = w.heap.size := ⟨_, rfl⟩
  have HGo : Hid (w.heap.size ≤ go) := by rw [hgo]; show _ ≤ _; omega
  rw [← hgo] at Xo
  try rw [← hgo]
  clear hgo
  replace HA : Hid _ := HA.out.below hb0
  replace HB : Hid _ := HB.out.below hb0
  replace HM : Hid _ := HM.out.below hb0
  replace hbw := Below.on hbw hb0
  clear hb0
  obtain ⟨co0, co1, co2, co3, co4, co5, co6, co7, co8, co9, fo0, fo1, fo2, fo3, fo4, fo5, fo6, fo7, fo8, fo9⟩ := Xo.out
  have hneo : go < W0.heap.size := World.block_lt_of_cell? W0 _ co0
  go_wp2_with fail
  clear co0 co1 co2 co3 co4 co5 co6 co7 co8 co9 fo0 fo1 fo2 fo3 fo4 fo5 fo6 fo7 fo8 fo9 hneo
  refine (twinO sa sb sm HA.out HB.out HM.out ⟨HN.out.1, HN.out.2.1, HN.out.2.2.1⟩).mono ?_
  rintro e2 v1 ⟨qa, qb, qm, rfl, ha1, hb1, hm1, hbb1⟩
  replace Xo : Hid _ := Xo.out.below hbb1
  replace HA : Hid _ := HA.out.below hbb1
  replace HB : Hid _ := HB.out.below hbb1
  replace HM : Hid _ := HM.out.below hbb1
  replace hbw := Below.on hbw hbb1
  clear hbb1
  have TA : Hid (At v1 qa na na xa) := ha1
  have TC : Hid (At v1 qb nb nb xb) := hb1
  have TM : Hid (At v1 qm nm nm xm) := hm1
  clear ha1 hb1 hm1
  obtain ⟨co0, co1, co2, co3, co4, co5, co6, co7, co8, co9, fo0, fo1, fo2, fo3, fo4, fo5, fo6, fo7, fo8, fo9⟩ := Xo.out
  have hneo : go < v1.heap.size := World.block_lt_of_cell? v1 _ co0
  go_wp2_with fail
  clear co0 co1 co2 co3 co4 co5 co6 co7 co8 co9 fo0 fo1 fo2 fo3 fo4 fo5 fo6 fo7 fo8 fo9 hneo
  have Xt0 : Hid (B10q (v1.alloc (.cells #[.int .i64 12, .bool sa, .slice qa na na, .int .i64 ea, .bool sb, .slice qb nb nb, .int .i64 eb, .bool sm, .slice qm nm nm, .int .i64 nn] 45)) v1.heap.size (.int .i64 12) (.bool sa) (.slice qa na na) (.int .i64 ea) (.bool sb) (.slice qb nb nb) (.int .i64 eb) (.bool sm) (.slice qm nm nm) (.int .i64 nn)) := B10q.new v1 _ _ _ _ _ _ _ _ _ _ _
  have hbn : Below v1.heap.size v1 (v1.alloc (.cells #[.int .i64 12, .bool sa, .slice qa na na, .int .i64 ea, .bool sb, .slice qb nb nb, .int .i64 eb, .bool sm, .slice qm nm nm, .int .i64 nn] 45)) := below1 v1 _
  generalize v1.alloc (.cells #[.int .i64 12, .bool sa, .slice qa na na, .int .i64 ea, .bool sb, .slice qb nb nb, .int .i64 eb, .bool sm, .slice qm nm nm, .int .i64 nn] 45) = Wt at *
  have HGt : Hid (w.heap.size ≤ v1.heap.size) := hbw.size
  replace Xo : Hid _ := Xo.out.below hbn
  replace HA : Hid _ := HA.out.below hbn
  replace HB : Hid _ := HB.out.below hbn
  replace HM : Hid _ := HM.out.below hbn
  replace TA : Hid _ := TA.out.below hbn
  replace TC : Hid _ := TC.out.below hbn
  replace TM : Hid _ := TM.out.below hbn
  replace hbw := Below.on hbw hbn
  clear hbn
  generalize v1.heap.size = gt at *
  have Xt := Xt0
  clear Xt0
  refine (answer5_12 sa sb sm TA.out TC.out TM.out HN.out (TB.out.below hbw)).mono ?_
  rintro e2 v2 ⟨z2, e2x, r2, ⟨s2, p2, m2, c2, rfl, hq2⟩, hr2, hb2⟩
  replace Xo : Hid _ := Xo.out.below hb2
  replace Xt : Hid _ := Xt.out.below hb2
  replace HA : Hid _ := HA.out.below hb2
  replace HB : Hid _ := HB.out.below hb2
  replace HM : Hid _ := HM.out.below hb2
  replace TA : Hid _ := TA.out.below hb2
  replace TC : Hid _ := TC.out.below hb2
  replace TM : Hid _ := TM.out.below hb2
  replace hbw := Below.on hbw hb2
  clear hb2
  have D2 : Hid (DN v2 s2 p2 m2 c2 e2x z2) := hq2.dn
  have R2 : Hid (CutA true sa xa ea nn z2 e2x r2) := hr2
  clear hq2 hr2
  obtain ⟨co0, co1, co2, co3, co4, co5, co6, co7, co8, co9, fo0, fo1, fo2, fo3, fo4, fo5, fo6, fo7, fo8, fo9⟩ := Xo.out
  have hneo : go < v2.heap.size := World.block_lt_of_cell? v2 _ co0
  go_wp2_with fail
  clear co0 co1 co2 co3 co4 co5 co6 co7 co8 co9 fo0 fo1 fo2 fo3 fo4 fo5 fo6 fo7 fo8 fo9 hneo
  have Xa0 : Hid (B3q (v2.alloc (.cells #[.bool s2, .slice p2 m2 c2, .int .i64 e2x] 27)) v2.heap.size (.bool s2) (.slice p2 m2 c2) (.int .i64 e2x)) := B3q.new v2 _ _ _ _
  have hbn : Below v2.heap.size v2 (v2.alloc (.cells #[.bool s2, .slice p2 m2 c2, .int .i64 e2x] 27)) := below1 v2 _
  generalize v2.alloc (.cells #[.bool s2, .slice p2 m2 c2, .int .i64 e2x] 27) = Wa at *
  have HGa : Hid (w.heap.size ≤ v2.heap.size) := hbw.size
  replace Xo : Hid _ := Xo.out.below hbn
  replace Xt : Hid _ := Xt.out.below hbn
  replace HA : Hid _ := HA.out.below hbn
  replace HB : Hid _ := HB.out.below hbn
  replace HM : Hid _ := HM.out.below hbn
  replace TA : Hid _ := TA.out.below hbn
  replace TC : Hid _ := TC.out.below hbn
  replace TM : Hid _ := TM.out.below hbn
  replace D2 : Hid _ := D2.out.below hbn
  replace hbw := Below.on hbw hbn
  clear hbn
  generalize v2.heap.size = ga at *
  have Xa := Xa0
  clear Xa0
  clear TA
  clear TC
  clear TM
  clear Xt
  refine (doc5_12 sa sb sm HA.out HB.out HM.out HN.out (TB.out.below hbw)).mono ?_
  rintro e3 v3 ⟨z3, e3x, r3, ⟨s3, p3, m3, c3, rfl, hq3⟩, hr3, hb3⟩
  replace Xo : Hid _ := Xo.out.below hb3
  replace Xa : Hid _ := Xa.out.below hb3
  replace HA : Hid _ := HA.out.below hb3
  replace HB : Hid _ := HB.out.below hb3
  replace HM : Hid _ := HM.out.below hb3
  replace D2 : Hid _ := D2.out.below hb3
  replace hbw := Below.on hbw hb3
  clear hb3
  have D3 : Hid (DN v3 s3 p3 m3 c3 e3x z3) := hq3.dn
  obtain ⟨rfl, rfl, rfl⟩ := CutA.uniq R2.out hr3
  clear hq3 hr3 R2
  obtain ⟨ca0, ca1, ca2, fa0, fa1, fa2⟩ := Xa.out
  have hnea : ga < v3.heap.size := World.block_lt_of_cell? v3 _ ca0
  go_wp2_with fail
  clear ca0 ca1 ca2 fa0 fa1 fa2 hnea
  have Xb0 : Hid (B3q (v3.alloc (.cells #[.bool s3, .slice p3 m3 c3, .int .i64 e2x] 27)) v3.heap.size (.bool s3) (.slice p3 m3 c3) (.int .i64 e2x)) := B3q.new v3 _ _ _ _
  have hbn : Below v3.heap.size v3 (v3.alloc (.cells #[.bool s3, .slice p3 m3 c3, .int .i64 e2x] 27)) := below1 v3 _
  generalize v3.alloc (.cells #[.bool s3, .slice p3 m3 c3, .int .i64 e2x] 27) = Wb at *
  have HGb : Hid (w.heap.size ≤ v3.heap.size) := hbw.size
  replace Xo : Hid _ := Xo.out.below hbn
  replace Xa : Hid _ := Xa.out.below hbn
  replace HA : Hid _ := HA.out.below hbn
  replace HB : Hid _ := HB.out.below hbn
  replace HM : Hid _ := HM.out.below hbn
  replace D2 : Hid _ := D2.out.below hbn
  replace D3 : Hid _ := D3.out.below hbn
  replace hbw := Below.on hbw hbn
  clear hbn
  generalize v3.heap.size = gb at *
  have Xb := Xb0
  clear Xb0
  clear HA
  clear HB
  clear HM
  clear Xo
  refine (told5e r2 D2.out D3.out).mono ?_
  rintro e v9 ⟨rfl, hb9⟩
  replace Xa : Hid _ := Xa.out.below hb9
  replace Xb : Hid _ := Xb.out.below hb9
  replace D2 : Hid _ := D2.out.below hb9
  replace D3 : Hid _ := D3.out.below hb9
  replace hbw := Below.on hbw hb9
  clear hb9
  go_wp2_with fail
  go_ret
  exact ⟨rfl, hbw⟩
theorem answer5_13 {pa pb pm : Option Addr} {na ca nb cb nm cm : Nat} {xa xb xm : List Nat} {w : World} {ea eb nn : Int} (sa sb sm : Bool) (ha : At w pa na ca xa) (hb : At w pb nb cb xb) (hm : At w pm nm cm xm) (hn : na ≤ 17592186044416 ∧ nb ≤ 17592186044416 ∧ nm ≤ 17592186044416 ∧ -9223372036854775808 ≤ nn ∧ nn ≤ 9223372036854775807) (hT : Tab w) :
    Calls Tryz.prog 38 #[(.agg #[.int .i64 13, .bool sa, .slice pa na ca, .int .i64 ea, .bool sb, .slice pb nb cb, .int .i64 eb, .bool sm, .slice pm nm cm, .int .i64 nn])] w fun en w' => ∃ zo eo er, SaidD w.heap.size w' en zo eo er ∧ GridA false sa xa ea nn zo eo er ∧ Below w.heap.size w w' := by
  have HA : Hid (At w pa na ca xa) := ha
  have HB : Hid (At w pb nb cb xb) := hb
  have HM : Hid (At w pm nm cm xm) := hm
  have HN : Hid (na ≤ 17592186044416 ∧ nb ≤ 17592186044416 ∧ nm ≤ 17592186044416 ∧ -9223372036854775808 ≤ nn ∧ nn ≤ 9223372036854775807) := hn
  have TB : Hid (Tab w) := hT
  clear ha hb hm hn hT
  go_enter Tryz.func38, Tryz.ntmps38
  go_wp2_with fail
  obtain ⟨W0, hW0⟩ : ∃ W0, W0 = ((w.alloc (.cells #[.int .i64 13, .bool sa, .slice pa na ca, .int .i64 ea, .bool sb, .slice pb nb cb, .int .i64 eb, .bool sm, .slice pm nm cm, .int .i64 nn] 45)).alloc (.cells #[.bool false, .slice none 0 0, .int .i64 0] 27)) := ⟨_, rfl⟩
  have Xo : Hid (B10q W0 (w.heap.size) (.int .i64 13) (.bool sa) (.slice pa na ca) (.int .i64 ea) (.bool sb) (.slice pb nb cb) (.int .i64 eb) (.bool sm) (.slice pm nm cm) (.int .i64 nn)) := by rw [hW0]; exact ⟨by go_simp, by go_simp, by go_simp, by go_simp, by go_simp, by go_simp, by go_simp, by go_simp, by go_simp, by go_simp, by go_simp, by go_simp, by go_simp, by go_simp, by go_simp, by go_simp, by go_simp, by go_simp, by go_simp, by go_simp⟩
  have Xr : Hid (B3q W0 (w.heap.size + 1) (.bool false) (.slice none 0 0) (.int .i64 0)) := by rw [hW0]; exact ⟨by go_simp, by go_simp, by go_simp, by go_simp, by go_simp, by go_simp⟩
  have hb0 : Below w.heap.size w W0 := by rw [hW0]; exact below2 w _ _
  rw [← hW0]
  clear hW0
  have hbw : Below w.heap.size w w := Below.refl _ _
  obtain ⟨gr, hgr⟩ : ∃ g, g = w.heap.size + 1 := ⟨_, rfl⟩
  have HGr : Hid (w.heap.size ≤ gr) := by rw [hgr]; show _ ≤ _; omega
  rw [← hgr] at Xr
  try rw [← hgr]
  obtain ⟨go, hgo⟩ : ∃ g, g = w.heap.size := ⟨_, rfl⟩
  have HGo : Hid (w.heap.size ≤ go) := by rw [hgo]; show _ ≤ _; omega
  rw [← hgo] at Xo
  try rw [← hgo]
  have HGD : Hid (go ≠ gr ∧ gr ≠ go) := by rw [hgo, hgr]; exact ⟨by omega, by omega⟩
  clear hgo hgr
  replace HA : Hid _ := HA.out.below hb0
  replace HB : Hid _ := HB.out.below hb0
  replace HM : Hid _ := HM.out.below hb0
  replace hbw := Below.on hbw hb0
  clear hb0
  obtain ⟨co0, co1, co2, co3, co4, co5, co6, co7, co8, co9, fo0, fo1, fo2, fo3, fo4, fo5, fo6, fo7, fo8, fo9⟩ := Xo.out
  have hneo : go < W0.heap.size := World.block_lt_of_cell? W0 _ co0
  go_wp2_with fail
  clear co0 co1 co2 co3 co4 co5 co6 co7 co8 co9 fo0 fo1 fo2 fo3 fo4 fo5 fo6 fo7 fo8 fo9 hneo
  have HRL : Hid (gr < W0.heap.size ∧ w.heap.size ≤ W0.heap.size) := ⟨Xr.out.lt, hbw.size⟩
  refine (ddownatA sa HA.out HN.out.2.2.2.2 (TB.out.below hbw)).mono ?_
  rintro e2 v6 ⟨zo, eo, er, ⟨s6, p6, m6, c6, rfl, hq6⟩, hr6, hb6⟩
  replace Xo : Hid _ := Xo.out.below hb6
  replace Xr : Hid _ := Xr.out.below hb6
  replace HA : Hid _ := HA.out.below hb6
  replace HB : Hid _ := HB.out.below hb6
  replace HM : Hid _ := HM.out.below hb6
  replace hbw := Below.on hbw hb6
  clear hb6
  have Q6 : Hid (DQ W0.heap.size v6 s6 p6 m6 c6 eo zo) := hq6
  have R6 : Hid (GridA false sa xa ea nn zo eo er) := hr6
  clear hq6 hr6
  obtain ⟨cr0, cr1, cr2, fr0, fr1, fr2⟩ := Xr.out
  have hner : gr < v6.heap.size := World.block_lt_of_cell? v6 _ cr0
  go_wp2_with fail
  refine bodyPost_ret (v := .tuple #[DV s6 p6 m6 c6 eo, .int .i64 er]) (by rw [results_cell_tmp rfl]; go_simp) rfl ⟨zo, eo, er, ⟨s6, p6, m6, c6, rfl, Q6.out.set3 HRL.out.1 HRL.out.2 _ _ _⟩, R6.out, ?_⟩
  exact bSet (bSet (bSet hbw _ _ _ HGr.out) _ _ _ HGr.out) _ _ _ HGr.out
theorem doc5_13 {pa pb pm : Option Addr} {na ca nb cb nm cm : Nat} {xa xb xm : List Nat} {w : World} {ea eb nn : Int} (sa sb sm : Bool) (ha : At w pa na ca xa) (hb : At w pb nb cb xb) (hm : At w pm nm cm xm) (hn : na ≤ 17592186044416 ∧ nb ≤ 17592186044416 ∧ nm ≤ 17592186044416 ∧ -9223372036854775808 ≤ nn ∧ nn ≤ 9223372036854775807) (hT : Tab w) :
    Calls Tryz.prog 39 #[(.agg #[.int .i64 13, .bool sa, .slice pa na ca, .int .i64 ea, .bool sb, .slice pb nb cb, .int .i64 eb, .bool sm, .slice pm nm cm, .int .i64 nn])] w fun en w' => ∃ zo eo er, SaidD w.heap.size w' en zo eo er ∧ GridA false sa xa ea nn zo eo er ∧ Below w.heap.size w w' := by
  have HA : Hid (At w pa na ca xa) := ha
  have HB : Hid (At w pb nb cb xb) := hb
  have HM : Hid (At w pm nm cm xm) := hm
  have HN : Hid (na ≤ 17592186044416 ∧ nb ≤ 17592186044416 ∧ nm ≤ 17592186044416 ∧ -9223372036854775808 ≤ nn ∧ nn ≤ 9223372036854775807) := hn
  have TB : Hid (Tab w) := hT
  clear ha hb hm hn hT
  go_enter Tryz.func39, Tryz.ntmps39
  go_wp2_with fail
  obtain ⟨W0, hW0⟩ : ∃ W0, W0 = ((w.alloc (.cells #[.int .i64 13, .bool sa, .slice pa na ca, .int .i64 ea, .bool sb, .slice pb nb cb, .int .i64 eb, .bool sm, .slice pm nm cm, .int .i64 nn] 45)).alloc (.cells #[.bool false, .slice none 0 0, .int .i64 0] 27)) := ⟨_, rfl⟩
  have Xo : Hid (B10q W0 (w.heap.size) (.int .i64 13) (.bool sa) (.slice pa na ca) (.int .i64 ea) (.bool sb) (.slice pb nb cb) (.int .i64 eb) (.bool sm) (.slice pm nm cm) (.int .i64 nn)) := by rw [hW0]; exact ⟨by go_simp, by go_simp, by go_simp, by go_simp, by go_simp, by go_simp, by go_simp, by go_simp, by go_simp, by go_simp, by go_simp, by go_simp, by go_simp, by go_simp, by go_simp, by go_simp, by go_simp, by go_simp, by go_simp, by go_simp⟩
  have Xr : Hid (B3q W0 (w.heap.size + 1) (.bool false) (.slice none 0 0) (.int .i64 0)) := by rw [hW0]; exact ⟨by go_simp, by go_simp, by go_simp, by go_simp, by go_simp, by go_simp⟩
  have hb0 : Below w.heap.size w W0 := by rw [hW0]; exact below2 w _ _
  rw [← hW0]
  clear hW0
  have hbw : Below w.heap.size w w := Below.refl _ _
  obtain ⟨gr, hgr⟩ : ∃ g, g = w.heap.size + 1 := ⟨_, rfl⟩
  have HGr : Hid (w.heap.size ≤ gr) := by rw [hgr]; show _ ≤ _; omega
  rw [← hgr] at Xr
  try rw [← hgr]
  obtain ⟨go, hgo⟩ : ∃ g, g = w.heap.size := ⟨_, rfl⟩
  have HGo : Hid (w.heap.size ≤ go) := by rw [hgo]; show _ ≤ _; omega
  rw [← hgo] at Xo
  try rw [← hgo]
  have HGD : Hid (go ≠ gr ∧ gr ≠ go) := by rw [hgo, hgr]; exact ⟨by omega, by omega⟩
  clear hgo hgr
  replace HA : Hid _ := HA.out.below hb0
  replace HB : Hid _ := HB.out.below hb0
  replace HM : Hid _ := HM.out.below hb0
  replace hbw := Below.on hbw hb0
  clear hb0
  obtain ⟨co0, co1, co2, co3, co4, co5, co6, co7, co8, co9, fo0, fo1, fo2, fo3, fo4, fo5, fo6, fo7, fo8, fo9⟩ := Xo.out
  have hneo : go < W0.heap.size := World.block_lt_of_cell? W0 _ co0
  go_wp2_with fail
  clear co0 co1 co2 co3 co4 co5 co6 co7 co8 co9 fo0 fo1 fo2 fo3 fo4 fo5 fo6 fo7 fo8 fo9 hneo
  have HRL : Hid (gr < W0.heap.size ∧ w.heap.size ≤ W0.heap.size) := ⟨Xr.out.lt, hbw.size⟩
  refine (docgrid_d sa HA.out HN.out.2.2.2.2).mono ?_
  rintro e2 v6 ⟨zo, eo, er, ⟨s6, p6, m6, c6, rfl, hq6⟩, hr6, hb6⟩
  replace Xo : Hid _ := Xo.out.below hb6
  replace Xr : Hid _ := Xr.out.below hb6
  replace HA : Hid _ := HA.out.below hb6
  replace HB : Hid _ := HB.out.below hb6
  replace HM : Hid _ := HM.out.below hb6
  replace hbw := Below.on hbw hb6
  clear hb6
  have Q6 : Hid (DQ W0.heap.size v6 s6 p6 m6 c6 eo zo) := hq6
  have R6 : Hid (GridA false sa xa ea nn zo eo er) := hr6
  clear hq6 hr6
  obtain ⟨cr0, cr1, cr2, fr0, fr1, fr2⟩ := Xr.out
  have hner : gr < v6.heap.size := World.block_lt_of_cell? v6 _ cr0
  go_wp2_with fail
  refine bodyPost_ret (v := .tuple #[DV s6 p6 m6 c6 eo, .int .i64 er]) (by rw [results_cell_tmp rfl]; go_simp) rfl ⟨zo, eo, er, ⟨s6, p6, m6, c6, rfl, Q6.out.set3 HRL.out.1 HRL.out.2 _ _ _⟩, R6.out, ?_⟩
  exact bSet (bSet (bSet hbw _ _ _ HGr.out) _ _ _ HGr.out) _ _ _ HGr.out
theorem plays5_13 {pa pb pm : Option Addr} {na ca nb cb nm cm : Nat} {xa xb xm : List Nat} {w : World} {ea eb nn : Int} (sa sb sm : Bool) (ha : At w pa na ca xa) (hb : At w pb nb cb xb) (hm : At w pm nm cm xm) (hn : na ≤ 17592186044416 ∧ nb ≤ 17592186044416 ∧ nm ≤ 17592186044416 ∧ -9223372036854775808 ≤ nn ∧ nn ≤ 9223372036854775807) (hT : Tab w) :
    Calls Tryz.prog 16 #[(.agg #[.int .i64 13, .bool sa, .slice pa na ca, .int .i64 ea, .bool sb, .slice pb nb cb, .int .i64 eb, .bool sm, .slice pm nm cm, .int .i64 nn])] w fun en w' => en = .returned (.bool true) ∧ Below w.heap.size w w' := by
  have HA : Hid (At w pa na ca xa) := ha
  have HB : Hid (At w pb nb cb xb) := hb
  have HM : Hid (At w pm nm cm xm) := hm
  have HN : Hid (na ≤ 17592186044416 ∧ nb ≤ 17592186044416 ∧ nm ≤ 17592186044416 ∧ -9223372036854775808 ≤ nn ∧ nn ≤ 9223372036854775807) := hn
  have TB : Hid (Tab w) := hT
  clear ha hb hm hn hT
  go_enter Tryz.func16, Tryz.ntmps16
  go_wp2_with fail
  obtain ⟨W0, hW0⟩ : ∃ W0, W0 = (w.alloc (.cells #[.int .i64 13, .bool sa, .slice pa na ca, .int .i64 ea, .bool sb, .slice pb nb cb, .int .i64 eb, .bool sm, .slice pm nm cm, .int .i64 nn] 45)) := ⟨_, rfl⟩
  have Xo : Hid (B10q W0 (w.heap.size) (.int .i64 13) (.bool sa) (.slice pa na ca) (.int .i64 ea) (.bool sb) (.slice pb nb cb) (.int .i64 eb) (.bool sm) (.slice pm nm cm) (.int .i64 nn)) := by rw [hW0]; exact ⟨by go_simp, by go_simp, by go_simp, by go_simp, by go_simp, by go_simp, by go_simp, by go_simp, by go_simp, by go_simp, by go_simp, by go_simp, by go_simp, by go_simp, by go_simp, by go_simp, by go_simp, by go_simp, by go_simp, by go_simp⟩
  have hb0 : Below w.heap.size w W0 := by rw [hW0]; exact below1 w _
  rw [← hW0]
  clear hW0
  have hbw : Below w.heap.size w w := Below.refl _ _
  obtain ⟨go, hgo⟩ : ∃ g, g = w.heap.size := ⟨_, rfl⟩
  have HGo : Hid (w.heap.size ≤ go) := by rw [hgo]; show _ ≤ _; omega
  rw [← hgo] at Xo
  try rw [← hgo]
  clear hgo
  replace HA : Hid _ := HA.out.below hb0
  replace HB : Hid _ := HB.out.below hb0
  replace HM : Hid _ := HM.out.below hb0
  replace hbw := Below.on hbw hb0
  clear hb0
  obtain ⟨co0, co1, co2, co3, co4, co5, co6, co7, co8, co9, fo0, fo1, fo2, fo3, fo4, fo5, fo6, fo7, fo8, fo9⟩ := Xo.out
  have hneo : go < W0.heap.size := World.block_lt_of_cell? W0 _ co0
  go_wp2_with fail
  clear co0 co1 co2 co3 co4 co5 co6 co7 co8 co9 fo0 fo1 fo2 fo3 fo4 fo5 fo6 fo7 fo8 fo9 hneo
  refine (twinO sa sb sm HA.out HB.out HM.out ⟨HN.out.1, HN.out.2.1, HN.out.2.2.1⟩).mono ?_
  rintro e2 v1 ⟨qa, qb, qm, rfl, ha1, hb1, hm1, hbb1⟩
  replace Xo : Hid _ := Xo.out.below hbb1
  replace HA : Hid _ := HA.out.below hbb1
  replace HB : Hid _ := HB.out.below hbb1
  replace HM : Hid _ := HM.out.below hbb1
  replace hbw := Below.on hbw hbb1
  clear hbb1
  have TA : Hid (At v1 qa na na xa) := ha1
  have TC : Hid (At v1 qb nb nb xb) := hb1
  have TM : Hid (At v1 qm nm nm xm) := hm1
  clear ha1 hb1 hm1
  obtain ⟨co0, co1, co2, co3, co4, co5, co6, co7, co8, co9, fo0, fo1, fo2, fo3, fo4, fo5, fo6, fo7, fo8, fo9⟩ := Xo.out
  have hneo : go < v1.heap.size := World.block_lt_of_cell? v1 _ co0
  go_wp2_with fail
  clear co0 co1 co2 co3 co4 co5 co6 co7 co8 co9 fo0 fo1 fo2 fo3 fo4 fo5 fo6 fo7 fo8 fo9 hneo
  have Xt0 : Hid (B10q (v1.alloc (.cells #[.int .i64 13, .bool sa, .slice qa na na, .int .i64 ea, .bool sb, .slice qb nb nb, .int .i64 eb, .bool sm, .slice qm nm nm, .int .i64 nn] 45)) v1.heap.size (.int .i64 13) (.bool sa) (.slice qa na na) (.int .i64 ea) (.bool sb) (.slice qb nb nb) (.int .i64 eb) (.bool sm) (.slice qm nm nm) (.int .i64 nn)) := B10q.new v1 _ _ _ _ _ _ _ _ _ _ _
  have hbn : Below v1.heap.size v1 (v1.alloc (.cells #[.int .i64 13, .bool sa, .slice qa na na, .int .i64 ea, .bool sb, .slice qb nb nb, .int .i64 eb, .bool sm, .slice qm nm nm, .int .i64 nn] 45)) := below1 v1 _
  generalize v1.alloc (.cells #[.int .i64 13, .bool sa, .slice qa na na, .int .i64 ea, .bool sb, .slice qb nb nb, .int .i64 eb, .bool sm, .slice qm nm nm, .int .i64 nn] 45) = Wt at *
  have HGt : Hid (w.heap.size ≤ v1.heap.size) := hbw.size
  replace Xo : Hid _ := Xo.out.below hbn
  replace HA : Hid _ := HA.out.below hbn
  replace HB : Hid _ := HB.out.below hbn
  replace HM : Hid _ := HM.out.below hbn
  replace TA : Hid _ := TA.out.below hbn
  replace TC : Hid _ := TC.out.below hbn
  replace TM : Hid _ := TM.out.below hbn
  replace hbw := Below.on hbw hbn
  clear hbn
  generalize v1.heap.size = gt at *
  have Xt := Xt0
  clear Xt0
  refine (answer5_13 sa sb sm TA.out TC.out TM.out HN.out (TB.out.below hbw)).mono ?_
  rintro e2 v2 ⟨z2, e2x, r2, ⟨s2, p2, m2, c2, rfl, hq2⟩, hr2, hb2⟩
  replace Xo : Hid _ := Xo.out.below hb2
  replace Xt : Hid _ := Xt.out.below hb2
  replace HA : Hid _ := HA.out.below hb2
  replace HB : Hid _ := HB.out.below hb2
  replace HM : Hid _ := HM.out.below hb2
  replace TA : Hid _ := TA.out.below hb2
  replace TC : Hid _ := TC.out.below hb2
  replace TM : Hid _ := TM.out.below hb2
  replace hbw := Below.on hbw hb2
  clear hb2
  have D2 : Hid (DN v2 s2 p2 m2 c2 e2x z2) := hq2.dn
  have R2 : Hid (GridA false sa xa ea nn z2 e2x r2) := hr2
  clear hq2 hr2
  obtain ⟨co0, co1, co2, co3, co4, co5, co6, co7, co8, co9, fo0, fo1, fo2, fo3, fo4, fo5, fo6, fo7, fo8, fo9⟩ := Xo.out
  have hneo : go < v2.heap.size := World.block_lt_of_cell? v2 _ co0
  go_wp2_with fail
  clear co0 co1 co2 co3 co4 co5 co6 co7 co8 co9 fo0 fo1 fo2 fo3 fo4 fo5 fo6 fo7 fo8 fo9 hneo
  have Xa0 : Hid (B3q (v2.alloc (.cells #[.bool s2, .slice p2 m2 c2, .int .i64 e2x] 27)) v2.heap.size (.bool s2) (.slice p2 m2 c2) (.int .i64 e2x)) := B3q.new v2 _ _ _ _
  have hbn : Below v2.heap.size v2 (v2.alloc (.cells #[.bool s2, .slice p2 m2 c2, .int .i64 e2x] 27)) := below1 v2 _
  generalize v2.alloc (.cells #[.bool s2, .slice p2 m2 c2, .int .i64 e2x] 27) = Wa at *
  have HGa : Hid (w.heap.size ≤ v2.heap.size) := hbw.size
  replace Xo : Hid _ := Xo.out.below hbn
  replace Xt : Hid _ := Xt.out.below hbn
  replace HA : Hid _ := HA.out.below hbn
  replace HB : Hid _ := HB.out.below hbn
  replace HM : Hid _ := HM.out.below hbn
  replace TA : Hid _ := TA.out.below hbn
  replace TC : Hid _ := TC.out.below hbn
  replace TM : Hid _ := TM.out.below hbn
  replace D2 : Hid _ := D2.out.below hbn
  replace hbw := Below.on hbw hbn
  clear hbn
  generalize v2.heap.size = ga at *
  have Xa := Xa0
  clear Xa0
  clear TA
  clear TC
  clear TM
  clear Xt
  refine (doc5_13 sa sb sm HA.out HB.out HM.out HN.out (TB.out.below hbw)).mono ?_
  rintro e3 v3 ⟨z3, e3x, r3, ⟨s3, p3, m3, c3, rfl, hq3⟩, hr3, hb3⟩
  replace Xo : Hid _ := Xo.out.below hb3
  replace Xa : Hid _ := Xa.out.below hb3
  replace HA : Hid _ := HA.out.below hb3
  replace HB : Hid _ := HB.out.below hb3
  replace HM : Hid _ := HM.out.below hb3
  replace D2 : Hid _ := D2.out.below hb3
  replace hbw := Below.on hbw hb3
  clear hb3
  have D3 : Hid (DN v3 s3 p3 m3 c3 e3x z3) := hq3.dn
  obtain ⟨rfl, rfl, rfl⟩ := GridA.uniq R2.out hr3
  clear hq3 hr3 R2
  obtain ⟨ca0, ca1, ca2, fa0, fa1, fa2⟩ := Xa.out
  have hnea : ga < v3.heap.size := World.block_lt_of_cell? v3 _ ca0
  go_wp2_with fail
  clear ca0 ca1 ca2 fa0 fa1 fa2 hnea
  have Xb0 : Hid (B3q (v3.alloc (.cells #[.bool s3, .slice p3 m3 c3, .int .i64 e2x] 27)) v3.heap.size (.bool s3) (.slice p3 m3 c3) (.int .i64 e2x)) := B3q.new v3 _ _ _ _
  have hbn : Below v3.heap.size v3 (v3.alloc (.cells #[.bool s3, .slice p3 m3 c3, .int .i64 e2x] 27)) := below1 v3 _
  generalize v3.alloc (.cells #[.bool s3, .slice p3 m3 c3, .int .i64 e2x] 27) = Wb at *
  have HGb : Hid (w.heap.size ≤ v3.heap.size) := hbw.size
  replace Xo : Hid _ := Xo.out.below hbn
  replace Xa : Hid _ := Xa.out.below hbn
  replace HA : Hid _ := HA.out.below hbn
  replace HB : Hid _ := HB.out.below hbn
  replace HM : Hid _ := HM.out.below hbn
  replace D2 : Hid _ := D2.out.below hbn
  replace D3 : Hid _ := D3.out.below hbn
  replace hbw := Below.on hbw hbn
  clear hbn
  generalize v3.heap.size = gb at *
  have Xb := Xb0
  clear Xb0
  clear HA
  clear HB
  clear HM
  clear Xo
  refine (told5e r2 D2.out D3.out).mono ?_
  rintro e v9 ⟨rfl, hb9⟩
  replace Xa : Hid _ := Xa.out.below hb9
  replace Xb : Hid _ := Xb.out.below hb9
  replace D2 : Hid _ := D2.out.below hb9
  replace D3 : Hid _ := D3.out.below hb9
  replace hbw := Below.on hbw hb9
  clear hb9
  go_wp2_with fail
  go_ret
  exact ⟨rfl, hbw⟩
theorem answer5_14 {pa pb pm : Option Addr} {na ca nb cb nm cm : Nat} {xa xb xm : List Nat} {w : World} {ea eb nn : Int} (sa sb sm : Bool) (ha : At w pa na ca xa) (hb : At w pb nb cb xb) (hm : At w pm nm cm xm) (hn : na ≤ 17592186044416 ∧ nb ≤ 17592186044416 ∧ nm ≤ 17592186044416 ∧ -9223372036854775808 ≤ nn ∧ nn ≤ 9223372036854775807) (hT : Tab w) :
    Calls Tryz.prog 38 #[(.agg #[.int .i64 14, .bool sa, .slice pa na ca, .int .i64 ea, .bool sb, .slice pb nb cb, .int .i64 eb, .bool sm, .slice pm nm cm, .int .i64 nn])] w fun en w' => ∃ zo eo er, SaidD w.heap.size w' en zo eo er ∧ GridA true sa xa ea nn zo eo er ∧ Below w.heap.size w w' := by
  have HA : Hid (At w pa na ca xa) := ha
  have HB : Hid (At w pb nb cb xb) := hb
  have HM : Hid (At w pm nm cm xm) := hm
  have HN : Hid (na ≤ 17592186044416 ∧ nb ≤ 17592186044416 ∧ nm ≤ 17592186044416 ∧ -9223372036854775808 ≤ nn ∧ nn ≤ 9223372036854775807) := hn
  have TB : Hid (Tab w) := hT
  clear ha hb hm hn hT
  go_enter Tryz.func38, Tryz.ntmps38
  go_wp2_with fail
  obtain ⟨W0, hW0⟩ : ∃ W0, W0 = ((w.alloc (.cells #[.int .i64 14, .bool sa, .slice pa na ca, .int .i64 ea, .bool sb, .slice pb nb cb, .int .i64 eb, .bool sm, .slice pm nm cm, .int .i64 nn] 45)).alloc (.cells #[.bool false, .slice none 0 0, .int .i64 0] 27)) := ⟨_, rfl⟩
  have Xo : Hid (B10q W0 (w.heap.size) (.int .i64 14) (.bool sa) (.slice pa na ca) (.int .i64 ea) (.bool sb) (.slice pb nb cb) (.int .i64 eb) (.bool sm) (.slice pm nm cm) (.int .i64 nn)) := by rw [hW0]; exact ⟨by go_simp, by go_simp, by go_simp, by go_simp, by go_simp, by go_simp, by go_simp, by go_simp, by go_simp, by go_simp, by go_simp, by go_simp, by go_simp, by go_simp, by go_simp, by go_simp, by go_simp, by go_simp, by go_simp, by go_simp⟩
  have Xr : Hid (B3q W0 (w.heap.size + 1) (.bool false) (.slice none 0 0) (.int .i64 0)) := by rw [hW0]; exact ⟨by go_simp, by go_simp, by go_simp, by go_simp, by go_simp, by go_simp⟩
  have hb0 : Below w.heap.size w W0 := by rw [hW0]; exact below2 w _ _
  rw [← hW0]
  clear hW0
  have hbw : Below w.heap.size w w := Below.refl _ _
  obtain ⟨gr, hgr⟩ : ∃ g, g = w.heap.size + 1 := ⟨_, rfl⟩
  have HGr : Hid (w.heap.size ≤ gr) := by rw [hgr]; show _ ≤ _; omega
  rw [← hgr] at Xr
  try rw [← hgr]
  obtain ⟨go, hgo⟩ : ∃ g, g = w.heap.size := ⟨_, rfl⟩
  have HGo : Hid (w.heap.size ≤ go) := by rw [hgo]; show _ ≤ _; omega
  rw [← hgo] at Xo
  try rw [← hgo]
  have HGD : Hid (go ≠ gr ∧ gr ≠ go) := by rw [hgo, hgr]; exact ⟨by omega, by omega⟩
  clear hgo hgr
  replace HA : Hid _ := HA.out.below hb0
  replace HB : Hid _ := HB.out.below hb0
  replace HM : Hid _ := HM.out.below hb0
  replace hbw := Below.on hbw hb0
  clear hb0
  obtain ⟨co0, co1, co2, co3, co4, co5, co6, co7, co8, co9, fo0, fo1, fo2, fo3, fo4, fo5, fo6, fo7, fo8, fo9⟩ := Xo.out
  have hneo : go < W0.heap.size := World.block_lt_of_cell? W0 _ co0
  go_wp2_with fail
  clear co0 co1 co2 co3 co4 co5 co6 co7 co8 co9 fo0 fo1 fo2 fo3 fo4 fo5 fo6 fo7 fo8 fo9 hneo
  have HRL : Hid (gr < W0.heap.size ∧ w.heap.size ≤ W0.heap.size) := ⟨Xr.out.lt, hbw.size⟩
  refine (dupatA sa HA.out HN.out.2.2.2.2 (TB.out.below hbw)).mono ?_
  rintro e2 v6 ⟨zo, eo, er, ⟨s6, p6, m6, c6, rfl, hq6⟩, hr6, hb6⟩
  replace Xo : Hid _ := Xo.out.below hb6
  replace Xr : Hid _ := Xr.out.below hb6
  replace HA : Hid _ := HA.out.below hb6
  replace HB : Hid _ := HB.out.below hb6
  replace HM : Hid _ := HM.out.below hb6
  replace hbw := Below.on hbw hb6
  clear hb6
  have Q6 : Hid (DQ W0.heap.size v6 s6 p6 m6 c6 eo zo) := hq6
  have R6 : Hid (GridA true sa xa ea nn zo eo er) := hr6
  clear hq6 hr6
  obtain ⟨cr0, cr1, cr2, fr0, fr1, fr2⟩ := Xr.out
  have hner : gr < v6.heap.size := World.block_lt_of_cell? v6 _ cr0
  go_wp2_with fail
  refine bodyPost_ret (v := .tuple #[DV s6 p6 m6 c6 eo, .int .i64 er]) (by rw [results_cell_tmp rfl]; go_simp) rfl ⟨zo, eo, er, ⟨s6, p6, m6, c6, rfl, Q6.out.set3 HRL.out.1 HRL.out.2 _ _ _⟩, R6.out, ?_⟩
  exact bSet (bSet (bSet hbw _ _ _ HGr.out) _ _ _ HGr.out) _ _ _ HGr.out
theorem doc5_14 {pa pb pm : Option Addr} {na ca nb cb nm cm : Nat} {xa xb xm : List Nat} {w : World} {ea eb nn : Int} (sa sb sm : Bool) (ha : At w pa na ca xa) (hb : At w pb nb cb xb) (hm : At w pm nm cm xm) (hn : na ≤ 17592186044416 ∧ nb ≤ 17592186044416 ∧ nm ≤ 17592186044416 ∧ -9223372036854775808 ≤ nn ∧ nn ≤ 9223372036854775807) (hT : Tab w) :
    Calls Tryz.prog 39 #[(.agg #[.int .i64 14, .bool sa, .slice pa na ca, .int .i64 ea, .bool sb, .slice pb nb cb, .int .i64 eb, .bool sm, .slice pm nm cm, .int .i64 nn])] w fun en w' => ∃ zo eo er, SaidD w.heap.size w' en zo eo er ∧ GridA true sa xa ea nn zo eo er ∧ Below w.heap.size w w' := by
  have HA : Hid (At w pa na ca xa) := ha
  have HB : Hid (At w pb nb cb xb) := hb
  have HM : Hid (At w pm nm cm xm) := hm
  have HN : Hid (na ≤ 17592186044416 ∧ nb ≤ 17592186044416 ∧ nm ≤ 17592186044416 ∧ -9223372036854775808 ≤ nn ∧ nn ≤ 9223372036854775807) := hn
  have TB : Hid (Tab w) := hT
  clear ha hb hm hn hT
  go_enter Tryz.func39, Tryz.ntmps39
  go_wp2_with fail
  obtain ⟨W0, hW0⟩ : ∃ W0, W0 = ((w.alloc (.cells #[.int .i64 14, .bool sa, .slice pa na ca, .int .i64 ea, .bool sb, .slice pb nb cb, .int .i64 eb, .bool sm, .slice pm nm cm, .int .i64 nn] 45)).alloc (.cells #[.bool false, .slice none 0 0, .int .i64 0] 27)) := ⟨_, rfl⟩
  have Xo : Hid (B10q W0 (w.heap.size) (.int .i64 14) (.bool sa) (.slice pa na ca) (.int .i64 ea) (.bool sb) (.slice pb nb cb) (.int .i64 eb) (.bool sm) (.slice pm nm cm) (.int .i64 nn)) := by rw [hW0]; exact ⟨by go_simp, by go_simp, by go_simp, by go_simp, by go_simp, by go_simp, by go_simp, by go_simp, by go_simp, by go_simp, by go_simp, by go_simp, by go_simp, by go_simp, by go_simp, by go_simp, by go_simp, by go_simp, by go_simp, by go_simp⟩
  have Xr : Hid (B3q W0 (w.heap.size + 1) (.bool false) (.slice none 0 0) (.int .i64 0)) := by rw [hW0]; exact ⟨by go_simp, by go_simp, by go_simp, by go_simp, by go_simp, by go_simp⟩
  have hb0 : Below w.heap.size w W0 := by rw [hW0]; exact below2 w _ _
  rw [← hW0]
  clear hW0
  have hbw : Below w.heap.size w w := Below.refl _ _
  obtain ⟨gr, hgr⟩ : ∃ g, g = w.heap.size + 1 := ⟨_, rfl⟩
  have HGr : Hid (w.heap.size ≤ gr) := by rw [hgr]; show _ ≤ _; omega
  rw [← hgr] at Xr
  try rw [← hgr]
  obtain ⟨go, hgo⟩ : ∃ g, g = w.heap.size := ⟨_, rfl⟩
  have HGo : Hid (w.heap.size ≤ go) := by rw [hgo]; show _ ≤ _; omega
  rw [← hgo] at Xo
  try rw [← hgo]
  have HGD : Hid (go ≠ gr ∧ gr ≠ go) := by rw [hgo, hgr]; exact ⟨by omega, by omega⟩
  clear hgo hgr
  replace HA : Hid _ := HA.out.below hb0
  replace HB : Hid _ := HB.out.below hb0
  replace HM : Hid _ := HM.out.below hb0
  replace hbw := Below.on hbw hb0
  clear hb0
  obtain ⟨co0, co1, co2, co3, co4, co5, co6, co7, co8, co9, fo0, fo1, fo2, fo3, fo4, fo5, fo6, fo7, fo8, fo9⟩ := Xo.out
  have hneo : go < W0.heap.size := World.block_lt_of_cell? W0 _ co0
  go_wp2_with fail
  clear co0 co1 co2 co3 co4 co5 co6 co7 co8 co9 fo0 fo1 fo2 fo3 fo4 fo5 fo6 fo7 fo8 fo9 hneo
  have HRL : Hid (gr < W0.heap.size ∧ w.heap.size ≤ W0.heap.size) := ⟨Xr.out.lt, hbw.size⟩
  refine (docgrid_u sa HA.out HN.out.2.2.2.2).mono ?_
  rintro e2 v6 ⟨zo, eo, er, ⟨s6, p6, m6, c6, rfl, hq6⟩, hr6, hb6⟩
  replace Xo : Hid _ := Xo.out.below hb6
  replace Xr : Hid _ := Xr.out.below hb6
  replace HA : Hid _ := HA.out.below hb6
  replace HB : Hid _ := HB.out.below hb6
  replace HM : Hid _ := HM.out.below hb6
  replace hbw := Below.on hbw hb6
  clear hb6
  have Q6 : Hid (DQ W0.heap.size v6 s6 p6 m6 c6 eo zo) := hq6
  have R6 : Hid (GridA true sa xa ea nn zo eo er) := hr6
  clear hq6 hr6
  obtain ⟨cr0, cr1, cr2, fr0, fr1, fr2⟩ := Xr.out
  have hner : gr < v6.heap.size := World.block_lt_of_cell? v6 _ cr0
  go_wp2_with fail
  refine bodyPost_ret (v := .tuple #[DV s6 p6 m6 c6 eo, .int .i64 er]) (by rw [results_cell_tmp rfl]; go_simp) rfl ⟨zo, eo, er, ⟨s6, p6, m6, c6, rfl, Q6.out.set3 HRL.out.1 HRL.out.2 _ _ _⟩, R6.out, ?_⟩
  exact bSet (bSet (bSet hbw _ _ _ HGr.out) _ _ _ HGr.out) _ _ _ HGr.out
theorem plays5_14 {pa pb pm : Option Addr} {na ca nb cb nm cm : Nat} {xa xb xm : List Nat} {w : World} {ea eb nn : Int} (sa sb sm : Bool) (ha : At w pa na ca xa) (hb : At w pb nb cb xb) (hm : At w pm nm cm xm) (hn : na ≤ 17592186044416 ∧ nb ≤ 17592186044416 ∧ nm ≤ 17592186044416 ∧ -9223372036854775808 ≤ nn ∧ nn ≤ 9223372036854775807) (hT : Tab w) :
    Calls Tryz.prog 16 #[(.agg #[.int .i64 14, .bool sa, .slice pa na ca, .int .i64 ea, .bool sb, .slice pb nb cb, .int .i64 eb, .bool sm, .slice pm nm cm, .int .i64 nn])] w fun en w' => en = .returned (.bool true) ∧ Below w.heap.size w w' := by
  have HA : Hid (At w pa na ca xa) := ha
  have HB : Hid (At w pb nb cb xb) := hb
  have HM : Hid (At w pm nm cm xm) := hm
  have HN : Hid (na ≤ 17592186044416 ∧ nb ≤ 17592186044416 ∧ nm ≤ 17592186044416 ∧ -9223372036854775808 ≤ nn ∧ nn ≤ 9223372036854775807) := hn
  have TB : Hid (Tab w) := hT
  clear ha hb hm hn hT
  go_enter Tryz.func16, Tryz.ntmps16
  go_wp2_with fail
  obtain ⟨W0, hW0⟩ : ∃ W0, W0 = (w.alloc (.cells #[.int .i64 14, .bool sa, .slice pa na ca, .int .i64 ea, .bool sb, .slice pb nb cb, .int .i64 eb, .bool sm, .slice pm nm cm, .int .i64 nn] 45)) := ⟨_, rfl⟩
  have Xo : Hid (B10q W0 (w.heap.size) (.int .i64 14) (.bool sa) (.slice pa na ca) (.int .i64 ea) (.bool sb) (.slice pb nb cb) (.int .i64 eb) (.bool sm) (.slice pm nm cm) (.int .i64 nn)) := by rw [hW0]; exact ⟨by go_simp, by go_simp, by go_simp, by go_simp, by go_simp, by go_simp, by go_simp, by go_simp, by go_simp, by go_simp, by go_simp, by go_simp, by go_simp, by go_simp, by go_simp, by go_simp, by go_simp, by go_simp, by go_simp, by go_simp⟩
  have hb0 : Below w.heap.size w W0 := by rw [hW0]; exact below1 w _
  rw [← hW0]
  clear hW0
  have hbw : Below w.heap.size w w := Below.refl _ _
  obtain ⟨go, hgo⟩ : ∃ g, g = w.heap.size := ⟨_, rfl⟩
  have HGo : Hid (w.heap.size ≤ go) := by rw [hgo]; show _ ≤ _; omega
  rw [← hgo] at Xo
  try rw [← hgo]
  clear hgo
  replace HA : Hid _ := HA.out.below hb0
  replace HB : Hid _ := HB.out.below hb0
  replace HM : Hid _ := HM.out.below hb0
  replace hbw := Below.on hbw hb0
  clear hb0
  obtain ⟨co0, co1, co2, co3, co4, co5, co6, co7, co8, co9, fo0, fo1, fo2, fo3, fo4, fo5, fo6, fo7, fo8, fo9⟩ := Xo.out
  have hneo : go < W0.heap.size := World.block_lt_of_cell? W0 _ co0
  go_wp2_with fail
  clear co0 co1 co2 co3 co4 co5 co6 co7 co8 co9 fo0 fo1 fo2 fo3 fo4 fo5 fo6 fo7 fo8 fo9 hneo
  refine (twinO sa sb sm HA.out HB.out HM.out ⟨HN.out.1, HN.out.2.1, HN.out.2.2.1⟩).mono ?_
  rintro e2 v1 ⟨qa, qb, qm, rfl, ha1, hb1, hm1, hbb1⟩
  replace Xo : Hid _ := Xo.out.below hbb1
  replace HA : Hid _ := HA.out.below hbb1
  replace HB : Hid _ := HB.out.below hbb1
  replace HM : Hid _ := HM.out.below hbb1
  replace hbw := Below.on hbw hbb1
  clear hbb1
  have TA : Hid (At v1 qa na na xa) := ha1
  have TC : Hid (At v1 qb nb nb xb) := hb1
  have TM : Hid (At v1 qm nm nm xm) := hm1
  clear ha1 hb1 hm1
  obtain ⟨co0, co1, co2, co3, co4, co5, co6, co7, co8, co9, fo0, fo1, fo2, fo3, fo4, fo5, fo6, fo7, fo8, fo9⟩ := Xo.out
  have hneo : go < v1.heap.size := World.block_lt_of_cell? v1 _ co0
  go_wp2_with fail
  clear co0 co1 co2 co3 co4 co5 co6 co7 co8 co9 fo0 fo1 fo2 fo3 fo4 fo5 fo6 fo7 fo8 fo9 hneo
  have Xt0 : Hid (B10q (v1.alloc (.cells #[.int .i64 14, .bool sa, .slice qa na na, .int .i64 ea, .bool sb, .slice qb nb nb, .int .i64 eb, .bool sm, .slice qm nm nm, .int .i64 nn] 45)) v1.heap.size (.int .i64 14) (.bool sa) (.slice qa na na) (.int .i64 ea) (.bool sb) (.slice qb nb nb) (.int .i64 eb) (.bool sm) (.slice qm nm nm) (.int .i64 nn)) := B10q.new v1 _ _ _ _ _ _ _ _ _ _ _
  have hbn : Below v1.heap.size v1 (v1.alloc (.cells #[.int .i64 14, .bool sa, .slice qa na na, .int .i64 ea, .bool sb, .slice qb nb nb, .int .i64 eb, .bool sm, .slice qm nm nm, .int .i64 nn] 45)) := below1 v1 _
  generalize v1.alloc (.cells #[.int .i64 14, .bool sa, .slice qa na na, .int .i64 ea, .bool sb, .slice qb nb nb, .int .i64 eb, .bool sm, .slice qm nm nm, .int .i64 nn] 45) = Wt at *
  have HGt : Hid (w.heap.size ≤ v1.heap.size) := hbw.size
  replace Xo : Hid _ := Xo.out.below hbn
  replace HA : Hid _ := HA.out.below hbn
  replace HB : Hid _ := HB.out.below hbn
  replace HM : Hid _ := HM.out.below hbn
  replace TA : Hid _ := TA.out.below hbn
  replace TC : Hid _ := TC.out.below hbn
  replace TM : Hid _ := TM.out.below hbn
  replace hbw := Below.on hbw hbn
  clear hbn
  generalize v1.heap.size = gt at *
  have Xt := Xt0
  clear Xt0
  refine (answer5_14 sa sb sm TA.out TC.out TM.out HN.out (TB.out.below hbw)).mono ?_
  rintro e2 v2 ⟨z2, e2x, r2, ⟨s2, p2, m2, c2, rfl, hq2⟩, hr2, hb2⟩
  replace Xo : Hid _ := Xo.out.below hb2
  replace Xt : Hid _ := Xt.out.below hb2
  replace HA : Hid _ := HA.out.below hb2
  replace HB : Hid _ := HB.out.below hb2
  replace HM : Hid _ := HM.out.below hb2
  replace TA : Hid _ := TA.out.below hb2
  replace TC : Hid _ := TC.out.below hb2
  replace TM : Hid _ := TM.out.below hb2
  replace hbw := Below.on hbw hb2
  clear hb2
  have D2 : Hid (DN v2 s2 p2 m2 c2 e2x z2) := hq2.dn
  have R2 : Hid (GridA true sa xa ea nn z2 e2x r2) := hr2
  clear hq2 hr2
  obtain ⟨co0, co1, co2, co3, co4, co5, co6, co7, co8, co9, fo0, fo1, fo2, fo3, fo4, fo5, fo6, fo7, fo8, fo9⟩ := Xo.out
  have hneo : go < v2.heap.size := World.block_lt_of_cell? v2 _ co0
  go_wp2_with fail
  clear co0 co1 co2 co3 co4 co5 co6 co7 co8 co9 fo0 fo1 fo2 fo3 fo4 fo5 fo6 fo7 fo8 fo9 hneo
  have Xa0 : Hid (B3q (v2.alloc (.cells #[.bool s2, .slice p2 m2 c2, .int .i64 e2x] 27)) v2.heap.size (.bool s2) (.slice p2 m2 c2) (.int .i64 e2x)) := B3q.new v2 _ _ _ _
  have hbn : Below v2.heap.size v2 (v2.alloc (.cells #[.bool s2, .slice p2 m2 c2, .int .i64 e2x] 27)) := below1 v2 _
  generalize v2.alloc (.cells #[.bool s2, .slice p2 m2 c2, .int .i64 e2x] 27) = Wa at *
  have HGa : Hid (w.heap.size ≤ v2.heap.size) := hbw.size
  replace Xo : Hid _ := Xo.out.below hbn
  replace Xt : Hid _ := Xt.out.below hbn
  replace HA : Hid _ := HA.out.below hbn
  replace HB : Hid _ := HB.out.below hbn
  replace HM : Hid _ := HM.out.below hbn
  replace TA : Hid _ := TA.out.below hbn
  replace TC : Hid _ := TC.out.below hbn
  replace TM : Hid _ := TM.out.below hbn
  replace D2 : Hid _ := D2.out.below hbn
  replace hbw := Below.on hbw hbn
  clear hbn
  generalize v2.heap.size = ga at *
  have Xa := Xa0
  clear Xa0
  clear TA
  clear TC
  clear TM
  clear Xt
  refine (doc5_14 sa sb sm HA.out HB.out HM.out HN.out (TB.out.below hbw)).mono ?_
  rintro e3 v3 ⟨z3, e3x, r3, ⟨s3, p3, m3, c3, rfl, hq3⟩, hr3, hb3⟩
  replace Xo : Hid _ := Xo.out.below hb3
  replace Xa : Hid _ := Xa.out.below hb3
  replace HA : Hid _ := HA.out.below hb3
  replace HB : Hid _ := HB.out.below hb3
  replace HM : Hid _ := HM.out.below hb3
  replace D2 : Hid _ := D2.out.below hb3
  replace hbw := Below.on hbw hb3
  clear hb3
  have D3 : Hid (DN v3 s3 p3 m3 c3 e3x z3) := hq3.dn
  obtain ⟨rfl, rfl, rfl⟩ := GridA.uniq R2.out hr3
  clear hq3 hr3 R2
  obtain ⟨ca0, ca1, ca2, fa0, fa1, fa2⟩ := Xa.out
  have hnea : ga < v3.heap.size := World.block_lt_of_cell? v3 _ ca0
  go_wp2_with fail
  clear ca0 ca1 ca2 fa0 fa1 fa2 hnea
  have Xb0 : Hid (B3q (v3.alloc (.cells #[.bool s3, .slice p3 m3 c3, .int .i64 e2x] 27)) v3.heap.size (.bool s3) (.slice p3 m3 c3) (.int .i64 e2x)) := B3q.new v3 _ _ _ _
  have hbn : Below v3.heap.size v3 (v3.alloc (.cells #[.bool s3, .slice p3 m3 c3, .int .i64 e2x] 27)) := below1 v3 _
  generalize v3.alloc (.cells #[.bool s3, .slice p3 m3 c3, .int .i64 e2x] 27) = Wb at *
  have HGb : Hid (w.heap.size ≤ v3.heap.size) := hbw.size
  replace Xo : Hid _ := Xo.out.below hbn
  replace Xa : Hid _ := Xa.out.below hbn
  replace HA : Hid _ := HA.out.below hbn
  replace HB : Hid _ := HB.out.below hbn
  replace HM : Hid _ := HM.out.below hbn
  replace D2 : Hid _ := D2.out.below hbn
  replace D3 : Hid _ := D3.out.below hbn
  replace hbw := Below.on hbw hbn
  clear hbn
  generalize v3.heap.size = gb at *
  have Xb := Xb0
  clear Xb0
  clear HA
  clear HB
  clear HM
  clear Xo
  refine (told5e r2 D2.out D3.out).mono ?_
  rintro e v9 ⟨rfl, hb9⟩
  replace Xa : Hid _ := Xa.out.below hb9
  replace Xb : Hid _ := Xb.out.below hb9
  replace D2 : Hid _ := D2.out.below hb9
  replace D3 : Hid _ := D3.out.below hb9
  replace hbw := Below.on hbw hb9
  clear hb9
  go_wp2_with fail
  go_ret
  exact ⟨rfl, hbw⟩
end Go.Proofs.YtmolnhpfmgmfgaaGreatDoor
