import Derived.Test.YtfkoilaobglddaaDoorJ27
import Derived.Test.YtfkoilaobglddaaDoorJ20
namespace Go.Proofs.YtfkoilaobglddaaDoor
open Go.RowKit Go.Shelf

theorem aw8_c : rnp (-1074) 52 1024 9223372036854775808 9218868437227405312 1 0 = 4607182418800017408 := by decide +kernel
theorem rnp_mid {f p m l : Int} {S I H sd : Nat} {Be : Int} (J : Jn f p m l S I H sd Be) {x e y g u k : Int} (he : -4194304 ≤ e) (hg : -4194304 ≤ g) (hk : -4194304 ≤ k) (h1 : dv x e ≤ dv u k) (h2 : dv u k ≤ dv y g) (hq : rnp l sd Be S I x e = rnp l sd Be S I y g) :
    rnp l sd Be S I u k = rnp l sd Be S I x e := by
  obtain ⟨A, _, a2, a3, _, a5, a6, _⟩ := rnp_is J x e he
  obtain ⟨B, _, b2, _, _, b5, b6, _⟩ := rnp_is J y g hg
  obtain ⟨C, _, c2, c3, _, _, _, _⟩ := rnp_is J u k hk
  have hAB : A = B := by rw [← a5, ← b5, hq]
  subst hAB
  have hsg : decide (x < 0) = decide (y < 0) := by rw [← a6, ← b6, hq]
  have dx := dv3 x e
  have dy := dv3 y g
  have du := dv3 u k
  rw [dv_abs x e, dv_abs u k] at h1
  rw [dv_abs u k, dv_abs y g] at h2
  rw [a3, c3]
  by_cases hx : x < 0
  · have hy : y < 0 := by rw [decide_eq_true hx] at hsg; exact of_decide_eq_true hsg.symm
    have hu : u < 0 := Decidable.of_not_not fun hu => by
      rw [if_neg hu, if_pos hy] at h2
      rw [dv_abs u k, if_neg hu] at du
      rw [dv_abs y g, if_pos hy] at dy
      omega
    rw [if_pos hx, if_pos hu] at h1
    rw [if_pos hu, if_pos hy] at h2
    rw [if_pos hx, if_pos hu]
    have := c2.mono a2 (by omega)
    have := b2.mono c2 (by omega)
    omega
  · have hy : ¬ y < 0 := by rw [decide_eq_false hx] at hsg; exact of_decide_eq_false hsg.symm
    have hu : ¬ u < 0 := by
      intro hu
      rw [if_neg hx, if_pos hu] at h1
      rw [dv_abs u k, if_pos hu] at du
      rw [dv_abs x e, if_neg hx] at dx
      omega
    rw [if_neg hx, if_neg hu] at h1
    rw [if_neg hu, if_neg hy] at h2
    rw [if_neg hx, if_neg hu]
    have := a2.mono c2 (by omega)
    have := c2.mono b2 (by omega)
    omega
set_option maxRecDepth 20000 in
set_option maxHeartbeats 8000000 in
theorem roundDecided_1 {single : Bool} {f p m l : Int} {S I H sd : Nat} {Be : Int} (J : Jn f p m l S I H sd Be) (L : Lw single f S I) {s1 s2 s3 : Bool} {p1 p2 p3 : Option Addr} {m1 m2 m3 c1 c2 c3 : Nat} {e1 e2 e3 : Int} {w : World} (hT : Tab w) {xs : List Nat} (h : At w p1 m1 c1 xs) (hf : formD s1 xs e1 = false) :
    Calls Tryd.prog 3 #[.bool single, SV s1 p1 m1 c1 e1 s2 p2 m2 c2 e2, DV s3 p3 m3 c3 e3] w fun en w' => en = .returned (.bool true) ∧ Below w.heap.size w w' := by
  have HJN : Hid (Jn f p m l S I H sd Be) := J
  have HLW : Hid (Lw single f S I) := L
  have TB : Hid (Tab w) := hT
  clear J L hT
  have A : Hid (At w p1 m1 c1 xs ∧ formD s1 xs e1 = false) := ⟨h, hf⟩
  clear h hf
  go_enter Tryd.func3, Tryd.ntmps3
  go_wp2_with fail
  obtain ⟨W0, hW0⟩ : ∃ W0, W0 = ((w.alloc (.cells #[.bool s1, .slice p1 m1 c1, .int .i64 e1, .bool s2, .slice p2 m2 c2, .int .i64 e2] 28)).alloc (.cells #[.bool s3, .slice p3 m3 c3, .int .i64 e3] 26)) := ⟨_, rfl⟩
  have Xs : Hid (B6q W0 (w.heap.size) (.bool s1) (.slice p1 m1 c1) (.int .i64 e1) (.bool s2) (.slice p2 m2 c2) (.int .i64 e2)) := by rw [hW0]; exact ⟨by go_simp, by go_simp, by go_simp, by go_simp, by go_simp, by go_simp, by go_simp, by go_simp, by go_simp, by go_simp, by go_simp, by go_simp⟩
  have Xd : Hid (B3q W0 (w.heap.size + 1) (.bool s3) (.slice p3 m3 c3) (.int .i64 e3)) := by rw [hW0]; exact ⟨by go_simp, by go_simp, by go_simp, by go_simp, by go_simp, by go_simp⟩
  have hb0 : Below w.heap.size w W0 := by rw [hW0]; exact below2 w _ _
  rw [← hW0]
  clear hW0
  have hbw : Below w.heap.size w w := Below.refl _ _
  obtain ⟨gd, hgd⟩ : ∃ g, g = w.heap.size + 1 := ⟨_, rfl⟩
  have HGd : Hid (w.heap.size ≤ gd) := by rw [hgd]; show _ ≤ _; omega
  rw [← hgd] at Xd
  try rw [← hgd]
  obtain ⟨gs, hgs⟩ : ∃ g, g = w.heap.size := ⟨_, rfl⟩
  have HGs : Hid (w.heap.size ≤ gs) := by rw [hgs]; show _ ≤ _; omega
  rw [← hgs] at Xs
  try rw [← hgs]
  have HGD : Hid (gs ≠ gd ∧ gd ≠ gs) := by rw [hgs, hgd]; exact ⟨by omega, by omega⟩
  clear hgs hgd
  replace hbw := Below.on hbw hb0
  clear hb0
  refine (HLW.out.fmt _).mono ?_
  rintro e v1 ⟨rfl, hb1⟩
  replace Xs : Hid _ := Xs.out.below hb1
  replace Xd : Hid _ := Xd.out.below hb1
  replace hbw := Below.on hbw hb1
  clear hb1
  obtain ⟨cs0, cs1, cs2, cs3, cs4, cs5, fs0, fs1, fs2, fs3, fs4, fs5⟩ := Xs.out
  have hnes : gs < v1.heap.size := World.block_lt_of_cell? v1 _ cs0
  obtain ⟨cd0, cd1, cd2, fd0, fd1, fd2⟩ := Xd.out
  have hned : gd < v1.heap.size := World.block_lt_of_cell? v1 _ cd0
  go_wp2_with fail
  clear cs0 cs1 cs2 cs3 cs4 cs5 fs0 fs1 fs2 fs3 fs4 fs5 hnes
  clear cd0 cd1 cd2 fd0 fd1 fd2 hned
  refine (num8 (1) (0) (by decide) (by decide) (by decide)).mono ?_
  rintro e2 v12 ⟨s12, g12, m12, c12, rfl, _, hd12, hb12⟩
  replace Xs : Hid _ := Xs.out.below hb12
  replace Xd : Hid _ := Xd.out.below hb12
  replace hbw := Below.on hbw hb12
  clear hb12
  have D12 : Hid (DN v12 s12 (some ⟨g12, 0, none⟩) m12 c12 (0) (1)) := hd12
  clear hd12
  go_wp2_with fail
  refine (num8 (1) (0) (by decide) (by decide) (by decide)).mono ?_
  rintro e2 v13 ⟨s13, g13, m13, c13, rfl, _, hd13, hb13⟩
  replace Xs : Hid _ := Xs.out.below hb13
  replace Xd : Hid _ := Xd.out.below hb13
  replace D12 : Hid _ := D12.out.below hb13
  replace hbw := Below.on hbw hb13
  clear hb13
  have D13 : Hid (DN v13 s13 (some ⟨g13, 0, none⟩) m13 c13 (0) (1)) := hd13
  clear hd13
  go_wp2_with fail
  refine (decide_y jn_64 D12.out D13.out (Int.le_refl _) rfl (TB.out.below hbw)).mono ?_
  rintro e v4 ⟨rfl, hb4⟩
  rw [aw8_c]
  replace Xs : Hid _ := Xs.out.below hb4
  replace Xd : Hid _ := Xd.out.below hb4
  replace D12 : Hid _ := D12.out.below hb4
  replace D13 : Hid _ := D13.out.below hb4
  replace hbw := Below.on hbw hb4
  clear hb4
  clear D12
  clear D13
  go_wp2_with fail
  refine (awake8 _ (TB.out.below hbw)).mono ?_
  rintro e v5 ⟨rfl, hb5⟩
  replace Xs : Hid _ := Xs.out.below hb5
  replace Xd : Hid _ := Xd.out.below hb5
  replace hbw := Below.on hbw hb5
  clear hb5
  obtain ⟨cs0, cs1, cs2, cs3, cs4, cs5, fs0, fs1, fs2, fs3, fs4, fs5⟩ := Xs.out
  have hnes : gs < v5.heap.size := World.block_lt_of_cell? v5 _ cs0
  obtain ⟨cd0, cd1, cd2, fd0, fd1, fd2⟩ := Xd.out
  have hned : gd < v5.heap.size := World.block_lt_of_cell? v5 _ cd0
  go_wp2_with fail
  clear cs0 cs1 cs2 cs3 cs4 cs5 fs0 fs1 fs2 fs3 fs4 fs5 hnes
  clear cd0 cd1 cd2 fd0 fd1 fd2 hned
  refine (decide_f HJN.out (fun w' hb => sform_l (A.out.1.below (Below.on hbw hb)) A.out.2)).mono ?_
  rintro e v6 ⟨rfl, hb6⟩
  replace Xs : Hid _ := Xs.out.below hb6
  replace Xd : Hid _ := Xd.out.below hb6
  replace hbw := Below.on hbw hb6
  clear hb6
  obtain ⟨cs0, cs1, cs2, cs3, cs4, cs5, fs0, fs1, fs2, fs3, fs4, fs5⟩ := Xs.out
  have hnes : gs < v6.heap.size := World.block_lt_of_cell? v6 _ cs0
  go_wp2_with fail
  clear cs0 cs1 cs2 cs3 cs4 cs5 fs0 fs1 fs2 fs3 fs4 fs5 hnes
  refine (docformd s1 (A.out.1.below hbw)).mono ?_
  rintro e v7 ⟨rfl, hb7⟩
  rw [A.out.2]
  replace Xs : Hid _ := Xs.out.below hb7
  replace Xd : Hid _ := Xd.out.below hb7
  replace hbw := Below.on hbw hb7
  clear hb7
  obtain ⟨cs0, cs1, cs2, cs3, cs4, cs5, fs0, fs1, fs2, fs3, fs4, fs5⟩ := Xs.out
  have hnes : gs < v7.heap.size := World.block_lt_of_cell? v7 _ cs0
  go_wp2_with fail
  clear cs0 cs1 cs2 cs3 cs4 cs5 fs0 fs1 fs2 fs3 fs4 fs5 hnes
  go_ret
  exact ⟨rfl, hbw⟩
set_option maxRecDepth 20000 in
set_option maxHeartbeats 8000000 in
theorem roundDecided_2 {single : Bool} {f p m l : Int} {S I H sd : Nat} {Be : Int} (J : Jn f p m l S I H sd Be) (L : Lw single f S I) {s1 s2 s3 : Bool} {p1 p2 p3 : Option Addr} {m1 m2 m3 c1 c2 c3 : Nat} {e1 e2 e3 : Int} {w : World} (hT : Tab w) {x : Int} {xs : List Nat} (k : DN w s1 p1 m1 c1 e1 x) (h : At w p2 m2 c2 xs) (hf : formD s2 xs e2 = false) :
    Calls Tryd.prog 3 #[.bool single, SV s1 p1 m1 c1 e1 s2 p2 m2 c2 e2, DV s3 p3 m3 c3 e3] w fun en w' => en = .returned (.bool true) ∧ Below w.heap.size w w' := by
  have HJN : Hid (Jn f p m l S I H sd Be) := J
  have HLW : Hid (Lw single f S I) := L
  have TB : Hid (Tab w) := hT
  clear J L hT
  have A : Hid (At w p2 m2 c2 xs ∧ formD s2 xs e2 = false) := ⟨h, hf⟩
  have B : Hid (DN w s1 p1 m1 c1 e1 x) := k
  clear h hf k
  go_enter Tryd.func3, Tryd.ntmps3
  go_wp2_with fail
  obtain ⟨W0, hW0⟩ : ∃ W0, W0 = ((w.alloc (.cells #[.bool s1, .slice p1 m1 c1, .int .i64 e1, .bool s2, .slice p2 m2 c2, .int .i64 e2] 28)).alloc (.cells #[.bool s3, .slice p3 m3 c3, .int .i64 e3] 26)) := ⟨_, rfl⟩
  have Xs : Hid (B6q W0 (w.heap.size) (.bool s1) (.slice p1 m1 c1) (.int .i64 e1) (.bool s2) (.slice p2 m2 c2) (.int .i64 e2)) := by rw [hW0]; exact ⟨by go_simp, by go_simp, by go_simp, by go_simp, by go_simp, by go_simp, by go_simp, by go_simp, by go_simp, by go_simp, by go_simp, by go_simp⟩
  have Xd : Hid (B3q W0 (w.heap.size + 1) (.bool s3) (.slice p3 m3 c3) (.int .i64 e3)) := by rw [hW0]; exact ⟨by go_simp, by go_simp, by go_simp, by go_simp, by go_simp, by go_simp⟩
  have hb0 : Below w.heap.size w W0 := by rw [hW0]; exact below2 w _ _
  rw [← hW0]
  clear hW0
  have hbw : Below w.heap.size w w := Below.refl _ _
  obtain ⟨gd, hgd⟩ : ∃ g, g = w.heap.size + 1 := ⟨_, rfl⟩
  have HGd : Hid (w.heap.size ≤ gd) := by rw [hgd]; show _ ≤ _; omega
  rw [← hgd] at Xd
  try rw [← hgd]
  obtain ⟨gs, hgs⟩ : ∃ g, g = w.heap.size := ⟨_, rfl⟩
  have HGs : Hid (w.heap.size ≤ gs) := by rw [hgs]; show _ ≤ _; omega
  rw [← hgs] at Xs
  try rw [← hgs]
  have HGD : Hid (gs ≠ gd ∧ gd ≠ gs) := by rw [hgs, hgd]; exact ⟨by omega, by omega⟩
  clear hgs hgd
  replace hbw := Below.on hbw hb0
  clear hb0
  refine (HLW.out.fmt _).mono ?_
  rintro e v1 ⟨rfl, hb1⟩
  replace Xs : Hid _ := Xs.out.below hb1
  replace Xd : Hid _ := Xd.out.below hb1
  replace hbw := Below.on hbw hb1
  clear hb1
  obtain ⟨cs0, cs1, cs2, cs3, cs4, cs5, fs0, fs1, fs2, fs3, fs4, fs5⟩ := Xs.out
  have hnes : gs < v1.heap.size := World.block_lt_of_cell? v1 _ cs0
  obtain ⟨cd0, cd1, cd2, fd0, fd1, fd2⟩ := Xd.out
  have hned : gd < v1.heap.size := World.block_lt_of_cell? v1 _ cd0
  go_wp2_with fail
  clear cs0 cs1 cs2 cs3 cs4 cs5 fs0 fs1 fs2 fs3 fs4 fs5 hnes
  clear cd0 cd1 cd2 fd0 fd1 fd2 hned
  refine (num8 (1) (0) (by decide) (by decide) (by decide)).mono ?_
  rintro e2 v12 ⟨s12, g12, m12, c12, rfl, _, hd12, hb12⟩
  replace Xs : Hid _ := Xs.out.below hb12
  replace Xd : Hid _ := Xd.out.below hb12
  replace hbw := Below.on hbw hb12
  clear hb12
  have D12 : Hid (DN v12 s12 (some ⟨g12, 0, none⟩) m12 c12 (0) (1)) := hd12
  clear hd12
  go_wp2_with fail
  refine (num8 (1) (0) (by decide) (by decide) (by decide)).mono ?_
  rintro e2 v13 ⟨s13, g13, m13, c13, rfl, _, hd13, hb13⟩
  replace Xs : Hid _ := Xs.out.below hb13
  replace Xd : Hid _ := Xd.out.below hb13
  replace D12 : Hid _ := D12.out.below hb13
  replace hbw := Below.on hbw hb13
  clear hb13
  have D13 : Hid (DN v13 s13 (some ⟨g13, 0, none⟩) m13 c13 (0) (1)) := hd13
  clear hd13
  go_wp2_with fail
  refine (decide_y jn_64 D12.out D13.out (Int.le_refl _) rfl (TB.out.below hbw)).mono ?_
  rintro e v4 ⟨rfl, hb4⟩
  rw [aw8_c]
  replace Xs : Hid _ := Xs.out.below hb4
  replace Xd : Hid _ := Xd.out.below hb4
  replace D12 : Hid _ := D12.out.below hb4
  replace D13 : Hid _ := D13.out.below hb4
  replace hbw := Below.on hbw hb4
  clear hb4
  clear D12
  clear D13
  go_wp2_with fail
  refine (awake8 _ (TB.out.below hbw)).mono ?_
  rintro e v5 ⟨rfl, hb5⟩
  replace Xs : Hid _ := Xs.out.below hb5
  replace Xd : Hid _ := Xd.out.below hb5
  replace hbw := Below.on hbw hb5
  clear hb5
  obtain ⟨cs0, cs1, cs2, cs3, cs4, cs5, fs0, fs1, fs2, fs3, fs4, fs5⟩ := Xs.out
  have hnes : gs < v5.heap.size := World.block_lt_of_cell? v5 _ cs0
  obtain ⟨cd0, cd1, cd2, fd0, fd1, fd2⟩ := Xd.out
  have hned : gd < v5.heap.size := World.block_lt_of_cell? v5 _ cd0
  go_wp2_with fail
  clear cs0 cs1 cs2 cs3 cs4 cs5 fs0 fs1 fs2 fs3 fs4 fs5 hnes
  clear cd0 cd1 cd2 fd0 fd1 fd2 hned
  refine (decide_f HJN.out (fun w' hb => sform_r (B.out.below (Below.on hbw hb)) (A.out.1.below (Below.on hbw hb)) A.out.2)).mono ?_
  rintro e v6 ⟨rfl, hb6⟩
  replace Xs : Hid _ := Xs.out.below hb6
  replace Xd : Hid _ := Xd.out.below hb6
  replace hbw := Below.on hbw hb6
  clear hb6
  obtain ⟨cs0, cs1, cs2, cs3, cs4, cs5, fs0, fs1, fs2, fs3, fs4, fs5⟩ := Xs.out
  have hnes : gs < v6.heap.size := World.block_lt_of_cell? v6 _ cs0
  go_wp2_with fail
  clear cs0 cs1 cs2 cs3 cs4 cs5 fs0 fs1 fs2 fs3 fs4 fs5 hnes
  obtain ⟨xs7, hX⟩ := (B.out.zn.below hbw).ex
  refine (docformd s1 hX.at_).mono ?_
  rintro e9 v7 ⟨rfl, hb7⟩
  rw [show formD s1 xs7 e1 = true from dn_formD (B.out.below hbw) hX]
  clear hX
  replace Xs : Hid _ := Xs.out.below hb7
  replace Xd : Hid _ := Xd.out.below hb7
  replace hbw := Below.on hbw hb7
  clear hb7
  obtain ⟨cs0, cs1, cs2, cs3, cs4, cs5, fs0, fs1, fs2, fs3, fs4, fs5⟩ := Xs.out
  have hnes : gs < v7.heap.size := World.block_lt_of_cell? v7 _ cs0
  obtain ⟨cd0, cd1, cd2, fd0, fd1, fd2⟩ := Xd.out
  have hned : gd < v7.heap.size := World.block_lt_of_cell? v7 _ cd0
  go_wp2_with fail
  clear cs0 cs1 cs2 cs3 cs4 cs5 fs0 fs1 fs2 fs3 fs4 fs5 hnes
  clear cd0 cd1 cd2 fd0 fd1 fd2 hned
  refine (docformd s2 (A.out.1.below hbw)).mono ?_
  rintro e v8 ⟨rfl, hb8⟩
  rw [A.out.2]
  replace Xs : Hid _ := Xs.out.below hb8
  replace Xd : Hid _ := Xd.out.below hb8
  replace hbw := Below.on hbw hb8
  clear hb8
  obtain ⟨cs0, cs1, cs2, cs3, cs4, cs5, fs0, fs1, fs2, fs3, fs4, fs5⟩ := Xs.out
  have hnes : gs < v8.heap.size := World.block_lt_of_cell? v8 _ cs0
  go_wp2_with fail
  clear cs0 cs1 cs2 cs3 cs4 cs5 fs0 fs1 fs2 fs3 fs4 fs5 hnes
  go_ret
  exact ⟨rfl, hbw⟩
set_option maxRecDepth 20000 in
set_option maxHeartbeats 8000000 in
theorem roundDecided_3 {single : Bool} {f p m l : Int} {S I H sd : Nat} {Be : Int} (J : Jn f p m l S I H sd Be) (L : Lw single f S I) {s1 s2 s3 : Bool} {p1 p2 p3 : Option Addr} {m1 m2 m3 c1 c2 c3 : Nat} {e1 e2 e3 : Int} {w : World} (hT : Tab w) {x y : Int} (h : DN w s1 p1 m1 c1 e1 x) (k : DN w s2 p2 m2 c2 e2 y) (hc : dv y e2 < dv x e1) :
    Calls Tryd.prog 3 #[.bool single, SV s1 p1 m1 c1 e1 s2 p2 m2 c2 e2, DV s3 p3 m3 c3 e3] w fun en w' => en = .returned (.bool true) ∧ Below w.heap.size w w' := by
  have HJN : Hid (Jn f p m l S I H sd Be) := J
  have HLW : Hid (Lw single f S I) := L
  have TB : Hid (Tab w) := hT
  clear J L hT
  have A : Hid (DN w s1 p1 m1 c1 e1 x) := h
  have B : Hid (DN w s2 p2 m2 c2 e2 y) := k
  have HC : Hid (dv y e2 < dv x e1) := hc
  clear h k hc
  go_enter Tryd.func3, Tryd.ntmps3
  go_wp2_with fail
  obtain ⟨W0, hW0⟩ : ∃ W0, W0 = ((w.alloc (.cells #[.bool s1, .slice p1 m1 c1, .int .i64 e1, .bool s2, .slice p2 m2 c2, .int .i64 e2] 28)).alloc (.cells #[.bool s3, .slice p3 m3 c3, .int .i64 e3] 26)) := ⟨_, rfl⟩
  have Xs : Hid (B6q W0 (w.heap.size) (.bool s1) (.slice p1 m1 c1) (.int .i64 e1) (.bool s2) (.slice p2 m2 c2) (.int .i64 e2)) := by rw [hW0]; exact ⟨by go_simp, by go_simp, by go_simp, by go_simp, by go_simp, by go_simp, by go_simp, by go_simp, by go_simp, by go_simp, by go_simp, by go_simp⟩
  have Xd : Hid (B3q W0 (w.heap.size + 1) (.bool s3) (.slice p3 m3 c3) (.int .i64 e3)) := by rw [hW0]; exact ⟨by go_simp, by go_simp, by go_simp, by go_simp, by go_simp, by go_simp⟩
  have hb0 : Below w.heap.size w W0 := by rw [hW0]; exact below2 w _ _
  rw [← hW0]
  clear hW0
  have hbw : Below w.heap.size w w := Below.refl _ _
  obtain ⟨gd, hgd⟩ : ∃ g, g = w.heap.size + 1 := ⟨_, rfl⟩
  have HGd : Hid (w.heap.size ≤ gd) := by rw [hgd]; show _ ≤ _; omega
  rw [← hgd] at Xd
  try rw [← hgd]
  obtain ⟨gs, hgs⟩ : ∃ g, g = w.heap.size := ⟨_, rfl⟩
  have HGs : Hid (w.heap.size ≤ gs) := by rw [hgs]; show _ ≤ _; omega
  rw [← hgs] at Xs
  try rw [← hgs]
  have HGD : Hid (gs ≠ gd ∧ gd ≠ gs) := by rw [hgs, hgd]; exact ⟨by omega, by omega⟩
  clear hgs hgd
  replace hbw := Below.on hbw hb0
  clear hb0
  refine (HLW.out.fmt _).mono ?_
  rintro e v1 ⟨rfl, hb1⟩
  replace Xs : Hid _ := Xs.out.below hb1
  replace Xd : Hid _ := Xd.out.below hb1
  replace hbw := Below.on hbw hb1
  clear hb1
  obtain ⟨cs0, cs1, cs2, cs3, cs4, cs5, fs0, fs1, fs2, fs3, fs4, fs5⟩ := Xs.out
  have hnes : gs < v1.heap.size := World.block_lt_of_cell? v1 _ cs0
  obtain ⟨cd0, cd1, cd2, fd0, fd1, fd2⟩ := Xd.out
  have hned : gd < v1.heap.size := World.block_lt_of_cell? v1 _ cd0
  go_wp2_with fail
  clear cs0 cs1 cs2 cs3 cs4 cs5 fs0 fs1 fs2 fs3 fs4 fs5 hnes
  clear cd0 cd1 cd2 fd0 fd1 fd2 hned
  refine (num8 (1) (0) (by decide) (by decide) (by decide)).mono ?_
  rintro e2 v12 ⟨s12, g12, m12, c12, rfl, _, hd12, hb12⟩
  replace Xs : Hid _ := Xs.out.below hb12
  replace Xd : Hid _ := Xd.out.below hb12
  replace hbw := Below.on hbw hb12
  clear hb12
  have D12 : Hid (DN v12 s12 (some ⟨g12, 0, none⟩) m12 c12 (0) (1)) := hd12
  clear hd12
  go_wp2_with fail
  refine (num8 (1) (0) (by decide) (by decide) (by decide)).mono ?_
  rintro e2 v13 ⟨s13, g13, m13, c13, rfl, _, hd13, hb13⟩
  replace Xs : Hid _ := Xs.out.below hb13
  replace Xd : Hid _ := Xd.out.below hb13
  replace D12 : Hid _ := D12.out.below hb13
  replace hbw := Below.on hbw hb13
  clear hb13
  have D13 : Hid (DN v13 s13 (some ⟨g13, 0, none⟩) m13 c13 (0) (1)) := hd13
  clear hd13
  go_wp2_with fail
  refine (decide_y jn_64 D12.out D13.out (Int.le_refl _) rfl (TB.out.below hbw)).mono ?_
  rintro e v4 ⟨rfl, hb4⟩
  rw [aw8_c]
  replace Xs : Hid _ := Xs.out.below hb4
  replace Xd : Hid _ := Xd.out.below hb4
  replace D12 : Hid _ := D12.out.below hb4
  replace D13 : Hid _ := D13.out.below hb4
  replace hbw := Below.on hbw hb4
  clear hb4
  clear D12
  clear D13
  go_wp2_with fail
  refine (awake8 _ (TB.out.below hbw)).mono ?_
  rintro e v5 ⟨rfl, hb5⟩
  replace Xs : Hid _ := Xs.out.below hb5
  replace Xd : Hid _ := Xd.out.below hb5
  replace hbw := Below.on hbw hb5
  clear hb5
  obtain ⟨cs0, cs1, cs2, cs3, cs4, cs5, fs0, fs1, fs2, fs3, fs4, fs5⟩ := Xs.out
  have hnes : gs < v5.heap.size := World.block_lt_of_cell? v5 _ cs0
  obtain ⟨cd0, cd1, cd2, fd0, fd1, fd2⟩ := Xd.out
  have hned : gd < v5.heap.size := World.block_lt_of_cell? v5 _ cd0
  go_wp2_with fail
  clear cs0 cs1 cs2 cs3 cs4 cs5 fs0 fs1 fs2 fs3 fs4 fs5 hnes
  clear cd0 cd1 cd2 fd0 fd1 fd2 hned
  refine (decide_f HJN.out (fun w' hb => sform_g (A.out.below (Below.on hbw hb)) (B.out.below (Below.on hbw hb)) HC.out)).mono ?_
  rintro e v6 ⟨rfl, hb6⟩
  replace Xs : Hid _ := Xs.out.below hb6
  replace Xd : Hid _ := Xd.out.below hb6
  replace hbw := Below.on hbw hb6
  clear hb6
  obtain ⟨cs0, cs1, cs2, cs3, cs4, cs5, fs0, fs1, fs2, fs3, fs4, fs5⟩ := Xs.out
  have hnes : gs < v6.heap.size := World.block_lt_of_cell? v6 _ cs0
  go_wp2_with fail
  clear cs0 cs1 cs2 cs3 cs4 cs5 fs0 fs1 fs2 fs3 fs4 fs5 hnes
  obtain ⟨xs7, hX⟩ := (A.out.zn.below hbw).ex
  refine (docformd s1 hX.at_).mono ?_
  rintro e9 v7 ⟨rfl, hb7⟩
  rw [show formD s1 xs7 e1 = true from dn_formD (A.out.below hbw) hX]
  clear hX
  replace Xs : Hid _ := Xs.out.below hb7
  replace Xd : Hid _ := Xd.out.below hb7
  replace hbw := Below.on hbw hb7
  clear hb7
  obtain ⟨cs0, cs1, cs2, cs3, cs4, cs5, fs0, fs1, fs2, fs3, fs4, fs5⟩ := Xs.out
  have hnes : gs < v7.heap.size := World.block_lt_of_cell? v7 _ cs0
  obtain ⟨cd0, cd1, cd2, fd0, fd1, fd2⟩ := Xd.out
  have hned : gd < v7.heap.size := World.block_lt_of_cell? v7 _ cd0
  go_wp2_with fail
  clear cs0 cs1 cs2 cs3 cs4 cs5 fs0 fs1 fs2 fs3 fs4 fs5 hnes
  clear cd0 cd1 cd2 fd0 fd1 fd2 hned
  obtain ⟨xs8, hX⟩ := (B.out.zn.below hbw).ex
  refine (docformd s2 hX.at_).mono ?_
  rintro e9 v8 ⟨rfl, hb8⟩
  rw [show formD s2 xs8 e2 = true from dn_formD (B.out.below hbw) hX]
  clear hX
  replace Xs : Hid _ := Xs.out.below hb8
  replace Xd : Hid _ := Xd.out.below hb8
  replace hbw := Below.on hbw hb8
  clear hb8
  obtain ⟨cs0, cs1, cs2, cs3, cs4, cs5, fs0, fs1, fs2, fs3, fs4, fs5⟩ := Xs.out
  have hnes : gs < v8.heap.size := World.block_lt_of_cell? v8 _ cs0
  obtain ⟨cd0, cd1, cd2, fd0, fd1, fd2⟩ := Xd.out
  have hned : gd < v8.heap.size := World.block_lt_of_cell? v8 _ cd0
  go_wp2_with fail
  clear cs0 cs1 cs2 cs3 cs4 cs5 fs0 fs1 fs2 fs3 fs4 fs5 hnes
  clear cd0 cd1 cd2 fd0 fd1 fd2 hned
  refine (at8 (A.out.below hbw) (B.out.below hbw)).mono ?_
  rintro e v9 ⟨rfl, hb9⟩
  rw [cmp_g HC.out]
  replace Xs : Hid _ := Xs.out.below hb9
  replace Xd : Hid _ := Xd.out.below hb9
  replace hbw := Below.on hbw hb9
  clear hb9
  obtain ⟨cs0, cs1, cs2, cs3, cs4, cs5, fs0, fs1, fs2, fs3, fs4, fs5⟩ := Xs.out
  have hnes : gs < v9.heap.size := World.block_lt_of_cell? v9 _ cs0
  go_wp2_with fail
  clear cs0 cs1 cs2 cs3 cs4 cs5 fs0 fs1 fs2 fs3 fs4 fs5 hnes
  go_ret
  exact ⟨rfl, hbw⟩
set_option maxRecDepth 20000 in
set_option maxHeartbeats 8000000 in
theorem roundDecided_4 {single : Bool} {f p m l : Int} {S I H sd : Nat} {Be : Int} (J : Jn f p m l S I H sd Be) (L : Lw single f S I) {s1 s2 s3 : Bool} {p1 p2 p3 : Option Addr} {m1 m2 m3 c1 c2 c3 : Nat} {e1 e2 e3 : Int} {w : World} (hT : Tab w) {x y : Int} (h : DN w s1 p1 m1 c1 e1 x) (k : DN w s2 p2 m2 c2 e2 y) (hc : dv x e1 ≤ dv y e2) (hq : ¬ rnp l sd Be S I x e1 = rnp l sd Be S I y e2) :
    Calls Tryd.prog 3 #[.bool single, SV s1 p1 m1 c1 e1 s2 p2 m2 c2 e2, DV s3 p3 m3 c3 e3] w fun en w' => en = .returned (.bool true) ∧ Below w.heap.size w w' := by
  have HJN : Hid (Jn f p m l S I H sd Be) := J
  have HLW : Hid (Lw single f S I) := L
  have TB : Hid (Tab w) := hT
  clear J L hT
  have A : Hid (DN w s1 p1 m1 c1 e1 x) := h
  have B : Hid (DN w s2 p2 m2 c2 e2 y) := k
  have HC : Hid (dv x e1 ≤ dv y e2) := hc
  obtain ⟨cc, hcc⟩ : ∃ cc, cc = cmpI (dv x e1) (dv y e2) := ⟨_, rfl⟩
  have HCC : Hid (cmpI (dv x e1) (dv y e2) = cc) := hcc.symm
  have hc3 : cc = -1 ∨ cc = 0 := by rw [hcc]; unfold cmpI; by_cases a : dv x e1 < dv y e2; (· rw [if_pos a]; exact .inl rfl); rw [if_neg a, if_pos (by omega)]; exact .inr rfl
  have k1 : (cc == 1) = false := by simp; omega
  have k2 : decide (1 < cc) = false := decide_eq_false (by omega)
  have HE : Hid (-4194304 ≤ e1 ∧ -4194304 ≤ e2) := by
    refine ⟨?_, ?_⟩
    · rcases h.fm with ⟨_, h2⟩ | ⟨_, h2, _⟩ <;> omega
    · rcases k.fm with ⟨_, h2⟩ | ⟨_, h2, _⟩ <;> omega
  obtain ⟨ra, hra⟩ : ∃ r, r = rnp l sd Be S I x e1 := ⟨_, rfl⟩
  obtain ⟨rb, hrb⟩ : ∃ r, r = rnp l sd Be S I y e2 := ⟨_, rfl⟩
  have HR : Hid (rnp l sd Be S I x e1 = ra ∧ rnp l sd Be S I y e2 = rb) := ⟨hra.symm, hrb.symm⟩
  have HQ : Hid (¬ rnp l sd Be S I x e1 = rnp l sd Be S I y e2) := hq
  rw [← hra, ← hrb] at hq
  have q1 : ((ra : Int) == (rb : Int)) = false := by simp; omega
  clear h k hc hcc hc3 hra hrb hq
  go_enter Tryd.func3, Tryd.ntmps3
  go_wp2_with fail
  obtain ⟨W0, hW0⟩ : ∃ W0, W0 = ((w.alloc (.cells #[.bool s1, .slice p1 m1 c1, .int .i64 e1, .bool s2, .slice p2 m2 c2, .int .i64 e2] 28)).alloc (.cells #[.bool s3, .slice p3 m3 c3, .int .i64 e3] 26)) := ⟨_, rfl⟩
  have Xs : Hid (B6q W0 (w.heap.size) (.bool s1) (.slice p1 m1 c1) (.int .i64 e1) (.bool s2) (.slice p2 m2 c2) (.int .i64 e2)) := by rw [hW0]; exact ⟨by go_simp, by go_simp, by go_simp, by go_simp, by go_simp, by go_simp, by go_simp, by go_simp, by go_simp, by go_simp, by go_simp, by go_simp⟩
  have Xd : Hid (B3q W0 (w.heap.size + 1) (.bool s3) (.slice p3 m3 c3) (.int .i64 e3)) := by rw [hW0]; exact ⟨by go_simp, by go_simp, by go_simp, by go_simp, by go_simp, by go_simp⟩
  have hb0 : Below w.heap.size w W0 := by rw [hW0]; exact below2 w _ _
  rw [← hW0]
  clear hW0
  have hbw : Below w.heap.size w w := Below.refl _ _
  obtain ⟨gd, hgd⟩ : ∃ g, g = w.heap.size + 1 := ⟨_, rfl⟩
  have HGd : Hid (w.heap.size ≤ gd) := by rw [hgd]; show _ ≤ _; omega
  rw [← hgd] at Xd
  try rw [← hgd]
  obtain ⟨gs, hgs⟩ : ∃ g, g = w.heap.size := ⟨_, rfl⟩
  have HGs : Hid (w.heap.size ≤ gs) := by rw [hgs]; show _ ≤ _; omega
  rw [← hgs] at Xs
  try rw [← hgs]
  have HGD : Hid (gs ≠ gd ∧ gd ≠ gs) := by rw [hgs, hgd]; exact ⟨by omega, by omega⟩
  clear hgs hgd
  replace hbw := Below.on hbw hb0
  clear hb0
  refine (HLW.out.fmt _).mono ?_
  rintro e v1 ⟨rfl, hb1⟩
  replace Xs : Hid _ := Xs.out.below hb1
  replace Xd : Hid _ := Xd.out.below hb1
  replace hbw := Below.on hbw hb1
  clear hb1
  obtain ⟨cs0, cs1, cs2, cs3, cs4, cs5, fs0, fs1, fs2, fs3, fs4, fs5⟩ := Xs.out
  have hnes : gs < v1.heap.size := World.block_lt_of_cell? v1 _ cs0
  obtain ⟨cd0, cd1, cd2, fd0, fd1, fd2⟩ := Xd.out
  have hned : gd < v1.heap.size := World.block_lt_of_cell? v1 _ cd0
  go_wp2_with fail
  clear cs0 cs1 cs2 cs3 cs4 cs5 fs0 fs1 fs2 fs3 fs4 fs5 hnes
  clear cd0 cd1 cd2 fd0 fd1 fd2 hned
  refine (num8 (1) (0) (by decide) (by decide) (by decide)).mono ?_
  rintro e2 v12 ⟨s12, g12, m12, c12, rfl, _, hd12, hb12⟩
  replace Xs : Hid _ := Xs.out.below hb12
  replace Xd : Hid _ := Xd.out.below hb12
  replace hbw := Below.on hbw hb12
  clear hb12
  have D12 : Hid (DN v12 s12 (some ⟨g12, 0, none⟩) m12 c12 (0) (1)) := hd12
  clear hd12
  go_wp2_with fail
  refine (num8 (1) (0) (by decide) (by decide) (by decide)).mono ?_
  rintro e2 v13 ⟨s13, g13, m13, c13, rfl, _, hd13, hb13⟩
  replace Xs : Hid _ := Xs.out.below hb13
  replace Xd : Hid _ := Xd.out.below hb13
  replace D12 : Hid _ := D12.out.below hb13
  replace hbw := Below.on hbw hb13
  clear hb13
  have D13 : Hid (DN v13 s13 (some ⟨g13, 0, none⟩) m13 c13 (0) (1)) := hd13
  clear hd13
  go_wp2_with fail
  refine (decide_y jn_64 D12.out D13.out (Int.le_refl _) rfl (TB.out.below hbw)).mono ?_
  rintro e v4 ⟨rfl, hb4⟩
  rw [aw8_c]
  replace Xs : Hid _ := Xs.out.below hb4
  replace Xd : Hid _ := Xd.out.below hb4
  replace D12 : Hid _ := D12.out.below hb4
  replace D13 : Hid _ := D13.out.below hb4
  replace hbw := Below.on hbw hb4
  clear hb4
  clear D12
  clear D13
  go_wp2_with fail
  refine (awake8 _ (TB.out.below hbw)).mono ?_
  rintro e v5 ⟨rfl, hb5⟩
  replace Xs : Hid _ := Xs.out.below hb5
  replace Xd : Hid _ := Xd.out.below hb5
  replace hbw := Below.on hbw hb5
  clear hb5
  obtain ⟨cs0, cs1, cs2, cs3, cs4, cs5, fs0, fs1, fs2, fs3, fs4, fs5⟩ := Xs.out
  have hnes : gs < v5.heap.size := World.block_lt_of_cell? v5 _ cs0
  obtain ⟨cd0, cd1, cd2, fd0, fd1, fd2⟩ := Xd.out
  have hned : gd < v5.heap.size := World.block_lt_of_cell? v5 _ cd0
  go_wp2_with fail
  clear cs0 cs1 cs2 cs3 cs4 cs5 fs0 fs1 fs2 fs3 fs4 fs5 hnes
  clear cd0 cd1 cd2 fd0 fd1 fd2 hned
  refine (decide_n HJN.out (A.out.below hbw) (B.out.below hbw) HC.out HQ.out (TB.out.below hbw)).mono ?_
  rintro e v6 ⟨rfl, hb6⟩
  replace Xs : Hid _ := Xs.out.below hb6
  replace Xd : Hid _ := Xd.out.below hb6
  replace hbw := Below.on hbw hb6
  clear hb6
  obtain ⟨cs0, cs1, cs2, cs3, cs4, cs5, fs0, fs1, fs2, fs3, fs4, fs5⟩ := Xs.out
  have hnes : gs < v6.heap.size := World.block_lt_of_cell? v6 _ cs0
  go_wp2_with fail
  clear cs0 cs1 cs2 cs3 cs4 cs5 fs0 fs1 fs2 fs3 fs4 fs5 hnes
  obtain ⟨xs7, hX⟩ := (A.out.zn.below hbw).ex
  refine (docformd s1 hX.at_).mono ?_
  rintro e9 v7 ⟨rfl, hb7⟩
  rw [show formD s1 xs7 e1 = true from dn_formD (A.out.below hbw) hX]
  clear hX
  replace Xs : Hid _ := Xs.out.below hb7
  replace Xd : Hid _ := Xd.out.below hb7
  replace hbw := Below.on hbw hb7
  clear hb7
  obtain ⟨cs0, cs1, cs2, cs3, cs4, cs5, fs0, fs1, fs2, fs3, fs4, fs5⟩ := Xs.out
  have hnes : gs < v7.heap.size := World.block_lt_of_cell? v7 _ cs0
  obtain ⟨cd0, cd1, cd2, fd0, fd1, fd2⟩ := Xd.out
  have hned : gd < v7.heap.size := World.block_lt_of_cell? v7 _ cd0
  go_wp2_with fail
  clear cs0 cs1 cs2 cs3 cs4 cs5 fs0 fs1 fs2 fs3 fs4 fs5 hnes
  clear cd0 cd1 cd2 fd0 fd1 fd2 hned
  obtain ⟨xs8, hX⟩ := (B.out.zn.below hbw).ex
  refine (docformd s2 hX.at_).mono ?_
  rintro e9 v8 ⟨rfl, hb8⟩
  rw [show formD s2 xs8 e2 = true from dn_formD (B.out.below hbw) hX]
  clear hX
  replace Xs : Hid _ := Xs.out.below hb8
  replace Xd : Hid _ := Xd.out.below hb8
  replace hbw := Below.on hbw hb8
  clear hb8
  obtain ⟨cs0, cs1, cs2, cs3, cs4, cs5, fs0, fs1, fs2, fs3, fs4, fs5⟩ := Xs.out
  have hnes : gs < v8.heap.size := World.block_lt_of_cell? v8 _ cs0
  obtain ⟨cd0, cd1, cd2, fd0, fd1, fd2⟩ := Xd.out
  have hned : gd < v8.heap.size := World.block_lt_of_cell? v8 _ cd0
  go_wp2_with fail
  clear cs0 cs1 cs2 cs3 cs4 cs5 fs0 fs1 fs2 fs3 fs4 fs5 hnes
  clear cd0 cd1 cd2 fd0 fd1 fd2 hned
  refine (at8 (A.out.below hbw) (B.out.below hbw)).mono ?_
  rintro e v9 ⟨rfl, hb9⟩
  rw [HCC.out]
  replace Xs : Hid _ := Xs.out.below hb9
  replace Xd : Hid _ := Xd.out.below hb9
  replace hbw := Below.on hbw hb9
  clear hb9
  obtain ⟨cs0, cs1, cs2, cs3, cs4, cs5, fs0, fs1, fs2, fs3, fs4, fs5⟩ := Xs.out
  have hnes : gs < v9.heap.size := World.block_lt_of_cell? v9 _ cs0
  go_wp2_with fail
  clear cs0 cs1 cs2 cs3 cs4 cs5 fs0 fs1 fs2 fs3 fs4 fs5 hnes
  refine (rnearest HJN.out (A.out.below hbw) (TB.out.below hbw)).mono ?_
  rintro e v10 ⟨rfl, hb10⟩
  rw [HR.out.1]
  replace Xs : Hid _ := Xs.out.below hb10
  replace Xd : Hid _ := Xd.out.below hb10
  replace hbw := Below.on hbw hb10
  clear hb10
  obtain ⟨cs0, cs1, cs2, cs3, cs4, cs5, fs0, fs1, fs2, fs3, fs4, fs5⟩ := Xs.out
  have hnes : gs < v10.heap.size := World.block_lt_of_cell? v10 _ cs0
  go_wp2_with fail
  clear cs0 cs1 cs2 cs3 cs4 cs5 fs0 fs1 fs2 fs3 fs4 fs5 hnes
  refine (rnearest HJN.out (B.out.below hbw) (TB.out.below hbw)).mono ?_
  rintro e v11 ⟨rfl, hb11⟩
  rw [HR.out.2]
  replace Xs : Hid _ := Xs.out.below hb11
  replace Xd : Hid _ := Xd.out.below hb11
  replace hbw := Below.on hbw hb11
  clear hb11
  obtain ⟨cs0, cs1, cs2, cs3, cs4, cs5, fs0, fs1, fs2, fs3, fs4, fs5⟩ := Xs.out
  have hnes : gs < v11.heap.size := World.block_lt_of_cell? v11 _ cs0
  obtain ⟨cd0, cd1, cd2, fd0, fd1, fd2⟩ := Xd.out
  have hned : gd < v11.heap.size := World.block_lt_of_cell? v11 _ cd0
  go_wp2_with fail
  clear cs0 cs1 cs2 cs3 cs4 cs5 fs0 fs1 fs2 fs3 fs4 fs5 hnes
  clear cd0 cd1 cd2 fd0 fd1 fd2 hned
  go_ret
  exact ⟨rfl, hbw⟩
set_option maxRecDepth 20000 in
set_option maxHeartbeats 8000000 in
theorem roundDecided_5 {single : Bool} {f p m l : Int} {S I H sd : Nat} {Be : Int} (J : Jn f p m l S I H sd Be) (L : Lw single f S I) {s1 s2 s3 : Bool} {p1 p2 p3 : Option Addr} {m1 m2 m3 c1 c2 c3 : Nat} {e1 e2 e3 : Int} {w : World} (hT : Tab w) {x y : Int} (h : DN w s1 p1 m1 c1 e1 x) (k : DN w s2 p2 m2 c2 e2 y) (hc : dv x e1 ≤ dv y e2) (hq : rnp l sd Be S I x e1 = rnp l sd Be S I y e2) {xs : List Nat} (h3 : At w p3 m3 c3 xs) (hf : formD s3 xs e3 = false) :
    Calls Tryd.prog 3 #[.bool single, SV s1 p1 m1 c1 e1 s2 p2 m2 c2 e2, DV s3 p3 m3 c3 e3] w fun en w' => en = .returned (.bool true) ∧ Below w.heap.size w w' := by
  have HJN : Hid (Jn f p m l S I H sd Be) := J
  have HLW : Hid (Lw single f S I) := L
  have TB : Hid (Tab w) := hT
  clear J L hT
  have A : Hid (DN w s1 p1 m1 c1 e1 x) := h
  have B : Hid (DN w s2 p2 m2 c2 e2 y) := k
  have HC : Hid (dv x e1 ≤ dv y e2) := hc
  obtain ⟨cc, hcc⟩ : ∃ cc, cc = cmpI (dv x e1) (dv y e2) := ⟨_, rfl⟩
  have HCC : Hid (cmpI (dv x e1) (dv y e2) = cc) := hcc.symm
  have hc3 : cc = -1 ∨ cc = 0 := by rw [hcc]; unfold cmpI; by_cases a : dv x e1 < dv y e2; (· rw [if_pos a]; exact .inl rfl); rw [if_neg a, if_pos (by omega)]; exact .inr rfl
  have k1 : (cc == 1) = false := by simp; omega
  have k2 : decide (1 < cc) = false := decide_eq_false (by omega)
  have HE : Hid (-4194304 ≤ e1 ∧ -4194304 ≤ e2) := by
    refine ⟨?_, ?_⟩
    · rcases h.fm with ⟨_, h2⟩ | ⟨_, h2, _⟩ <;> omega
    · rcases k.fm with ⟨_, h2⟩ | ⟨_, h2, _⟩ <;> omega
  obtain ⟨ra, hra⟩ : ∃ r, r = rnp l sd Be S I x e1 := ⟨_, rfl⟩
  obtain ⟨rb, hrb⟩ : ∃ r, r = rnp l sd Be S I y e2 := ⟨_, rfl⟩
  have HR : Hid (rnp l sd Be S I x e1 = ra ∧ rnp l sd Be S I y e2 = rb) := ⟨hra.symm, hrb.symm⟩
  have HQ : Hid (rnp l sd Be S I x e1 = rnp l sd Be S I y e2) := hq
  rw [← hra, ← hrb] at hq
  have q1 : ((ra : Int) == (rb : Int)) = true := by simp; omega
  clear h k hc hcc hc3 hra hrb hq
  have hab : ra = rb := by rw [← HR.out.1, ← HR.out.2]; exact HQ.out
  subst hab
  have C : Hid (At w p3 m3 c3 xs ∧ formD s3 xs e3 = false) := ⟨h3, hf⟩
  clear h3 hf
  go_enter Tryd.func3, Tryd.ntmps3
  go_wp2_with fail
  obtain ⟨W0, hW0⟩ : ∃ W0, W0 = ((w.alloc (.cells #[.bool s1, .slice p1 m1 c1, .int .i64 e1, .bool s2, .slice p2 m2 c2, .int .i64 e2] 28)).alloc (.cells #[.bool s3, .slice p3 m3 c3, .int .i64 e3] 26)) := ⟨_, rfl⟩
  have Xs : Hid (B6q W0 (w.heap.size) (.bool s1) (.slice p1 m1 c1) (.int .i64 e1) (.bool s2) (.slice p2 m2 c2) (.int .i64 e2)) := by rw [hW0]; exact ⟨by go_simp, by go_simp, by go_simp, by go_simp, by go_simp, by go_simp, by go_simp, by go_simp, by go_simp, by go_simp, by go_simp, by go_simp⟩
  have Xd : Hid (B3q W0 (w.heap.size + 1) (.bool s3) (.slice p3 m3 c3) (.int .i64 e3)) := by rw [hW0]; exact ⟨by go_simp, by go_simp, by go_simp, by go_simp, by go_simp, by go_simp⟩
  have hb0 : Below w.heap.size w W0 := by rw [hW0]; exact below2 w _ _
  rw [← hW0]
  clear hW0
  have hbw : Below w.heap.size w w := Below.refl _ _
  obtain ⟨gd, hgd⟩ : ∃ g, g = w.heap.size + 1 := ⟨_, rfl⟩
  have HGd : Hid (w.heap.size ≤ gd) := by rw [hgd]; show _ ≤ _; omega
  rw [← hgd] at Xd
  try rw [← hgd]
  obtain ⟨gs, hgs⟩ : ∃ g, g = w.heap.size := ⟨_, rfl⟩
  have HGs : Hid (w.heap.size ≤ gs) := by rw [hgs]; show _ ≤ _; omega
  rw [← hgs] at Xs
  try rw [← hgs]
  have HGD : Hid (gs ≠ gd ∧ gd ≠ gs) := by rw [hgs, hgd]; exact ⟨by omega, by omega⟩
  clear hgs hgd
  replace hbw := Below.on hbw hb0
  clear hb0
  refine (HLW.out.fmt _).mono ?_
  rintro e v1 ⟨rfl, hb1⟩
  replace Xs : Hid _ := Xs.out.below hb1
  replace Xd : Hid _ := Xd.out.below hb1
  replace hbw := Below.on hbw hb1
  clear hb1
  obtain ⟨cs0, cs1, cs2, cs3, cs4, cs5, fs0, fs1, fs2, fs3, fs4, fs5⟩ := Xs.out
  have hnes : gs < v1.heap.size := World.block_lt_of_cell? v1 _ cs0
  obtain ⟨cd0, cd1, cd2, fd0, fd1, fd2⟩ := Xd.out
  have hned : gd < v1.heap.size := World.block_lt_of_cell? v1 _ cd0
  go_wp2_with fail
  clear cs0 cs1 cs2 cs3 cs4 cs5 fs0 fs1 fs2 fs3 fs4 fs5 hnes
  clear cd0 cd1 cd2 fd0 fd1 fd2 hned
  refine (num8 (1) (0) (by decide) (by decide) (by decide)).mono ?_
  rintro e2 v12 ⟨s12, g12, m12, c12, rfl, _, hd12, hb12⟩
  replace Xs : Hid _ := Xs.out.below hb12
  replace Xd : Hid _ := Xd.out.below hb12
  replace hbw := Below.on hbw hb12
  clear hb12
  have D12 : Hid (DN v12 s12 (some ⟨g12, 0, none⟩) m12 c12 (0) (1)) := hd12
  clear hd12
  go_wp2_with fail
  refine (num8 (1) (0) (by decide) (by decide) (by decide)).mono ?_
  rintro e2 v13 ⟨s13, g13, m13, c13, rfl, _, hd13, hb13⟩
  replace Xs : Hid _ := Xs.out.below hb13
  replace Xd : Hid _ := Xd.out.below hb13
  replace D12 : Hid _ := D12.out.below hb13
  replace hbw := Below.on hbw hb13
  clear hb13
  have D13 : Hid (DN v13 s13 (some ⟨g13, 0, none⟩) m13 c13 (0) (1)) := hd13
  clear hd13
  go_wp2_with fail
  refine (decide_y jn_64 D12.out D13.out (Int.le_refl _) rfl (TB.out.below hbw)).mono ?_
  rintro e v4 ⟨rfl, hb4⟩
  rw [aw8_c]
  replace Xs : Hid _ := Xs.out.below hb4
  replace Xd : Hid _ := Xd.out.below hb4
  replace D12 : Hid _ := D12.out.below hb4
  replace D13 : Hid _ := D13.out.below hb4
  replace hbw := Below.on hbw hb4
  clear hb4
  clear D12
  clear D13
  go_wp2_with fail
  refine (awake8 _ (TB.out.below hbw)).mono ?_
  rintro e v5 ⟨rfl, hb5⟩
  replace Xs : Hid _ := Xs.out.below hb5
  replace Xd : Hid _ := Xd.out.below hb5
  replace hbw := Below.on hbw hb5
  clear hb5
  obtain ⟨cs0, cs1, cs2, cs3, cs4, cs5, fs0, fs1, fs2, fs3, fs4, fs5⟩ := Xs.out
  have hnes : gs < v5.heap.size := World.block_lt_of_cell? v5 _ cs0
  obtain ⟨cd0, cd1, cd2, fd0, fd1, fd2⟩ := Xd.out
  have hned : gd < v5.heap.size := World.block_lt_of_cell? v5 _ cd0
  go_wp2_with fail
  clear cs0 cs1 cs2 cs3 cs4 cs5 fs0 fs1 fs2 fs3 fs4 fs5 hnes
  clear cd0 cd1 cd2 fd0 fd1 fd2 hned
  refine (decide_y HJN.out (A.out.below hbw) (B.out.below hbw) HC.out HQ.out (TB.out.below hbw)).mono ?_
  rintro e v6 ⟨rfl, hb6⟩
  rw [HR.out.1]
  replace Xs : Hid _ := Xs.out.below hb6
  replace Xd : Hid _ := Xd.out.below hb6
  replace hbw := Below.on hbw hb6
  clear hb6
  obtain ⟨cs0, cs1, cs2, cs3, cs4, cs5, fs0, fs1, fs2, fs3, fs4, fs5⟩ := Xs.out
  have hnes : gs < v6.heap.size := World.block_lt_of_cell? v6 _ cs0
  go_wp2_with fail
  clear cs0 cs1 cs2 cs3 cs4 cs5 fs0 fs1 fs2 fs3 fs4 fs5 hnes
  obtain ⟨xs7, hX⟩ := (A.out.zn.below hbw).ex
  refine (docformd s1 hX.at_).mono ?_
  rintro e9 v7 ⟨rfl, hb7⟩
  rw [show formD s1 xs7 e1 = true from dn_formD (A.out.below hbw) hX]
  clear hX
  replace Xs : Hid _ := Xs.out.below hb7
  replace Xd : Hid _ := Xd.out.below hb7
  replace hbw := Below.on hbw hb7
  clear hb7
  obtain ⟨cs0, cs1, cs2, cs3, cs4, cs5, fs0, fs1, fs2, fs3, fs4, fs5⟩ := Xs.out
  have hnes : gs < v7.heap.size := World.block_lt_of_cell? v7 _ cs0
  obtain ⟨cd0, cd1, cd2, fd0, fd1, fd2⟩ := Xd.out
  have hned : gd < v7.heap.size := World.block_lt_of_cell? v7 _ cd0
  go_wp2_with fail
  clear cs0 cs1 cs2 cs3 cs4 cs5 fs0 fs1 fs2 fs3 fs4 fs5 hnes
  clear cd0 cd1 cd2 fd0 fd1 fd2 hned
  obtain ⟨xs8, hX⟩ := (B.out.zn.below hbw).ex
  refine (docformd s2 hX.at_).mono ?_
  rintro e9 v8 ⟨rfl, hb8⟩
  rw [show formD s2 xs8 e2 = true from dn_formD (B.out.below hbw) hX]
  clear hX
  replace Xs : Hid _ := Xs.out.below hb8
  replace Xd : Hid _ := Xd.out.below hb8
  replace hbw := Below.on hbw hb8
  clear hb8
  obtain ⟨cs0, cs1, cs2, cs3, cs4, cs5, fs0, fs1, fs2, fs3, fs4, fs5⟩ := Xs.out
  have hnes : gs < v8.heap.size := World.block_lt_of_cell? v8 _ cs0
  obtain ⟨cd0, cd1, cd2, fd0, fd1, fd2⟩ := Xd.out
  have hned : gd < v8.heap.size := World.block_lt_of_cell? v8 _ cd0
  go_wp2_with fail
  clear cs0 cs1 cs2 cs3 cs4 cs5 fs0 fs1 fs2 fs3 fs4 fs5 hnes
  clear cd0 cd1 cd2 fd0 fd1 fd2 hned
  refine (at8 (A.out.below hbw) (B.out.below hbw)).mono ?_
  rintro e v9 ⟨rfl, hb9⟩
  rw [HCC.out]
  replace Xs : Hid _ := Xs.out.below hb9
  replace Xd : Hid _ := Xd.out.below hb9
  replace hbw := Below.on hbw hb9
  clear hb9
  obtain ⟨cs0, cs1, cs2, cs3, cs4, cs5, fs0, fs1, fs2, fs3, fs4, fs5⟩ := Xs.out
  have hnes : gs < v9.heap.size := World.block_lt_of_cell? v9 _ cs0
  go_wp2_with fail
  clear cs0 cs1 cs2 cs3 cs4 cs5 fs0 fs1 fs2 fs3 fs4 fs5 hnes
  refine (rnearest HJN.out (A.out.below hbw) (TB.out.below hbw)).mono ?_
  rintro e v10 ⟨rfl, hb10⟩
  rw [HR.out.1]
  replace Xs : Hid _ := Xs.out.below hb10
  replace Xd : Hid _ := Xd.out.below hb10
  replace hbw := Below.on hbw hb10
  clear hb10
  obtain ⟨cs0, cs1, cs2, cs3, cs4, cs5, fs0, fs1, fs2, fs3, fs4, fs5⟩ := Xs.out
  have hnes : gs < v10.heap.size := World.block_lt_of_cell? v10 _ cs0
  go_wp2_with fail
  clear cs0 cs1 cs2 cs3 cs4 cs5 fs0 fs1 fs2 fs3 fs4 fs5 hnes
  refine (rnearest HJN.out (B.out.below hbw) (TB.out.below hbw)).mono ?_
  rintro e v11 ⟨rfl, hb11⟩
  rw [HR.out.2]
  replace Xs : Hid _ := Xs.out.below hb11
  replace Xd : Hid _ := Xd.out.below hb11
  replace hbw := Below.on hbw hb11
  clear hb11
  obtain ⟨cs0, cs1, cs2, cs3, cs4, cs5, fs0, fs1, fs2, fs3, fs4, fs5⟩ := Xs.out
  have hnes : gs < v11.heap.size := World.block_lt_of_cell? v11 _ cs0
  obtain ⟨cd0, cd1, cd2, fd0, fd1, fd2⟩ := Xd.out
  have hned : gd < v11.heap.size := World.block_lt_of_cell? v11 _ cd0
  go_wp2_with fail
  clear cs0 cs1 cs2 cs3 cs4 cs5 fs0 fs1 fs2 fs3 fs4 fs5 hnes
  clear cd0 cd1 cd2 fd0 fd1 fd2 hned
  refine (docformd s3 (C.out.1.below hbw)).mono ?_
  rintro e v12 ⟨rfl, hb12⟩
  rw [C.out.2]
  replace Xs : Hid _ := Xs.out.below hb12
  replace Xd : Hid _ := Xd.out.below hb12
  replace hbw := Below.on hbw hb12
  clear hb12
  obtain ⟨cs0, cs1, cs2, cs3, cs4, cs5, fs0, fs1, fs2, fs3, fs4, fs5⟩ := Xs.out
  have hnes : gs < v12.heap.size := World.block_lt_of_cell? v12 _ cs0
  go_wp2_with fail
  clear cs0 cs1 cs2 cs3 cs4 cs5 fs0 fs1 fs2 fs3 fs4 fs5 hnes
  go_ret
  exact ⟨rfl, hbw⟩
set_option maxRecDepth 20000 in
set_option maxHeartbeats 8000000 in
theorem roundDecided_6 {single : Bool} {f p m l : Int} {S I H sd : Nat} {Be : Int} (J : Jn f p m l S I H sd Be) (L : Lw single f S I) {s1 s2 s3 : Bool} {p1 p2 p3 : Option Addr} {m1 m2 m3 c1 c2 c3 : Nat} {e1 e2 e3 : Int} {w : World} (hT : Tab w) {x y : Int} (h : DN w s1 p1 m1 c1 e1 x) (k : DN w s2 p2 m2 c2 e2 y) (hc : dv x e1 ≤ dv y e2) (hq : rnp l sd Be S I x e1 = rnp l sd Be S I y e2) {u : Int} (h3 : DN w s3 p3 m3 c3 e3 u) (h4 : dv u e3 < dv x e1) :
    Calls Tryd.prog 3 #[.bool single, SV s1 p1 m1 c1 e1 s2 p2 m2 c2 e2, DV s3 p3 m3 c3 e3] w fun en w' => en = .returned (.bool true) ∧ Below w.heap.size w w' := by
  have HJN : Hid (Jn f p m l S I H sd Be) := J
  have HLW : Hid (Lw single f S I) := L
  have TB : Hid (Tab w) := hT
  clear J L hT
  have A : Hid (DN w s1 p1 m1 c1 e1 x) := h
  have B : Hid (DN w s2 p2 m2 c2 e2 y) := k
  have HC : Hid (dv x e1 ≤ dv y e2) := hc
  obtain ⟨cc, hcc⟩ : ∃ cc, cc = cmpI (dv x e1) (dv y e2) := ⟨_, rfl⟩
  have HCC : Hid (cmpI (dv x e1) (dv y e2) = cc) := hcc.symm
  have hc3 : cc = -1 ∨ cc = 0 := by rw [hcc]; unfold cmpI; by_cases a : dv x e1 < dv y e2; (· rw [if_pos a]; exact .inl rfl); rw [if_neg a, if_pos (by omega)]; exact .inr rfl
  have k1 : (cc == 1) = false := by simp; omega
  have k2 : decide (1 < cc) = false := decide_eq_false (by omega)
  have HE : Hid (-4194304 ≤ e1 ∧ -4194304 ≤ e2) := by
    refine ⟨?_, ?_⟩
    · rcases h.fm with ⟨_, h2⟩ | ⟨_, h2, _⟩ <;> omega
    · rcases k.fm with ⟨_, h2⟩ | ⟨_, h2, _⟩ <;> omega
  obtain ⟨ra, hra⟩ : ∃ r, r = rnp l sd Be S I x e1 := ⟨_, rfl⟩
  obtain ⟨rb, hrb⟩ : ∃ r, r = rnp l sd Be S I y e2 := ⟨_, rfl⟩
  have HR : Hid (rnp l sd Be S I x e1 = ra ∧ rnp l sd Be S I y e2 = rb) := ⟨hra.symm, hrb.symm⟩
  have HQ : Hid (rnp l sd Be S I x e1 = rnp l sd Be S I y e2) := hq
  rw [← hra, ← hrb] at hq
  have q1 : ((ra : Int) == (rb : Int)) = true := by simp; omega
  clear h k hc hcc hc3 hra hrb hq
  have hab : ra = rb := by rw [← HR.out.1, ← HR.out.2]; exact HQ.out
  subst hab
  have C : Hid (DN w s3 p3 m3 c3 e3 u) := h3
  have HU : Hid (dv u e3 < dv x e1) := h4
  clear h3 h4
  go_enter Tryd.func3, Tryd.ntmps3
  go_wp2_with fail
  obtain ⟨W0, hW0⟩ : ∃ W0, W0 = ((w.alloc (.cells #[.bool s1, .slice p1 m1 c1, .int .i64 e1, .bool s2, .slice p2 m2 c2, .int .i64 e2] 28)).alloc (.cells #[.bool s3, .slice p3 m3 c3, .int .i64 e3] 26)) := ⟨_, rfl⟩
  have Xs : Hid (B6q W0 (w.heap.size) (.bool s1) (.slice p1 m1 c1) (.int .i64 e1) (.bool s2) (.slice p2 m2 c2) (.int .i64 e2)) := by rw [hW0]; exact ⟨by go_simp, by go_simp, by go_simp, by go_simp, by go_simp, by go_simp, by go_simp, by go_simp, by go_simp, by go_simp, by go_simp, by go_simp⟩
  have Xd : Hid (B3q W0 (w.heap.size + 1) (.bool s3) (.slice p3 m3 c3) (.int .i64 e3)) := by rw [hW0]; exact ⟨by go_simp, by go_simp, by go_simp, by go_simp, by go_simp, by go_simp⟩
  have hb0 : Below w.heap.size w W0 := by rw [hW0]; exact below2 w _ _
  rw [← hW0]
  clear hW0
  have hbw : Below w.heap.size w w := Below.refl _ _
  obtain ⟨gd, hgd⟩ : ∃ g, g = w.heap.size + 1 := ⟨_, rfl⟩
  have HGd : Hid (w.heap.size ≤ gd) := by rw [hgd]; show _ ≤ _; omega
  rw [← hgd] at Xd
  try rw [← hgd]
  obtain ⟨gs, hgs⟩ : ∃ g, g = w.heap.size := ⟨_, rfl⟩
  have HGs : Hid (w.heap.size ≤ gs) := by rw [hgs]; show _ ≤ _; omega
  rw [← hgs] at Xs
  try rw [← hgs]
  have HGD : Hid (gs ≠ gd ∧ gd ≠ gs) := by rw [hgs, hgd]; exact ⟨by omega, by omega⟩
  clear hgs hgd
  replace hbw := Below.on hbw hb0
  clear hb0
  refine (HLW.out.fmt _).mono ?_
  rintro e v1 ⟨rfl, hb1⟩
  replace Xs : Hid _ := Xs.out.below hb1
  replace Xd : Hid _ := Xd.out.below hb1
  replace hbw := Below.on hbw hb1
  clear hb1
  obtain ⟨cs0, cs1, cs2, cs3, cs4, cs5, fs0, fs1, fs2, fs3, fs4, fs5⟩ := Xs.out
  have hnes : gs < v1.heap.size := World.block_lt_of_cell? v1 _ cs0
  obtain ⟨cd0, cd1, cd2, fd0, fd1, fd2⟩ := Xd.out
  have hned : gd < v1.heap.size := World.block_lt_of_cell? v1 _ cd0
  go_wp2_with fail
  clear cs0 cs1 cs2 cs3 cs4 cs5 fs0 fs1 fs2 fs3 fs4 fs5 hnes
  clear cd0 cd1 cd2 fd0 fd1 fd2 hned
  refine (num8 (1) (0) (by decide) (by decide) (by decide)).mono ?_
  rintro e2 v12 ⟨s12, g12, m12, c12, rfl, _, hd12, hb12⟩
  replace Xs : Hid _ := Xs.out.below hb12
  replace Xd : Hid _ := Xd.out.below hb12
  replace hbw := Below.on hbw hb12
  clear hb12
  have D12 : Hid (DN v12 s12 (some ⟨g12, 0, none⟩) m12 c12 (0) (1)) := hd12
  clear hd12
  go_wp2_with fail
  refine (num8 (1) (0) (by decide) (by decide) (by decide)).mono ?_
  rintro e2 v13 ⟨s13, g13, m13, c13, rfl, _, hd13, hb13⟩
  replace Xs : Hid _ := Xs.out.below hb13
  replace Xd : Hid _ := Xd.out.below hb13
  replace D12 : Hid _ := D12.out.below hb13
  replace hbw := Below.on hbw hb13
  clear hb13
  have D13 : Hid (DN v13 s13 (some ⟨g13, 0, none⟩) m13 c13 (0) (1)) := hd13
  clear hd13
  go_wp2_with fail
  refine (decide_y jn_64 D12.out D13.out (Int.le_refl _) rfl (TB.out.below hbw)).mono ?_
  rintro e v4 ⟨rfl, hb4⟩
  rw [aw8_c]
  replace Xs : Hid _ := Xs.out.below hb4
  replace Xd : Hid _ := Xd.out.below hb4
  replace D12 : Hid _ := D12.out.below hb4
  replace D13 : Hid _ := D13.out.below hb4
  replace hbw := Below.on hbw hb4
  clear hb4
  clear D12
  clear D13
  go_wp2_with fail
  refine (awake8 _ (TB.out.below hbw)).mono ?_
  rintro e v5 ⟨rfl, hb5⟩
  replace Xs : Hid _ := Xs.out.below hb5
  replace Xd : Hid _ := Xd.out.below hb5
  replace hbw := Below.on hbw hb5
  clear hb5
  obtain ⟨cs0, cs1, cs2, cs3, cs4, cs5, fs0, fs1, fs2, fs3, fs4, fs5⟩ := Xs.out
  have hnes : gs < v5.heap.size := World.block_lt_of_cell? v5 _ cs0
  obtain ⟨cd0, cd1, cd2, fd0, fd1, fd2⟩ := Xd.out
  have hned : gd < v5.heap.size := World.block_lt_of_cell? v5 _ cd0
  go_wp2_with fail
  clear cs0 cs1 cs2 cs3 cs4 cs5 fs0 fs1 fs2 fs3 fs4 fs5 hnes
  clear cd0 cd1 cd2 fd0 fd1 fd2 hned
  refine (decide_y HJN.out (A.out.below hbw) (B.out.below hbw) HC.out HQ.out (TB.out.below hbw)).mono ?_
  rintro e v6 ⟨rfl, hb6⟩
  rw [HR.out.1]
  replace Xs : Hid _ := Xs.out.below hb6
  replace Xd : Hid _ := Xd.out.below hb6
  replace hbw := Below.on hbw hb6
  clear hb6
  obtain ⟨cs0, cs1, cs2, cs3, cs4, cs5, fs0, fs1, fs2, fs3, fs4, fs5⟩ := Xs.out
  have hnes : gs < v6.heap.size := World.block_lt_of_cell? v6 _ cs0
  go_wp2_with fail
  clear cs0 cs1 cs2 cs3 cs4 cs5 fs0 fs1 fs2 fs3 fs4 fs5 hnes
  obtain ⟨xs7, hX⟩ := (A.out.zn.below hbw).ex
  refine (docformd s1 hX.at_).mono ?_
  rintro e9 v7 ⟨rfl, hb7⟩
  rw [show formD s1 xs7 e1 = true from dn_formD (A.out.below hbw) hX]
  clear hX
  replace Xs : Hid _ := Xs.out.below hb7
  replace Xd : Hid _ := Xd.out.below hb7
  replace hbw := Below.on hbw hb7
  clear hb7
  obtain ⟨cs0, cs1, cs2, cs3, cs4, cs5, fs0, fs1, fs2, fs3, fs4, fs5⟩ := Xs.out
  have hnes : gs < v7.heap.size := World.block_lt_of_cell? v7 _ cs0
  obtain ⟨cd0, cd1, cd2, fd0, fd1, fd2⟩ := Xd.out
  have hned : gd < v7.heap.size := World.block_lt_of_cell? v7 _ cd0
  go_wp2_with fail
  clear cs0 cs1 cs2 cs3 cs4 cs5 fs0 fs1 fs2 fs3 fs4 fs5 hnes
  clear cd0 cd1 cd2 fd0 fd1 fd2 hned
  obtain ⟨xs8, hX⟩ := (B.out.zn.below hbw).ex
  refine (docformd s2 hX.at_).mono ?_
  rintro e9 v8 ⟨rfl, hb8⟩
  rw [show formD s2 xs8 e2 = true from dn_formD (B.out.below hbw) hX]
  clear hX
  replace Xs : Hid _ := Xs.out.below hb8
  replace Xd : Hid _ := Xd.out.below hb8
  replace hbw := Below.on hbw hb8
  clear hb8
  obtain ⟨cs0, cs1, cs2, cs3, cs4, cs5, fs0, fs1, fs2, fs3, fs4, fs5⟩ := Xs.out
  have hnes : gs < v8.heap.size := World.block_lt_of_cell? v8 _ cs0
  obtain ⟨cd0, cd1, cd2, fd0, fd1, fd2⟩ := Xd.out
  have hned : gd < v8.heap.size := World.block_lt_of_cell? v8 _ cd0
  go_wp2_with fail
  clear cs0 cs1 cs2 cs3 cs4 cs5 fs0 fs1 fs2 fs3 fs4 fs5 hnes
  clear cd0 cd1 cd2 fd0 fd1 fd2 hned
  refine (at8 (A.out.below hbw) (B.out.below hbw)).mono ?_
  rintro e v9 ⟨rfl, hb9⟩
  rw [HCC.out]
  replace Xs : Hid _ := Xs.out.below hb9
  replace Xd : Hid _ := Xd.out.below hb9
  replace hbw := Below.on hbw hb9
  clear hb9
  obtain ⟨cs0, cs1, cs2, cs3, cs4, cs5, fs0, fs1, fs2, fs3, fs4, fs5⟩ := Xs.out
  have hnes : gs < v9.heap.size := World.block_lt_of_cell? v9 _ cs0
  go_wp2_with fail
  clear cs0 cs1 cs2 cs3 cs4 cs5 fs0 fs1 fs2 fs3 fs4 fs5 hnes
  refine (rnearest HJN.out (A.out.below hbw) (TB.out.below hbw)).mono ?_
  rintro e v10 ⟨rfl, hb10⟩
  rw [HR.out.1]
  replace Xs : Hid _ := Xs.out.below hb10
  replace Xd : Hid _ := Xd.out.below hb10
  replace hbw := Below.on hbw hb10
  clear hb10
  obtain ⟨cs0, cs1, cs2, cs3, cs4, cs5, fs0, fs1, fs2, fs3, fs4, fs5⟩ := Xs.out
  have hnes : gs < v10.heap.size := World.block_lt_of_cell? v10 _ cs0
  go_wp2_with fail
  clear cs0 cs1 cs2 cs3 cs4 cs5 fs0 fs1 fs2 fs3 fs4 fs5 hnes
  refine (rnearest HJN.out (B.out.below hbw) (TB.out.below hbw)).mono ?_
  rintro e v11 ⟨rfl, hb11⟩
  rw [HR.out.2]
  replace Xs : Hid _ := Xs.out.below hb11
  replace Xd : Hid _ := Xd.out.below hb11
  replace hbw := Below.on hbw hb11
  clear hb11
  obtain ⟨cs0, cs1, cs2, cs3, cs4, cs5, fs0, fs1, fs2, fs3, fs4, fs5⟩ := Xs.out
  have hnes : gs < v11.heap.size := World.block_lt_of_cell? v11 _ cs0
  obtain ⟨cd0, cd1, cd2, fd0, fd1, fd2⟩ := Xd.out
  have hned : gd < v11.heap.size := World.block_lt_of_cell? v11 _ cd0
  go_wp2_with fail
  clear cs0 cs1 cs2 cs3 cs4 cs5 fs0 fs1 fs2 fs3 fs4 fs5 hnes
  clear cd0 cd1 cd2 fd0 fd1 fd2 hned
  obtain ⟨xs12, hX⟩ := (C.out.zn.below hbw).ex
  refine (docformd s3 hX.at_).mono ?_
  rintro e9 v12 ⟨rfl, hb12⟩
  rw [show formD s3 xs12 e3 = true from dn_formD (C.out.below hbw) hX]
  clear hX
  replace Xs : Hid _ := Xs.out.below hb12
  replace Xd : Hid _ := Xd.out.below hb12
  replace hbw := Below.on hbw hb12
  clear hb12
  obtain ⟨cs0, cs1, cs2, cs3, cs4, cs5, fs0, fs1, fs2, fs3, fs4, fs5⟩ := Xs.out
  have hnes : gs < v12.heap.size := World.block_lt_of_cell? v12 _ cs0
  obtain ⟨cd0, cd1, cd2, fd0, fd1, fd2⟩ := Xd.out
  have hned : gd < v12.heap.size := World.block_lt_of_cell? v12 _ cd0
  go_wp2_with fail
  clear cs0 cs1 cs2 cs3 cs4 cs5 fs0 fs1 fs2 fs3 fs4 fs5 hnes
  clear cd0 cd1 cd2 fd0 fd1 fd2 hned
  refine (at8 (A.out.below hbw) (C.out.below hbw)).mono ?_
  rintro e v13 ⟨rfl, hb13⟩
  rw [cmp_g HU.out]
  replace Xs : Hid _ := Xs.out.below hb13
  replace Xd : Hid _ := Xd.out.below hb13
  replace hbw := Below.on hbw hb13
  clear hb13
  obtain ⟨cs0, cs1, cs2, cs3, cs4, cs5, fs0, fs1, fs2, fs3, fs4, fs5⟩ := Xs.out
  have hnes : gs < v13.heap.size := World.block_lt_of_cell? v13 _ cs0
  obtain ⟨cd0, cd1, cd2, fd0, fd1, fd2⟩ := Xd.out
  have hned : gd < v13.heap.size := World.block_lt_of_cell? v13 _ cd0
  go_wp2_with fail
  clear cs0 cs1 cs2 cs3 cs4 cs5 fs0 fs1 fs2 fs3 fs4 fs5 hnes
  clear cd0 cd1 cd2 fd0 fd1 fd2 hned
  go_ret
  exact ⟨rfl, hbw⟩
set_option maxRecDepth 20000 in
set_option maxHeartbeats 8000000 in
theorem roundDecided_7 {single : Bool} {f p m l : Int} {S I H sd : Nat} {Be : Int} (J : Jn f p m l S I H sd Be) (L : Lw single f S I) {s1 s2 s3 : Bool} {p1 p2 p3 : Option Addr} {m1 m2 m3 c1 c2 c3 : Nat} {e1 e2 e3 : Int} {w : World} (hT : Tab w) {x y : Int} (h : DN w s1 p1 m1 c1 e1 x) (k : DN w s2 p2 m2 c2 e2 y) (hc : dv x e1 ≤ dv y e2) (hq : rnp l sd Be S I x e1 = rnp l sd Be S I y e2) {u : Int} (h3 : DN w s3 p3 m3 c3 e3 u) (h4 : dv x e1 ≤ dv u e3) (h5 : dv y e2 < dv u e3) :
    Calls Tryd.prog 3 #[.bool single, SV s1 p1 m1 c1 e1 s2 p2 m2 c2 e2, DV s3 p3 m3 c3 e3] w fun en w' => en = .returned (.bool true) ∧ Below w.heap.size w w' := by
  have HJN : Hid (Jn f p m l S I H sd Be) := J
  have HLW : Hid (Lw single f S I) := L
  have TB : Hid (Tab w) := hT
  clear J L hT
  have A : Hid (DN w s1 p1 m1 c1 e1 x) := h
  have B : Hid (DN w s2 p2 m2 c2 e2 y) := k
  have HC : Hid (dv x e1 ≤ dv y e2) := hc
  obtain ⟨cc, hcc⟩ : ∃ cc, cc = cmpI (dv x e1) (dv y e2) := ⟨_, rfl⟩
  have HCC : Hid (cmpI (dv x e1) (dv y e2) = cc) := hcc.symm
  have hc3 : cc = -1 ∨ cc = 0 := by rw [hcc]; unfold cmpI; by_cases a : dv x e1 < dv y e2; (· rw [if_pos a]; exact .inl rfl); rw [if_neg a, if_pos (by omega)]; exact .inr rfl
  have k1 : (cc == 1) = false := by simp; omega
  have k2 : decide (1 < cc) = false := decide_eq_false (by omega)
  have HE : Hid (-4194304 ≤ e1 ∧ -4194304 ≤ e2) := by
    refine ⟨?_, ?_⟩
    · rcases h.fm with ⟨_, h2⟩ | ⟨_, h2, _⟩ <;> omega
    · rcases k.fm with ⟨_, h2⟩ | ⟨_, h2, _⟩ <;> omega
  obtain ⟨ra, hra⟩ : ∃ r, r = rnp l sd Be S I x e1 := ⟨_, rfl⟩
  obtain ⟨rb, hrb⟩ : ∃ r, r = rnp l sd Be S I y e2 := ⟨_, rfl⟩
  have HR : Hid (rnp l sd Be S I x e1 = ra ∧ rnp l sd Be S I y e2 = rb) := ⟨hra.symm, hrb.symm⟩
  have HQ : Hid (rnp l sd Be S I x e1 = rnp l sd Be S I y e2) := hq
  rw [← hra, ← hrb] at hq
  have q1 : ((ra : Int) == (rb : Int)) = true := by simp; omega
  clear h k hc hcc hc3 hra hrb hq
  have hab : ra = rb := by rw [← HR.out.1, ← HR.out.2]; exact HQ.out
  subst hab
  have C : Hid (DN w s3 p3 m3 c3 e3 u) := h3
  obtain ⟨cl, hcl⟩ : ∃ cc, cc = cmpI (dv x e1) (dv u e3) := ⟨_, rfl⟩
  have HCL : Hid (cmpI (dv x e1) (dv u e3) = cl) := hcl.symm
  have k3 : decide (0 < cl) = false := by rw [hcl]; unfold cmpI; by_cases a : dv x e1 < dv u e3; (· rw [if_pos a]; rfl); rw [if_neg a, if_pos (by omega)]; rfl
  clear hcl
  have HU : Hid (dv y e2 < dv u e3) := h5
  clear h3 h4 h5
  go_enter Tryd.func3, Tryd.ntmps3
  go_wp2_with fail
  obtain ⟨W0, hW0⟩ : ∃ W0, W0 = ((w.alloc (.cells #[.bool s1, .slice p1 m1 c1, .int .i64 e1, .bool s2, .slice p2 m2 c2, .int .i64 e2] 28)).alloc (.cells #[.bool s3, .slice p3 m3 c3, .int .i64 e3] 26)) := ⟨_, rfl⟩
  have Xs : Hid (B6q W0 (w.heap.size) (.bool s1) (.slice p1 m1 c1) (.int .i64 e1) (.bool s2) (.slice p2 m2 c2) (.int .i64 e2)) := by rw [hW0]; exact ⟨by go_simp, by go_simp, by go_simp, by go_simp, by go_simp, by go_simp, by go_simp, by go_simp, by go_simp, by go_simp, by go_simp, by go_simp⟩
  have Xd : Hid (B3q W0 (w.heap.size + 1) (.bool s3) (.slice p3 m3 c3) (.int .i64 e3)) := by rw [hW0]; exact ⟨by go_simp, by go_simp, by go_simp, by go_simp, by go_simp, by go_simp⟩
  have hb0 : Below w.heap.size w W0 := by rw [hW0]; exact below2 w _ _
  rw [← hW0]
  clear hW0
  have hbw : Below w.heap.size w w := Below.refl _ _
  obtain ⟨gd, hgd⟩ : ∃ g, g = w.heap.size + 1 := ⟨_, rfl⟩
  have HGd : Hid (w.heap.size ≤ gd) := by rw [hgd]; show _ ≤ _; omega
  rw [← hgd] at Xd
  try rw [← hgd]
  obtain ⟨gs, hgs⟩ : ∃ g, g = w.heap.size := ⟨_, rfl⟩
  have HGs : Hid (w.heap.size ≤ gs) := by rw [hgs]; show _ ≤ _; omega
  rw [← hgs] at Xs
  try rw [← hgs]
  have HGD : Hid (gs ≠ gd ∧ gd ≠ gs) := by rw [hgs, hgd]; exact ⟨by omega, by omega⟩
  clear hgs hgd
  replace hbw := Below.on hbw hb0
  clear hb0
  refine (HLW.out.fmt _).mono ?_
  rintro e v1 ⟨rfl, hb1⟩
  replace Xs : Hid _ := Xs.out.below hb1
  replace Xd : Hid _ := Xd.out.below hb1
  replace hbw := Below.on hbw hb1
  clear hb1
  obtain ⟨cs0, cs1, cs2, cs3, cs4, cs5, fs0, fs1, fs2, fs3, fs4, fs5⟩ := Xs.out
  have hnes : gs < v1.heap.size := World.block_lt_of_cell? v1 _ cs0
  obtain ⟨cd0, cd1, cd2, fd0, fd1, fd2⟩ := Xd.out
  have hned : gd < v1.heap.size := World.block_lt_of_cell? v1 _ cd0
  go_wp2_with fail
  clear cs0 cs1 cs2 cs3 cs4 cs5 fs0 fs1 fs2 fs3 fs4 fs5 hnes
  clear cd0 cd1 cd2 fd0 fd1 fd2 hned
  refine (num8 (1) (0) (by decide) (by decide) (by decide)).mono ?_
  rintro e2 v12 ⟨s12, g12, m12, c12, rfl, _, hd12, hb12⟩
  replace Xs : Hid _ := Xs.out.below hb12
  replace Xd : Hid _ := Xd.out.below hb12
  replace hbw := Below.on hbw hb12
  clear hb12
  have D12 : Hid (DN v12 s12 (some ⟨g12, 0, none⟩) m12 c12 (0) (1)) := hd12
  clear hd12
  go_wp2_with fail
  refine (num8 (1) (0) (by decide) (by decide) (by decide)).mono ?_
  rintro e2 v13 ⟨s13, g13, m13, c13, rfl, _, hd13, hb13⟩
  replace Xs : Hid _ := Xs.out.below hb13
  replace Xd : Hid _ := Xd.out.below hb13
  replace D12 : Hid _ := D12.out.below hb13
  replace hbw := Below.on hbw hb13
  clear hb13
  have D13 : Hid (DN v13 s13 (some ⟨g13, 0, none⟩) m13 c13 (0) (1)) := hd13
  clear hd13
  go_wp2_with fail
  refine (decide_y jn_64 D12.out D13.out (Int.le_refl _) rfl (TB.out.below hbw)).mono ?_
  rintro e v4 ⟨rfl, hb4⟩
  rw [aw8_c]
  replace Xs : Hid _ := Xs.out.below hb4
  replace Xd : Hid _ := Xd.out.below hb4
  replace D12 : Hid _ := D12.out.below hb4
  replace D13 : Hid _ := D13.out.below hb4
  replace hbw := Below.on hbw hb4
  clear hb4
  clear D12
  clear D13
  go_wp2_with fail
  refine (awake8 _ (TB.out.below hbw)).mono ?_
  rintro e v5 ⟨rfl, hb5⟩
  replace Xs : Hid _ := Xs.out.below hb5
  replace Xd : Hid _ := Xd.out.below hb5
  replace hbw := Below.on hbw hb5
  clear hb5
  obtain ⟨cs0, cs1, cs2, cs3, cs4, cs5, fs0, fs1, fs2, fs3, fs4, fs5⟩ := Xs.out
  have hnes : gs < v5.heap.size := World.block_lt_of_cell? v5 _ cs0
  obtain ⟨cd0, cd1, cd2, fd0, fd1, fd2⟩ := Xd.out
  have hned : gd < v5.heap.size := World.block_lt_of_cell? v5 _ cd0
  go_wp2_with fail
  clear cs0 cs1 cs2 cs3 cs4 cs5 fs0 fs1 fs2 fs3 fs4 fs5 hnes
  clear cd0 cd1 cd2 fd0 fd1 fd2 hned
  refine (decide_y HJN.out (A.out.below hbw) (B.out.below hbw) HC.out HQ.out (TB.out.below hbw)).mono ?_
  rintro e v6 ⟨rfl, hb6⟩
  rw [HR.out.1]
  replace Xs : Hid _ := Xs.out.below hb6
  replace Xd : Hid _ := Xd.out.below hb6
  replace hbw := Below.on hbw hb6
  clear hb6
  obtain ⟨cs0, cs1, cs2, cs3, cs4, cs5, fs0, fs1, fs2, fs3, fs4, fs5⟩ := Xs.out
  have hnes : gs < v6.heap.size := World.block_lt_of_cell? v6 _ cs0
  go_wp2_with fail
  clear cs0 cs1 cs2 cs3 cs4 cs5 fs0 fs1 fs2 fs3 fs4 fs5 hnes
  obtain ⟨xs7, hX⟩ := (A.out.zn.below hbw).ex
  refine (docformd s1 hX.at_).mono ?_
  rintro e9 v7 ⟨rfl, hb7⟩
  rw [show formD s1 xs7 e1 = true from dn_formD (A.out.below hbw) hX]
  clear hX
  replace Xs : Hid _ := Xs.out.below hb7
  replace Xd : Hid _ := Xd.out.below hb7
  replace hbw := Below.on hbw hb7
  clear hb7
  obtain ⟨cs0, cs1, cs2, cs3, cs4, cs5, fs0, fs1, fs2, fs3, fs4, fs5⟩ := Xs.out
  have hnes : gs < v7.heap.size := World.block_lt_of_cell? v7 _ cs0
  obtain ⟨cd0, cd1, cd2, fd0, fd1, fd2⟩ := Xd.out
  have hned : gd < v7.heap.size := World.block_lt_of_cell? v7 _ cd0
  go_wp2_with fail
  clear cs0 cs1 cs2 cs3 cs4 cs5 fs0 fs1 fs2 fs3 fs4 fs5 hnes
  clear cd0 cd1 cd2 fd0 fd1 fd2 hned
  obtain ⟨xs8, hX⟩ := (B.out.zn.below hbw).ex
  refine (docformd s2 hX.at_).mono ?_
  rintro e9 v8 ⟨rfl, hb8⟩
  rw [show formD s2 xs8 e2 = true from dn_formD (B.out.below hbw) hX]
  clear hX
  replace Xs : Hid _ := Xs.out.below hb8
  replace Xd : Hid _ := Xd.out.below hb8
  replace hbw := Below.on hbw hb8
  clear hb8
  obtain ⟨cs0, cs1, cs2, cs3, cs4, cs5, fs0, fs1, fs2, fs3, fs4, fs5⟩ := Xs.out
  have hnes : gs < v8.heap.size := World.block_lt_of_cell? v8 _ cs0
  obtain ⟨cd0, cd1, cd2, fd0, fd1, fd2⟩ := Xd.out
  have hned : gd < v8.heap.size := World.block_lt_of_cell? v8 _ cd0
  go_wp2_with fail
  clear cs0 cs1 cs2 cs3 cs4 cs5 fs0 fs1 fs2 fs3 fs4 fs5 hnes
  clear cd0 cd1 cd2 fd0 fd1 fd2 hned
  refine (at8 (A.out.below hbw) (B.out.below hbw)).mono ?_
  rintro e v9 ⟨rfl, hb9⟩
  rw [HCC.out]
  replace Xs : Hid _ := Xs.out.below hb9
  replace Xd : Hid _ := Xd.out.below hb9
  replace hbw := Below.on hbw hb9
  clear hb9
  obtain ⟨cs0, cs1, cs2, cs3, cs4, cs5, fs0, fs1, fs2, fs3, fs4, fs5⟩ := Xs.out
  have hnes : gs < v9.heap.size := World.block_lt_of_cell? v9 _ cs0
  go_wp2_with fail
  clear cs0 cs1 cs2 cs3 cs4 cs5 fs0 fs1 fs2 fs3 fs4 fs5 hnes
  refine (rnearest HJN.out (A.out.below hbw) (TB.out.below hbw)).mono ?_
  rintro e v10 ⟨rfl, hb10⟩
  rw [HR.out.1]
  replace Xs : Hid _ := Xs.out.below hb10
  replace Xd : Hid _ := Xd.out.below hb10
  replace hbw := Below.on hbw hb10
  clear hb10
  obtain ⟨cs0, cs1, cs2, cs3, cs4, cs5, fs0, fs1, fs2, fs3, fs4, fs5⟩ := Xs.out
  have hnes : gs < v10.heap.size := World.block_lt_of_cell? v10 _ cs0
  go_wp2_with fail
  clear cs0 cs1 cs2 cs3 cs4 cs5 fs0 fs1 fs2 fs3 fs4 fs5 hnes
  refine (rnearest HJN.out (B.out.below hbw) (TB.out.below hbw)).mono ?_
  rintro e v11 ⟨rfl, hb11⟩
  rw [HR.out.2]
  replace Xs : Hid _ := Xs.out.below hb11
  replace Xd : Hid _ := Xd.out.below hb11
  replace hbw := Below.on hbw hb11
  clear hb11
  obtain ⟨cs0, cs1, cs2, cs3, cs4, cs5, fs0, fs1, fs2, fs3, fs4, fs5⟩ := Xs.out
  have hnes : gs < v11.heap.size := World.block_lt_of_cell? v11 _ cs0
  obtain ⟨cd0, cd1, cd2, fd0, fd1, fd2⟩ := Xd.out
  have hned : gd < v11.heap.size := World.block_lt_of_cell? v11 _ cd0
  go_wp2_with fail
  clear cs0 cs1 cs2 cs3 cs4 cs5 fs0 fs1 fs2 fs3 fs4 fs5 hnes
  clear cd0 cd1 cd2 fd0 fd1 fd2 hned
  obtain ⟨xs12, hX⟩ := (C.out.zn.below hbw).ex
  refine (docformd s3 hX.at_).mono ?_
  rintro e9 v12 ⟨rfl, hb12⟩
  rw [show formD s3 xs12 e3 = true from dn_formD (C.out.below hbw) hX]
  clear hX
  replace Xs : Hid _ := Xs.out.below hb12
  replace Xd : Hid _ := Xd.out.below hb12
  replace hbw := Below.on hbw hb12
  clear hb12
  obtain ⟨cs0, cs1, cs2, cs3, cs4, cs5, fs0, fs1, fs2, fs3, fs4, fs5⟩ := Xs.out
  have hnes : gs < v12.heap.size := World.block_lt_of_cell? v12 _ cs0
  obtain ⟨cd0, cd1, cd2, fd0, fd1, fd2⟩ := Xd.out
  have hned : gd < v12.heap.size := World.block_lt_of_cell? v12 _ cd0
  go_wp2_with fail
  clear cs0 cs1 cs2 cs3 cs4 cs5 fs0 fs1 fs2 fs3 fs4 fs5 hnes
  clear cd0 cd1 cd2 fd0 fd1 fd2 hned
  refine (at8 (A.out.below hbw) (C.out.below hbw)).mono ?_
  rintro e v13 ⟨rfl, hb13⟩
  rw [HCL.out]
  replace Xs : Hid _ := Xs.out.below hb13
  replace Xd : Hid _ := Xd.out.below hb13
  replace hbw := Below.on hbw hb13
  clear hb13
  obtain ⟨cs0, cs1, cs2, cs3, cs4, cs5, fs0, fs1, fs2, fs3, fs4, fs5⟩ := Xs.out
  have hnes : gs < v13.heap.size := World.block_lt_of_cell? v13 _ cs0
  obtain ⟨cd0, cd1, cd2, fd0, fd1, fd2⟩ := Xd.out
  have hned : gd < v13.heap.size := World.block_lt_of_cell? v13 _ cd0
  go_wp2_with fail
  clear cs0 cs1 cs2 cs3 cs4 cs5 fs0 fs1 fs2 fs3 fs4 fs5 hnes
  clear cd0 cd1 cd2 fd0 fd1 fd2 hned
  refine (at8 (C.out.below hbw) (B.out.below hbw)).mono ?_
  rintro e v14 ⟨rfl, hb14⟩
  rw [cmp_g HU.out]
  replace Xs : Hid _ := Xs.out.below hb14
  replace Xd : Hid _ := Xd.out.below hb14
  replace hbw := Below.on hbw hb14
  clear hb14
  obtain ⟨cs0, cs1, cs2, cs3, cs4, cs5, fs0, fs1, fs2, fs3, fs4, fs5⟩ := Xs.out
  have hnes : gs < v14.heap.size := World.block_lt_of_cell? v14 _ cs0
  obtain ⟨cd0, cd1, cd2, fd0, fd1, fd2⟩ := Xd.out
  have hned : gd < v14.heap.size := World.block_lt_of_cell? v14 _ cd0
  go_wp2_with fail
  clear cs0 cs1 cs2 cs3 cs4 cs5 fs0 fs1 fs2 fs3 fs4 fs5 hnes
  clear cd0 cd1 cd2 fd0 fd1 fd2 hned
  go_ret
  exact ⟨rfl, hbw⟩
set_option maxRecDepth 20000 in
set_option maxHeartbeats 8000000 in
theorem roundDecided_8 {single : Bool} {f p m l : Int} {S I H sd : Nat} {Be : Int} (J : Jn f p m l S I H sd Be) (L : Lw single f S I) {s1 s2 s3 : Bool} {p1 p2 p3 : Option Addr} {m1 m2 m3 c1 c2 c3 : Nat} {e1 e2 e3 : Int} {w : World} (hT : Tab w) {x y : Int} (h : DN w s1 p1 m1 c1 e1 x) (k : DN w s2 p2 m2 c2 e2 y) (hc : dv x e1 ≤ dv y e2) (hq : rnp l sd Be S I x e1 = rnp l sd Be S I y e2) {u : Int} (h3 : DN w s3 p3 m3 c3 e3 u) (h4 : dv x e1 ≤ dv u e3) (h5 : dv u e3 ≤ dv y e2) :
    Calls Tryd.prog 3 #[.bool single, SV s1 p1 m1 c1 e1 s2 p2 m2 c2 e2, DV s3 p3 m3 c3 e3] w fun en w' => en = .returned (.bool true) ∧ Below w.heap.size w w' := by
  have HJN : Hid (Jn f p m l S I H sd Be) := J
  have HLW : Hid (Lw single f S I) := L
  have TB : Hid (Tab w) := hT
  clear J L hT
  have A : Hid (DN w s1 p1 m1 c1 e1 x) := h
  have B : Hid (DN w s2 p2 m2 c2 e2 y) := k
  have HC : Hid (dv x e1 ≤ dv y e2) := hc
  obtain ⟨cc, hcc⟩ : ∃ cc, cc = cmpI (dv x e1) (dv y e2) := ⟨_, rfl⟩
  have HCC : Hid (cmpI (dv x e1) (dv y e2) = cc) := hcc.symm
  have hc3 : cc = -1 ∨ cc = 0 := by rw [hcc]; unfold cmpI; by_cases a : dv x e1 < dv y e2; (· rw [if_pos a]; exact .inl rfl); rw [if_neg a, if_pos (by omega)]; exact .inr rfl
  have k1 : (cc == 1) = false := by simp; omega
  have k2 : decide (1 < cc) = false := decide_eq_false (by omega)
  have HE : Hid (-4194304 ≤ e1 ∧ -4194304 ≤ e2) := by
    refine ⟨?_, ?_⟩
    · rcases h.fm with ⟨_, h2⟩ | ⟨_, h2, _⟩ <;> omega
    · rcases k.fm with ⟨_, h2⟩ | ⟨_, h2, _⟩ <;> omega
  obtain ⟨ra, hra⟩ : ∃ r, r = rnp l sd Be S I x e1 := ⟨_, rfl⟩
  obtain ⟨rb, hrb⟩ : ∃ r, r = rnp l sd Be S I y e2 := ⟨_, rfl⟩
  have HR : Hid (rnp l sd Be S I x e1 = ra ∧ rnp l sd Be S I y e2 = rb) := ⟨hra.symm, hrb.symm⟩
  have HQ : Hid (rnp l sd Be S I x e1 = rnp l sd Be S I y e2) := hq
  rw [← hra, ← hrb] at hq
  have q1 : ((ra : Int) == (rb : Int)) = true := by simp; omega
  clear h k hc hcc hc3 hra hrb hq
  have hab : ra = rb := by rw [← HR.out.1, ← HR.out.2]; exact HQ.out
  subst hab
  have C : Hid (DN w s3 p3 m3 c3 e3 u) := h3
  obtain ⟨cl, hcl⟩ : ∃ cc, cc = cmpI (dv x e1) (dv u e3) := ⟨_, rfl⟩
  have HCL : Hid (cmpI (dv x e1) (dv u e3) = cl) := hcl.symm
  have k3 : decide (0 < cl) = false := by rw [hcl]; unfold cmpI; by_cases a : dv x e1 < dv u e3; (· rw [if_pos a]; rfl); rw [if_neg a, if_pos (by omega)]; rfl
  clear hcl
  obtain ⟨ch, hch⟩ : ∃ cc, cc = cmpI (dv u e3) (dv y e2) := ⟨_, rfl⟩
  have HCH : Hid (cmpI (dv u e3) (dv y e2) = ch) := hch.symm
  have k4 : decide (0 < ch) = false := by rw [hch]; unfold cmpI; by_cases a : dv u e3 < dv y e2; (· rw [if_pos a]; rfl); rw [if_neg a, if_pos (by omega)]; rfl
  clear hch
  have HRU : Hid (rnp l sd Be S I u e3 = ra) := by show rnp l sd Be S I u e3 = ra; rw [← HR.out.1]; exact rnp_mid HJN.out HE.out.1 HE.out.2 (by rcases h3.fm with ⟨_, h2⟩ | ⟨_, h2, _⟩ <;> omega) h4 h5 HQ.out
  clear h3 h4 h5
  go_enter Tryd.func3, Tryd.ntmps3
  go_wp2_with fail
  obtain ⟨W0, hW0⟩ : ∃ W0, W0 = ((w.alloc (.cells #[.bool s1, .slice p1 m1 c1, .int .i64 e1, .bool s2, .slice p2 m2 c2, .int .i64 e2] 28)).alloc (.cells #[.bool s3, .slice p3 m3 c3, .int .i64 e3] 26)) := ⟨_, rfl⟩
  have Xs : Hid (B6q W0 (w.heap.size) (.bool s1) (.slice p1 m1 c1) (.int .i64 e1) (.bool s2) (.slice p2 m2 c2) (.int .i64 e2)) := by rw [hW0]; exact ⟨by go_simp, by go_simp, by go_simp, by go_simp, by go_simp, by go_simp, by go_simp, by go_simp, by go_simp, by go_simp, by go_simp, by go_simp⟩
  have Xd : Hid (B3q W0 (w.heap.size + 1) (.bool s3) (.slice p3 m3 c3) (.int .i64 e3)) := by rw [hW0]; exact ⟨by go_simp, by go_simp, by go_simp, by go_simp, by go_simp, by go_simp⟩
  have hb0 : Below w.heap.size w W0 := by rw [hW0]; exact below2 w _ _
  rw [← hW0]
  clear hW0
  have hbw : Below w.heap.size w w := Below.refl _ _
  obtain ⟨gd, hgd⟩ : ∃ g, g = w.heap.size + 1 := ⟨_, rfl⟩
  have HGd : Hid (w.heap.size ≤ gd) := by rw [hgd]; show _ ≤ _; omega
  rw [← hgd] at Xd
  try rw [← hgd]
  obtain ⟨gs, hgs⟩ : ∃ g, g = w.heap.size := ⟨_, rfl⟩
  have HGs : Hid (w.heap.size ≤ gs) := by rw [hgs]; show _ ≤ _; omega
  rw [← hgs] at Xs
  try rw [← hgs]
  have HGD : Hid (gs ≠ gd ∧ gd ≠ gs) := by rw [hgs, hgd]; exact ⟨by omega, by omega⟩
  clear hgs hgd
  replace hbw := Below.on hbw hb0
  clear hb0
  refine (HLW.out.fmt _).mono ?_
  rintro e v1 ⟨rfl, hb1⟩
  replace Xs : Hid _ := Xs.out.below hb1
  replace Xd : Hid _ := Xd.out.below hb1
  replace hbw := Below.on hbw hb1
  clear hb1
  obtain ⟨cs0, cs1, cs2, cs3, cs4, cs5, fs0, fs1, fs2, fs3, fs4, fs5⟩ := Xs.out
  have hnes : gs < v1.heap.size := World.block_lt_of_cell? v1 _ cs0
  obtain ⟨cd0, cd1, cd2, fd0, fd1, fd2⟩ := Xd.out
  have hned : gd < v1.heap.size := World.block_lt_of_cell? v1 _ cd0
  go_wp2_with fail
  clear cs0 cs1 cs2 cs3 cs4 cs5 fs0 fs1 fs2 fs3 fs4 fs5 hnes
  clear cd0 cd1 cd2 fd0 fd1 fd2 hned
  refine (num8 (1) (0) (by decide) (by decide) (by decide)).mono ?_
  rintro e2 v12 ⟨s12, g12, m12, c12, rfl, _, hd12, hb12⟩
  replace Xs : Hid _ := Xs.out.below hb12
  replace Xd : Hid _ := Xd.out.below hb12
  replace hbw := Below.on hbw hb12
  clear hb12
  have D12 : Hid (DN v12 s12 (some ⟨g12, 0, none⟩) m12 c12 (0) (1)) := hd12
  clear hd12
  go_wp2_with fail
  refine (num8 (1) (0) (by decide) (by decide) (by decide)).mono ?_
  rintro e2 v13 ⟨s13, g13, m13, c13, rfl, _, hd13, hb13⟩
  replace Xs : Hid _ := Xs.out.below hb13
  replace Xd : Hid _ := Xd.out.below hb13
  replace D12 : Hid _ := D12.out.below hb13
  replace hbw := Below.on hbw hb13
  clear hb13
  have D13 : Hid (DN v13 s13 (some ⟨g13, 0, none⟩) m13 c13 (0) (1)) := hd13
  clear hd13
  go_wp2_with fail
  refine (decide_y jn_64 D12.out D13.out (Int.le_refl _) rfl (TB.out.below hbw)).mono ?_
  rintro e v4 ⟨rfl, hb4⟩
  rw [aw8_c]
  replace Xs : Hid _ := Xs.out.below hb4
  replace Xd : Hid _ := Xd.out.below hb4
  replace D12 : Hid _ := D12.out.below hb4
  replace D13 : Hid _ := D13.out.below hb4
  replace hbw := Below.on hbw hb4
  clear hb4
  clear D12
  clear D13
  go_wp2_with fail
  refine (awake8 _ (TB.out.below hbw)).mono ?_
  rintro e v5 ⟨rfl, hb5⟩
  replace Xs : Hid _ := Xs.out.below hb5
  replace Xd : Hid _ := Xd.out.below hb5
  replace hbw := Below.on hbw hb5
  clear hb5
  obtain ⟨cs0, cs1, cs2, cs3, cs4, cs5, fs0, fs1, fs2, fs3, fs4, fs5⟩ := Xs.out
  have hnes : gs < v5.heap.size := World.block_lt_of_cell? v5 _ cs0
  obtain ⟨cd0, cd1, cd2, fd0, fd1, fd2⟩ := Xd.out
  have hned : gd < v5.heap.size := World.block_lt_of_cell? v5 _ cd0
  go_wp2_with fail
  clear cs0 cs1 cs2 cs3 cs4 cs5 fs0 fs1 fs2 fs3 fs4 fs5 hnes
  clear cd0 cd1 cd2 fd0 fd1 fd2 hned
  refine (decide_y HJN.out (A.out.below hbw) (B.out.below hbw) HC.out HQ.out (TB.out.below hbw)).mono ?_
  rintro e v6 ⟨rfl, hb6⟩
  rw [HR.out.1]
  replace Xs : Hid _ := Xs.out.below hb6
  replace Xd : Hid _ := Xd.out.below hb6
  replace hbw := Below.on hbw hb6
  clear hb6
  obtain ⟨cs0, cs1, cs2, cs3, cs4, cs5, fs0, fs1, fs2, fs3, fs4, fs5⟩ := Xs.out
  have hnes : gs < v6.heap.size := World.block_lt_of_cell? v6 _ cs0
  go_wp2_with fail
  clear cs0 cs1 cs2 cs3 cs4 cs5 fs0 fs1 fs2 fs3 fs4 fs5 hnes
  obtain ⟨xs7, hX⟩ := (A.out.zn.below hbw).ex
  refine (docformd s1 hX.at_).mono ?_
  rintro e9 v7 ⟨rfl, hb7⟩
  rw [show formD s1 xs7 e1 = true from dn_formD (A.out.below hbw) hX]
  clear hX
  replace Xs : Hid _ := Xs.out.below hb7
  replace Xd : Hid _ := Xd.out.below hb7
  replace hbw := Below.on hbw hb7
  clear hb7
  obtain ⟨cs0, cs1, cs2, cs3, cs4, cs5, fs0, fs1, fs2, fs3, fs4, fs5⟩ := Xs.out
  have hnes : gs < v7.heap.size := World.block_lt_of_cell? v7 _ cs0
  obtain ⟨cd0, cd1, cd2, fd0, fd1, fd2⟩ := Xd.out
  have hned : gd < v7.heap.size := World.block_lt_of_cell? v7 _ cd0
  go_wp2_with fail
  clear cs0 cs1 cs2 cs3 cs4 cs5 fs0 fs1 fs2 fs3 fs4 fs5 hnes
  clear cd0 cd1 cd2 fd0 fd1 fd2 hned
  obtain ⟨xs8, hX⟩ := (B.out.zn.below hbw).ex
  refine (docformd s2 hX.at_).mono ?_
  rintro e9 v8 ⟨rfl, hb8⟩
  rw [show formD s2 xs8 e2 = true from dn_formD (B.out.below hbw) hX]
  clear hX
  replace Xs : Hid _ := Xs.out.below hb8
  replace Xd : Hid _ := Xd.out.below hb8
  replace hbw := Below.on hbw hb8
  clear hb8
  obtain ⟨cs0, cs1, cs2, cs3, cs4, cs5, fs0, fs1, fs2, fs3, fs4, fs5⟩ := Xs.out
  have hnes : gs < v8.heap.size := World.block_lt_of_cell? v8 _ cs0
  obtain ⟨cd0, cd1, cd2, fd0, fd1, fd2⟩ := Xd.out
  have hned : gd < v8.heap.size := World.block_lt_of_cell? v8 _ cd0
  go_wp2_with fail
  clear cs0 cs1 cs2 cs3 cs4 cs5 fs0 fs1 fs2 fs3 fs4 fs5 hnes
  clear cd0 cd1 cd2 fd0 fd1 fd2 hned
  refine (at8 (A.out.below hbw) (B.out.below hbw)).mono ?_
  rintro e v9 ⟨rfl, hb9⟩
  rw [HCC.out]
  replace Xs : Hid _ := Xs.out.below hb9
  replace Xd : Hid _ := Xd.out.below hb9
  replace hbw := Below.on hbw hb9
  clear hb9
  obtain ⟨cs0, cs1, cs2, cs3, cs4, cs5, fs0, fs1, fs2, fs3, fs4, fs5⟩ := Xs.out
  have hnes : gs < v9.heap.size := World.block_lt_of_cell? v9 _ cs0
  go_wp2_with fail
  clear cs0 cs1 cs2 cs3 cs4 cs5 fs0 fs1 fs2 fs3 fs4 fs5 hnes
  refine (rnearest HJN.out (A.out.below hbw) (TB.out.below hbw)).mono ?_
  rintro e v10 ⟨rfl, hb10⟩
  rw [HR.out.1]
  replace Xs : Hid _ := Xs.out.below hb10
  replace Xd : Hid _ := Xd.out.below hb10
  replace hbw := Below.on hbw hb10
  clear hb10
  obtain ⟨cs0, cs1, cs2, cs3, cs4, cs5, fs0, fs1, fs2, fs3, fs4, fs5⟩ := Xs.out
  have hnes : gs < v10.heap.size := World.block_lt_of_cell? v10 _ cs0
  go_wp2_with fail
  clear cs0 cs1 cs2 cs3 cs4 cs5 fs0 fs1 fs2 fs3 fs4 fs5 hnes
  refine (rnearest HJN.out (B.out.below hbw) (TB.out.below hbw)).mono ?_
  rintro e v11 ⟨rfl, hb11⟩
  rw [HR.out.2]
  replace Xs : Hid _ := Xs.out.below hb11
  replace Xd : Hid _ := Xd.out.below hb11
  replace hbw := Below.on hbw hb11
  clear hb11
  obtain ⟨cs0, cs1, cs2, cs3, cs4, cs5, fs0, fs1, fs2, fs3, fs4, fs5⟩ := Xs.out
  have hnes : gs < v11.heap.size := World.block_lt_of_cell? v11 _ cs0
  obtain ⟨cd0, cd1, cd2, fd0, fd1, fd2⟩ := Xd.out
  have hned : gd < v11.heap.size := World.block_lt_of_cell? v11 _ cd0
  go_wp2_with fail
  clear cs0 cs1 cs2 cs3 cs4 cs5 fs0 fs1 fs2 fs3 fs4 fs5 hnes
  clear cd0 cd1 cd2 fd0 fd1 fd2 hned
  obtain ⟨xs12, hX⟩ := (C.out.zn.below hbw).ex
  refine (docformd s3 hX.at_).mono ?_
  rintro e9 v12 ⟨rfl, hb12⟩
  rw [show formD s3 xs12 e3 = true from dn_formD (C.out.below hbw) hX]
  clear hX
  replace Xs : Hid _ := Xs.out.below hb12
  replace Xd : Hid _ := Xd.out.below hb12
  replace hbw := Below.on hbw hb12
  clear hb12
  obtain ⟨cs0, cs1, cs2, cs3, cs4, cs5, fs0, fs1, fs2, fs3, fs4, fs5⟩ := Xs.out
  have hnes : gs < v12.heap.size := World.block_lt_of_cell? v12 _ cs0
  obtain ⟨cd0, cd1, cd2, fd0, fd1, fd2⟩ := Xd.out
  have hned : gd < v12.heap.size := World.block_lt_of_cell? v12 _ cd0
  go_wp2_with fail
  clear cs0 cs1 cs2 cs3 cs4 cs5 fs0 fs1 fs2 fs3 fs4 fs5 hnes
  clear cd0 cd1 cd2 fd0 fd1 fd2 hned
  refine (at8 (A.out.below hbw) (C.out.below hbw)).mono ?_
  rintro e v13 ⟨rfl, hb13⟩
  rw [HCL.out]
  replace Xs : Hid _ := Xs.out.below hb13
  replace Xd : Hid _ := Xd.out.below hb13
  replace hbw := Below.on hbw hb13
  clear hb13
  obtain ⟨cs0, cs1, cs2, cs3, cs4, cs5, fs0, fs1, fs2, fs3, fs4, fs5⟩ := Xs.out
  have hnes : gs < v13.heap.size := World.block_lt_of_cell? v13 _ cs0
  obtain ⟨cd0, cd1, cd2, fd0, fd1, fd2⟩ := Xd.out
  have hned : gd < v13.heap.size := World.block_lt_of_cell? v13 _ cd0
  go_wp2_with fail
  clear cs0 cs1 cs2 cs3 cs4 cs5 fs0 fs1 fs2 fs3 fs4 fs5 hnes
  clear cd0 cd1 cd2 fd0 fd1 fd2 hned
  refine (at8 (C.out.below hbw) (B.out.below hbw)).mono ?_
  rintro e v14 ⟨rfl, hb14⟩
  rw [HCH.out]
  replace Xs : Hid _ := Xs.out.below hb14
  replace Xd : Hid _ := Xd.out.below hb14
  replace hbw := Below.on hbw hb14
  clear hb14
  obtain ⟨cs0, cs1, cs2, cs3, cs4, cs5, fs0, fs1, fs2, fs3, fs4, fs5⟩ := Xs.out
  have hnes : gs < v14.heap.size := World.block_lt_of_cell? v14 _ cs0
  obtain ⟨cd0, cd1, cd2, fd0, fd1, fd2⟩ := Xd.out
  have hned : gd < v14.heap.size := World.block_lt_of_cell? v14 _ cd0
  go_wp2_with fail
  clear cs0 cs1 cs2 cs3 cs4 cs5 fs0 fs1 fs2 fs3 fs4 fs5 hnes
  clear cd0 cd1 cd2 fd0 fd1 fd2 hned
  refine (rnearest HJN.out (C.out.below hbw) (TB.out.below hbw)).mono ?_
  rintro e v15 ⟨rfl, hb15⟩
  rw [HRU.out]
  replace Xs : Hid _ := Xs.out.below hb15
  replace Xd : Hid _ := Xd.out.below hb15
  replace hbw := Below.on hbw hb15
  clear hb15
  go_wp2_with fail
  go_ret
  exact ⟨rfl, hbw⟩
theorem roundDecided_x {single : Bool} {f p m l : Int} {S I H sd : Nat} {Be : Int} (J : Jn f p m l S I H sd Be) (L : Lw single f S I) {p1 p2 p3 : Option Addr} {m1 m2 m3 c1 c2 c3 : Nat} {e1 e2 e3 : Int} {w : World} (hT : Tab w) (s1 s2 s3 : Bool) {xs ys zs : List Nat} (h1 : At w p1 m1 c1 xs) (h2 : At w p2 m2 c2 ys) (h3 : At w p3 m3 c3 zs) :
    Calls Tryd.prog 3 #[.bool single, SV s1 p1 m1 c1 e1 s2 p2 m2 c2 e2, DV s3 p3 m3 c3 e3] w fun en w' => en = .returned (.bool true) ∧ Below w.heap.size w w' := by
  cases hf : formD s1 xs e1
  · exact roundDecided_1 J L hT h1 hf
  · have d1 := formD_dn h1 hf
    cases hg : formD s2 ys e2
    · exact roundDecided_2 J L hT d1 h2 hg
    · have d2 := formD_dn h2 hg
      rcases Int.lt_or_le (dv (iv s2 (valB B64 ys)) e2) (dv (iv s1 (valB B64 xs)) e1) with hc | hc
      · exact roundDecided_3 J L hT d1 d2 hc
      · by_cases hq : rnp l sd Be S I (iv s1 (valB B64 xs)) e1 = rnp l sd Be S I (iv s2 (valB B64 ys)) e2
        · cases hk : formD s3 zs e3
          · exact roundDecided_5 J L hT d1 d2 hc hq h3 hk
          · have d3 := formD_dn h3 hk
            rcases Int.lt_or_le (dv (iv s3 (valB B64 zs)) e3) (dv (iv s1 (valB B64 xs)) e1) with h4 | h4
            · exact roundDecided_6 J L hT d1 d2 hc hq d3 h4
            · rcases Int.lt_or_le (dv (iv s2 (valB B64 ys)) e2) (dv (iv s3 (valB B64 zs)) e3) with h5 | h5
              · exact roundDecided_7 J L hT d1 d2 hc hq d3 h4 h5
              · exact roundDecided_8 J L hT d1 d2 hc hq d3 h4 h5
        · exact roundDecided_4 J L hT d1 d2 hc hq
theorem roundDecided_w (single : Bool) {p1 p2 p3 : Option Addr} {m1 m2 m3 c1 c2 c3 : Nat} {e1 e2 e3 : Int} {w : World} (hT : Tab w) (s1 s2 s3 : Bool) {xs ys zs : List Nat} (h1 : At w p1 m1 c1 xs) (h2 : At w p2 m2 c2 ys) (h3 : At w p3 m3 c3 zs) :
    Calls Tryd.prog 3 #[.bool single, SV s1 p1 m1 c1 e1 s2 p2 m2 c2 e2, DV s3 p3 m3 c3 e3] w fun en w' => en = .returned (.bool true) ∧ Below w.heap.size w w' := by
  cases single
  · exact roundDecided_x jn_64 lw_64 hT s1 s2 s3 h1 h2 h3
  · exact roundDecided_x jn_32 lw_32 hT s1 s2 s3 h1 h2 h3
end Go.Proofs.YtfkoilaobglddaaDoor

