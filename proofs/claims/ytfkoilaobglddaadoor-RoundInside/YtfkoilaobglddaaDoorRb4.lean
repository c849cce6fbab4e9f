import Derived.Test.YtfkoilaobglddaaDoorRb3
import Derived.Test.YtfkoilaobglddaaDoorJ20
namespace Go.Proofs.YtfkoilaobglddaaDoor
open Go.RowKit Go.Shelf

set_option maxRecDepth 20000 in
set_option maxHeartbeats 8000000 in
theorem roundInside_f {single : Bool} {f p m l : Int} {S I H sd : Nat} {Be : Int} (J : Jn f p m l S I H sd Be) (L : Lw single f S I) {q : Option Addr} {n c : Nat} {w : World} {e : Int} (s : Bool) {xs : List Nat} (h : At w q n c xs) (hf : formD s xs e = false) (hT : Tab w) :
    Calls Tryd.prog 4 #[.bool single, DV s q n c e] w fun en w' => en = .returned (.bool true) ∧ Below w.heap.size w w' := by
  have HJN : Hid (Jn f p m l S I H sd Be) := J
  have HLW : Hid (Lw single f S I) := L
  have TB : Hid (Tab w) := hT
  have A : Hid (At w q n c xs) := h
  have HFD : Hid (formD s xs e = false) := hf
  clear J L h hf hT
  go_enter Tryd.func4, Tryd.ntmps4
  go_wp2_with fail
  obtain ⟨W0, hW0⟩ : ∃ W0, W0 = (w.alloc (.cells #[.bool s, .slice q n c, .int .i64 e] 26)) := ⟨_, rfl⟩
  have Xd : Hid (B3q W0 (w.heap.size) (.bool s) (.slice q n c) (.int .i64 e)) := by rw [hW0]; exact ⟨by go_simp, by go_simp, by go_simp, by go_simp, by go_simp, by go_simp⟩
  have hb0 : Below w.heap.size w W0 := by rw [hW0]; exact below1 w _
  rw [← hW0]
  clear hW0
  have hbw : Below w.heap.size w w := Below.refl _ _
  obtain ⟨gd, hgd⟩ : ∃ g, g = w.heap.size := ⟨_, rfl⟩
  have HGd : Hid (w.heap.size ≤ gd) := by rw [hgd]; show _ ≤ _; omega
  rw [← hgd] at Xd
  try rw [← hgd]
  clear hgd
  replace hbw := Below.on hbw hb0
  clear hb0
  refine (HLW.out.fmt _).mono ?_
  rintro e v1 ⟨rfl, hb1⟩
  replace Xd : Hid _ := Xd.out.below hb1
  replace hbw := Below.on hbw hb1
  clear hb1
  obtain ⟨cd0, cd1, cd2, fd0, fd1, fd2⟩ := Xd.out
  have hned : gd < v1.heap.size := World.block_lt_of_cell? v1 _ cd0
  go_wp2_with fail
  clear cd0 cd1 cd2 fd0 fd1 fd2 hned
  refine (awake8 _ (TB.out.below hbw)).mono ?_
  rintro e v2 ⟨rfl, hb2⟩
  replace Xd : Hid _ := Xd.out.below hb2
  replace hbw := Below.on hbw hb2
  clear hb2
  obtain ⟨cd0, cd1, cd2, fd0, fd1, fd2⟩ := Xd.out
  have hned : gd < v2.heap.size := World.block_lt_of_cell? v2 _ cd0
  go_wp2_with fail
  clear cd0 cd1 cd2 fd0 fd1 fd2 hned
  refine (rnearest_f HJN.out s (A.out.below hbw) HFD.out).mono ?_
  rintro e v3 ⟨rfl, hb3⟩
  replace Xd : Hid _ := Xd.out.below hb3
  replace hbw := Below.on hbw hb3
  clear hb3
  obtain ⟨cd0, cd1, cd2, fd0, fd1, fd2⟩ := Xd.out
  have hned : gd < v3.heap.size := World.block_lt_of_cell? v3 _ cd0
  go_wp2_with fail
  clear cd0 cd1 cd2 fd0 fd1 fd2 hned
  refine (docformd s (A.out.below hbw)).mono ?_
  rintro e v4 ⟨rfl, hb4⟩
  rw [HFD.out]
  replace Xd : Hid _ := Xd.out.below hb4
  replace hbw := Below.on hbw hb4
  clear hb4
  obtain ⟨cd0, cd1, cd2, fd0, fd1, fd2⟩ := Xd.out
  have hned : gd < v4.heap.size := World.block_lt_of_cell? v4 _ cd0
  go_wp2_with fail
  clear cd0 cd1 cd2 fd0 fd1 fd2 hned
  go_ret
  exact ⟨rfl, hbw⟩
set_option maxRecDepth 20000 in
set_option maxHeartbeats 8000000 in
theorem roundInside_z {single : Bool} {f p m l : Int} {S I H sd : Nat} {Be : Int} (J : Jn f p m l S I H sd Be) (L : Lw single f S I) {q : Option Addr} {c : Nat} {w : World} {x e : Int} {s : Bool} (h : DN w s q 0 c e x) (h0 : x = 0) (hT : Tab w) :
    Calls Tryd.prog 4 #[.bool single, DV s q 0 c e] w fun en w' => en = .returned (.bool true) ∧ Below w.heap.size w w' := by
  have HJN : Hid (Jn f p m l S I H sd Be) := J
  have HLW : Hid (Lw single f S I) := L
  have TB : Hid (Tab w) := hT
  have HDN : Hid (DN w s q 0 c e x) := h
  have HBV : Hid (rnp l sd Be S I x e = 0) := by show rnp l sd Be S I x e = 0; unfold rnp; rw [if_pos h0]
  clear J L h h0 hT
  go_enter Tryd.func4, Tryd.ntmps4
  go_wp2_with fail
  obtain ⟨W0, hW0⟩ : ∃ W0, W0 = (w.alloc (.cells #[.bool s, .slice q 0 c, .int .i64 e] 26)) := ⟨_, rfl⟩
  have Xd : Hid (B3q W0 (w.heap.size) (.bool s) (.slice q 0 c) (.int .i64 e)) := by rw [hW0]; exact ⟨by go_simp, by go_simp, by go_simp, by go_simp, by go_simp, by go_simp⟩
  have hb0 : Below w.heap.size w W0 := by rw [hW0]; exact below1 w _
  rw [← hW0]
  clear hW0
  have hbw : Below w.heap.size w w := Below.refl _ _
  obtain ⟨gd, hgd⟩ : ∃ g, g = w.heap.size := ⟨_, rfl⟩
  have HGd : Hid (w.heap.size ≤ gd) := by rw [hgd]; show _ ≤ _; omega
  rw [← hgd] at Xd
  try rw [← hgd]
  clear hgd
  replace hbw := Below.on hbw hb0
  clear hb0
  refine (HLW.out.fmt _).mono ?_
  rintro e v1 ⟨rfl, hb1⟩
  replace Xd : Hid _ := Xd.out.below hb1
  replace hbw := Below.on hbw hb1
  clear hb1
  obtain ⟨cd0, cd1, cd2, fd0, fd1, fd2⟩ := Xd.out
  have hned : gd < v1.heap.size := World.block_lt_of_cell? v1 _ cd0
  go_wp2_with fail
  clear cd0 cd1 cd2 fd0 fd1 fd2 hned
  refine (awake8 _ (TB.out.below hbw)).mono ?_
  rintro e v2 ⟨rfl, hb2⟩
  replace Xd : Hid _ := Xd.out.below hb2
  replace hbw := Below.on hbw hb2
  clear hb2
  obtain ⟨cd0, cd1, cd2, fd0, fd1, fd2⟩ := Xd.out
  have hned : gd < v2.heap.size := World.block_lt_of_cell? v2 _ cd0
  go_wp2_with fail
  clear cd0 cd1 cd2 fd0 fd1 fd2 hned
  refine (rnearest HJN.out (HDN.out.below hbw) (TB.out.below hbw)).mono ?_
  rintro e v3 ⟨rfl, hb3⟩
  rw [HBV.out]
  replace Xd : Hid _ := Xd.out.below hb3
  replace hbw := Below.on hbw hb3
  clear hb3
  obtain ⟨cd0, cd1, cd2, fd0, fd1, fd2⟩ := Xd.out
  have hned : gd < v3.heap.size := World.block_lt_of_cell? v3 _ cd0
  go_wp2_with fail
  clear cd0 cd1 cd2 fd0 fd1 fd2 hned
  obtain ⟨xs, hX⟩ := (HDN.out.zn.below hbw).ex
  refine (docformd s hX.at_).mono ?_
  rintro e2 v4 ⟨rfl, hb4⟩
  rw [show formD s xs e = true from dn_formD (HDN.out.below hbw) hX]
  clear hX
  replace Xd : Hid _ := Xd.out.below hb4
  replace hbw := Below.on hbw hb4
  clear hb4
  obtain ⟨cd0, cd1, cd2, fd0, fd1, fd2⟩ := Xd.out
  have hned : gd < v4.heap.size := World.block_lt_of_cell? v4 _ cd0
  go_wp2_with fail
  clear cd0 cd1 cd2 fd0 fd1 fd2 hned
  refine (nought5_z).mono ?_
  rintro e v5 ⟨rfl, hb5⟩
  replace Xd : Hid _ := Xd.out.below hb5
  replace hbw := Below.on hbw hb5
  clear hb5
  obtain ⟨cd0, cd1, cd2, fd0, fd1, fd2⟩ := Xd.out
  have hned : gd < v5.heap.size := World.block_lt_of_cell? v5 _ cd0
  go_wp2_with fail
  clear cd0 cd1 cd2 fd0 fd1 fd2 hned
  go_ret
  exact ⟨rfl, hbw⟩
set_option maxRecDepth 20000 in
set_option maxHeartbeats 8000000 in
theorem roundInside_n0 {single : Bool} {f p m l : Int} {S I H sd : Nat} {Be : Int} (J : Jn f p m l S I H sd Be) (L : Lw single f S I) {P E G : Int} {Q : Nat} (R : Rf f S P E G I Q) {q : Option Addr} {n c : Nat} {w : World} {x e : Int} (h : DN w false q n c e x) (hT : Tab w) (hn : 0 < n) :
    Calls Tryd.prog 4 #[.bool single, DV false q n c e] w fun en w' => en = .returned (.bool true) ∧ Below w.heap.size w w' := by
  have HJN : Hid (Jn f p m l S I H sd Be) := J
  have HLW : Hid (Lw single f S I) := L
  have TB : Hid (Tab w) := hT
  have HDN : Hid (DN w false q n c e x) := h
  have HRF : Hid (Rf f S P E G I Q) := R
  have HN : Hid (0 < n) := hn
  obtain ⟨Z, hZI, hR, hw, hw2, hwz, hws, hwp⟩ := rnp_is J x e (by rcases h.fm with ⟨_, h2⟩ | ⟨_, h2, _⟩ <;> omega)
  obtain ⟨b, hb⟩ : ∃ b, b = rnp l sd Be S I x e := ⟨_, rfl⟩
  rw [← hb] at hw hw2 hwz hws hwp
  have HBV : Hid (rnp l sd Be S I x e = b) := hb.symm
  have hsx : false = decide (x < 0) := h.zn.sg
  have HSX : Hid (decide (x < 0) = false) := hsx.symm
  have HB : Hid (b < 2 * S ∧ b % S = Z ∧ decide (S ≤ b) = false ∧ b % 2 = Z % 2) := ⟨hw2, hwz, by rw [hws, ← hsx], hwp⟩
  have HBE : Hid (b = Z) := by
    show b = Z
    rw [hw]
    by_cases hx : x < 0
    · rw [if_pos hx]; first | done | (rw [decide_eq_true hx] at hsx; cases hsx)
    · rw [if_neg hx]; first | done | (rw [decide_eq_false hx] at hsx; cases hsx)
  have HR : Hid (RNz H l I (dv x.natAbs e) Z ∧ Z ≤ I) := ⟨hR, hZI⟩
  obtain ⟨ka, hka⟩ : ∃ ka, ka = (if S ≤ b then S else 0) := ⟨_, rfl⟩
  have a1 : bits BinOp.and IntKind.u64 (b : Int) (S : Int) = ((ka : Nat) : Int) := by rw [hka]; exact L.an b hw2
  have hS0 : 0 < S := by have := J.jm.pm.fm.lt; omega
  have a2 : ((ka : Int) == 0) = !false := by
    rw [hka, hsx, ← hws]
    by_cases hx : S ≤ b
    · rw [if_pos hx, decide_eq_true hx]; simp; omega
    · rw [if_neg hx, decide_eq_false hx]; simp
  have a3 : ((ka : Int) != 0) = false := by simp [bne, a2]
  clear J L R h hT hn hb hZI hR hw hw2 hwz hws hwp hsx hka hS0
  go_enter Tryd.func4, Tryd.ntmps4
  go_wp2_with fail
  obtain ⟨W0, hW0⟩ : ∃ W0, W0 = (w.alloc (.cells #[.bool false, .slice q n c, .int .i64 e] 26)) := ⟨_, rfl⟩
  have Xd : Hid (B3q W0 (w.heap.size) (.bool false) (.slice q n c) (.int .i64 e)) := by rw [hW0]; exact ⟨by go_simp, by go_simp, by go_simp, by go_simp, by go_simp, by go_simp⟩
  have hb0 : Below w.heap.size w W0 := by rw [hW0]; exact below1 w _
  rw [← hW0]
  clear hW0
  have hbw : Below w.heap.size w w := Below.refl _ _
  obtain ⟨gd, hgd⟩ : ∃ g, g = w.heap.size := ⟨_, rfl⟩
  have HGd : Hid (w.heap.size ≤ gd) := by rw [hgd]; show _ ≤ _; omega
  rw [← hgd] at Xd
  try rw [← hgd]
  clear hgd
  replace hbw := Below.on hbw hb0
  clear hb0
  refine (HLW.out.fmt _).mono ?_
  rintro e v1 ⟨rfl, hb1⟩
  replace Xd : Hid _ := Xd.out.below hb1
  replace hbw := Below.on hbw hb1
  clear hb1
  obtain ⟨cd0, cd1, cd2, fd0, fd1, fd2⟩ := Xd.out
  have hned : gd < v1.heap.size := World.block_lt_of_cell? v1 _ cd0
  go_wp2_with fail
  clear cd0 cd1 cd2 fd0 fd1 fd2 hned
  refine (awake8 _ (TB.out.below hbw)).mono ?_
  rintro e v2 ⟨rfl, hb2⟩
  replace Xd : Hid _ := Xd.out.below hb2
  replace hbw := Below.on hbw hb2
  clear hb2
  obtain ⟨cd0, cd1, cd2, fd0, fd1, fd2⟩ := Xd.out
  have hned : gd < v2.heap.size := World.block_lt_of_cell? v2 _ cd0
  go_wp2_with fail
  clear cd0 cd1 cd2 fd0 fd1 fd2 hned
  refine (rnearest HJN.out (HDN.out.below hbw) (TB.out.below hbw)).mono ?_
  rintro e v3 ⟨rfl, hb3⟩
  rw [HBV.out]
  replace Xd : Hid _ := Xd.out.below hb3
  replace hbw := Below.on hbw hb3
  clear hb3
  obtain ⟨cd0, cd1, cd2, fd0, fd1, fd2⟩ := Xd.out
  have hned : gd < v3.heap.size := World.block_lt_of_cell? v3 _ cd0
  go_wp2_with fail
  clear cd0 cd1 cd2 fd0 fd1 fd2 hned
  obtain ⟨xs, hX⟩ := (HDN.out.zn.below hbw).ex
  refine (docformd false hX.at_).mono ?_
  rintro e2 v4 ⟨rfl, hb4⟩
  rw [show formD false xs e = true from dn_formD (HDN.out.below hbw) hX]
  clear hX
  replace Xd : Hid _ := Xd.out.below hb4
  replace hbw := Below.on hbw hb4
  clear hb4
  obtain ⟨cd0, cd1, cd2, fd0, fd1, fd2⟩ := Xd.out
  have hned : gd < v4.heap.size := World.block_lt_of_cell? v4 _ cd0
  go_wp2_with fail
  clear cd0 cd1 cd2 fd0 fd1 fd2 hned
  refine (nought5 HN.out).mono ?_
  rintro e v5 ⟨rfl, hb5⟩
  replace Xd : Hid _ := Xd.out.below hb5
  replace hbw := Below.on hbw hb5
  clear hb5
  obtain ⟨cd0, cd1, cd2, fd0, fd1, fd2⟩ := Xd.out
  have hned : gd < v5.heap.size := World.block_lt_of_cell? v5 _ cd0
  go_wp2_with fail
  clear cd0 cd1 cd2 fd0 fd1 fd2 hned
  obtain ⟨W5, hW5⟩ : ∃ W1, W1 = v5.drew := ⟨_, rfl⟩
  have hbd : Below v5.heap.size v5 W5 := by rw [hW5]; exact bDrew1 (Below.refl _ _)
  replace Xd : Hid _ := Xd.out.below hbd
  replace hbw := Below.on hbw hbd
  clear hbd
  have HJ : Hid ((fun W' : World => W'.cell? ⟨gd, 0, none⟩ = some (.bool false)) W5) := Xd.out.c0
  refine wp_region_J (fun W' => W'.cell? ⟨gd, 0, none⟩ = some (.bool false)) (by kernel_rfl) ?_
  rw [← hW5]
  clear hW5
  refine wpJ_take (i := 0) (v := ?v1x0) rfl (by kernel_rfl) (by kernel_rfl) (by kernel_rfl) (fun _ _ _ h => h) (by kernel_rfl) ?hy1x0 HJ.out ?rest1x0
  case hy1x0 => (intro W' hJ; have j0 := hJ; go_simp; first | done | with_reducible rfl)
  refine wpJ_take (i := 1) (v := ?v2x1) rfl (by kernel_rfl) (by kernel_rfl) (by kernel_rfl) (fun _ _ _ h => h) (by kernel_rfl) ?hy2x1 HJ.out ?rest2x1
  case hy2x1 => (intro W' hJ; have j0 := hJ; go_simp; first | done | with_reducible rfl)
  refine wpJ_take (i := 2) (v := ?v3x2) rfl (by kernel_rfl) (by kernel_rfl) (by kernel_rfl) (fun _ _ _ h => h) (by kernel_rfl) ?hy3x2 HJ.out ?rest3x2
  case hy3x2 => (intro W' hJ; have j0 := hJ; go_simp; first | done | with_reducible rfl)
  refine wpJ_take (i := 3) (v := ?v4x3) rfl (by kernel_rfl) (by kernel_rfl) (by kernel_rfl) (fun _ _ _ h => h) (by kernel_rfl) ?hy4x3 HJ.out ?rest4x3
  case hy4x3 => (intro W' hJ; have j0 := hJ; go_simp; first | done | with_reducible rfl)
  refine wpJ_take (i := 4) (v := ?v5x4) rfl (by kernel_rfl) (by kernel_rfl) (by kernel_rfl) (fun _ _ _ h => h) (by kernel_rfl) ?hy5x4 HJ.out ?rest5x4
  case hy5x4 => (intro W' hJ; have j0 := hJ; go_simp; first | done | with_reducible rfl)
  refine wpJ_one (i := 5) (by kernel_rfl) rfl (by kernel_rfl) (fun KJ hK => ?_)
  go_simp
  refine (HLW.out.sg _).mono ?_
  rintro e v6 ⟨rfl, hb6⟩
  replace Xd : Hid _ := Xd.out.below hb6
  replace hbw := Below.on hbw hb6
  clear hb6
  clear HJ
  have HJ : Hid ((fun W' : World => W'.cell? ⟨gd, 0, none⟩ = some (.bool false)) v6) := Xd.out.c0
  refine hK _ _ HJ.out ?_
  clear hK
  refine wpJ_take (i := 6) (v := ?v6x6) rfl (by kernel_rfl) (by kernel_rfl) (by kernel_rfl) (fun _ _ _ h => h) (by kernel_rfl) ?hy6x6 HJ.out ?rest6x6
  case hy6x6 => (intro W' hJ; have j0 := hJ; go_simp; first | done | with_reducible rfl)
  refine wpJ_take (i := 7) (v := ?v7x7) rfl (by kernel_rfl) (by kernel_rfl) (by kernel_rfl) (fun _ _ _ h => h) (by kernel_rfl) ?hy7x7 HJ.out ?rest7x7
  case hy7x7 => (intro W' hJ; have j0 := hJ; go_simp; first | done | with_reducible rfl)
  refine wpJ_take (i := 8) (v := ?v8x8) rfl (by kernel_rfl) (by kernel_rfl) (by kernel_rfl) (fun _ _ _ h => h) (by kernel_rfl) ?hy8x8 HJ.out ?rest8x8
  case hy8x8 => (intro W' hJ; have j0 := hJ; go_simp; first | done | with_reducible rfl)
  refine wpJ_done (by kernel_rfl) ?_ _
  clear HJ
  obtain ⟨cd0, cd1, cd2, fd0, fd1, fd2⟩ := Xd.out
  have hned : gd < v6.heap.size := World.block_lt_of_cell? v6 _ cd0
  go_wp2_with fail
  clear cd0 cd1 cd2 fd0 fd1 fd2 hned
  rcases Nat.lt_or_ge 0 Z with hz | hz
  · rcases Nat.lt_or_ge Z I with hi | hi
    · have HZ9 : Hid (b % S ≠ 0 ∧ b % S < I ∧ Z ≠ 0 ∧ Z < I) := by rw [HB.out.2.1]; exact ⟨by omega, hi, by omega, hi⟩
      refine (HLW.out.fin b _ HB.out.1).mono ?_
      rintro e v7 ⟨rfl, hb7⟩
      rw [decide_eq_true HZ9.out.2.1, decide_eq_false HZ9.out.1]
      clear hz hi
      replace Xd : Hid _ := Xd.out.below hb7
      replace hbw := Below.on hbw hb7
      clear hb7
      obtain ⟨cd0, cd1, cd2, fd0, fd1, fd2⟩ := Xd.out
      have hned : gd < v7.heap.size := World.block_lt_of_cell? v7 _ cd0
      go_wp2_with fail
      clear cd0 cd1 cd2 fd0 fd1 fd2 hned
      refine (cell_ok HJN.out b HB.out.1 HZ9.out.1 HZ9.out.2.1 _ (TB.out.below hbw)).mono ?_
      rintro e2 v8 ⟨s8, p8, m8, z8, e8, t8, q8, n8, y8, f8, rfl, hd1, hd2, hv1, hv2, hb8⟩
      obtain ⟨pr, hpr⟩ : ∃ pr, pr = decide (b % 2 = 0) := ⟨_, rfl⟩
      rw [← hpr]
      have hin := HR.out.1.inside HZ9.out.2.2.1 HZ9.out.2.2.2
      rw [HSX.out] at hin
      rw [HB.out.2.1, HB.out.2.2.1] at hv1 hv2
      rw [← hv1, ← hv2, ← HB.out.2.2.2] at hin
      have HIN : Hid (dv z8 e8 ≤ dv x e ∧ dv x e ≤ dv y8 f8 ∧ (b % 2 = 1 → dv z8 e8 < dv x e ∧ dv x e < dv y8 f8)) := hin
      have HPR : Hid (pr = decide (b % 2 = 0)) := hpr
      have kp : (((b : Int).tmod 2) == 0) = pr := by rw [Int.tmod_eq_emod_of_nonneg (by omega), hpr]; by_cases a : b % 2 = 0 <;> simp [a] <;> omega
      have kp2 : (((b : Int) % 2) == 0) = pr := by rw [hpr]; by_cases a : b % 2 = 0 <;> simp [a] <;> omega
      clear hin hv1 hv2 hpr
      replace Xd : Hid _ := Xd.out.below hb8
      replace hbw := Below.on hbw hb8
      clear hb8
      have D8 : Hid (DN v8 s8 p8 m8 m8 e8 z8) := hd1.dn
      have E8 : Hid (DN v8 t8 q8 n8 n8 f8 y8) := hd2.dn
      clear hd1 hd2
      cases pr
      · obtain ⟨cd0, cd1, cd2, fd0, fd1, fd2⟩ := Xd.out
        have hned : gd < v8.heap.size := World.block_lt_of_cell? v8 _ cd0
        go_wp2_with fail
        clear cd0 cd1 cd2 fd0 fd1 fd2 hned
        have Xs0 : Hid (B6q (v8.alloc (.cells #[.bool s8, .slice p8 m8 m8, .int .i64 e8, .bool t8, .slice q8 n8 n8, .int .i64 f8] 28)) v8.heap.size (.bool s8) (.slice p8 m8 m8) (.int .i64 e8) (.bool t8) (.slice q8 n8 n8) (.int .i64 f8)) := B6q.new v8 _ _ _ _ _ _ _
        have hbn : Below v8.heap.size v8 (v8.alloc (.cells #[.bool s8, .slice p8 m8 m8, .int .i64 e8, .bool t8, .slice q8 n8 n8, .int .i64 f8] 28)) := below1 v8 _
        generalize v8.alloc (.cells #[.bool s8, .slice p8 m8 m8, .int .i64 e8, .bool t8, .slice q8 n8 n8, .int .i64 f8] 28) = Ws at *
        have HGs : Hid (w.heap.size ≤ v8.heap.size) := hbw.size
        replace Xd : Hid _ := Xd.out.below hbn
        replace D8 : Hid _ := D8.out.below hbn
        replace E8 : Hid _ := E8.out.below hbn
        replace hbw := Below.on hbw hbn
        clear hbn
        generalize v8.heap.size = gs at *
        have Xs := Xs0
        clear Xs0
        have DD : Hid (DN Ws false q n c e x) := HDN.out.below hbw
        have hst := HIN.out.2.2 (by have h9 : ¬ b % 2 = 0 := of_decide_eq_false HPR.out.symm; omega)
        have HC1 : Hid (dv z8 e8 < dv x e) := hst.1
        have HC2 : Hid (dv x e < dv y8 f8) := hst.2
        clear hst
        obtain ⟨W6, hW6⟩ : ∃ W1, W1 = Ws.drew := ⟨_, rfl⟩
        have hbd : Below Ws.heap.size Ws W6 := by rw [hW6]; exact bDrew1 (Below.refl _ _)
        replace Xd : Hid _ := Xd.out.below hbd
        replace Xs : Hid _ := Xs.out.below hbd
        replace D8 : Hid _ := D8.out.below hbd
        replace E8 : Hid _ := E8.out.below hbd
        replace DD : Hid _ := DD.out.below hbd
        replace hbw := Below.on hbw hbd
        clear hbd
        have HJ : Hid ((fun W' : World => W'.cell? ⟨gs, 0, none⟩ = some (.bool s8) ∧ W'.cell? ⟨gs, 1, none⟩ = some (.slice p8 m8 m8) ∧ W'.cell? ⟨gs, 2, none⟩ = some (.int .i64 e8) ∧ W'.cell? ⟨gs, 3, none⟩ = some (.bool t8) ∧ W'.cell? ⟨gs, 4, none⟩ = some (.slice q8 n8 n8) ∧ W'.cell? ⟨gs, 5, none⟩ = some (.int .i64 f8) ∧ W'.cell? ⟨gd, 0, none⟩ = some (.bool false) ∧ W'.cell? ⟨gd, 1, none⟩ = some (.slice q n c) ∧ W'.cell? ⟨gd, 2, none⟩ = some (.int .i64 e)) W6) := ⟨Xs.out.c0, Xs.out.c1, Xs.out.c2, Xs.out.c3, Xs.out.c4, Xs.out.c5, Xd.out.c0, Xd.out.c1, Xd.out.c2⟩
        refine wp_region_J (fun W' => W'.cell? ⟨gs, 0, none⟩ = some (.bool s8) ∧ W'.cell? ⟨gs, 1, none⟩ = some (.slice p8 m8 m8) ∧ W'.cell? ⟨gs, 2, none⟩ = some (.int .i64 e8) ∧ W'.cell? ⟨gs, 3, none⟩ = some (.bool t8) ∧ W'.cell? ⟨gs, 4, none⟩ = some (.slice q8 n8 n8) ∧ W'.cell? ⟨gs, 5, none⟩ = some (.int .i64 f8) ∧ W'.cell? ⟨gd, 0, none⟩ = some (.bool false) ∧ W'.cell? ⟨gd, 1, none⟩ = some (.slice q n c) ∧ W'.cell? ⟨gd, 2, none⟩ = some (.int .i64 e)) (by kernel_rfl) ?_
        rw [← hW6]
        clear hW6
        refine wpJ_take (i := 0) (v := ?v9x0) rfl (by kernel_rfl) (by kernel_rfl) (by kernel_rfl) (fun _ _ _ h => h) (by kernel_rfl) ?hy9x0 HJ.out ?rest9x0
        case hy9x0 => (intro W' hJ; obtain ⟨j0, j1, j2, j3, j4, j5, j6, j7, j8⟩ := hJ; go_simp; first | done | with_reducible rfl)
        refine wpJ_take (i := 1) (v := ?v10x1) rfl (by kernel_rfl) (by kernel_rfl) (by kernel_rfl) (fun _ _ _ h => h) (by kernel_rfl) ?hy10x1 HJ.out ?rest10x1
        case hy10x1 => (intro W' hJ; obtain ⟨j0, j1, j2, j3, j4, j5, j6, j7, j8⟩ := hJ; go_simp; first | done | with_reducible rfl)
        refine wpJ_take (i := 2) (v := ?v11x2) rfl (by kernel_rfl) (by kernel_rfl) (by kernel_rfl) (fun _ _ _ h => h) (by kernel_rfl) ?hy11x2 HJ.out ?rest11x2
        case hy11x2 => (intro W' hJ; obtain ⟨j0, j1, j2, j3, j4, j5, j6, j7, j8⟩ := hJ; go_simp; first | done | with_reducible rfl)
        refine wpJ_take (i := 4) (v := ?v12x4) rfl (by kernel_rfl) (by kernel_rfl) (by kernel_rfl) (fun _ _ _ h => h) (by kernel_rfl) ?hy12x4 HJ.out ?rest12x4
        case hy12x4 => (intro W' hJ; obtain ⟨j0, j1, j2, j3, j4, j5, j6, j7, j8⟩ := hJ; go_simp; first | done | with_reducible rfl)
        refine wpJ_take (i := 5) (v := ?v13x5) rfl (by kernel_rfl) (by kernel_rfl) (by kernel_rfl) (fun _ _ _ h => h) (by kernel_rfl) ?hy13x5 HJ.out ?rest13x5
        case hy13x5 => (intro W' hJ; obtain ⟨j0, j1, j2, j3, j4, j5, j6, j7, j8⟩ := hJ; go_simp; first | done | with_reducible rfl)
        go_simp
        refine wpJ_take (i := 6) (v := ?v14x6) rfl (by kernel_rfl) (by kernel_rfl) (by kernel_rfl) (fun _ _ _ h => h) (by kernel_rfl) ?hy14x6 HJ.out ?rest14x6
        case hy14x6 => (intro W' hJ; obtain ⟨j0, j1, j2, j3, j4, j5, j6, j7, j8⟩ := hJ; go_simp; first | done | with_reducible rfl)
        refine wpJ_one (i := 3) (by kernel_rfl) rfl (by kernel_rfl) (fun KJ hK => ?_)
        go_simp
        refine (at8 D8.out DD.out).mono ?_
        rintro e v9 ⟨rfl, hb9⟩
        rw [cmp_l HC1.out]
        replace Xd : Hid _ := Xd.out.below hb9
        replace Xs : Hid _ := Xs.out.below hb9
        replace D8 : Hid _ := D8.out.below hb9
        replace E8 : Hid _ := E8.out.below hb9
        replace DD : Hid _ := DD.out.below hb9
        replace hbw := Below.on hbw hb9
        clear hb9
        refine hK _ _ ⟨Xs.out.c0, Xs.out.c1, Xs.out.c2, Xs.out.c3, Xs.out.c4, Xs.out.c5, Xd.out.c0, Xd.out.c1, Xd.out.c2⟩ ?_
        clear hK
        refine wpJ_one (i := 7) (by kernel_rfl) rfl (by kernel_rfl) (fun KJ hK => ?_)
        go_simp
        refine (at8 DD.out E8.out).mono ?_
        rintro e v10 ⟨rfl, hb10⟩
        rw [cmp_l HC2.out]
        replace Xd : Hid _ := Xd.out.below hb10
        replace Xs : Hid _ := Xs.out.below hb10
        replace D8 : Hid _ := D8.out.below hb10
        replace E8 : Hid _ := E8.out.below hb10
        replace DD : Hid _ := DD.out.below hb10
        replace hbw := Below.on hbw hb10
        clear hb10
        clear HJ
        have HJ : Hid ((fun W' : World => W'.cell? ⟨gs, 0, none⟩ = some (.bool s8) ∧ W'.cell? ⟨gs, 1, none⟩ = some (.slice p8 m8 m8) ∧ W'.cell? ⟨gs, 2, none⟩ = some (.int .i64 e8) ∧ W'.cell? ⟨gs, 3, none⟩ = some (.bool t8) ∧ W'.cell? ⟨gs, 4, none⟩ = some (.slice q8 n8 n8) ∧ W'.cell? ⟨gs, 5, none⟩ = some (.int .i64 f8) ∧ W'.cell? ⟨gd, 0, none⟩ = some (.bool false) ∧ W'.cell? ⟨gd, 1, none⟩ = some (.slice q n c) ∧ W'.cell? ⟨gd, 2, none⟩ = some (.int .i64 e)) v10) := ⟨Xs.out.c0, Xs.out.c1, Xs.out.c2, Xs.out.c3, Xs.out.c4, Xs.out.c5, Xd.out.c0, Xd.out.c1, Xd.out.c2⟩
        refine hK _ _ HJ.out ?_
        clear hK
        refine wpJ_take (i := 8) (v := ?v15x8) rfl (by kernel_rfl) (by kernel_rfl) (by kernel_rfl) (fun _ _ _ h => h) (by kernel_rfl) ?hy15x8 HJ.out ?rest15x8
        case hy15x8 => (intro W' hJ; obtain ⟨j0, j1, j2, j3, j4, j5, j6, j7, j8⟩ := hJ; go_simp; first | done | with_reducible rfl)
        refine wpJ_take (i := 9) (v := ?v16x9) rfl (by kernel_rfl) (by kernel_rfl) (by kernel_rfl) (fun _ _ _ h => h) (by kernel_rfl) ?hy16x9 HJ.out ?rest16x9
        case hy16x9 => (intro W' hJ; obtain ⟨j0, j1, j2, j3, j4, j5, j6, j7, j8⟩ := hJ; go_simp; first | done | with_reducible rfl)
        refine wpJ_done (by kernel_rfl) ?_ _
        clear HJ
        go_wp2_with fail
        go_ret
        exact ⟨rfl, hbw⟩
      · obtain ⟨cd0, cd1, cd2, fd0, fd1, fd2⟩ := Xd.out
        have hned : gd < v8.heap.size := World.block_lt_of_cell? v8 _ cd0
        go_wp2_with fail
        clear cd0 cd1 cd2 fd0 fd1 fd2 hned
        have Xs0 : Hid (B6q (v8.alloc (.cells #[.bool s8, .slice p8 m8 m8, .int .i64 e8, .bool t8, .slice q8 n8 n8, .int .i64 f8] 28)) v8.heap.size (.bool s8) (.slice p8 m8 m8) (.int .i64 e8) (.bool t8) (.slice q8 n8 n8) (.int .i64 f8)) := B6q.new v8 _ _ _ _ _ _ _
        have hbn : Below v8.heap.size v8 (v8.alloc (.cells #[.bool s8, .slice p8 m8 m8, .int .i64 e8, .bool t8, .slice q8 n8 n8, .int .i64 f8] 28)) := below1 v8 _
        generalize v8.alloc (.cells #[.bool s8, .slice p8 m8 m8, .int .i64 e8, .bool t8, .slice q8 n8 n8, .int .i64 f8] 28) = Ws at *
        have HGs : Hid (w.heap.size ≤ v8.heap.size) := hbw.size
        replace Xd : Hid _ := Xd.out.below hbn
        replace D8 : Hid _ := D8.out.below hbn
        replace E8 : Hid _ := E8.out.below hbn
        replace hbw := Below.on hbw hbn
        clear hbn
        generalize v8.heap.size = gs at *
        have Xs := Xs0
        clear Xs0
        have DD : Hid (DN Ws false q n c e x) := HDN.out.below hbw
        rcases Int.lt_or_eq_of_le HIN.out.1 with h1 | h1 <;> rcases Int.lt_or_eq_of_le HIN.out.2.1 with h2 | h2
        · have HC1 : Hid (dv z8 e8 < dv x e) := h1
          have HC2 : Hid (dv x e < dv y8 f8) := h2
          clear h1 h2
          obtain ⟨W6, hW6⟩ : ∃ W1, W1 = Ws.drew := ⟨_, rfl⟩
          have hbd : Below Ws.heap.size Ws W6 := by rw [hW6]; exact bDrew1 (Below.refl _ _)
          replace Xd : Hid _ := Xd.out.below hbd
          replace Xs : Hid _ := Xs.out.below hbd
          replace D8 : Hid _ := D8.out.below hbd
          replace E8 : Hid _ := E8.out.below hbd
          replace DD : Hid _ := DD.out.below hbd
          replace hbw := Below.on hbw hbd
          clear hbd
          have HJ : Hid ((fun W' : World => W'.cell? ⟨gs, 0, none⟩ = some (.bool s8) ∧ W'.cell? ⟨gs, 1, none⟩ = some (.slice p8 m8 m8) ∧ W'.cell? ⟨gs, 2, none⟩ = some (.int .i64 e8) ∧ W'.cell? ⟨gs, 3, none⟩ = some (.bool t8) ∧ W'.cell? ⟨gs, 4, none⟩ = some (.slice q8 n8 n8) ∧ W'.cell? ⟨gs, 5, none⟩ = some (.int .i64 f8) ∧ W'.cell? ⟨gd, 0, none⟩ = some (.bool false) ∧ W'.cell? ⟨gd, 1, none⟩ = some (.slice q n c) ∧ W'.cell? ⟨gd, 2, none⟩ = some (.int .i64 e)) W6) := ⟨Xs.out.c0, Xs.out.c1, Xs.out.c2, Xs.out.c3, Xs.out.c4, Xs.out.c5, Xd.out.c0, Xd.out.c1, Xd.out.c2⟩
          refine wp_region_J (fun W' => W'.cell? ⟨gs, 0, none⟩ = some (.bool s8) ∧ W'.cell? ⟨gs, 1, none⟩ = some (.slice p8 m8 m8) ∧ W'.cell? ⟨gs, 2, none⟩ = some (.int .i64 e8) ∧ W'.cell? ⟨gs, 3, none⟩ = some (.bool t8) ∧ W'.cell? ⟨gs, 4, none⟩ = some (.slice q8 n8 n8) ∧ W'.cell? ⟨gs, 5, none⟩ = some (.int .i64 f8) ∧ W'.cell? ⟨gd, 0, none⟩ = some (.bool false) ∧ W'.cell? ⟨gd, 1, none⟩ = some (.slice q n c) ∧ W'.cell? ⟨gd, 2, none⟩ = some (.int .i64 e)) (by kernel_rfl) ?_
          rw [← hW6]
          clear hW6
          refine wpJ_take (i := 0) (v := ?v17x0) rfl (by kernel_rfl) (by kernel_rfl) (by kernel_rfl) (fun _ _ _ h => h) (by kernel_rfl) ?hy17x0 HJ.out ?rest17x0
          case hy17x0 => (intro W' hJ; obtain ⟨j0, j1, j2, j3, j4, j5, j6, j7, j8⟩ := hJ; go_simp; first | done | with_reducible rfl)
          refine wpJ_take (i := 1) (v := ?v18x1) rfl (by kernel_rfl) (by kernel_rfl) (by kernel_rfl) (fun _ _ _ h => h) (by kernel_rfl) ?hy18x1 HJ.out ?rest18x1
          case hy18x1 => (intro W' hJ; obtain ⟨j0, j1, j2, j3, j4, j5, j6, j7, j8⟩ := hJ; go_simp; first | done | with_reducible rfl)
          refine wpJ_take (i := 2) (v := ?v19x2) rfl (by kernel_rfl) (by kernel_rfl) (by kernel_rfl) (fun _ _ _ h => h) (by kernel_rfl) ?hy19x2 HJ.out ?rest19x2
          case hy19x2 => (intro W' hJ; obtain ⟨j0, j1, j2, j3, j4, j5, j6, j7, j8⟩ := hJ; go_simp; first | done | with_reducible rfl)
          refine wpJ_take (i := 4) (v := ?v20x4) rfl (by kernel_rfl) (by kernel_rfl) (by kernel_rfl) (fun _ _ _ h => h) (by kernel_rfl) ?hy20x4 HJ.out ?rest20x4
          case hy20x4 => (intro W' hJ; obtain ⟨j0, j1, j2, j3, j4, j5, j6, j7, j8⟩ := hJ; go_simp; first | done | with_reducible rfl)
          refine wpJ_take (i := 5) (v := ?v21x5) rfl (by kernel_rfl) (by kernel_rfl) (by kernel_rfl) (fun _ _ _ h => h) (by kernel_rfl) ?hy21x5 HJ.out ?rest21x5
          case hy21x5 => (intro W' hJ; obtain ⟨j0, j1, j2, j3, j4, j5, j6, j7, j8⟩ := hJ; go_simp; first | done | with_reducible rfl)
          go_simp
          refine wpJ_take (i := 6) (v := ?v22x6) rfl (by kernel_rfl) (by kernel_rfl) (by kernel_rfl) (fun _ _ _ h => h) (by kernel_rfl) ?hy22x6 HJ.out ?rest22x6
          case hy22x6 => (intro W' hJ; obtain ⟨j0, j1, j2, j3, j4, j5, j6, j7, j8⟩ := hJ; go_simp; first | done | with_reducible rfl)
          refine wpJ_one (i := 3) (by kernel_rfl) rfl (by kernel_rfl) (fun KJ hK => ?_)
          go_simp
          refine (at8 D8.out DD.out).mono ?_
          rintro e v9 ⟨rfl, hb9⟩
          rw [cmp_l HC1.out]
          replace Xd : Hid _ := Xd.out.below hb9
          replace Xs : Hid _ := Xs.out.below hb9
          replace D8 : Hid _ := D8.out.below hb9
          replace E8 : Hid _ := E8.out.below hb9
          replace DD : Hid _ := DD.out.below hb9
          replace hbw := Below.on hbw hb9
          clear hb9
          refine hK _ _ ⟨Xs.out.c0, Xs.out.c1, Xs.out.c2, Xs.out.c3, Xs.out.c4, Xs.out.c5, Xd.out.c0, Xd.out.c1, Xd.out.c2⟩ ?_
          clear hK
          refine wpJ_one (i := 7) (by kernel_rfl) rfl (by kernel_rfl) (fun KJ hK => ?_)
          go_simp
          refine (at8 DD.out E8.out).mono ?_
          rintro e v10 ⟨rfl, hb10⟩
          rw [cmp_l HC2.out]
          replace Xd : Hid _ := Xd.out.below hb10
          replace Xs : Hid _ := Xs.out.below hb10
          replace D8 : Hid _ := D8.out.below hb10
          replace E8 : Hid _ := E8.out.below hb10
          replace DD : Hid _ := DD.out.below hb10
          replace hbw := Below.on hbw hb10
          clear hb10
          clear HJ
          have HJ : Hid ((fun W' : World => W'.cell? ⟨gs, 0, none⟩ = some (.bool s8) ∧ W'.cell? ⟨gs, 1, none⟩ = some (.slice p8 m8 m8) ∧ W'.cell? ⟨gs, 2, none⟩ = some (.int .i64 e8) ∧ W'.cell? ⟨gs, 3, none⟩ = some (.bool t8) ∧ W'.cell? ⟨gs, 4, none⟩ = some (.slice q8 n8 n8) ∧ W'.cell? ⟨gs, 5, none⟩ = some (.int .i64 f8) ∧ W'.cell? ⟨gd, 0, none⟩ = some (.bool false) ∧ W'.cell? ⟨gd, 1, none⟩ = some (.slice q n c) ∧ W'.cell? ⟨gd, 2, none⟩ = some (.int .i64 e)) v10) := ⟨Xs.out.c0, Xs.out.c1, Xs.out.c2, Xs.out.c3, Xs.out.c4, Xs.out.c5, Xd.out.c0, Xd.out.c1, Xd.out.c2⟩
          refine hK _ _ HJ.out ?_
          clear hK
          refine wpJ_take (i := 8) (v := ?v23x8) rfl (by kernel_rfl) (by kernel_rfl) (by kernel_rfl) (fun _ _ _ h => h) (by kernel_rfl) ?hy23x8 HJ.out ?rest23x8
          case hy23x8 => (intro W' hJ; obtain ⟨j0, j1, j2, j3, j4, j5, j6, j7, j8⟩ := hJ; go_simp; first | done | with_reducible rfl)
          refine wpJ_take (i := 9) (v := ?v24x9) rfl (by kernel_rfl) (by kernel_rfl) (by kernel_rfl) (fun _ _ _ h => h) (by kernel_rfl) ?hy24x9 HJ.out ?rest24x9
          case hy24x9 => (intro W' hJ; obtain ⟨j0, j1, j2, j3, j4, j5, j6, j7, j8⟩ := hJ; go_simp; first | done | with_reducible rfl)
          refine wpJ_done (by kernel_rfl) ?_ _
          clear HJ
          go_wp2_with fail
          go_ret
          exact ⟨rfl, hbw⟩
        · have HC1 : Hid (dv z8 e8 < dv x e) := h1
          have HC2 : Hid (dv x e = dv y8 f8) := h2
          clear h1 h2
          obtain ⟨W6, hW6⟩ : ∃ W1, W1 = Ws.drew := ⟨_, rfl⟩
          have hbd : Below Ws.heap.size Ws W6 := by rw [hW6]; exact bDrew1 (Below.refl _ _)
          replace Xd : Hid _ := Xd.out.below hbd
          replace Xs : Hid _ := Xs.out.below hbd
          replace D8 : Hid _ := D8.out.below hbd
          replace E8 : Hid _ := E8.out.below hbd
          replace DD : Hid _ := DD.out.below hbd
          replace hbw := Below.on hbw hbd
          clear hbd
          have HJ : Hid ((fun W' : World => W'.cell? ⟨gs, 0, none⟩ = some (.bool s8) ∧ W'.cell? ⟨gs, 1, none⟩ = some (.slice p8 m8 m8) ∧ W'.cell? ⟨gs, 2, none⟩ = some (.int .i64 e8) ∧ W'.cell? ⟨gs, 3, none⟩ = some (.bool t8) ∧ W'.cell? ⟨gs, 4, none⟩ = some (.slice q8 n8 n8) ∧ W'.cell? ⟨gs, 5, none⟩ = some (.int .i64 f8) ∧ W'.cell? ⟨gd, 0, none⟩ = some (.bool false) ∧ W'.cell? ⟨gd, 1, none⟩ = some (.slice q n c) ∧ W'.cell? ⟨gd, 2, none⟩ = some (.int .i64 e)) W6) := ⟨Xs.out.c0, Xs.out.c1, Xs.out.c2, Xs.out.c3, Xs.out.c4, Xs.out.c5, Xd.out.c0, Xd.out.c1, Xd.out.c2⟩
          refine wp_region_J (fun W' => W'.cell? ⟨gs, 0, none⟩ = some (.bool s8) ∧ W'.cell? ⟨gs, 1, none⟩ = some (.slice p8 m8 m8) ∧ W'.cell? ⟨gs, 2, none⟩ = some (.int .i64 e8) ∧ W'.cell? ⟨gs, 3, none⟩ = some (.bool t8) ∧ W'.cell? ⟨gs, 4, none⟩ = some (.slice q8 n8 n8) ∧ W'.cell? ⟨gs, 5, none⟩ = some (.int .i64 f8) ∧ W'.cell? ⟨gd, 0, none⟩ = some (.bool false) ∧ W'.cell? ⟨gd, 1, none⟩ = some (.slice q n c) ∧ W'.cell? ⟨gd, 2, none⟩ = some (.int .i64 e)) (by kernel_rfl) ?_
          rw [← hW6]
          clear hW6
          refine wpJ_take (i := 0) (v := ?v25x0) rfl (by kernel_rfl) (by kernel_rfl) (by kernel_rfl) (fun _ _ _ h => h) (by kernel_rfl) ?hy25x0 HJ.out ?rest25x0
          case hy25x0 => (intro W' hJ; obtain ⟨j0, j1, j2, j3, j4, j5, j6, j7, j8⟩ := hJ; go_simp; first | done | with_reducible rfl)
          refine wpJ_take (i := 1) (v := ?v26x1) rfl (by kernel_rfl) (by kernel_rfl) (by kernel_rfl) (fun _ _ _ h => h) (by kernel_rfl) ?hy26x1 HJ.out ?rest26x1
          case hy26x1 => (intro W' hJ; obtain ⟨j0, j1, j2, j3, j4, j5, j6, j7, j8⟩ := hJ; go_simp; first | done | with_reducible rfl)
          refine wpJ_take (i := 2) (v := ?v27x2) rfl (by kernel_rfl) (by kernel_rfl) (by kernel_rfl) (fun _ _ _ h => h) (by kernel_rfl) ?hy27x2 HJ.out ?rest27x2
          case hy27x2 => (intro W' hJ; obtain ⟨j0, j1, j2, j3, j4, j5, j6, j7, j8⟩ := hJ; go_simp; first | done | with_reducible rfl)
          refine wpJ_take (i := 4) (v := ?v28x4) rfl (by kernel_rfl) (by kernel_rfl) (by kernel_rfl) (fun _ _ _ h => h) (by kernel_rfl) ?hy28x4 HJ.out ?rest28x4
          case hy28x4 => (intro W' hJ; obtain ⟨j0, j1, j2, j3, j4, j5, j6, j7, j8⟩ := hJ; go_simp; first | done | with_reducible rfl)
          refine wpJ_take (i := 5) (v := ?v29x5) rfl (by kernel_rfl) (by kernel_rfl) (by kernel_rfl) (fun _ _ _ h => h) (by kernel_rfl) ?hy29x5 HJ.out ?rest29x5
          case hy29x5 => (intro W' hJ; obtain ⟨j0, j1, j2, j3, j4, j5, j6, j7, j8⟩ := hJ; go_simp; first | done | with_reducible rfl)
          go_simp
          refine wpJ_take (i := 6) (v := ?v30x6) rfl (by kernel_rfl) (by kernel_rfl) (by kernel_rfl) (fun _ _ _ h => h) (by kernel_rfl) ?hy30x6 HJ.out ?rest30x6
          case hy30x6 => (intro W' hJ; obtain ⟨j0, j1, j2, j3, j4, j5, j6, j7, j8⟩ := hJ; go_simp; first | done | with_reducible rfl)
          refine wpJ_one (i := 3) (by kernel_rfl) rfl (by kernel_rfl) (fun KJ hK => ?_)
          go_simp
          refine (at8 D8.out DD.out).mono ?_
          rintro e v9 ⟨rfl, hb9⟩
          rw [cmp_l HC1.out]
          replace Xd : Hid _ := Xd.out.below hb9
          replace Xs : Hid _ := Xs.out.below hb9
          replace D8 : Hid _ := D8.out.below hb9
          replace E8 : Hid _ := E8.out.below hb9
          replace DD : Hid _ := DD.out.below hb9
          replace hbw := Below.on hbw hb9
          clear hb9
          refine hK _ _ ⟨Xs.out.c0, Xs.out.c1, Xs.out.c2, Xs.out.c3, Xs.out.c4, Xs.out.c5, Xd.out.c0, Xd.out.c1, Xd.out.c2⟩ ?_
          clear hK
          refine wpJ_one (i := 7) (by kernel_rfl) rfl (by kernel_rfl) (fun KJ hK => ?_)
          go_simp
          refine (at8 DD.out E8.out).mono ?_
          rintro e v10 ⟨rfl, hb10⟩
          rw [cmp_e HC2.out]
          replace Xd : Hid _ := Xd.out.below hb10
          replace Xs : Hid _ := Xs.out.below hb10
          replace D8 : Hid _ := D8.out.below hb10
          replace E8 : Hid _ := E8.out.below hb10
          replace DD : Hid _ := DD.out.below hb10
          replace hbw := Below.on hbw hb10
          clear hb10
          clear HJ
          have HJ : Hid ((fun W' : World => W'.cell? ⟨gs, 0, none⟩ = some (.bool s8) ∧ W'.cell? ⟨gs, 1, none⟩ = some (.slice p8 m8 m8) ∧ W'.cell? ⟨gs, 2, none⟩ = some (.int .i64 e8) ∧ W'.cell? ⟨gs, 3, none⟩ = some (.bool t8) ∧ W'.cell? ⟨gs, 4, none⟩ = some (.slice q8 n8 n8) ∧ W'.cell? ⟨gs, 5, none⟩ = some (.int .i64 f8) ∧ W'.cell? ⟨gd, 0, none⟩ = some (.bool false) ∧ W'.cell? ⟨gd, 1, none⟩ = some (.slice q n c) ∧ W'.cell? ⟨gd, 2, none⟩ = some (.int .i64 e)) v10) := ⟨Xs.out.c0, Xs.out.c1, Xs.out.c2, Xs.out.c3, Xs.out.c4, Xs.out.c5, Xd.out.c0, Xd.out.c1, Xd.out.c2⟩
          refine hK _ _ HJ.out ?_
          clear hK
          refine wpJ_take (i := 8) (v := ?v31x8) rfl (by kernel_rfl) (by kernel_rfl) (by kernel_rfl) (fun _ _ _ h => h) (by kernel_rfl) ?hy31x8 HJ.out ?rest31x8
          case hy31x8 => (intro W' hJ; obtain ⟨j0, j1, j2, j3, j4, j5, j6, j7, j8⟩ := hJ; go_simp; first | done | with_reducible rfl)
          refine wpJ_take (i := 9) (v := ?v32x9) rfl (by kernel_rfl) (by kernel_rfl) (by kernel_rfl) (fun _ _ _ h => h) (by kernel_rfl) ?hy32x9 HJ.out ?rest32x9
          case hy32x9 => (intro W' hJ; obtain ⟨j0, j1, j2, j3, j4, j5, j6, j7, j8⟩ := hJ; go_simp; first | done | with_reducible rfl)
          refine wpJ_done (by kernel_rfl) ?_ _
          clear HJ
          go_wp2_with fail
          go_ret
          exact ⟨rfl, hbw⟩
        · have HC1 : Hid (dv z8 e8 = dv x e) := h1
          have HC2 : Hid (dv x e < dv y8 f8) := h2
          clear h1 h2
          obtain ⟨W6, hW6⟩ : ∃ W1, W1 = Ws.drew := ⟨_, rfl⟩
          have hbd : Below Ws.heap.size Ws W6 := by rw [hW6]; exact bDrew1 (Below.refl _ _)
          replace Xd : Hid _ := Xd.out.below hbd
          replace Xs : Hid _ := Xs.out.below hbd
          replace D8 : Hid _ := D8.out.below hbd
          replace E8 : Hid _ := E8.out.below hbd
          replace DD : Hid _ := DD.out.below hbd
          replace hbw := Below.on hbw hbd
          clear hbd
          have HJ : Hid ((fun W' : World => W'.cell? ⟨gs, 0, none⟩ = some (.bool s8) ∧ W'.cell? ⟨gs, 1, none⟩ = some (.slice p8 m8 m8) ∧ W'.cell? ⟨gs, 2, none⟩ = some (.int .i64 e8) ∧ W'.cell? ⟨gs, 3, none⟩ = some (.bool t8) ∧ W'.cell? ⟨gs, 4, none⟩ = some (.slice q8 n8 n8) ∧ W'.cell? ⟨gs, 5, none⟩ = some (.int .i64 f8) ∧ W'.cell? ⟨gd, 0, none⟩ = some (.bool false) ∧ W'.cell? ⟨gd, 1, none⟩ = some (.slice q n c) ∧ W'.cell? ⟨gd, 2, none⟩ = some (.int .i64 e)) W6) := ⟨Xs.out.c0, Xs.out.c1, Xs.out.c2, Xs.out.c3, Xs.out.c4, Xs.out.c5, Xd.out.c0, Xd.out.c1, Xd.out.c2⟩
          refine wp_region_J (fun W' => W'.cell? ⟨gs, 0, none⟩ = some (.bool s8) ∧ W'.cell? ⟨gs, 1, none⟩ = some (.slice p8 m8 m8) ∧ W'.cell? ⟨gs, 2, none⟩ = some (.int .i64 e8) ∧ W'.cell? ⟨gs, 3, none⟩ = some (.bool t8) ∧ W'.cell? ⟨gs, 4, none⟩ = some (.slice q8 n8 n8) ∧ W'.cell? ⟨gs, 5, none⟩ = some (.int .i64 f8) ∧ W'.cell? ⟨gd, 0, none⟩ = some (.bool false) ∧ W'.cell? ⟨gd, 1, none⟩ = some (.slice q n c) ∧ W'.cell? ⟨gd, 2, none⟩ = some (.int .i64 e)) (by kernel_rfl) ?_
          rw [← hW6]
          clear hW6
          refine wpJ_take (i := 0) (v := ?v33x0) rfl (by kernel_rfl) (by kernel_rfl) (by kernel_rfl) (fun _ _ _ h => h) (by kernel_rfl) ?hy33x0 HJ.out ?rest33x0
          case hy33x0 => (intro W' hJ; obtain ⟨j0, j1, j2, j3, j4, j5, j6, j7, j8⟩ := hJ; go_simp; first | done | with_reducible rfl)
          refine wpJ_take (i := 1) (v := ?v34x1) rfl (by kernel_rfl) (by kernel_rfl) (by kernel_rfl) (fun _ _ _ h => h) (by kernel_rfl) ?hy34x1 HJ.out ?rest34x1
          case hy34x1 => (intro W' hJ; obtain ⟨j0, j1, j2, j3, j4, j5, j6, j7, j8⟩ := hJ; go_simp; first | done | with_reducible rfl)
          refine wpJ_take (i := 2) (v := ?v35x2) rfl (by kernel_rfl) (by kernel_rfl) (by kernel_rfl) (fun _ _ _ h => h) (by kernel_rfl) ?hy35x2 HJ.out ?rest35x2
          case hy35x2 => (intro W' hJ; obtain ⟨j0, j1, j2, j3, j4, j5, j6, j7, j8⟩ := hJ; go_simp; first | done | with_reducible rfl)
          refine wpJ_take (i := 4) (v := ?v36x4) rfl (by kernel_rfl) (by kernel_rfl) (by kernel_rfl) (fun _ _ _ h => h) (by kernel_rfl) ?hy36x4 HJ.out ?rest36x4
          case hy36x4 => (intro W' hJ; obtain ⟨j0, j1, j2, j3, j4, j5, j6, j7, j8⟩ := hJ; go_simp; first | done | with_reducible rfl)
          refine wpJ_take (i := 5) (v := ?v37x5) rfl (by kernel_rfl) (by kernel_rfl) (by kernel_rfl) (fun _ _ _ h => h) (by kernel_rfl) ?hy37x5 HJ.out ?rest37x5
          case hy37x5 => (intro W' hJ; obtain ⟨j0, j1, j2, j3, j4, j5, j6, j7, j8⟩ := hJ; go_simp; first | done | with_reducible rfl)
          go_simp
          refine wpJ_take (i := 6) (v := ?v38x6) rfl (by kernel_rfl) (by kernel_rfl) (by kernel_rfl) (fun _ _ _ h => h) (by kernel_rfl) ?hy38x6 HJ.out ?rest38x6
          case hy38x6 => (intro W' hJ; obtain ⟨j0, j1, j2, j3, j4, j5, j6, j7, j8⟩ := hJ; go_simp; first | done | with_reducible rfl)
          refine wpJ_one (i := 3) (by kernel_rfl) rfl (by kernel_rfl) (fun KJ hK => ?_)
          go_simp
          refine (at8 D8.out DD.out).mono ?_
          rintro e v9 ⟨rfl, hb9⟩
          rw [cmp_e HC1.out]
          replace Xd : Hid _ := Xd.out.below hb9
          replace Xs : Hid _ := Xs.out.below hb9
          replace D8 : Hid _ := D8.out.below hb9
          replace E8 : Hid _ := E8.out.below hb9
          replace DD : Hid _ := DD.out.below hb9
          replace hbw := Below.on hbw hb9
          clear hb9
          refine hK _ _ ⟨Xs.out.c0, Xs.out.c1, Xs.out.c2, Xs.out.c3, Xs.out.c4, Xs.out.c5, Xd.out.c0, Xd.out.c1, Xd.out.c2⟩ ?_
          clear hK
          refine wpJ_one (i := 7) (by kernel_rfl) rfl (by kernel_rfl) (fun KJ hK => ?_)
          go_simp
          refine (at8 DD.out E8.out).mono ?_
          rintro e v10 ⟨rfl, hb10⟩
          rw [cmp_l HC2.out]
          replace Xd : Hid _ := Xd.out.below hb10
          replace Xs : Hid _ := Xs.out.below hb10
          replace D8 : Hid _ := D8.out.below hb10
          replace E8 : Hid _ := E8.out.below hb10
          replace DD : Hid _ := DD.out.below hb10
          replace hbw := Below.on hbw hb10
          clear hb10
          clear HJ
          have HJ : Hid ((fun W' : World => W'.cell? ⟨gs, 0, none⟩ = some (.bool s8) ∧ W'.cell? ⟨gs, 1, none⟩ = some (.slice p8 m8 m8) ∧ W'.cell? ⟨gs, 2, none⟩ = some (.int .i64 e8) ∧ W'.cell? ⟨gs, 3, none⟩ = some (.bool t8) ∧ W'.cell? ⟨gs, 4, none⟩ = some (.slice q8 n8 n8) ∧ W'.cell? ⟨gs, 5, none⟩ = some (.int .i64 f8) ∧ W'.cell? ⟨gd, 0, none⟩ = some (.bool false) ∧ W'.cell? ⟨gd, 1, none⟩ = some (.slice q n c) ∧ W'.cell? ⟨gd, 2, none⟩ = some (.int .i64 e)) v10) := ⟨Xs.out.c0, Xs.out.c1, Xs.out.c2, Xs.out.c3, Xs.out.c4, Xs.out.c5, Xd.out.c0, Xd.out.c1, Xd.out.c2⟩
          refine hK _ _ HJ.out ?_
          clear hK
          refine wpJ_take (i := 8) (v := ?v39x8) rfl (by kernel_rfl) (by kernel_rfl) (by kernel_rfl) (fun _ _ _ h => h) (by kernel_rfl) ?hy39x8 HJ.out ?rest39x8
          case hy39x8 => (intro W' hJ; obtain ⟨j0, j1, j2, j3, j4, j5, j6, j7, j8⟩ := hJ; go_simp; first | done | with_reducible rfl)
          refine wpJ_take (i := 9) (v := ?v40x9) rfl (by kernel_rfl) (by kernel_rfl) (by kernel_rfl) (fun _ _ _ h => h) (by kernel_rfl) ?hy40x9 HJ.out ?rest40x9
          case hy40x9 => (intro W' hJ; obtain ⟨j0, j1, j2, j3, j4, j5, j6, j7, j8⟩ := hJ; go_simp; first | done | with_reducible rfl)
          refine wpJ_done (by kernel_rfl) ?_ _
          clear HJ
          go_wp2_with fail
          go_ret
          exact ⟨rfl, hbw⟩
        · have HC1 : Hid (dv z8 e8 = dv x e) := h1
          have HC2 : Hid (dv x e = dv y8 f8) := h2
          clear h1 h2
          obtain ⟨W6, hW6⟩ : ∃ W1, W1 = Ws.drew := ⟨_, rfl⟩
          have hbd : Below Ws.heap.size Ws W6 := by rw [hW6]; exact bDrew1 (Below.refl _ _)
          replace Xd : Hid _ := Xd.out.below hbd
          replace Xs : Hid _ := Xs.out.below hbd
          replace D8 : Hid _ := D8.out.below hbd
          replace E8 : Hid _ := E8.out.below hbd
          replace DD : Hid _ := DD.out.below hbd
          replace hbw := Below.on hbw hbd
          clear hbd
          have HJ : Hid ((fun W' : World => W'.cell? ⟨gs, 0, none⟩ = some (.bool s8) ∧ W'.cell? ⟨gs, 1, none⟩ = some (.slice p8 m8 m8) ∧ W'.cell? ⟨gs, 2, none⟩ = some (.int .i64 e8) ∧ W'.cell? ⟨gs, 3, none⟩ = some (.bool t8) ∧ W'.cell? ⟨gs, 4, none⟩ = some (.slice q8 n8 n8) ∧ W'.cell? ⟨gs, 5, none⟩ = some (.int .i64 f8) ∧ W'.cell? ⟨gd, 0, none⟩ = some (.bool false) ∧ W'.cell? ⟨gd, 1, none⟩ = some (.slice q n c) ∧ W'.cell? ⟨gd, 2, none⟩ = some (.int .i64 e)) W6) := ⟨Xs.out.c0, Xs.out.c1, Xs.out.c2, Xs.out.c3, Xs.out.c4, Xs.out.c5, Xd.out.c0, Xd.out.c1, Xd.out.c2⟩
          refine wp_region_J (fun W' => W'.cell? ⟨gs, 0, none⟩ = some (.bool s8) ∧ W'.cell? ⟨gs, 1, none⟩ = some (.slice p8 m8 m8) ∧ W'.cell? ⟨gs, 2, none⟩ = some (.int .i64 e8) ∧ W'.cell? ⟨gs, 3, none⟩ = some (.bool t8) ∧ W'.cell? ⟨gs, 4, none⟩ = some (.slice q8 n8 n8) ∧ W'.cell? ⟨gs, 5, none⟩ = some (.int .i64 f8) ∧ W'.cell? ⟨gd, 0, none⟩ = some (.bool false) ∧ W'.cell? ⟨gd, 1, none⟩ = some (.slice q n c) ∧ W'.cell? ⟨gd, 2, none⟩ = some (.int .i64 e)) (by kernel_rfl) ?_
          rw [← hW6]
          clear hW6
          refine wpJ_take (i := 0) (v := ?v41x0) rfl (by kernel_rfl) (by kernel_rfl) (by kernel_rfl) (fun _ _ _ h => h) (by kernel_rfl) ?hy41x0 HJ.out ?rest41x0
          case hy41x0 => (intro W' hJ; obtain ⟨j0, j1, j2, j3, j4, j5, j6, j7, j8⟩ := hJ; go_simp; first | done | with_reducible rfl)
          refine wpJ_take (i := 1) (v := ?v42x1) rfl (by kernel_rfl) (by kernel_rfl) (by kernel_rfl) (fun _ _ _ h => h) (by kernel_rfl) ?hy42x1 HJ.out ?rest42x1
          case hy42x1 => (intro W' hJ; obtain ⟨j0, j1, j2, j3, j4, j5, j6, j7, j8⟩ := hJ; go_simp; first | done | with_reducible rfl)
          refine wpJ_take (i := 2) (v := ?v43x2) rfl (by kernel_rfl) (by kernel_rfl) (by kernel_rfl) (fun _ _ _ h => h) (by kernel_rfl) ?hy43x2 HJ.out ?rest43x2
          case hy43x2 => (intro W' hJ; obtain ⟨j0, j1, j2, j3, j4, j5, j6, j7, j8⟩ := hJ; go_simp; first | done | with_reducible rfl)
          refine wpJ_take (i := 4) (v := ?v44x4) rfl (by kernel_rfl) (by kernel_rfl) (by kernel_rfl) (fun _ _ _ h => h) (by kernel_rfl) ?hy44x4 HJ.out ?rest44x4
          case hy44x4 => (intro W' hJ; obtain ⟨j0, j1, j2, j3, j4, j5, j6, j7, j8⟩ := hJ; go_simp; first | done | with_reducible rfl)
          refine wpJ_take (i := 5) (v := ?v45x5) rfl (by kernel_rfl) (by kernel_rfl) (by kernel_rfl) (fun _ _ _ h => h) (by kernel_rfl) ?hy45x5 HJ.out ?rest45x5
          case hy45x5 => (intro W' hJ; obtain ⟨j0, j1, j2, j3, j4, j5, j6, j7, j8⟩ := hJ; go_simp; first | done | with_reducible rfl)
          go_simp
          refine wpJ_take (i := 6) (v := ?v46x6) rfl (by kernel_rfl) (by kernel_rfl) (by kernel_rfl) (fun _ _ _ h => h) (by kernel_rfl) ?hy46x6 HJ.out ?rest46x6
          case hy46x6 => (intro W' hJ; obtain ⟨j0, j1, j2, j3, j4, j5, j6, j7, j8⟩ := hJ; go_simp; first | done | with_reducible rfl)
          refine wpJ_one (i := 3) (by kernel_rfl) rfl (by kernel_rfl) (fun KJ hK => ?_)
          go_simp
          refine (at8 D8.out DD.out).mono ?_
          rintro e v9 ⟨rfl, hb9⟩
          rw [cmp_e HC1.out]
          replace Xd : Hid _ := Xd.out.below hb9
          replace Xs : Hid _ := Xs.out.below hb9
          replace D8 : Hid _ := D8.out.below hb9
          replace E8 : Hid _ := E8.out.below hb9
          replace DD : Hid _ := DD.out.below hb9
          replace hbw := Below.on hbw hb9
          clear hb9
          refine hK _ _ ⟨Xs.out.c0, Xs.out.c1, Xs.out.c2, Xs.out.c3, Xs.out.c4, Xs.out.c5, Xd.out.c0, Xd.out.c1, Xd.out.c2⟩ ?_
          clear hK
          refine wpJ_one (i := 7) (by kernel_rfl) rfl (by kernel_rfl) (fun KJ hK => ?_)
          go_simp
          refine (at8 DD.out E8.out).mono ?_
          rintro e v10 ⟨rfl, hb10⟩
          rw [cmp_e HC2.out]
          replace Xd : Hid _ := Xd.out.below hb10
          replace Xs : Hid _ := Xs.out.below hb10
          replace D8 : Hid _ := D8.out.below hb10
          replace E8 : Hid _ := E8.out.below hb10
          replace DD : Hid _ := DD.out.below hb10
          replace hbw := Below.on hbw hb10
          clear hb10
          clear HJ
          have HJ : Hid ((fun W' : World => W'.cell? ⟨gs, 0, none⟩ = some (.bool s8) ∧ W'.cell? ⟨gs, 1, none⟩ = some (.slice p8 m8 m8) ∧ W'.cell? ⟨gs, 2, none⟩ = some (.int .i64 e8) ∧ W'.cell? ⟨gs, 3, none⟩ = some (.bool t8) ∧ W'.cell? ⟨gs, 4, none⟩ = some (.slice q8 n8 n8) ∧ W'.cell? ⟨gs, 5, none⟩ = some (.int .i64 f8) ∧ W'.cell? ⟨gd, 0, none⟩ = some (.bool false) ∧ W'.cell? ⟨gd, 1, none⟩ = some (.slice q n c) ∧ W'.cell? ⟨gd, 2, none⟩ = some (.int .i64 e)) v10) := ⟨Xs.out.c0, Xs.out.c1, Xs.out.c2, Xs.out.c3, Xs.out.c4, Xs.out.c5, Xd.out.c0, Xd.out.c1, Xd.out.c2⟩
          refine hK _ _ HJ.out ?_
          clear hK
          refine wpJ_take (i := 8) (v := ?v47x8) rfl (by kernel_rfl) (by kernel_rfl) (by kernel_rfl) (fun _ _ _ h => h) (by kernel_rfl) ?hy47x8 HJ.out ?rest47x8
          case hy47x8 => (intro W' hJ; obtain ⟨j0, j1, j2, j3, j4, j5, j6, j7, j8⟩ := hJ; go_simp; first | done | with_reducible rfl)
          refine wpJ_take (i := 9) (v := ?v48x9) rfl (by kernel_rfl) (by kernel_rfl) (by kernel_rfl) (fun _ _ _ h => h) (by kernel_rfl) ?hy48x9 HJ.out ?rest48x9
          case hy48x9 => (intro W' hJ; obtain ⟨j0, j1, j2, j3, j4, j5, j6, j7, j8⟩ := hJ; go_simp; first | done | with_reducible rfl)
          refine wpJ_done (by kernel_rfl) ?_ _
          clear HJ
          go_wp2_with fail
          go_ret
          exact ⟨rfl, hbw⟩
    · obtain rfl : Z = I := by have := HR.out.2; omega
      clear hz hi
      refine (HLW.out.fin b _ HB.out.1).mono ?_
      rintro e v7 ⟨rfl, hb7⟩
      rw [HB.out.2.1, decide_eq_false (Nat.lt_irrefl _)]
      replace Xd : Hid _ := Xd.out.below hb7
      replace hbw := Below.on hbw hb7
      clear hb7
      obtain ⟨cd0, cd1, cd2, fd0, fd1, fd2⟩ := Xd.out
      have hned : gd < v7.heap.size := World.block_lt_of_cell? v7 _ cd0
      go_wp2_with fail
      clear cd0 cd1 cd2 fd0 fd1 fd2 hned
      have hbe := HBE.out
      subst hbe
      refine (beyond_0i HJN.out HLW.out HRF.out (HDN.out.below hbw) (TB.out.below hbw) HR.out.1).mono ?_
      rintro e v8 ⟨rfl, hb8⟩
      replace Xd : Hid _ := Xd.out.below hb8
      replace hbw := Below.on hbw hb8
      clear hb8
      go_wp2_with fail
      go_ret
      exact ⟨rfl, hbw⟩
  · obtain rfl : Z = 0 := by omega
    clear hz
    have hI0 : 0 < I := by have := HJN.out.jm.pm.fm.pos; omega
    refine (HLW.out.fin b _ HB.out.1).mono ?_
    rintro e v7 ⟨rfl, hb7⟩
    rw [HB.out.2.1, decide_eq_true hI0, decide_eq_true rfl]
    clear hI0
    replace Xd : Hid _ := Xd.out.below hb7
    replace hbw := Below.on hbw hb7
    clear hb7
    obtain ⟨cd0, cd1, cd2, fd0, fd1, fd2⟩ := Xd.out
    have hned : gd < v7.heap.size := World.block_lt_of_cell? v7 _ cd0
    go_wp2_with fail
    clear cd0 cd1 cd2 fd0 fd1 fd2 hned
    have hbe := HBE.out
    subst hbe
    refine (beyond_0z HJN.out HLW.out HRF.out (HDN.out.below hbw) (TB.out.below hbw) HR.out.1).mono ?_
    rintro e v8 ⟨rfl, hb8⟩
    replace Xd : Hid _ := Xd.out.below hb8
    replace hbw := Below.on hbw hb8
    clear hb8
    go_wp2_with fail
    go_ret
    exact ⟨rfl, hbw⟩
set_option maxRecDepth 20000 in
set_option maxHeartbeats 8000000 in
theorem roundInside_n1 {single : Bool} {f p m l : Int} {S I H sd : Nat} {Be : Int} (J : Jn f p m l S I H sd Be) (L : Lw single f S I) {P E G : Int} {Q : Nat} (R : Rf f S P E G I Q) {q : Option Addr} {n c : Nat} {w : World} {x e : Int} (h : DN w true q n c e x) (hT : Tab w) (hn : 0 < n) :
    Calls Tryd.prog 4 #[.bool single, DV true q n c e] w fun en w' => en = .returned (.bool true) ∧ Below w.heap.size w w' := by
  have HJN : Hid (Jn f p m l S I H sd Be) := J
  have HLW : Hid (Lw single f S I) := L
  have TB : Hid (Tab w) := hT
  have HDN : Hid (DN w true q n c e x) := h
  have HRF : Hid (Rf f S P E G I Q) := R
  have HN : Hid (0 < n) := hn
  obtain ⟨Z, hZI, hR, hw, hw2, hwz, hws, hwp⟩ := rnp_is J x e (by rcases h.fm with ⟨_, h2⟩ | ⟨_, h2, _⟩ <;> omega)
  obtain ⟨b, hb⟩ : ∃ b, b = rnp l sd Be S I x e := ⟨_, rfl⟩
  rw [← hb] at hw hw2 hwz hws hwp
  have HBV : Hid (rnp l sd Be S I x e = b) := hb.symm
  have hsx : true = decide (x < 0) := h.zn.sg
  have HSX : Hid (decide (x < 0) = true) := hsx.symm
  have HB : Hid (b < 2 * S ∧ b % S = Z ∧ decide (S ≤ b) = true ∧ b % 2 = Z % 2) := ⟨hw2, hwz, by rw [hws, ← hsx], hwp⟩
  have HBE : Hid (b = S + Z) := by
    show b = S + Z
    rw [hw]
    by_cases hx : x < 0
    · rw [if_pos hx]; first | done | (rw [decide_eq_true hx] at hsx; cases hsx)
    · rw [if_neg hx]; first | done | (rw [decide_eq_false hx] at hsx; cases hsx)
  have HR : Hid (RNz H l I (dv x.natAbs e) Z ∧ Z ≤ I) := ⟨hR, hZI⟩
  obtain ⟨ka, hka⟩ : ∃ ka, ka = (if S ≤ b then S else 0) := ⟨_, rfl⟩
  have a1 : bits BinOp.and IntKind.u64 (b : Int) (S : Int) = ((ka : Nat) : Int) := by rw [hka]; exact L.an b hw2
  have hS0 : 0 < S := by have := J.jm.pm.fm.lt; omega
  have a2 : ((ka : Int) == 0) = !true := by
    rw [hka, hsx, ← hws]
    by_cases hx : S ≤ b
    · rw [if_pos hx, decide_eq_true hx]; simp; omega
    · rw [if_neg hx, decide_eq_false hx]; simp
  have a3 : ((ka : Int) != 0) = true := by simp [bne, a2]
  clear J L R h hT hn hb hZI hR hw hw2 hwz hws hwp hsx hka hS0
  go_enter Tryd.func4, Tryd.ntmps4
  go_wp2_with fail
  obtain ⟨W0, hW0⟩ : ∃ W0, W0 = (w.alloc (.cells #[.bool true, .slice q n c, .int .i64 e] 26)) := ⟨_, rfl⟩
  have Xd : Hid (B3q W0 (w.heap.size) (.bool true) (.slice q n c) (.int .i64 e)) := by rw [hW0]; exact ⟨by go_simp, by go_simp, by go_simp, by go_simp, by go_simp, by go_simp⟩
  have hb0 : Below w.heap.size w W0 := by rw [hW0]; exact below1 w _
  rw [← hW0]
  clear hW0
  have hbw : Below w.heap.size w w := Below.refl _ _
  obtain ⟨gd, hgd⟩ : ∃ g, g = w.heap.size := ⟨_, rfl⟩
  have HGd : Hid (w.heap.size ≤ gd) := by rw [hgd]; show _ ≤ _; omega
  rw [← hgd] at Xd
  try rw [← hgd]
  clear hgd
  replace hbw := Below.on hbw hb0
  clear hb0
  refine (HLW.out.fmt _).mono ?_
  rintro e v1 ⟨rfl, hb1⟩
  replace Xd : Hid _ := Xd.out.below hb1
  replace hbw := Below.on hbw hb1
  clear hb1
  obtain ⟨cd0, cd1, cd2, fd0, fd1, fd2⟩ := Xd.out
  have hned : gd < v1.heap.size := World.block_lt_of_cell? v1 _ cd0
  go_wp2_with fail
  clear cd0 cd1 cd2 fd0 fd1 fd2 hned
  refine (awake8 _ (TB.out.below hbw)).mono ?_
  rintro e v2 ⟨rfl, hb2⟩
  replace Xd : Hid _ := Xd.out.below hb2
  replace hbw := Below.on hbw hb2
  clear hb2
  obtain ⟨cd0, cd1, cd2, fd0, fd1, fd2⟩ := Xd.out
  have hned : gd < v2.heap.size := World.block_lt_of_cell? v2 _ cd0
  go_wp2_with fail
  clear cd0 cd1 cd2 fd0 fd1 fd2 hned
  refine (rnearest HJN.out (HDN.out.below hbw) (TB.out.below hbw)).mono ?_
  rintro e v3 ⟨rfl, hb3⟩
  rw [HBV.out]
  replace Xd : Hid _ := Xd.out.below hb3
  replace hbw := Below.on hbw hb3
  clear hb3
  obtain ⟨cd0, cd1, cd2, fd0, fd1, fd2⟩ := Xd.out
  have hned : gd < v3.heap.size := World.block_lt_of_cell? v3 _ cd0
  go_wp2_with fail
  clear cd0 cd1 cd2 fd0 fd1 fd2 hned
  obtain ⟨xs, hX⟩ := (HDN.out.zn.below hbw).ex
  refine (docformd true hX.at_).mono ?_
  rintro e2 v4 ⟨rfl, hb4⟩
  rw [show formD true xs e = true from dn_formD (HDN.out.below hbw) hX]
  clear hX
  replace Xd : Hid _ := Xd.out.below hb4
  replace hbw := Below.on hbw hb4
  clear hb4
  obtain ⟨cd0, cd1, cd2, fd0, fd1, fd2⟩ := Xd.out
  have hned : gd < v4.heap.size := World.block_lt_of_cell? v4 _ cd0
  go_wp2_with fail
  clear cd0 cd1 cd2 fd0 fd1 fd2 hned
  refine (nought5 HN.out).mono ?_
  rintro e v5 ⟨rfl, hb5⟩
  replace Xd : Hid _ := Xd.out.below hb5
  replace hbw := Below.on hbw hb5
  clear hb5
  obtain ⟨cd0, cd1, cd2, fd0, fd1, fd2⟩ := Xd.out
  have hned : gd < v5.heap.size := World.block_lt_of_cell? v5 _ cd0
  go_wp2_with fail
  clear cd0 cd1 cd2 fd0 fd1 fd2 hned
  obtain ⟨W5, hW5⟩ : ∃ W1, W1 = v5.drew := ⟨_, rfl⟩
  have hbd : Below v5.heap.size v5 W5 := by rw [hW5]; exact bDrew1 (Below.refl _ _)
  replace Xd : Hid _ := Xd.out.below hbd
  replace hbw := Below.on hbw hbd
  clear hbd
  have HJ : Hid ((fun W' : World => W'.cell? ⟨gd, 0, none⟩ = some (.bool true)) W5) := Xd.out.c0
  refine wp_region_J (fun W' => W'.cell? ⟨gd, 0, none⟩ = some (.bool true)) (by kernel_rfl) ?_
  rw [← hW5]
  clear hW5
  refine wpJ_take (i := 0) (v := ?v49x0) rfl (by kernel_rfl) (by kernel_rfl) (by kernel_rfl) (fun _ _ _ h => h) (by kernel_rfl) ?hy49x0 HJ.out ?rest49x0
  case hy49x0 => (intro W' hJ; have j0 := hJ; go_simp; first | done | with_reducible rfl)
  refine wpJ_take (i := 1) (v := ?v50x1) rfl (by kernel_rfl) (by kernel_rfl) (by kernel_rfl) (fun _ _ _ h => h) (by kernel_rfl) ?hy50x1 HJ.out ?rest50x1
  case hy50x1 => (intro W' hJ; have j0 := hJ; go_simp; first | done | with_reducible rfl)
  refine wpJ_take (i := 2) (v := ?v51x2) rfl (by kernel_rfl) (by kernel_rfl) (by kernel_rfl) (fun _ _ _ h => h) (by kernel_rfl) ?hy51x2 HJ.out ?rest51x2
  case hy51x2 => (intro W' hJ; have j0 := hJ; go_simp; first | done | with_reducible rfl)
  refine wpJ_take (i := 3) (v := ?v52x3) rfl (by kernel_rfl) (by kernel_rfl) (by kernel_rfl) (fun _ _ _ h => h) (by kernel_rfl) ?hy52x3 HJ.out ?rest52x3
  case hy52x3 => (intro W' hJ; have j0 := hJ; go_simp; first | done | with_reducible rfl)
  refine wpJ_take (i := 4) (v := ?v53x4) rfl (by kernel_rfl) (by kernel_rfl) (by kernel_rfl) (fun _ _ _ h => h) (by kernel_rfl) ?hy53x4 HJ.out ?rest53x4
  case hy53x4 => (intro W' hJ; have j0 := hJ; go_simp; first | done | with_reducible rfl)
  refine wpJ_one (i := 5) (by kernel_rfl) rfl (by kernel_rfl) (fun KJ hK => ?_)
  go_simp
  refine (HLW.out.sg _).mono ?_
  rintro e v6 ⟨rfl, hb6⟩
  replace Xd : Hid _ := Xd.out.below hb6
  replace hbw := Below.on hbw hb6
  clear hb6
  clear HJ
  have HJ : Hid ((fun W' : World => W'.cell? ⟨gd, 0, none⟩ = some (.bool true)) v6) := Xd.out.c0
  refine hK _ _ HJ.out ?_
  clear hK
  refine wpJ_take (i := 6) (v := ?v54x6) rfl (by kernel_rfl) (by kernel_rfl) (by kernel_rfl) (fun _ _ _ h => h) (by kernel_rfl) ?hy54x6 HJ.out ?rest54x6
  case hy54x6 => (intro W' hJ; have j0 := hJ; go_simp; first | done | with_reducible rfl)
  refine wpJ_take (i := 7) (v := ?v55x7) rfl (by kernel_rfl) (by kernel_rfl) (by kernel_rfl) (fun _ _ _ h => h) (by kernel_rfl) ?hy55x7 HJ.out ?rest55x7
  case hy55x7 => (intro W' hJ; have j0 := hJ; go_simp; first | done | with_reducible rfl)
  refine wpJ_take (i := 8) (v := ?v56x8) rfl (by kernel_rfl) (by kernel_rfl) (by kernel_rfl) (fun _ _ _ h => h) (by kernel_rfl) ?hy56x8 HJ.out ?rest56x8
  case hy56x8 => (intro W' hJ; have j0 := hJ; go_simp; first | done | with_reducible rfl)
  refine wpJ_done (by kernel_rfl) ?_ _
  clear HJ
  obtain ⟨cd0, cd1, cd2, fd0, fd1, fd2⟩ := Xd.out
  have hned : gd < v6.heap.size := World.block_lt_of_cell? v6 _ cd0
  go_wp2_with fail
  clear cd0 cd1 cd2 fd0 fd1 fd2 hned
  rcases Nat.lt_or_ge 0 Z with hz | hz
  · rcases Nat.lt_or_ge Z I with hi | hi
    · have HZ9 : Hid (b % S ≠ 0 ∧ b % S < I ∧ Z ≠ 0 ∧ Z < I) := by rw [HB.out.2.1]; exact ⟨by omega, hi, by omega, hi⟩
      refine (HLW.out.fin b _ HB.out.1).mono ?_
      rintro e v7 ⟨rfl, hb7⟩
      rw [decide_eq_true HZ9.out.2.1, decide_eq_false HZ9.out.1]
      clear hz hi
      replace Xd : Hid _ := Xd.out.below hb7
      replace hbw := Below.on hbw hb7
      clear hb7
      obtain ⟨cd0, cd1, cd2, fd0, fd1, fd2⟩ := Xd.out
      have hned : gd < v7.heap.size := World.block_lt_of_cell? v7 _ cd0
      go_wp2_with fail
      clear cd0 cd1 cd2 fd0 fd1 fd2 hned
      refine (cell_ok HJN.out b HB.out.1 HZ9.out.1 HZ9.out.2.1 _ (TB.out.below hbw)).mono ?_
      rintro e2 v8 ⟨s8, p8, m8, z8, e8, t8, q8, n8, y8, f8, rfl, hd1, hd2, hv1, hv2, hb8⟩
      obtain ⟨pr, hpr⟩ : ∃ pr, pr = decide (b % 2 = 0) := ⟨_, rfl⟩
      rw [← hpr]
      have hin := HR.out.1.inside HZ9.out.2.2.1 HZ9.out.2.2.2
      rw [HSX.out] at hin
      rw [HB.out.2.1, HB.out.2.2.1] at hv1 hv2
      rw [← hv1, ← hv2, ← HB.out.2.2.2] at hin
      have HIN : Hid (dv z8 e8 ≤ dv x e ∧ dv x e ≤ dv y8 f8 ∧ (b % 2 = 1 → dv z8 e8 < dv x e ∧ dv x e < dv y8 f8)) := hin
      have HPR : Hid (pr = decide (b % 2 = 0)) := hpr
      have kp : (((b : Int).tmod 2) == 0) = pr := by rw [Int.tmod_eq_emod_of_nonneg (by omega), hpr]; by_cases a : b % 2 = 0 <;> simp [a] <;> omega
      have kp2 : (((b : Int) % 2) == 0) = pr := by rw [hpr]; by_cases a : b % 2 = 0 <;> simp [a] <;> omega
      clear hin hv1 hv2 hpr
      replace Xd : Hid _ := Xd.out.below hb8
      replace hbw := Below.on hbw hb8
      clear hb8
      have D8 : Hid (DN v8 s8 p8 m8 m8 e8 z8) := hd1.dn
      have E8 : Hid (DN v8 t8 q8 n8 n8 f8 y8) := hd2.dn
      clear hd1 hd2
      cases pr
      · obtain ⟨cd0, cd1, cd2, fd0, fd1, fd2⟩ := Xd.out
        have hned : gd < v8.heap.size := World.block_lt_of_cell? v8 _ cd0
        go_wp2_with fail
        clear cd0 cd1 cd2 fd0 fd1 fd2 hned
        have Xs0 : Hid (B6q (v8.alloc (.cells #[.bool s8, .slice p8 m8 m8, .int .i64 e8, .bool t8, .slice q8 n8 n8, .int .i64 f8] 28)) v8.heap.size (.bool s8) (.slice p8 m8 m8) (.int .i64 e8) (.bool t8) (.slice q8 n8 n8) (.int .i64 f8)) := B6q.new v8 _ _ _ _ _ _ _
        have hbn : Below v8.heap.size v8 (v8.alloc (.cells #[.bool s8, .slice p8 m8 m8, .int .i64 e8, .bool t8, .slice q8 n8 n8, .int .i64 f8] 28)) := below1 v8 _
        generalize v8.alloc (.cells #[.bool s8, .slice p8 m8 m8, .int .i64 e8, .bool t8, .slice q8 n8 n8, .int .i64 f8] 28) = Ws at *
        have HGs : Hid (w.heap.size ≤ v8.heap.size) := hbw.size
        replace Xd : Hid _ := Xd.out.below hbn
        replace D8 : Hid _ := D8.out.below hbn
        replace E8 : Hid _ := E8.out.below hbn
        replace hbw := Below.on hbw hbn
        clear hbn
        generalize v8.heap.size = gs at *
        have Xs := Xs0
        clear Xs0
        have DD : Hid (DN Ws true q n c e x) := HDN.out.below hbw
        have hst := HIN.out.2.2 (by have h9 : ¬ b % 2 = 0 := of_decide_eq_false HPR.out.symm; omega)
        have HC1 : Hid (dv z8 e8 < dv x e) := hst.1
        have HC2 : Hid (dv x e < dv y8 f8) := hst.2
        clear hst
        obtain ⟨W6, hW6⟩ : ∃ W1, W1 = Ws.drew := ⟨_, rfl⟩
        have hbd : Below Ws.heap.size Ws W6 := by rw [hW6]; exact bDrew1 (Below.refl _ _)
        replace Xd : Hid _ := Xd.out.below hbd
        replace Xs : Hid _ := Xs.out.below hbd
        replace D8 : Hid _ := D8.out.below hbd
        replace E8 : Hid _ := E8.out.below hbd
        replace DD : Hid _ := DD.out.below hbd
        replace hbw := Below.on hbw hbd
        clear hbd
        have HJ : Hid ((fun W' : World => W'.cell? ⟨gs, 0, none⟩ = some (.bool s8) ∧ W'.cell? ⟨gs, 1, none⟩ = some (.slice p8 m8 m8) ∧ W'.cell? ⟨gs, 2, none⟩ = some (.int .i64 e8) ∧ W'.cell? ⟨gs, 3, none⟩ = some (.bool t8) ∧ W'.cell? ⟨gs, 4, none⟩ = some (.slice q8 n8 n8) ∧ W'.cell? ⟨gs, 5, none⟩ = some (.int .i64 f8) ∧ W'.cell? ⟨gd, 0, none⟩ = some (.bool true) ∧ W'.cell? ⟨gd, 1, none⟩ = some (.slice q n c) ∧ W'.cell? ⟨gd, 2, none⟩ = some (.int .i64 e)) W6) := ⟨Xs.out.c0, Xs.out.c1, Xs.out.c2, Xs.out.c3, Xs.out.c4, Xs.out.c5, Xd.out.c0, Xd.out.c1, Xd.out.c2⟩
        refine wp_region_J (fun W' => W'.cell? ⟨gs, 0, none⟩ = some (.bool s8) ∧ W'.cell? ⟨gs, 1, none⟩ = some (.slice p8 m8 m8) ∧ W'.cell? ⟨gs, 2, none⟩ = some (.int .i64 e8) ∧ W'.cell? ⟨gs, 3, none⟩ = some (.bool t8) ∧ W'.cell? ⟨gs, 4, none⟩ = some (.slice q8 n8 n8) ∧ W'.cell? ⟨gs, 5, none⟩ = some (.int .i64 f8) ∧ W'.cell? ⟨gd, 0, none⟩ = some (.bool true) ∧ W'.cell? ⟨gd, 1, none⟩ = some (.slice q n c) ∧ W'.cell? ⟨gd, 2, none⟩ = some (.int .i64 e)) (by kernel_rfl) ?_
        rw [← hW6]
        clear hW6
        refine wpJ_take (i := 0) (v := ?v57x0) rfl (by kernel_rfl) (by kernel_rfl) (by kernel_rfl) (fun _ _ _ h => h) (by kernel_rfl) ?hy57x0 HJ.out ?rest57x0
        case hy57x0 => (intro W' hJ; obtain ⟨j0, j1, j2, j3, j4, j5, j6, j7, j8⟩ := hJ; go_simp; first | done | with_reducible rfl)
        refine wpJ_take (i := 1) (v := ?v58x1) rfl (by kernel_rfl) (by kernel_rfl) (by kernel_rfl) (fun _ _ _ h => h) (by kernel_rfl) ?hy58x1 HJ.out ?rest58x1
        case hy58x1 => (intro W' hJ; obtain ⟨j0, j1, j2, j3, j4, j5, j6, j7, j8⟩ := hJ; go_simp; first | done | with_reducible rfl)
        refine wpJ_take (i := 2) (v := ?v59x2) rfl (by kernel_rfl) (by kernel_rfl) (by kernel_rfl) (fun _ _ _ h => h) (by kernel_rfl) ?hy59x2 HJ.out ?rest59x2
        case hy59x2 => (intro W' hJ; obtain ⟨j0, j1, j2, j3, j4, j5, j6, j7, j8⟩ := hJ; go_simp; first | done | with_reducible rfl)
        refine wpJ_take (i := 4) (v := ?v60x4) rfl (by kernel_rfl) (by kernel_rfl) (by kernel_rfl) (fun _ _ _ h => h) (by kernel_rfl) ?hy60x4 HJ.out ?rest60x4
        case hy60x4 => (intro W' hJ; obtain ⟨j0, j1, j2, j3, j4, j5, j6, j7, j8⟩ := hJ; go_simp; first | done | with_reducible rfl)
        refine wpJ_take (i := 5) (v := ?v61x5) rfl (by kernel_rfl) (by kernel_rfl) (by kernel_rfl) (fun _ _ _ h => h) (by kernel_rfl) ?hy61x5 HJ.out ?rest61x5
        case hy61x5 => (intro W' hJ; obtain ⟨j0, j1, j2, j3, j4, j5, j6, j7, j8⟩ := hJ; go_simp; first | done | with_reducible rfl)
        go_simp
        refine wpJ_take (i := 6) (v := ?v62x6) rfl (by kernel_rfl) (by kernel_rfl) (by kernel_rfl) (fun _ _ _ h => h) (by kernel_rfl) ?hy62x6 HJ.out ?rest62x6
        case hy62x6 => (intro W' hJ; obtain ⟨j0, j1, j2, j3, j4, j5, j6, j7, j8⟩ := hJ; go_simp; first | done | with_reducible rfl)
        refine wpJ_one (i := 3) (by kernel_rfl) rfl (by kernel_rfl) (fun KJ hK => ?_)
        go_simp
        refine (at8 D8.out DD.out).mono ?_
        rintro e v9 ⟨rfl, hb9⟩
        rw [cmp_l HC1.out]
        replace Xd : Hid _ := Xd.out.below hb9
        replace Xs : Hid _ := Xs.out.below hb9
        replace D8 : Hid _ := D8.out.below hb9
        replace E8 : Hid _ := E8.out.below hb9
        replace DD : Hid _ := DD.out.below hb9
        replace hbw := Below.on hbw hb9
        clear hb9
        refine hK _ _ ⟨Xs.out.c0, Xs.out.c1, Xs.out.c2, Xs.out.c3, Xs.out.c4, Xs.out.c5, Xd.out.c0, Xd.out.c1, Xd.out.c2⟩ ?_
        clear hK
        refine wpJ_one (i := 7) (by kernel_rfl) rfl (by kernel_rfl) (fun KJ hK => ?_)
        go_simp
        refine (at8 DD.out E8.out).mono ?_
        rintro e v10 ⟨rfl, hb10⟩
        rw [cmp_l HC2.out]
        replace Xd : Hid _ := Xd.out.below hb10
        replace Xs : Hid _ := Xs.out.below hb10
        replace D8 : Hid _ := D8.out.below hb10
        replace E8 : Hid _ := E8.out.below hb10
        replace DD : Hid _ := DD.out.below hb10
        replace hbw := Below.on hbw hb10
        clear hb10
        clear HJ
        have HJ : Hid ((fun W' : World => W'.cell? ⟨gs, 0, none⟩ = some (.bool s8) ∧ W'.cell? ⟨gs, 1, none⟩ = some (.slice p8 m8 m8) ∧ W'.cell? ⟨gs, 2, none⟩ = some (.int .i64 e8) ∧ W'.cell? ⟨gs, 3, none⟩ = some (.bool t8) ∧ W'.cell? ⟨gs, 4, none⟩ = some (.slice q8 n8 n8) ∧ W'.cell? ⟨gs, 5, none⟩ = some (.int .i64 f8) ∧ W'.cell? ⟨gd, 0, none⟩ = some (.bool true) ∧ W'.cell? ⟨gd, 1, none⟩ = some (.slice q n c) ∧ W'.cell? ⟨gd, 2, none⟩ = some (.int .i64 e)) v10) := ⟨Xs.out.c0, Xs.out.c1, Xs.out.c2, Xs.out.c3, Xs.out.c4, Xs.out.c5, Xd.out.c0, Xd.out.c1, Xd.out.c2⟩
        refine hK _ _ HJ.out ?_
        clear hK
        refine wpJ_take (i := 8) (v := ?v63x8) rfl (by kernel_rfl) (by kernel_rfl) (by kernel_rfl) (fun _ _ _ h => h) (by kernel_rfl) ?hy63x8 HJ.out ?rest63x8
        case hy63x8 => (intro W' hJ; obtain ⟨j0, j1, j2, j3, j4, j5, j6, j7, j8⟩ := hJ; go_simp; first | done | with_reducible rfl)
        refine wpJ_take (i := 9) (v := ?v64x9) rfl (by kernel_rfl) (by kernel_rfl) (by kernel_rfl) (fun _ _ _ h => h) (by kernel_rfl) ?hy64x9 HJ.out ?rest64x9
        case hy64x9 => (intro W' hJ; obtain ⟨j0, j1, j2, j3, j4, j5, j6, j7, j8⟩ := hJ; go_simp; first | done | with_reducible rfl)
        refine wpJ_done (by kernel_rfl) ?_ _
        clear HJ
        go_wp2_with fail
        go_ret
        exact ⟨rfl, hbw⟩
      · obtain ⟨cd0, cd1, cd2, fd0, fd1, fd2⟩ := Xd.out
        have hned : gd < v8.heap.size := World.block_lt_of_cell? v8 _ cd0
        go_wp2_with fail
        clear cd0 cd1 cd2 fd0 fd1 fd2 hned
        have Xs0 : Hid (B6q (v8.alloc (.cells #[.bool s8, .slice p8 m8 m8, .int .i64 e8, .bool t8, .slice q8 n8 n8, .int .i64 f8] 28)) v8.heap.size (.bool s8) (.slice p8 m8 m8) (.int .i64 e8) (.bool t8) (.slice q8 n8 n8) (.int .i64 f8)) := B6q.new v8 _ _ _ _ _ _ _
        have hbn : Below v8.heap.size v8 (v8.alloc (.cells #[.bool s8, .slice p8 m8 m8, .int .i64 e8, .bool t8, .slice q8 n8 n8, .int .i64 f8] 28)) := below1 v8 _
        generalize v8.alloc (.cells #[.bool s8, .slice p8 m8 m8, .int .i64 e8, .bool t8, .slice q8 n8 n8, .int .i64 f8] 28) = Ws at *
        have HGs : Hid (w.heap.size ≤ v8.heap.size) := hbw.size
        replace Xd : Hid _ := Xd.out.below hbn
        replace D8 : Hid _ := D8.out.below hbn
        replace E8 : Hid _ := E8.out.below hbn
        replace hbw := Below.on hbw hbn
        clear hbn
        generalize v8.heap.size = gs at *
        have Xs := Xs0
        clear Xs0
        have DD : Hid (DN Ws true q n c e x) := HDN.out.below hbw
        rcases Int.lt_or_eq_of_le HIN.out.1 with h1 | h1 <;> rcases Int.lt_or_eq_of_le HIN.out.2.1 with h2 | h2
        · have HC1 : Hid (dv z8 e8 < dv x e) := h1
          have HC2 : Hid (dv x e < dv y8 f8) := h2
          clear h1 h2
          obtain ⟨W6, hW6⟩ : ∃ W1, W1 = Ws.drew := ⟨_, rfl⟩
          have hbd : Below Ws.heap.size Ws W6 := by rw [hW6]; exact bDrew1 (Below.refl _ _)
          replace Xd : Hid _ := Xd.out.below hbd
          replace Xs : Hid _ := Xs.out.below hbd
          replace D8 : Hid _ := D8.out.below hbd
          replace E8 : Hid _ := E8.out.below hbd
          replace DD : Hid _ := DD.out.below hbd
          replace hbw := Below.on hbw hbd
          clear hbd
          have HJ : Hid ((fun W' : World => W'.cell? ⟨gs, 0, none⟩ = some (.bool s8) ∧ W'.cell? ⟨gs, 1, none⟩ = some (.slice p8 m8 m8) ∧ W'.cell? ⟨gs, 2, none⟩ = some (.int .i64 e8) ∧ W'.cell? ⟨gs, 3, none⟩ = some (.bool t8) ∧ W'.cell? ⟨gs, 4, none⟩ = some (.slice q8 n8 n8) ∧ W'.cell? ⟨gs, 5, none⟩ = some (.int .i64 f8) ∧ W'.cell? ⟨gd, 0, none⟩ = some (.bool true) ∧ W'.cell? ⟨gd, 1, none⟩ = some (.slice q n c) ∧ W'.cell? ⟨gd, 2, none⟩ = some (.int .i64 e)) W6) := ⟨Xs.out.c0, Xs.out.c1, Xs.out.c2, Xs.out.c3, Xs.out.c4, Xs.out.c5, Xd.out.c0, Xd.out.c1, Xd.out.c2⟩
          refine wp_region_J (fun W' => W'.cell? ⟨gs, 0, none⟩ = some (.bool s8) ∧ W'.cell? ⟨gs, 1, none⟩ = some (.slice p8 m8 m8) ∧ W'.cell? ⟨gs, 2, none⟩ = some (.int .i64 e8) ∧ W'.cell? ⟨gs, 3, none⟩ = some (.bool t8) ∧ W'.cell? ⟨gs, 4, none⟩ = some (.slice q8 n8 n8) ∧ W'.cell? ⟨gs, 5, none⟩ = some (.int .i64 f8) ∧ W'.cell? ⟨gd, 0, none⟩ = some (.bool true) ∧ W'.cell? ⟨gd, 1, none⟩ = some (.slice q n c) ∧ W'.cell? ⟨gd, 2, none⟩ = some (.int .i64 e)) (by kernel_rfl) ?_
          rw [← hW6]
          clear hW6
          refine wpJ_take (i := 0) (v := ?v65x0) rfl (by kernel_rfl) (by kernel_rfl) (by kernel_rfl) (fun _ _ _ h => h) (by kernel_rfl) ?hy65x0 HJ.out ?rest65x0
          case hy65x0 => (intro W' hJ; obtain ⟨j0, j1, j2, j3, j4, j5, j6, j7, j8⟩ := hJ; go_simp; first | done | with_reducible rfl)
          refine wpJ_take (i := 1) (v := ?v66x1) rfl (by kernel_rfl) (by kernel_rfl) (by kernel_rfl) (fun _ _ _ h => h) (by kernel_rfl) ?hy66x1 HJ.out ?rest66x1
          case hy66x1 => (intro W' hJ; obtain ⟨j0, j1, j2, j3, j4, j5, j6, j7, j8⟩ := hJ; go_simp; first | done | with_reducible rfl)
          refine wpJ_take (i := 2) (v := ?v67x2) rfl (by kernel_rfl) (by kernel_rfl) (by kernel_rfl) (fun _ _ _ h => h) (by kernel_rfl) ?hy67x2 HJ.out ?rest67x2
          case hy67x2 => (intro W' hJ; obtain ⟨j0, j1, j2, j3, j4, j5, j6, j7, j8⟩ := hJ; go_simp; first | done | with_reducible rfl)
          refine wpJ_take (i := 4) (v := ?v68x4) rfl (by kernel_rfl) (by kernel_rfl) (by kernel_rfl) (fun _ _ _ h => h) (by kernel_rfl) ?hy68x4 HJ.out ?rest68x4
          case hy68x4 => (intro W' hJ; obtain ⟨j0, j1, j2, j3, j4, j5, j6, j7, j8⟩ := hJ; go_simp; first | done | with_reducible rfl)
          refine wpJ_take (i := 5) (v := ?v69x5) rfl (by kernel_rfl) (by kernel_rfl) (by kernel_rfl) (fun _ _ _ h => h) (by kernel_rfl) ?hy69x5 HJ.out ?rest69x5
          case hy69x5 => (intro W' hJ; obtain ⟨j0, j1, j2, j3, j4, j5, j6, j7, j8⟩ := hJ; go_simp; first | done | with_reducible rfl)
          go_simp
          refine wpJ_take (i := 6) (v := ?v70x6) rfl (by kernel_rfl) (by kernel_rfl) (by kernel_rfl) (fun _ _ _ h => h) (by kernel_rfl) ?hy70x6 HJ.out ?rest70x6
          case hy70x6 => (intro W' hJ; obtain ⟨j0, j1, j2, j3, j4, j5, j6, j7, j8⟩ := hJ; go_simp; first | done | with_reducible rfl)
          refine wpJ_one (i := 3) (by kernel_rfl) rfl (by kernel_rfl) (fun KJ hK => ?_)
          go_simp
          refine (at8 D8.out DD.out).mono ?_
          rintro e v9 ⟨rfl, hb9⟩
          rw [cmp_l HC1.out]
          replace Xd : Hid _ := Xd.out.below hb9
          replace Xs : Hid _ := Xs.out.below hb9
          replace D8 : Hid _ := D8.out.below hb9
          replace E8 : Hid _ := E8.out.below hb9
          replace DD : Hid _ := DD.out.below hb9
          replace hbw := Below.on hbw hb9
          clear hb9
          refine hK _ _ ⟨Xs.out.c0, Xs.out.c1, Xs.out.c2, Xs.out.c3, Xs.out.c4, Xs.out.c5, Xd.out.c0, Xd.out.c1, Xd.out.c2⟩ ?_
          clear hK
          refine wpJ_one (i := 7) (by kernel_rfl) rfl (by kernel_rfl) (fun KJ hK => ?_)
          go_simp
          refine (at8 DD.out E8.out).mono ?_
          rintro e v10 ⟨rfl, hb10⟩
          rw [cmp_l HC2.out]
          replace Xd : Hid _ := Xd.out.below hb10
          replace Xs : Hid _ := Xs.out.below hb10
          replace D8 : Hid _ := D8.out.below hb10
          replace E8 : Hid _ := E8.out.below hb10
          replace DD : Hid _ := DD.out.below hb10
          replace hbw := Below.on hbw hb10
          clear hb10
          clear HJ
          have HJ : Hid ((fun W' : World => W'.cell? ⟨gs, 0, none⟩ = some (.bool s8) ∧ W'.cell? ⟨gs, 1, none⟩ = some (.slice p8 m8 m8) ∧ W'.cell? ⟨gs, 2, none⟩ = some (.int .i64 e8) ∧ W'.cell? ⟨gs, 3, none⟩ = some (.bool t8) ∧ W'.cell? ⟨gs, 4, none⟩ = some (.slice q8 n8 n8) ∧ W'.cell? ⟨gs, 5, none⟩ = some (.int .i64 f8) ∧ W'.cell? ⟨gd, 0, none⟩ = some (.bool true) ∧ W'.cell? ⟨gd, 1, none⟩ = some (.slice q n c) ∧ W'.cell? ⟨gd, 2, none⟩ = some (.int .i64 e)) v10) := ⟨Xs.out.c0, Xs.out.c1, Xs.out.c2, Xs.out.c3, Xs.out.c4, Xs.out.c5, Xd.out.c0, Xd.out.c1, Xd.out.c2⟩
          refine hK _ _ HJ.out ?_
          clear hK
          refine wpJ_take (i := 8) (v := ?v71x8) rfl (by kernel_rfl) (by kernel_rfl) (by kernel_rfl) (fun _ _ _ h => h) (by kernel_rfl) ?hy71x8 HJ.out ?rest71x8
          case hy71x8 => (intro W' hJ; obtain ⟨j0, j1, j2, j3, j4, j5, j6, j7, j8⟩ := hJ; go_simp; first | done | with_reducible rfl)
          refine wpJ_take (i := 9) (v := ?v72x9) rfl (by kernel_rfl) (by kernel_rfl) (by kernel_rfl) (fun _ _ _ h => h) (by kernel_rfl) ?hy72x9 HJ.out ?rest72x9
          case hy72x9 => (intro W' hJ; obtain ⟨j0, j1, j2, j3, j4, j5, j6, j7, j8⟩ := hJ; go_simp; first | done | with_reducible rfl)
          refine wpJ_done (by kernel_rfl) ?_ _
          clear HJ
          go_wp2_with fail
          go_ret
          exact ⟨rfl, hbw⟩
        · have HC1 : Hid (dv z8 e8 < dv x e) := h1
          have HC2 : Hid (dv x e = dv y8 f8) := h2
          clear h1 h2
          obtain ⟨W6, hW6⟩ : ∃ W1, W1 = Ws.drew := ⟨_, rfl⟩
          have hbd : Below Ws.heap.size Ws W6 := by rw [hW6]; exact bDrew1 (Below.refl _ _)
          replace Xd : Hid _ := Xd.out.below hbd
          replace Xs : Hid _ := Xs.out.below hbd
          replace D8 : Hid _ := D8.out.below hbd
          replace E8 : Hid _ := E8.out.below hbd
          replace DD : Hid _ := DD.out.below hbd
          replace hbw := Below.on hbw hbd
          clear hbd
          have HJ : Hid ((fun W' : World => W'.cell? ⟨gs, 0, none⟩ = some (.bool s8) ∧ W'.cell? ⟨gs, 1, none⟩ = some (.slice p8 m8 m8) ∧ W'.cell? ⟨gs, 2, none⟩ = some (.int .i64 e8) ∧ W'.cell? ⟨gs, 3, none⟩ = some (.bool t8) ∧ W'.cell? ⟨gs, 4, none⟩ = some (.slice q8 n8 n8) ∧ W'.cell? ⟨gs, 5, none⟩ = some (.int .i64 f8) ∧ W'.cell? ⟨gd, 0, none⟩ = some (.bool true) ∧ W'.cell? ⟨gd, 1, none⟩ = some (.slice q n c) ∧ W'.cell? ⟨gd, 2, none⟩ = some (.int .i64 e)) W6) := ⟨Xs.out.c0, Xs.out.c1, Xs.out.c2, Xs.out.c3, Xs.out.c4, Xs.out.c5, Xd.out.c0, Xd.out.c1, Xd.out.c2⟩
          refine wp_region_J (fun W' => W'.cell? ⟨gs, 0, none⟩ = some (.bool s8) ∧ W'.cell? ⟨gs, 1, none⟩ = some (.slice p8 m8 m8) ∧ W'.cell? ⟨gs, 2, none⟩ = some (.int .i64 e8) ∧ W'.cell? ⟨gs, 3, none⟩ = some (.bool t8) ∧ W'.cell? ⟨gs, 4, none⟩ = some (.slice q8 n8 n8) ∧ W'.cell? ⟨gs, 5, none⟩ = some (.int .i64 f8) ∧ W'.cell? ⟨gd, 0, none⟩ = some (.bool true) ∧ W'.cell? ⟨gd, 1, none⟩ = some (.slice q n c) ∧ W'.cell? ⟨gd, 2, none⟩ = some (.int .i64 e)) (by kernel_rfl) ?_
          rw [← hW6]
          clear hW6
          refine wpJ_take (i := 0) (v := ?v73x0) rfl (by kernel_rfl) (by kernel_rfl) (by kernel_rfl) (fun _ _ _ h => h) (by kernel_rfl) ?hy73x0 HJ.out ?rest73x0
          case hy73x0 => (intro W' hJ; obtain ⟨j0, j1, j2, j3, j4, j5, j6, j7, j8⟩ := hJ; go_simp; first | done | with_reducible rfl)
          refine wpJ_take (i := 1) (v := ?v74x1) rfl (by kernel_rfl) (by kernel_rfl) (by kernel_rfl) (fun _ _ _ h => h) (by kernel_rfl) ?hy74x1 HJ.out ?rest74x1
          case hy74x1 => (intro W' hJ; obtain ⟨j0, j1, j2, j3, j4, j5, j6, j7, j8⟩ := hJ; go_simp; first | done | with_reducible rfl)
          refine wpJ_take (i := 2) (v := ?v75x2) rfl (by kernel_rfl) (by kernel_rfl) (by kernel_rfl) (fun _ _ _ h => h) (by kernel_rfl) ?hy75x2 HJ.out ?rest75x2
          case hy75x2 => (intro W' hJ; obtain ⟨j0, j1, j2, j3, j4, j5, j6, j7, j8⟩ := hJ; go_simp; first | done | with_reducible rfl)
          refine wpJ_take (i := 4) (v := ?v76x4) rfl (by kernel_rfl) (by kernel_rfl) (by kernel_rfl) (fun _ _ _ h => h) (by kernel_rfl) ?hy76x4 HJ.out ?rest76x4
          case hy76x4 => (intro W' hJ; obtain ⟨j0, j1, j2, j3, j4, j5, j6, j7, j8⟩ := hJ; go_simp; first | done | with_reducible rfl)
          refine wpJ_take (i := 5) (v := ?v77x5) rfl (by kernel_rfl) (by kernel_rfl) (by kernel_rfl) (fun _ _ _ h => h) (by kernel_rfl) ?hy77x5 HJ.out ?rest77x5
          case hy77x5 => (intro W' hJ; obtain ⟨j0, j1, j2, j3, j4, j5, j6, j7, j8⟩ := hJ; go_simp; first | done | with_reducible rfl)
          go_simp
          refine wpJ_take (i := 6) (v := ?v78x6) rfl (by kernel_rfl) (by kernel_rfl) (by kernel_rfl) (fun _ _ _ h => h) (by kernel_rfl) ?hy78x6 HJ.out ?rest78x6
          case hy78x6 => (intro W' hJ; obtain ⟨j0, j1, j2, j3, j4, j5, j6, j7, j8⟩ := hJ; go_simp; first | done | with_reducible rfl)
          refine wpJ_one (i := 3) (by kernel_rfl) rfl (by kernel_rfl) (fun KJ hK => ?_)
          go_simp
          refine (at8 D8.out DD.out).mono ?_
          rintro e v9 ⟨rfl, hb9⟩
          rw [cmp_l HC1.out]
          replace Xd : Hid _ := Xd.out.below hb9
          replace Xs : Hid _ := Xs.out.below hb9
          replace D8 : Hid _ := D8.out.below hb9
          replace E8 : Hid _ := E8.out.below hb9
          replace DD : Hid _ := DD.out.below hb9
          replace hbw := Below.on hbw hb9
          clear hb9
          refine hK _ _ ⟨Xs.out.c0, Xs.out.c1, Xs.out.c2, Xs.out.c3, Xs.out.c4, Xs.out.c5, Xd.out.c0, Xd.out.c1, Xd.out.c2⟩ ?_
          clear hK
          refine wpJ_one (i := 7) (by kernel_rfl) rfl (by kernel_rfl) (fun KJ hK => ?_)
          go_simp
          refine (at8 DD.out E8.out).mono ?_
          rintro e v10 ⟨rfl, hb10⟩
          rw [cmp_e HC2.out]
          replace Xd : Hid _ := Xd.out.below hb10
          replace Xs : Hid _ := Xs.out.below hb10
          replace D8 : Hid _ := D8.out.below hb10
          replace E8 : Hid _ := E8.out.below hb10
          replace DD : Hid _ := DD.out.below hb10
          replace hbw := Below.on hbw hb10
          clear hb10
          clear HJ
          have HJ : Hid ((fun W' : World => W'.cell? ⟨gs, 0, none⟩ = some (.bool s8) ∧ W'.cell? ⟨gs, 1, none⟩ = some (.slice p8 m8 m8) ∧ W'.cell? ⟨gs, 2, none⟩ = some (.int .i64 e8) ∧ W'.cell? ⟨gs, 3, none⟩ = some (.bool t8) ∧ W'.cell? ⟨gs, 4, none⟩ = some (.slice q8 n8 n8) ∧ W'.cell? ⟨gs, 5, none⟩ = some (.int .i64 f8) ∧ W'.cell? ⟨gd, 0, none⟩ = some (.bool true) ∧ W'.cell? ⟨gd, 1, none⟩ = some (.slice q n c) ∧ W'.cell? ⟨gd, 2, none⟩ = some (.int .i64 e)) v10) := ⟨Xs.out.c0, Xs.out.c1, Xs.out.c2, Xs.out.c3, Xs.out.c4, Xs.out.c5, Xd.out.c0, Xd.out.c1, Xd.out.c2⟩
          refine hK _ _ HJ.out ?_
          clear hK
          refine wpJ_take (i := 8) (v := ?v79x8) rfl (by kernel_rfl) (by kernel_rfl) (by kernel_rfl) (fun _ _ _ h => h) (by kernel_rfl) ?hy79x8 HJ.out ?rest79x8
          case hy79x8 => (intro W' hJ; obtain ⟨j0, j1, j2, j3, j4, j5, j6, j7, j8⟩ := hJ; go_simp; first | done | with_reducible rfl)
          refine wpJ_take (i := 9) (v := ?v80x9) rfl (by kernel_rfl) (by kernel_rfl) (by kernel_rfl) (fun _ _ _ h => h) (by kernel_rfl) ?hy80x9 HJ.out ?rest80x9
          case hy80x9 => (intro W' hJ; obtain ⟨j0, j1, j2, j3, j4, j5, j6, j7, j8⟩ := hJ; go_simp; first | done | with_reducible rfl)
          refine wpJ_done (by kernel_rfl) ?_ _
          clear HJ
          go_wp2_with fail
          go_ret
          exact ⟨rfl, hbw⟩
        · have HC1 : Hid (dv z8 e8 = dv x e) := h1
          have HC2 : Hid (dv x e < dv y8 f8) := h2
          clear h1 h2
          obtain ⟨W6, hW6⟩ : ∃ W1, W1 = Ws.drew := ⟨_, rfl⟩
          have hbd : Below Ws.heap.size Ws W6 := by rw [hW6]; exact bDrew1 (Below.refl _ _)
          replace Xd : Hid _ := Xd.out.below hbd
          replace Xs : Hid _ := Xs.out.below hbd
          replace D8 : Hid _ := D8.out.below hbd
          replace E8 : Hid _ := E8.out.below hbd
          replace DD : Hid _ := DD.out.below hbd
          replace hbw := Below.on hbw hbd
          clear hbd
          have HJ : Hid ((fun W' : World => W'.cell? ⟨gs, 0, none⟩ = some (.bool s8) ∧ W'.cell? ⟨gs, 1, none⟩ = some (.slice p8 m8 m8) ∧ W'.cell? ⟨gs, 2, none⟩ = some (.int .i64 e8) ∧ W'.cell? ⟨gs, 3, none⟩ = some (.bool t8) ∧ W'.cell? ⟨gs, 4, none⟩ = some (.slice q8 n8 n8) ∧ W'.cell? ⟨gs, 5, none⟩ = some (.int .i64 f8) ∧ W'.cell? ⟨gd, 0, none⟩ = some (.bool true) ∧ W'.cell? ⟨gd, 1, none⟩ = some (.slice q n c) ∧ W'.cell? ⟨gd, 2, none⟩ = some (.int .i64 e)) W6) := ⟨Xs.out.c0, Xs.out.c1, Xs.out.c2, Xs.out.c3, Xs.out.c4, Xs.out.c5, Xd.out.c0, Xd.out.c1, Xd.out.c2⟩
          refine wp_region_J (fun W' => W'.cell? ⟨gs, 0, none⟩ = some (.bool s8) ∧ W'.cell? ⟨gs, 1, none⟩ = some (.slice p8 m8 m8) ∧ W'.cell? ⟨gs, 2, none⟩ = some (.int .i64 e8) ∧ W'.cell? ⟨gs, 3, none⟩ = some (.bool t8) ∧ W'.cell? ⟨gs, 4, none⟩ = some (.slice q8 n8 n8) ∧ W'.cell? ⟨gs, 5, none⟩ = some (.int .i64 f8) ∧ W'.cell? ⟨gd, 0, none⟩ = some (.bool true) ∧ W'.cell? ⟨gd, 1, none⟩ = some (.slice q n c) ∧ W'.cell? ⟨gd, 2, none⟩ = some (.int .i64 e)) (by kernel_rfl) ?_
          rw [← hW6]
          clear hW6
          refine wpJ_take (i := 0) (v := ?v81x0) rfl (by kernel_rfl) (by kernel_rfl) (by kernel_rfl) (fun _ _ _ h => h) (by kernel_rfl) ?hy81x0 HJ.out ?rest81x0
          case hy81x0 => (intro W' hJ; obtain ⟨j0, j1, j2, j3, j4, j5, j6, j7, j8⟩ := hJ; go_simp; first | done | with_reducible rfl)
          refine wpJ_take (i := 1) (v := ?v82x1) rfl (by kernel_rfl) (by kernel_rfl) (by kernel_rfl) (fun _ _ _ h => h) (by kernel_rfl) ?hy82x1 HJ.out ?rest82x1
          case hy82x1 => (intro W' hJ; obtain ⟨j0, j1, j2, j3, j4, j5, j6, j7, j8⟩ := hJ; go_simp; first | done | with_reducible rfl)
          refine wpJ_take (i := 2) (v := ?v83x2) rfl (by kernel_rfl) (by kernel_rfl) (by kernel_rfl) (fun _ _ _ h => h) (by kernel_rfl) ?hy83x2 HJ.out ?rest83x2
          case hy83x2 => (intro W' hJ; obtain ⟨j0, j1, j2, j3, j4, j5, j6, j7, j8⟩ := hJ; go_simp; first | done | with_reducible rfl)
          refine wpJ_take (i := 4) (v := ?v84x4) rfl (by kernel_rfl) (by kernel_rfl) (by kernel_rfl) (fun _ _ _ h => h) (by kernel_rfl) ?hy84x4 HJ.out ?rest84x4
          case hy84x4 => (intro W' hJ; obtain ⟨j0, j1, j2, j3, j4, j5, j6, j7, j8⟩ := hJ; go_simp; first | done | with_reducible rfl)
          refine wpJ_take (i := 5) (v := ?v85x5) rfl (by kernel_rfl) (by kernel_rfl) (by kernel_rfl) (fun _ _ _ h => h) (by kernel_rfl) ?hy85x5 HJ.out ?rest85x5
          case hy85x5 => (intro W' hJ; obtain ⟨j0, j1, j2, j3, j4, j5, j6, j7, j8⟩ := hJ; go_simp; first | done | with_reducible rfl)
          go_simp
          refine wpJ_take (i := 6) (v := ?v86x6) rfl (by kernel_rfl) (by kernel_rfl) (by kernel_rfl) (fun _ _ _ h => h) (by kernel_rfl) ?hy86x6 HJ.out ?rest86x6
          case hy86x6 => (intro W' hJ; obtain ⟨j0, j1, j2, j3, j4, j5, j6, j7, j8⟩ := hJ; go_simp; first | done | with_reducible rfl)
          refine wpJ_one (i := 3) (by kernel_rfl) rfl (by kernel_rfl) (fun KJ hK => ?_)
          go_simp
          refine (at8 D8.out DD.out).mono ?_
          rintro e v9 ⟨rfl, hb9⟩
          rw [cmp_e HC1.out]
          replace Xd : Hid _ := Xd.out.below hb9
          replace Xs : Hid _ := Xs.out.below hb9
          replace D8 : Hid _ := D8.out.below hb9
          replace E8 : Hid _ := E8.out.below hb9
          replace DD : Hid _ := DD.out.below hb9
          replace hbw := Below.on hbw hb9
          clear hb9
          refine hK _ _ ⟨Xs.out.c0, Xs.out.c1, Xs.out.c2, Xs.out.c3, Xs.out.c4, Xs.out.c5, Xd.out.c0, Xd.out.c1, Xd.out.c2⟩ ?_
          clear hK
          refine wpJ_one (i := 7) (by kernel_rfl) rfl (by kernel_rfl) (fun KJ hK => ?_)
          go_simp
          refine (at8 DD.out E8.out).mono ?_
          rintro e v10 ⟨rfl, hb10⟩
          rw [cmp_l HC2.out]
          replace Xd : Hid _ := Xd.out.below hb10
          replace Xs : Hid _ := Xs.out.below hb10
          replace D8 : Hid _ := D8.out.below hb10
          replace E8 : Hid _ := E8.out.below hb10
          replace DD : Hid _ := DD.out.below hb10
          replace hbw := Below.on hbw hb10
          clear hb10
          clear HJ
          have HJ : Hid ((fun W' : World => W'.cell? ⟨gs, 0, none⟩ = some (.bool s8) ∧ W'.cell? ⟨gs, 1, none⟩ = some (.slice p8 m8 m8) ∧ W'.cell? ⟨gs, 2, none⟩ = some (.int .i64 e8) ∧ W'.cell? ⟨gs, 3, none⟩ = some (.bool t8) ∧ W'.cell? ⟨gs, 4, none⟩ = some (.slice q8 n8 n8) ∧ W'.cell? ⟨gs, 5, none⟩ = some (.int .i64 f8) ∧ W'.cell? ⟨gd, 0, none⟩ = some (.bool true) ∧ W'.cell? ⟨gd, 1, none⟩ = some (.slice q n c) ∧ W'.cell? ⟨gd, 2, none⟩ = some (.int .i64 e)) v10) := ⟨Xs.out.c0, Xs.out.c1, Xs.out.c2, Xs.out.c3, Xs.out.c4, Xs.out.c5, Xd.out.c0, Xd.out.c1, Xd.out.c2⟩
          refine hK _ _ HJ.out ?_
          clear hK
          refine wpJ_take (i := 8) (v := ?v87x8) rfl (by kernel_rfl) (by kernel_rfl) (by kernel_rfl) (fun _ _ _ h => h) (by kernel_rfl) ?hy87x8 HJ.out ?rest87x8
          case hy87x8 => (intro W' hJ; obtain ⟨j0, j1, j2, j3, j4, j5, j6, j7, j8⟩ := hJ; go_simp; first | done | with_reducible rfl)
          refine wpJ_take (i := 9) (v := ?v88x9) rfl (by kernel_rfl) (by kernel_rfl) (by kernel_rfl) (fun _ _ _ h => h) (by kernel_rfl) ?hy88x9 HJ.out ?rest88x9
          case hy88x9 => (intro W' hJ; obtain ⟨j0, j1, j2, j3, j4, j5, j6, j7, j8⟩ := hJ; go_simp; first | done | with_reducible rfl)
          refine wpJ_done (by kernel_rfl) ?_ _
          clear HJ
          go_wp2_with fail
          go_ret
          exact ⟨rfl, hbw⟩
        · have HC1 : Hid (dv z8 e8 = dv x e) := h1
          have HC2 : Hid (dv x e = dv y8 f8) := h2
          clear h1 h2
          obtain ⟨W6, hW6⟩ : ∃ W1, W1 = Ws.drew := ⟨_, rfl⟩
          have hbd : Below Ws.heap.size Ws W6 := by rw [hW6]; exact bDrew1 (Below.refl _ _)
          replace Xd : Hid _ := Xd.out.below hbd
          replace Xs : Hid _ := Xs.out.below hbd
          replace D8 : Hid _ := D8.out.below hbd
          replace E8 : Hid _ := E8.out.below hbd
          replace DD : Hid _ := DD.out.below hbd
          replace hbw := Below.on hbw hbd
          clear hbd
          have HJ : Hid ((fun W' : World => W'.cell? ⟨gs, 0, none⟩ = some (.bool s8) ∧ W'.cell? ⟨gs, 1, none⟩ = some (.slice p8 m8 m8) ∧ W'.cell? ⟨gs, 2, none⟩ = some (.int .i64 e8) ∧ W'.cell? ⟨gs, 3, none⟩ = some (.bool t8) ∧ W'.cell? ⟨gs, 4, none⟩ = some (.slice q8 n8 n8) ∧ W'.cell? ⟨gs, 5, none⟩ = some (.int .i64 f8) ∧ W'.cell? ⟨gd, 0, none⟩ = some (.bool true) ∧ W'.cell? ⟨gd, 1, none⟩ = some (.slice q n c) ∧ W'.cell? ⟨gd, 2, none⟩ = some (.int .i64 e)) W6) := ⟨Xs.out.c0, Xs.out.c1, Xs.out.c2, Xs.out.c3, Xs.out.c4, Xs.out.c5, Xd.out.c0, Xd.out.c1, Xd.out.c2⟩
          refine wp_region_J (fun W' => W'.cell? ⟨gs, 0, none⟩ = some (.bool s8) ∧ W'.cell? ⟨gs, 1, none⟩ = some (.slice p8 m8 m8) ∧ W'.cell? ⟨gs, 2, none⟩ = some (.int .i64 e8) ∧ W'.cell? ⟨gs, 3, none⟩ = some (.bool t8) ∧ W'.cell? ⟨gs, 4, none⟩ = some (.slice q8 n8 n8) ∧ W'.cell? ⟨gs, 5, none⟩ = some (.int .i64 f8) ∧ W'.cell? ⟨gd, 0, none⟩ = some (.bool true) ∧ W'.cell? ⟨gd, 1, none⟩ = some (.slice q n c) ∧ W'.cell? ⟨gd, 2, none⟩ = some (.int .i64 e)) (by kernel_rfl) ?_
          rw [← hW6]
          clear hW6
          refine wpJ_take (i := 0) (v := ?v89x0) rfl (by kernel_rfl) (by kernel_rfl) (by kernel_rfl) (fun _ _ _ h => h) (by kernel_rfl) ?hy89x0 HJ.out ?rest89x0
          case hy89x0 => (intro W' hJ; obtain ⟨j0, j1, j2, j3, j4, j5, j6, j7, j8⟩ := hJ; go_simp; first | done | with_reducible rfl)
          refine wpJ_take (i := 1) (v := ?v90x1) rfl (by kernel_rfl) (by kernel_rfl) (by kernel_rfl) (fun _ _ _ h => h) (by kernel_rfl) ?hy90x1 HJ.out ?rest90x1
          case hy90x1 => (intro W' hJ; obtain ⟨j0, j1, j2, j3, j4, j5, j6, j7, j8⟩ := hJ; go_simp; first | done | with_reducible rfl)
          refine wpJ_take (i := 2) (v := ?v91x2) rfl (by kernel_rfl) (by kernel_rfl) (by kernel_rfl) (fun _ _ _ h => h) (by kernel_rfl) ?hy91x2 HJ.out ?rest91x2
          case hy91x2 => (intro W' hJ; obtain ⟨j0, j1, j2, j3, j4, j5, j6, j7, j8⟩ := hJ; go_simp; first | done | with_reducible rfl)
          refine wpJ_take (i := 4) (v := ?v92x4) rfl (by kernel_rfl) (by kernel_rfl) (by kernel_rfl) (fun _ _ _ h => h) (by kernel_rfl) ?hy92x4 HJ.out ?rest92x4
          case hy92x4 => (intro W' hJ; obtain ⟨j0, j1, j2, j3, j4, j5, j6, j7, j8⟩ := hJ; go_simp; first | done | with_reducible rfl)
          refine wpJ_take (i := 5) (v := ?v93x5) rfl (by kernel_rfl) (by kernel_rfl) (by kernel_rfl) (fun _ _ _ h => h) (by kernel_rfl) ?hy93x5 HJ.out ?rest93x5
          case hy93x5 => (intro W' hJ; obtain ⟨j0, j1, j2, j3, j4, j5, j6, j7, j8⟩ := hJ; go_simp; first | done | with_reducible rfl)
          go_simp
          refine wpJ_take (i := 6) (v := ?v94x6) rfl (by kernel_rfl) (by kernel_rfl) (by kernel_rfl) (fun _ _ _ h => h) (by kernel_rfl) ?hy94x6 HJ.out ?rest94x6
          case hy94x6 => (intro W' hJ; obtain ⟨j0, j1, j2, j3, j4, j5, j6, j7, j8⟩ := hJ; go_simp; first | done | with_reducible rfl)
          refine wpJ_one (i := 3) (by kernel_rfl) rfl (by kernel_rfl) (fun KJ hK => ?_)
          go_simp
          refine (at8 D8.out DD.out).mono ?_
          rintro e v9 ⟨rfl, hb9⟩
          rw [cmp_e HC1.out]
          replace Xd : Hid _ := Xd.out.below hb9
          replace Xs : Hid _ := Xs.out.below hb9
          replace D8 : Hid _ := D8.out.below hb9
          replace E8 : Hid _ := E8.out.below hb9
          replace DD : Hid _ := DD.out.below hb9
          replace hbw := Below.on hbw hb9
          clear hb9
          refine hK _ _ ⟨Xs.out.c0, Xs.out.c1, Xs.out.c2, Xs.out.c3, Xs.out.c4, Xs.out.c5, Xd.out.c0, Xd.out.c1, Xd.out.c2⟩ ?_
          clear hK
          refine wpJ_one (i := 7) (by kernel_rfl) rfl (by kernel_rfl) (fun KJ hK => ?_)
          go_simp
          refine (at8 DD.out E8.out).mono ?_
          rintro e v10 ⟨rfl, hb10⟩
          rw [cmp_e HC2.out]
          replace Xd : Hid _ := Xd.out.below hb10
          replace Xs : Hid _ := Xs.out.below hb10
          replace D8 : Hid _ := D8.out.below hb10
          replace E8 : Hid _ := E8.out.below hb10
          replace DD : Hid _ := DD.out.below hb10
          replace hbw := Below.on hbw hb10
          clear hb10
          clear HJ
          have HJ : Hid ((fun W' : World => W'.cell? ⟨gs, 0, none⟩ = some (.bool s8) ∧ W'.cell? ⟨gs, 1, none⟩ = some (.slice p8 m8 m8) ∧ W'.cell? ⟨gs, 2, none⟩ = some (.int .i64 e8) ∧ W'.cell? ⟨gs, 3, none⟩ = some (.bool t8) ∧ W'.cell? ⟨gs, 4, none⟩ = some (.slice q8 n8 n8) ∧ W'.cell? ⟨gs, 5, none⟩ = some (.int .i64 f8) ∧ W'.cell? ⟨gd, 0, none⟩ = some (.bool true) ∧ W'.cell? ⟨gd, 1, none⟩ = some (.slice q n c) ∧ W'.cell? ⟨gd, 2, none⟩ = some (.int .i64 e)) v10) := ⟨Xs.out.c0, Xs.out.c1, Xs.out.c2, Xs.out.c3, Xs.out.c4, Xs.out.c5, Xd.out.c0, Xd.out.c1, Xd.out.c2⟩
          refine hK _ _ HJ.out ?_
          clear hK
          refine wpJ_take (i := 8) (v := ?v95x8) rfl (by kernel_rfl) (by kernel_rfl) (by kernel_rfl) (fun _ _ _ h => h) (by kernel_rfl) ?hy95x8 HJ.out ?rest95x8
          case hy95x8 => (intro W' hJ; obtain ⟨j0, j1, j2, j3, j4, j5, j6, j7, j8⟩ := hJ; go_simp; first | done | with_reducible rfl)
          refine wpJ_take (i := 9) (v := ?v96x9) rfl (by kernel_rfl) (by kernel_rfl) (by kernel_rfl) (fun _ _ _ h => h) (by kernel_rfl) ?hy96x9 HJ.out ?rest96x9
          case hy96x9 => (intro W' hJ; obtain ⟨j0, j1, j2, j3, j4, j5, j6, j7, j8⟩ := hJ; go_simp; first | done | with_reducible rfl)
          refine wpJ_done (by kernel_rfl) ?_ _
          clear HJ
          go_wp2_with fail
          go_ret
          exact ⟨rfl, hbw⟩
    · obtain rfl : Z = I := by have := HR.out.2; omega
      clear hz hi
      refine (HLW.out.fin b _ HB.out.1).mono ?_
      rintro e v7 ⟨rfl, hb7⟩
      rw [HB.out.2.1, decide_eq_false (Nat.lt_irrefl _)]
      replace Xd : Hid _ := Xd.out.below hb7
      replace hbw := Below.on hbw hb7
      clear hb7
      obtain ⟨cd0, cd1, cd2, fd0, fd1, fd2⟩ := Xd.out
      have hned : gd < v7.heap.size := World.block_lt_of_cell? v7 _ cd0
      go_wp2_with fail
      clear cd0 cd1 cd2 fd0 fd1 fd2 hned
      have hbe := HBE.out
      subst hbe
      refine (beyond_1i HJN.out HLW.out HRF.out (HDN.out.below hbw) (TB.out.below hbw) HR.out.1).mono ?_
      rintro e v8 ⟨rfl, hb8⟩
      replace Xd : Hid _ := Xd.out.below hb8
      replace hbw := Below.on hbw hb8
      clear hb8
      go_wp2_with fail
      go_ret
      exact ⟨rfl, hbw⟩
  · obtain rfl : Z = 0 := by omega
    clear hz
    have hI0 : 0 < I := by have := HJN.out.jm.pm.fm.pos; omega
    refine (HLW.out.fin b _ HB.out.1).mono ?_
    rintro e v7 ⟨rfl, hb7⟩
    rw [HB.out.2.1, decide_eq_true hI0, decide_eq_true rfl]
    clear hI0
    replace Xd : Hid _ := Xd.out.below hb7
    replace hbw := Below.on hbw hb7
    clear hb7
    obtain ⟨cd0, cd1, cd2, fd0, fd1, fd2⟩ := Xd.out
    have hned : gd < v7.heap.size := World.block_lt_of_cell? v7 _ cd0
    go_wp2_with fail
    clear cd0 cd1 cd2 fd0 fd1 fd2 hned
    have hbe := HBE.out
    subst hbe
    refine (beyond_1z HJN.out HLW.out HRF.out (HDN.out.below hbw) (TB.out.below hbw) HR.out.1).mono ?_
    rintro e v8 ⟨rfl, hb8⟩
    replace Xd : Hid _ := Xd.out.below hb8
    replace hbw := Below.on hbw hb8
    clear hb8
    go_wp2_with fail
    go_ret
    exact ⟨rfl, hbw⟩
theorem roundInside_x {single : Bool} {f p m l : Int} {S I H sd : Nat} {Be : Int} (J : Jn f p m l S I H sd Be) (L : Lw single f S I) {P E G : Int} {Q : Nat} (R : Rf f S P E G I Q) {q : Option Addr} {n c : Nat} {w : World} {e : Int} (s : Bool) {xs : List Nat} (h : At w q n c xs) (hT : Tab w) :
    Calls Tryd.prog 4 #[.bool single, DV s q n c e] w fun en w' => en = .returned (.bool true) ∧ Below w.heap.size w w' := by
  cases hf : formD s xs e
  · exact roundInside_f J L s h hf hT
  · have hD := formD_dn h hf
    rcases Nat.eq_zero_or_pos n with h0 | h0
    · subst h0
      refine roundInside_z J L hD ?_ hT
      rw [List.eq_nil_of_length_eq_zero h.len]
      cases s <;> rfl
    · cases s
      · exact roundInside_n0 J L R hD hT h0
      · exact roundInside_n1 J L R hD hT h0
theorem roundInside_w (single : Bool) {q : Option Addr} {n c : Nat} {w : World} {e : Int} (s : Bool) {xs : List Nat} (h : At w q n c xs) (hT : Tab w) :
    Calls Tryd.prog 4 #[.bool single, DV s q n c e] w fun en w' => en = .returned (.bool true) ∧ Below w.heap.size w w' := by
  cases single
  · exact roundInside_x jn_64 lw_64 rf_64 s h hT
  · exact roundInside_x jn_32 lw_32 rf_32 s h hT
end Go.Proofs.YtfkoilaobglddaaDoor

