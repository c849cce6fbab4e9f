import Derived.Test.YtfkoilaobglddaaDoorJ27
import Derived.Test.YtfkoilaobglddaaDoorJ22
import Derived.Test.YtfkoilaobglddaaDoorJ20
namespace Go.Proofs.YtfkoilaobglddaaDoor
open Go.RowKit Go.Shelf

set_option maxRecDepth 20000 in
set_option maxHeartbeats 8000000 in
theorem nought5_z {p : Option Addr} {c : Nat} {w : World} {e : Int} {s : Bool} :
    Calls Tryd.prog 13 #[DV s p 0 c e] w fun en w' => en = .returned (.bool true) ∧ Below w.heap.size w w' := by
  go_enter Tryd.func13, Tryd.ntmps13
  go_wp2_with fail
  go_ret
  exact ⟨rfl, below1 w _⟩
set_option maxRecDepth 20000 in
set_option maxHeartbeats 8000000 in
theorem beyond_0z {single : Bool} {f p m l : Int} {S I H sd : Nat} {Be : Int} (J : Jn f p m l S I H sd Be) (L : Lw single f S I) {P E G : Int} {Q : Nat} (R : Rf f S P E G I Q) {q : Option Addr} {n c : Nat} {w : World} {x e : Int} (h : DN w false q n c e x) (hT : Tab w) (hR : RNz H l I (dv x.natAbs e) 0) :
    Calls Tryd.prog 16 #[.int .i64 f, DV false q n c e, U (0)] w fun en w' => en = .returned (.bool true) ∧ Below w.heap.size w w' := by
  have HJN : Hid (Jn f p m l S I H sd Be) := J
  have HLW : Hid (Lw single f S I) := L
  have HRF : Hid (Rf f S P E G I Q) := R
  have TB : Hid (Tab w) := hT
  have HDN : Hid (DN w false q n c e x) := h
  have hlt := J.jm.pm.fm.lt
  have hle := J.jm.pm.fm.le
  have hps := J.jm.pm.fm.pos
  have hlo := J.jm.pm.lo
  have hp := J.jm.pm.hp
  have hst := J.jm.pm.st (I - 1) (by omega)
  have hx : ¬ x < 0 := of_decide_eq_false h.zn.sg.symm
  obtain ⟨k, hk⟩ : ∃ k, k = 0 := ⟨_, rfl⟩
  have hkI : k < I := by omega
  have hkS : k % S = k := Nat.mod_eq_of_lt (by omega)
  obtain ⟨mn, hmn⟩ : ∃ mn, mn = 2 * (k - (k / H - 1) * H) + 1 := ⟨_, rfl⟩
  obtain ⟨ex, hex⟩ : ∃ ex : Int, ex = l + ((k / H - 1 : Nat) : Int) - 1 := ⟨_, rfl⟩
  have hstk := J.jm.pm.st k hkI
  have HKB : Hid (k < 2 * S ∧ k % S < I ∧ mn = 2 * (k % S - (k % S / H - 1) * H) + 1 ∧ ex = l + ((k % S / H - 1 : Nat) : Int) - 1 ∧ decide (S ≤ k) = false) := by rw [hkS]; exact ⟨by omega, by omega, hmn, hex, decide_eq_false (by omega)⟩
  have HMD : Hid (∀ w, Tab w → Calls Tryd.prog 33 #[.int .i64 f, .int .u64 0] w fun en w' => MakeP w.heap.size w' en (iv false mn) ex ∧ Below w.heap.size w w') := by
    intro w hT
    have := mid_ok J.jm.pm k mn ex HKB.out.1 HKB.out.2.1 HKB.out.2.2.1 HKB.out.2.2.2.1 w hT
    rw [HKB.out.2.2.2.2] at this
    rw [hk] at this
    exact this
  have HF : Hid (DFm (iv false mn) ex) := .inr ⟨by rw [iv_f, hmn]; omega, by omega, by omega⟩
  have hdv : dv (iv false mn) ex = dv (hv H k : Int) (l - 1) := by rw [iv_f, hmn, hex]; exact mid_dv k (by omega)
  obtain ⟨y, hy⟩ : ∃ y : Int, y = x := ⟨_, rfl⟩
  have hya : dv y e = dv (x.natAbs : Int) e := by rw [hy]; congr 1; omega
  obtain ⟨cc, hcc⟩ : ∃ cc, cc = cmpI (dv y e) (dv (iv false mn) ex) := ⟨_, rfl⟩
  have HCC : Hid (cmpI (dv y e) (dv (iv false mn) ex) = cc) := hcc.symm
  have hle2 : dv y e ≤ dv (iv false mn) ex := by rw [hya, hdv, hk]; exact hR.none (by omega)
  have kc1 : decide (cc ≤ 0) = true := by rw [hcc]; unfold cmpI; by_cases a : dv y e < dv (iv false mn) ex; (· rw [if_pos a]; rfl); rw [if_neg a, if_pos (by omega)]; rfl
  subst hy
  clear J L R h hT hlt hle hps hlo hp hst hx hk hkI hkS hmn hex hstk hdv hya hcc hle2 hR
  go_enter Tryd.func16, Tryd.ntmps16
  go_wp2_with fail
  obtain ⟨W0, hW0⟩ : ∃ W0, W0 = (w.alloc (.cells #[.bool false, .slice q n c, .int .i64 e] 26)) := ⟨_, rfl⟩
  have Xd : Hid (B3q W0 (w.heap.size) (.bool false) (.slice q n c) (.int .i64 e)) := by rw [hW0]; exact ⟨by go_simp, by go_simp, by go_simp, by go_simp, by go_simp, by go_simp⟩
  have hb0 : Below w.heap.size w W0 := by rw [hW0]; exact below1 w _
  rw [← hW0]
  clear hW0
  have hbw : Below w.heap.size w w := Below.refl _ _
  obtain ⟨gd, hgd⟩ : ∃ g, g = w.heap.size := ⟨_, rfl⟩
  have HGd : Hid (w.heap.size ≤ gd) := by rw [hgd]; show _ ≤ _; omega
  rw [← hgd] at Xd
  try rw [← hgd]
  clear hgd
  replace hbw := Below.on hbw hb0
  clear hb0
  have D1 : Hid (DN W0 false q n c e y) := HDN.out.below hbw
  refine (HRF.out.of _).mono ?_
  rintro e v4 ⟨rfl, hb4⟩
  replace Xd : Hid _ := Xd.out.below hb4
  replace D1 : Hid _ := D1.out.below hb4
  replace hbw := Below.on hbw hb4
  clear hb4
  obtain ⟨cd0, cd1, cd2, fd0, fd1, fd2⟩ := Xd.out
  have hned : gd < v4.heap.size := World.block_lt_of_cell? v4 _ cd0
  go_wp2_with fail
  clear cd0 cd1 cd2 fd0 fd1 fd2 hned
  have Xk0 : Hid (B6q (v4.alloc (.cells #[U S, .int .i64 P, .int .i64 E, .int .i64 G, U I, U Q] 71)) v4.heap.size (U S) (.int .i64 P) (.int .i64 E) (.int .i64 G) (U I) (U Q)) := B6q.new v4 _ _ _ _ _ _ _
  have hbn : Below v4.heap.size v4 (v4.alloc (.cells #[U S, .int .i64 P, .int .i64 E, .int .i64 G, U I, U Q] 71)) := below1 v4 _
  generalize v4.alloc (.cells #[U S, .int .i64 P, .int .i64 E, .int .i64 G, U I, U Q] 71) = Wk at *
  have HGk : Hid (w.heap.size ≤ v4.heap.size) := hbw.size
  replace Xd : Hid _ := Xd.out.below hbn
  replace D1 : Hid _ := D1.out.below hbn
  replace hbw := Below.on hbw hbn
  clear hbn
  generalize v4.heap.size = gk at *
  have Xk := Xk0
  clear Xk0
  refine (HMD.out _ (TB.out.below hbw)).mono ?_
  rintro e2 v5 ⟨hv, hb5⟩
  obtain ⟨v, rfl, hv2⟩ := hv.form (HF.out) (rfl)
  obtain ⟨s5, p5, m5, rfl, hd5⟩ := hv2.dn (HF.out)
  clear hv hv2
  replace Xd : Hid _ := Xd.out.below hb5
  replace Xk : Hid _ := Xk.out.below hb5
  replace D1 : Hid _ := D1.out.below hb5
  replace hbw := Below.on hbw hb5
  clear hb5
  have D5 : Hid (DN v5 s5 p5 m5 m5 (ex) (iv false mn)) := hd5
  clear hd5
  obtain ⟨cd0, cd1, cd2, fd0, fd1, fd2⟩ := Xd.out
  have hned : gd < v5.heap.size := World.block_lt_of_cell? v5 _ cd0
  obtain ⟨ck0, ck1, ck2, ck3, ck4, ck5, fk0, fk1, fk2, fk3, fk4, fk5⟩ := Xk.out
  have hnek : gk < v5.heap.size := World.block_lt_of_cell? v5 _ ck0
  go_wp2_with fail
  clear cd0 cd1 cd2 fd0 fd1 fd2 hned
  clear ck0 ck1 ck2 ck3 ck4 ck5 fk0 fk1 fk2 fk3 fk4 fk5 hnek
  have Xh0 : Hid (B3q (v5.alloc (.cells #[.bool s5, .slice p5 m5 m5, .int .i64 (ex)] 26)) v5.heap.size (.bool s5) (.slice p5 m5 m5) (.int .i64 (ex))) := B3q.new v5 _ _ _ _
  have hbn : Below v5.heap.size v5 (v5.alloc (.cells #[.bool s5, .slice p5 m5 m5, .int .i64 (ex)] 26)) := below1 v5 _
  generalize v5.alloc (.cells #[.bool s5, .slice p5 m5 m5, .int .i64 (ex)] 26) = Wh at *
  have HGh : Hid (w.heap.size ≤ v5.heap.size) := hbw.size
  replace Xd : Hid _ := Xd.out.below hbn
  replace Xk : Hid _ := Xk.out.below hbn
  replace D1 : Hid _ := D1.out.below hbn
  replace D5 : Hid _ := D5.out.below hbn
  replace hbw := Below.on hbw hbn
  clear hbn
  generalize v5.heap.size = gh at *
  have Xh := Xh0
  clear Xh0
  refine (at8 D1.out D5.out).mono ?_
  rintro e v6 ⟨rfl, hb6⟩
  rw [HCC.out]
  replace Xd : Hid _ := Xd.out.below hb6
  replace Xk : Hid _ := Xk.out.below hb6
  replace Xh : Hid _ := Xh.out.below hb6
  replace D1 : Hid _ := D1.out.below hb6
  replace D5 : Hid _ := D5.out.below hb6
  replace hbw := Below.on hbw hb6
  clear hb6
  obtain ⟨cd0, cd1, cd2, fd0, fd1, fd2⟩ := Xd.out
  have hned : gd < v6.heap.size := World.block_lt_of_cell? v6 _ cd0
  obtain ⟨ch0, ch1, ch2, fh0, fh1, fh2⟩ := Xh.out
  have hneh : gh < v6.heap.size := World.block_lt_of_cell? v6 _ ch0
  go_wp2_with fail
  clear cd0 cd1 cd2 fd0 fd1 fd2 hned
  clear ch0 ch1 ch2 fh0 fh1 fh2 hneh
  go_ret
  exact ⟨rfl, hbw⟩
set_option maxRecDepth 20000 in
set_option maxHeartbeats 8000000 in
theorem beyond_0i {single : Bool} {f p m l : Int} {S I H sd : Nat} {Be : Int} (J : Jn f p m l S I H sd Be) (L : Lw single f S I) {P E G : Int} {Q : Nat} (R : Rf f S P E G I Q) {q : Option Addr} {n c : Nat} {w : World} {x e : Int} (h : DN w false q n c e x) (hT : Tab w) (hR : RNz H l I (dv x.natAbs e) I) :
    Calls Tryd.prog 16 #[.int .i64 f, DV false q n c e, U (I)] w fun en w' => en = .returned (.bool true) ∧ Below w.heap.size w w' := by
  have HJN : Hid (Jn f p m l S I H sd Be) := J
  have HLW : Hid (Lw single f S I) := L
  have HRF : Hid (Rf f S P E G I Q) := R
  have TB : Hid (Tab w) := hT
  have HDN : Hid (DN w false q n c e x) := h
  have hlt := J.jm.pm.fm.lt
  have hle := J.jm.pm.fm.le
  have hps := J.jm.pm.fm.pos
  have hlo := J.jm.pm.lo
  have hp := J.jm.pm.hp
  have hst := J.jm.pm.st (I - 1) (by omega)
  have hx : ¬ x < 0 := of_decide_eq_false h.zn.sg.symm
  obtain ⟨k, hk⟩ : ∃ k, k = (I - 1) := ⟨_, rfl⟩
  have hkI : k < I := by omega
  have hkS : k % S = k := Nat.mod_eq_of_lt (by omega)
  obtain ⟨mn, hmn⟩ : ∃ mn, mn = 2 * (k - (k / H - 1) * H) + 1 := ⟨_, rfl⟩
  obtain ⟨ex, hex⟩ : ∃ ex : Int, ex = l + ((k / H - 1 : Nat) : Int) - 1 := ⟨_, rfl⟩
  have hstk := J.jm.pm.st k hkI
  have HKB : Hid (k < 2 * S ∧ k % S < I ∧ mn = 2 * (k % S - (k % S / H - 1) * H) + 1 ∧ ex = l + ((k % S / H - 1 : Nat) : Int) - 1 ∧ decide (S ≤ k) = false) := by rw [hkS]; exact ⟨by omega, by omega, hmn, hex, decide_eq_false (by omega)⟩
  have HMD : Hid (∀ w, Tab w → Calls Tryd.prog 33 #[.int .i64 f, U k] w fun en w' => MakeP w.heap.size w' en (iv false mn) ex ∧ Below w.heap.size w w') := by
    intro w hT
    have := mid_ok J.jm.pm k mn ex HKB.out.1 HKB.out.2.1 HKB.out.2.2.1 HKB.out.2.2.2.1 w hT
    rw [HKB.out.2.2.2.2] at this
    skip
    exact this
  have HF : Hid (DFm (iv false mn) ex) := .inr ⟨by rw [iv_f, hmn]; omega, by omega, by omega⟩
  have hdv : dv (iv false mn) ex = dv (hv H k : Int) (l - 1) := by rw [iv_f, hmn, hex]; exact mid_dv k (by omega)
  obtain ⟨y, hy⟩ : ∃ y : Int, y = x := ⟨_, rfl⟩
  have hya : dv y e = dv (x.natAbs : Int) e := by rw [hy]; congr 1; omega
  obtain ⟨cc, hcc⟩ : ∃ cc, cc = cmpI (dv y e) (dv (iv false mn) ex) := ⟨_, rfl⟩
  have HCC : Hid (cmpI (dv y e) (dv (iv false mn) ex) = cc) := hcc.symm
  have hle2 : dv (iv false mn) ex ≤ dv y e := by rw [hya, hdv, hk]; exact hR.all (by omega)
  have hc3 : cc = 0 ∨ cc = 1 := by rw [hcc]; unfold cmpI; rw [if_neg (by omega)]; split; (· exact .inl rfl); exact .inr rfl
  have kc1 : decide (0 ≤ cc) = true := decide_eq_true (by omega)
  have kc3 : decide (cc ≤ 1) = true := decide_eq_true (by omega)
  have kI : IntKind.u64.wrap ((I : Int) - 1) = (k : Int) := by rw [IntKind.wrap_u64]; omega
  have kI0 : ((I : Int) == 0) = false := by simp; omega
  clear hc3
  subst hy
  clear J L R h hT hlt hle hps hlo hp hst hx hk hkI hkS hmn hex hstk hdv hya hcc hle2 hR
  go_enter Tryd.func16, Tryd.ntmps16
  go_wp2_with fail
  obtain ⟨W0, hW0⟩ : ∃ W0, W0 = (w.alloc (.cells #[.bool false, .slice q n c, .int .i64 e] 26)) := ⟨_, rfl⟩
  have Xd : Hid (B3q W0 (w.heap.size) (.bool false) (.slice q n c) (.int .i64 e)) := by rw [hW0]; exact ⟨by go_simp, by go_simp, by go_simp, by go_simp, by go_simp, by go_simp⟩
  have hb0 : Below w.heap.size w W0 := by rw [hW0]; exact below1 w _
  rw [← hW0]
  clear hW0
  have hbw : Below w.heap.size w w := Below.refl _ _
  obtain ⟨gd, hgd⟩ : ∃ g, g = w.heap.size := ⟨_, rfl⟩
  have HGd : Hid (w.heap.size ≤ gd) := by rw [hgd]; show _ ≤ _; omega
  rw [← hgd] at Xd
  try rw [← hgd]
  clear hgd
  replace hbw := Below.on hbw hb0
  clear hb0
  have D1 : Hid (DN W0 false q n c e y) := HDN.out.below hbw
  refine (HRF.out.of _).mono ?_
  rintro e v4 ⟨rfl, hb4⟩
  replace Xd : Hid _ := Xd.out.below hb4
  replace D1 : Hid _ := D1.out.below hb4
  replace hbw := Below.on hbw hb4
  clear hb4
  obtain ⟨cd0, cd1, cd2, fd0, fd1, fd2⟩ := Xd.out
  have hned : gd < v4.heap.size := World.block_lt_of_cell? v4 _ cd0
  go_wp2_with fail
  clear cd0 cd1 cd2 fd0 fd1 fd2 hned
  have Xk0 : Hid (B6q (v4.alloc (.cells #[U S, .int .i64 P, .int .i64 E, .int .i64 G, U I, U Q] 71)) v4.heap.size (U S) (.int .i64 P) (.int .i64 E) (.int .i64 G) (U I) (U Q)) := B6q.new v4 _ _ _ _ _ _ _
  have hbn : Below v4.heap.size v4 (v4.alloc (.cells #[U S, .int .i64 P, .int .i64 E, .int .i64 G, U I, U Q] 71)) := below1 v4 _
  generalize v4.alloc (.cells #[U S, .int .i64 P, .int .i64 E, .int .i64 G, U I, U Q] 71) = Wk at *
  have HGk : Hid (w.heap.size ≤ v4.heap.size) := hbw.size
  replace Xd : Hid _ := Xd.out.below hbn
  replace D1 : Hid _ := D1.out.below hbn
  replace hbw := Below.on hbw hbn
  clear hbn
  generalize v4.heap.size = gk at *
  have Xk := Xk0
  clear Xk0
  refine (HMD.out _ (TB.out.below hbw)).mono ?_
  rintro e2 v5 ⟨hv, hb5⟩
  obtain ⟨v, rfl, hv2⟩ := hv.form (HF.out) (rfl)
  obtain ⟨s5, p5, m5, rfl, hd5⟩ := hv2.dn (HF.out)
  clear hv hv2
  replace Xd : Hid _ := Xd.out.below hb5
  replace Xk : Hid _ := Xk.out.below hb5
  replace D1 : Hid _ := D1.out.below hb5
  replace hbw := Below.on hbw hb5
  clear hb5
  have D5 : Hid (DN v5 s5 p5 m5 m5 (ex) (iv false mn)) := hd5
  clear hd5
  obtain ⟨cd0, cd1, cd2, fd0, fd1, fd2⟩ := Xd.out
  have hned : gd < v5.heap.size := World.block_lt_of_cell? v5 _ cd0
  obtain ⟨ck0, ck1, ck2, ck3, ck4, ck5, fk0, fk1, fk2, fk3, fk4, fk5⟩ := Xk.out
  have hnek : gk < v5.heap.size := World.block_lt_of_cell? v5 _ ck0
  go_wp2_with fail
  clear cd0 cd1 cd2 fd0 fd1 fd2 hned
  clear ck0 ck1 ck2 ck3 ck4 ck5 fk0 fk1 fk2 fk3 fk4 fk5 hnek
  have Xh0 : Hid (B3q (v5.alloc (.cells #[.bool s5, .slice p5 m5 m5, .int .i64 (ex)] 26)) v5.heap.size (.bool s5) (.slice p5 m5 m5) (.int .i64 (ex))) := B3q.new v5 _ _ _ _
  have hbn : Below v5.heap.size v5 (v5.alloc (.cells #[.bool s5, .slice p5 m5 m5, .int .i64 (ex)] 26)) := below1 v5 _
  generalize v5.alloc (.cells #[.bool s5, .slice p5 m5 m5, .int .i64 (ex)] 26) = Wh at *
  have HGh : Hid (w.heap.size ≤ v5.heap.size) := hbw.size
  replace Xd : Hid _ := Xd.out.below hbn
  replace Xk : Hid _ := Xk.out.below hbn
  replace D1 : Hid _ := D1.out.below hbn
  replace D5 : Hid _ := D5.out.below hbn
  replace hbw := Below.on hbw hbn
  clear hbn
  generalize v5.heap.size = gh at *
  have Xh := Xh0
  clear Xh0
  refine (at8 D1.out D5.out).mono ?_
  rintro e v6 ⟨rfl, hb6⟩
  rw [HCC.out]
  replace Xd : Hid _ := Xd.out.below hb6
  replace Xk : Hid _ := Xk.out.below hb6
  replace Xh : Hid _ := Xh.out.below hb6
  replace D1 : Hid _ := D1.out.below hb6
  replace D5 : Hid _ := D5.out.below hb6
  replace hbw := Below.on hbw hb6
  clear hb6
  obtain ⟨cd0, cd1, cd2, fd0, fd1, fd2⟩ := Xd.out
  have hned : gd < v6.heap.size := World.block_lt_of_cell? v6 _ cd0
  obtain ⟨ch0, ch1, ch2, fh0, fh1, fh2⟩ := Xh.out
  have hneh : gh < v6.heap.size := World.block_lt_of_cell? v6 _ ch0
  go_wp2_with fail
  clear cd0 cd1 cd2 fd0 fd1 fd2 hned
  clear ch0 ch1 ch2 fh0 fh1 fh2 hneh
  refine (at8 D1.out D5.out).mono ?_
  rintro e v7 ⟨rfl, hb7⟩
  rw [HCC.out]
  replace Xd : Hid _ := Xd.out.below hb7
  replace Xk : Hid _ := Xk.out.below hb7
  replace Xh : Hid _ := Xh.out.below hb7
  replace D1 : Hid _ := D1.out.below hb7
  replace D5 : Hid _ := D5.out.below hb7
  replace hbw := Below.on hbw hb7
  clear hb7
  go_wp2_with fail
  go_ret
  exact ⟨rfl, hbw⟩
set_option maxRecDepth 20000 in
set_option maxHeartbeats 8000000 in
theorem beyond_1z {single : Bool} {f p m l : Int} {S I H sd : Nat} {Be : Int} (J : Jn f p m l S I H sd Be) (L : Lw single f S I) {P E G : Int} {Q : Nat} (R : Rf f S P E G I Q) {q : Option Addr} {n c : Nat} {w : World} {x e : Int} (h : DN w true q n c e x) (hT : Tab w) (hR : RNz H l I (dv x.natAbs e) 0) :
    Calls Tryd.prog 16 #[.int .i64 f, DV true q n c e, U (S + 0)] w fun en w' => en = .returned (.bool true) ∧ Below w.heap.size w w' := by
  have HJN : Hid (Jn f p m l S I H sd Be) := J
  have HLW : Hid (Lw single f S I) := L
  have HRF : Hid (Rf f S P E G I Q) := R
  have TB : Hid (Tab w) := hT
  have HDN : Hid (DN w true q n c e x) := h
  have hlt := J.jm.pm.fm.lt
  have hle := J.jm.pm.fm.le
  have hps := J.jm.pm.fm.pos
  have hlo := J.jm.pm.lo
  have hp := J.jm.pm.hp
  have hst := J.jm.pm.st (I - 1) (by omega)
  have hx : x < 0 := of_decide_eq_true h.zn.sg.symm
  obtain ⟨k, hk⟩ : ∃ k, k = 0 := ⟨_, rfl⟩
  have hkI : k < I := by omega
  have hkS : k % S = k := Nat.mod_eq_of_lt (by omega)
  obtain ⟨mn, hmn⟩ : ∃ mn, mn = 2 * (k - (k / H - 1) * H) + 1 := ⟨_, rfl⟩
  obtain ⟨ex, hex⟩ : ∃ ex : Int, ex = l + ((k / H - 1 : Nat) : Int) - 1 := ⟨_, rfl⟩
  have hstk := J.jm.pm.st k hkI
  have HKB : Hid (k < 2 * S ∧ k % S < I ∧ mn = 2 * (k % S - (k % S / H - 1) * H) + 1 ∧ ex = l + ((k % S / H - 1 : Nat) : Int) - 1 ∧ decide (S ≤ k) = false) := by rw [hkS]; exact ⟨by omega, by omega, hmn, hex, decide_eq_false (by omega)⟩
  have HMD : Hid (∀ w, Tab w → Calls Tryd.prog 33 #[.int .i64 f, .int .u64 0] w fun en w' => MakeP w.heap.size w' en (iv false mn) ex ∧ Below w.heap.size w w') := by
    intro w hT
    have := mid_ok J.jm.pm k mn ex HKB.out.1 HKB.out.2.1 HKB.out.2.2.1 HKB.out.2.2.2.1 w hT
    rw [HKB.out.2.2.2.2] at this
    rw [hk] at this
    exact this
  have HF : Hid (DFm (iv false mn) ex) := .inr ⟨by rw [iv_f, hmn]; omega, by omega, by omega⟩
  have hdv : dv (iv false mn) ex = dv (hv H k : Int) (l - 1) := by rw [iv_f, hmn, hex]; exact mid_dv k (by omega)
  obtain ⟨y, hy⟩ : ∃ y : Int, y = -x := ⟨_, rfl⟩
  have hya : dv y e = dv (x.natAbs : Int) e := by rw [hy]; congr 1; omega
  obtain ⟨cc, hcc⟩ : ∃ cc, cc = cmpI (dv y e) (dv (iv false mn) ex) := ⟨_, rfl⟩
  have HCC : Hid (cmpI (dv y e) (dv (iv false mn) ex) = cc) := hcc.symm
  have hle2 : dv y e ≤ dv (iv false mn) ex := by rw [hya, hdv, hk]; exact hR.none (by omega)
  have kc1 : decide (cc ≤ 0) = true := by rw [hcc]; unfold cmpI; by_cases a : dv y e < dv (iv false mn) ex; (· rw [if_pos a]; rfl); rw [if_neg a, if_pos (by omega)]; rfl
  obtain ⟨bb, hbb⟩ : ∃ bb, bb = S + 0 := ⟨_, rfl⟩
  have kx : bits BinOp.xor IntKind.u64 (bb : Int) (S : Int) = ((0 : Nat) : Int) := by
    rw [L.xr bb (by omega)]
    unfold xsS
    rw [if_pos (by omega)]
    congr 1
    omega
  have HNG : Hid (y = -x) := hy
  rw [← hbb]
  clear J L R h hT hlt hle hps hlo hp hst hx hk hkI hkS hmn hex hstk hdv hya hcc hle2 hR hy hbb
  go_enter Tryd.func16, Tryd.ntmps16
  go_wp2_with fail
  obtain ⟨W0, hW0⟩ : ∃ W0, W0 = (w.alloc (.cells #[.bool true, .slice q n c, .int .i64 e] 26)) := ⟨_, rfl⟩
  have Xd : Hid (B3q W0 (w.heap.size) (.bool true) (.slice q n c) (.int .i64 e)) := by rw [hW0]; exact ⟨by go_simp, by go_simp, by go_simp, by go_simp, by go_simp, by go_simp⟩
  have hb0 : Below w.heap.size w W0 := by rw [hW0]; exact below1 w _
  rw [← hW0]
  clear hW0
  have hbw : Below w.heap.size w w := Below.refl _ _
  obtain ⟨gd, hgd⟩ : ∃ g, g = w.heap.size := ⟨_, rfl⟩
  have HGd : Hid (w.heap.size ≤ gd) := by rw [hgd]; show _ ≤ _; omega
  rw [← hgd] at Xd
  try rw [← hgd]
  clear hgd
  replace hbw := Below.on hbw hb0
  clear hb0
  have HGD0 : Hid (gd < W0.heap.size) := Xd.out.lt
  refine (dneg (HDN.out.below hbw)).mono ?_
  rintro e2 v1 ⟨v, rfl, hv, hf, hb1⟩
  obtain ⟨s1, p1, m1, rfl, hd1⟩ := DO.of hv hf
  rw [← HNG.out] at hd1
  clear hv hf
  replace Xd : Hid _ := Xd.out.below hb1
  replace hbw := Below.on hbw hb1
  clear hb1
  have D1 : Hid (DO W0.heap.size v1 s1 p1 m1 e y) := hd1
  clear hd1
  obtain ⟨cd0, cd1, cd2, fd0, fd1, fd2⟩ := Xd.out
  have hned : gd < v1.heap.size := World.block_lt_of_cell? v1 _ cd0
  go_wp2_with fail
  clear cd0 cd1 cd2 fd0 fd1 fd2 hned
  have HDn : Hid (gd ≠ v1.heap.size) := Nat.ne_of_lt Xd.out.lt
  have Xn0 : Hid (B3q (v1.alloc (.cells #[.bool s1, .slice p1 m1 m1, .int .i64 e] 26)) v1.heap.size (.bool s1) (.slice p1 m1 m1) (.int .i64 e)) := B3q.new v1 _ _ _ _
  have hbn : Below v1.heap.size v1 (v1.alloc (.cells #[.bool s1, .slice p1 m1 m1, .int .i64 e] 26)) := below1 v1 _
  generalize v1.alloc (.cells #[.bool s1, .slice p1 m1 m1, .int .i64 e] 26) = Wn at *
  have HGn : Hid (w.heap.size ≤ v1.heap.size) := hbw.size
  replace Xd : Hid _ := Xd.out.below hbn
  replace D1 : Hid (DO W0.heap.size Wn s1 p1 m1 e y) := D1.out.below hbn
  replace hbw := Below.on hbw hbn
  clear hbn
  generalize v1.heap.size = gn at *
  have Xn := Xn0
  clear Xn0
  obtain ⟨W5, hW5⟩ : ∃ W1, W1 = Wn.drew := ⟨_, rfl⟩
  have hbd : Below Wn.heap.size Wn W5 := by rw [hW5]; exact bDrew1 (Below.refl _ _)
  replace Xd : Hid _ := Xd.out.below hbd
  replace Xn : Hid _ := Xn.out.below hbd
  replace D1 : Hid (DO W0.heap.size W5 s1 p1 m1 e y) := D1.out.below hbd
  replace hbw := Below.on hbw hbd
  clear hbd
  have HJ : Hid ((fun W' : World => W'.cell? ⟨gn, 0, none⟩ = some (.bool s1) ∧ W'.cell? ⟨gn, 1, none⟩ = some (.slice p1 m1 m1) ∧ W'.cell? ⟨gn, 2, none⟩ = some (.int .i64 e)) W5) := ⟨Xn.out.c0, Xn.out.c1, Xn.out.c2⟩
  refine wp_region_J (fun W' => W'.cell? ⟨gn, 0, none⟩ = some (.bool s1) ∧ W'.cell? ⟨gn, 1, none⟩ = some (.slice p1 m1 m1) ∧ W'.cell? ⟨gn, 2, none⟩ = some (.int .i64 e)) (by kernel_rfl) ?_
  rw [← hW5]
  clear hW5
  refine wpJ_take (i := 0) (v := ?v1x0) rfl (by kernel_rfl) (by kernel_rfl) (by kernel_rfl) (fun _ _ _ h => h) (by kernel_rfl) ?hy1x0 HJ.out ?rest1x0
  case hy1x0 => (intro W' hJ; obtain ⟨j0, j1, j2⟩ := hJ; go_simp; first | done | with_reducible rfl)
  refine wpJ_take (i := 1) (v := ?v2x1) rfl (by kernel_rfl) (by kernel_rfl) (by kernel_rfl) (fun _ _ _ h => h) (by kernel_rfl) ?hy2x1 HJ.out ?rest2x1
  case hy2x1 => (intro W' hJ; obtain ⟨j0, j1, j2⟩ := hJ; go_simp; first | done | with_reducible rfl)
  refine wpJ_take (i := 2) (v := ?v3x2) rfl (by kernel_rfl) (by kernel_rfl) (by kernel_rfl) (fun _ _ _ h => h) (by kernel_rfl) ?hy3x2 HJ.out ?rest3x2
  case hy3x2 => (intro W' hJ; obtain ⟨j0, j1, j2⟩ := hJ; go_simp; first | done | with_reducible rfl)
  refine wpJ_one (i := 3) (by kernel_rfl) rfl (by kernel_rfl) (fun KJ hK => ?_)
  go_simp
  refine (HLW.out.sg _).mono ?_
  rintro e v2 ⟨rfl, hb2⟩
  replace Xd : Hid _ := Xd.out.below hb2
  replace Xn : Hid _ := Xn.out.below hb2
  replace D1 : Hid (DO W0.heap.size v2 s1 p1 m1 e y) := D1.out.below hb2
  replace hbw := Below.on hbw hb2
  clear hb2
  clear HJ
  have HJ : Hid ((fun W' : World => W'.cell? ⟨gn, 0, none⟩ = some (.bool s1) ∧ W'.cell? ⟨gn, 1, none⟩ = some (.slice p1 m1 m1) ∧ W'.cell? ⟨gn, 2, none⟩ = some (.int .i64 e)) v2) := ⟨Xn.out.c0, Xn.out.c1, Xn.out.c2⟩
  refine hK _ _ HJ.out ?_
  clear hK
  refine wpJ_take (i := 4) (v := ?v4x4) rfl (by kernel_rfl) (by kernel_rfl) (by kernel_rfl) (fun _ _ _ h => h) (by kernel_rfl) ?hy4x4 HJ.out ?rest4x4
  case hy4x4 => (intro W' hJ; obtain ⟨j0, j1, j2⟩ := hJ; go_simp; first | done | with_reducible rfl)
  obtain ⟨cd0, cd1, cd2, fd0, fd1, fd2⟩ := Xd.out
  have hned : gd < v2.heap.size := World.block_lt_of_cell? v2 _ cd0
  obtain ⟨cn0, cn1, cn2, fn0, fn1, fn2⟩ := Xn.out
  have hnen : gn < v2.heap.size := World.block_lt_of_cell? v2 _ cn0
  have qa := HDn.out
  have qb : gn ≠ gd := fun h => qa h.symm
  refine wpJ_one (i := 5) (by kernel_rfl) rfl (by kernel_rfl) (fun KJ hK => ?_)
  go_simp
  have HJ2 : Hid ((fun W' : World => W'.cell? ⟨gn, 0, none⟩ = some (.bool s1) ∧ W'.cell? ⟨gn, 1, none⟩ = some (.slice p1 m1 m1) ∧ W'.cell? ⟨gn, 2, none⟩ = some (.int .i64 e)) (((v2.setCell ⟨gd, 0, none⟩ (.bool s1)).setCell ⟨gd, 1, none⟩ (.slice p1 m1 m1)).setCell ⟨gd, 2, none⟩ (.int .i64 e))) := ⟨by go_simp, by go_simp, by go_simp⟩
  refine hK _ _ HJ2.out ?_
  clear hK HJ
  have HJ := HJ2
  clear HJ2
  have Xd2 : Hid (B3q (((v2.setCell ⟨gd, 0, none⟩ (.bool s1)).setCell ⟨gd, 1, none⟩ (.slice p1 m1 m1)).setCell ⟨gd, 2, none⟩ (.int .i64 e)) gd (.bool s1) (.slice p1 m1 m1) (.int .i64 e)) := ⟨by go_simp, by go_simp, by go_simp, by go_simp, by go_simp, by go_simp⟩
  have D12 : Hid (DN (((v2.setCell ⟨gd, 0, none⟩ (.bool s1)).setCell ⟨gd, 1, none⟩ (.slice p1 m1 m1)).setCell ⟨gd, 2, none⟩ (.int .i64 e)) s1 p1 m1 m1 e y) := (((D1.out.set _ _ _ HGD0.out).set _ _ _ HGD0.out).set _ _ _ HGD0.out).dn
  have hbw2 : Below w.heap.size w (((v2.setCell ⟨gd, 0, none⟩ (.bool s1)).setCell ⟨gd, 1, none⟩ (.slice p1 m1 m1)).setCell ⟨gd, 2, none⟩ (.int .i64 e)) := bSet (bSet (bSet hbw _ _ _ HGd.out) _ _ _ HGd.out) _ _ _ HGd.out
  clear cd0 cd1 cd2 fd0 fd1 fd2 hned
  clear cn0 cn1 cn2 fn0 fn1 fn2 hnen
  clear qa qb hbw D1 Xd Xn
  generalize (((v2.setCell ⟨gd, 0, none⟩ (.bool s1)).setCell ⟨gd, 1, none⟩ (.slice p1 m1 m1)).setCell ⟨gd, 2, none⟩ (.int .i64 e)) = Wd at *
  have Xd := Xd2
  have D1 := D12
  have hbw := hbw2
  clear Xd2 D12 hbw2 HGD0
  refine wpJ_take (i := 6) (v := ?v5x6) rfl (by kernel_rfl) (by kernel_rfl) (by kernel_rfl) (fun _ _ _ h => h) (by kernel_rfl) ?hy5x6 HJ.out ?rest5x6
  case hy5x6 => (intro W' hJ; go_simp; first | done | with_reducible rfl)
  refine wpJ_done (by kernel_rfl) ?_ _
  clear HJ
  obtain ⟨cd0, cd1, cd2, fd0, fd1, fd2⟩ := Xd.out
  have hned : gd < Wd.heap.size := World.block_lt_of_cell? Wd _ cd0
  go_wp2_with fail
  clear cd0 cd1 cd2 fd0 fd1 fd2 hned
  refine (HRF.out.of _).mono ?_
  rintro e v4 ⟨rfl, hb4⟩
  replace Xd : Hid _ := Xd.out.below hb4
  replace D1 : Hid _ := D1.out.below hb4
  replace hbw := Below.on hbw hb4
  clear hb4
  obtain ⟨cd0, cd1, cd2, fd0, fd1, fd2⟩ := Xd.out
  have hned : gd < v4.heap.size := World.block_lt_of_cell? v4 _ cd0
  go_wp2_with fail
  clear cd0 cd1 cd2 fd0 fd1 fd2 hned
  have Xk0 : Hid (B6q (v4.alloc (.cells #[U S, .int .i64 P, .int .i64 E, .int .i64 G, U I, U Q] 71)) v4.heap.size (U S) (.int .i64 P) (.int .i64 E) (.int .i64 G) (U I) (U Q)) := B6q.new v4 _ _ _ _ _ _ _
  have hbn : Below v4.heap.size v4 (v4.alloc (.cells #[U S, .int .i64 P, .int .i64 E, .int .i64 G, U I, U Q] 71)) := below1 v4 _
  generalize v4.alloc (.cells #[U S, .int .i64 P, .int .i64 E, .int .i64 G, U I, U Q] 71) = Wk at *
  have HGk : Hid (w.heap.size ≤ v4.heap.size) := hbw.size
  replace Xd : Hid _ := Xd.out.below hbn
  replace D1 : Hid _ := D1.out.below hbn
  replace hbw := Below.on hbw hbn
  clear hbn
  generalize v4.heap.size = gk at *
  have Xk := Xk0
  clear Xk0
  refine (HMD.out _ (TB.out.below hbw)).mono ?_
  rintro e2 v5 ⟨hv, hb5⟩
  obtain ⟨v, rfl, hv2⟩ := hv.form (HF.out) (rfl)
  obtain ⟨s5, p5, m5, rfl, hd5⟩ := hv2.dn (HF.out)
  clear hv hv2
  replace Xd : Hid _ := Xd.out.below hb5
  replace Xk : Hid _ := Xk.out.below hb5
  replace D1 : Hid _ := D1.out.below hb5
  replace hbw := Below.on hbw hb5
  clear hb5
  have D5 : Hid (DN v5 s5 p5 m5 m5 (ex) (iv false mn)) := hd5
  clear hd5
  obtain ⟨cd0, cd1, cd2, fd0, fd1, fd2⟩ := Xd.out
  have hned : gd < v5.heap.size := World.block_lt_of_cell? v5 _ cd0
  obtain ⟨ck0, ck1, ck2, ck3, ck4, ck5, fk0, fk1, fk2, fk3, fk4, fk5⟩ := Xk.out
  have hnek : gk < v5.heap.size := World.block_lt_of_cell? v5 _ ck0
  go_wp2_with fail
  clear cd0 cd1 cd2 fd0 fd1 fd2 hned
  clear ck0 ck1 ck2 ck3 ck4 ck5 fk0 fk1 fk2 fk3 fk4 fk5 hnek
  have Xh0 : Hid (B3q (v5.alloc (.cells #[.bool s5, .slice p5 m5 m5, .int .i64 (ex)] 26)) v5.heap.size (.bool s5) (.slice p5 m5 m5) (.int .i64 (ex))) := B3q.new v5 _ _ _ _
  have hbn : Below v5.heap.size v5 (v5.alloc (.cells #[.bool s5, .slice p5 m5 m5, .int .i64 (ex)] 26)) := below1 v5 _
  generalize v5.alloc (.cells #[.bool s5, .slice p5 m5 m5, .int .i64 (ex)] 26) = Wh at *
  have HGh : Hid (w.heap.size ≤ v5.heap.size) := hbw.size
  replace Xd : Hid _ := Xd.out.below hbn
  replace Xk : Hid _ := Xk.out.below hbn
  replace D1 : Hid _ := D1.out.below hbn
  replace D5 : Hid _ := D5.out.below hbn
  replace hbw := Below.on hbw hbn
  clear hbn
  generalize v5.heap.size = gh at *
  have Xh := Xh0
  clear Xh0
  refine (at8 D1.out D5.out).mono ?_
  rintro e v6 ⟨rfl, hb6⟩
  rw [HCC.out]
  replace Xd : Hid _ := Xd.out.below hb6
  replace Xk : Hid _ := Xk.out.below hb6
  replace Xh : Hid _ := Xh.out.below hb6
  replace D1 : Hid _ := D1.out.below hb6
  replace D5 : Hid _ := D5.out.below hb6
  replace hbw := Below.on hbw hb6
  clear hb6
  obtain ⟨cd0, cd1, cd2, fd0, fd1, fd2⟩ := Xd.out
  have hned : gd < v6.heap.size := World.block_lt_of_cell? v6 _ cd0
  obtain ⟨ch0, ch1, ch2, fh0, fh1, fh2⟩ := Xh.out
  have hneh : gh < v6.heap.size := World.block_lt_of_cell? v6 _ ch0
  go_wp2_with fail
  clear cd0 cd1 cd2 fd0 fd1 fd2 hned
  clear ch0 ch1 ch2 fh0 fh1 fh2 hneh
  go_ret
  exact ⟨rfl, hbw⟩
set_option maxRecDepth 20000 in
set_option maxHeartbeats 8000000 in
theorem beyond_1i {single : Bool} {f p m l : Int} {S I H sd : Nat} {Be : Int} (J : Jn f p m l S I H sd Be) (L : Lw single f S I) {P E G : Int} {Q : Nat} (R : Rf f S P E G I Q) {q : Option Addr} {n c : Nat} {w : World} {x e : Int} (h : DN w true q n c e x) (hT : Tab w) (hR : RNz H l I (dv x.natAbs e) I) :
    Calls Tryd.prog 16 #[.int .i64 f, DV true q n c e, U (S + I)] w fun en w' => en = .returned (.bool true) ∧ Below w.heap.size w w' := by
  have HJN : Hid (Jn f p m l S I H sd Be) := J
  have HLW : Hid (Lw single f S I) := L
  have HRF : Hid (Rf f S P E G I Q) := R
  have TB : Hid (Tab w) := hT
  have HDN : Hid (DN w true q n c e x) := h
  have hlt := J.jm.pm.fm.lt
  have hle := J.jm.pm.fm.le
  have hps := J.jm.pm.fm.pos
  have hlo := J.jm.pm.lo
  have hp := J.jm.pm.hp
  have hst := J.jm.pm.st (I - 1) (by omega)
  have hx : x < 0 := of_decide_eq_true h.zn.sg.symm
  obtain ⟨k, hk⟩ : ∃ k, k = (I - 1) := ⟨_, rfl⟩
  have hkI : k < I := by omega
  have hkS : k % S = k := Nat.mod_eq_of_lt (by omega)
  obtain ⟨mn, hmn⟩ : ∃ mn, mn = 2 * (k - (k / H - 1) * H) + 1 := ⟨_, rfl⟩
  obtain ⟨ex, hex⟩ : ∃ ex : Int, ex = l + ((k / H - 1 : Nat) : Int) - 1 := ⟨_, rfl⟩
  have hstk := J.jm.pm.st k hkI
  have HKB : Hid (k < 2 * S ∧ k % S < I ∧ mn = 2 * (k % S - (k % S / H - 1) * H) + 1 ∧ ex = l + ((k % S / H - 1 : Nat) : Int) - 1 ∧ decide (S ≤ k) = false) := by rw [hkS]; exact ⟨by omega, by omega, hmn, hex, decide_eq_false (by omega)⟩
  have HMD : Hid (∀ w, Tab w → Calls Tryd.prog 33 #[.int .i64 f, U k] w fun en w' => MakeP w.heap.size w' en (iv false mn) ex ∧ Below w.heap.size w w') := by
    intro w hT
    have := mid_ok J.jm.pm k mn ex HKB.out.1 HKB.out.2.1 HKB.out.2.2.1 HKB.out.2.2.2.1 w hT
    rw [HKB.out.2.2.2.2] at this
    skip
    exact this
  have HF : Hid (DFm (iv false mn) ex) := .inr ⟨by rw [iv_f, hmn]; omega, by omega, by omega⟩
  have hdv : dv (iv false mn) ex = dv (hv H k : Int) (l - 1) := by rw [iv_f, hmn, hex]; exact mid_dv k (by omega)
  obtain ⟨y, hy⟩ : ∃ y : Int, y = -x := ⟨_, rfl⟩
  have hya : dv y e = dv (x.natAbs : Int) e := by rw [hy]; congr 1; omega
  obtain ⟨cc, hcc⟩ : ∃ cc, cc = cmpI (dv y e) (dv (iv false mn) ex) := ⟨_, rfl⟩
  have HCC : Hid (cmpI (dv y e) (dv (iv false mn) ex) = cc) := hcc.symm
  have hle2 : dv (iv false mn) ex ≤ dv y e := by rw [hya, hdv, hk]; exact hR.all (by omega)
  have hc3 : cc = 0 ∨ cc = 1 := by rw [hcc]; unfold cmpI; rw [if_neg (by omega)]; split; (· exact .inl rfl); exact .inr rfl
  have kc1 : decide (0 ≤ cc) = true := decide_eq_true (by omega)
  have kc3 : decide (cc ≤ 1) = true := decide_eq_true (by omega)
  have kI : IntKind.u64.wrap ((I : Int) - 1) = (k : Int) := by rw [IntKind.wrap_u64]; omega
  have kI0 : ((I : Int) == 0) = false := by simp; omega
  clear hc3
  obtain ⟨bb, hbb⟩ : ∃ bb, bb = S + I := ⟨_, rfl⟩
  have kx : bits BinOp.xor IntKind.u64 (bb : Int) (S : Int) = ((I : Nat) : Int) := by
    rw [L.xr bb (by omega)]
    unfold xsS
    rw [if_pos (by omega)]
    congr 1
    omega
  have HNG : Hid (y = -x) := hy
  rw [← hbb]
  clear J L R h hT hlt hle hps hlo hp hst hx hk hkI hkS hmn hex hstk hdv hya hcc hle2 hR hy hbb
  go_enter Tryd.func16, Tryd.ntmps16
  go_wp2_with fail
  obtain ⟨W0, hW0⟩ : ∃ W0, W0 = (w.alloc (.cells #[.bool true, .slice q n c, .int .i64 e] 26)) := ⟨_, rfl⟩
  have Xd : Hid (B3q W0 (w.heap.size) (.bool true) (.slice q n c) (.int .i64 e)) := by rw [hW0]; exact ⟨by go_simp, by go_simp, by go_simp, by go_simp, by go_simp, by go_simp⟩
  have hb0 : Below w.heap.size w W0 := by rw [hW0]; exact below1 w _
  rw [← hW0]
  clear hW0
  have hbw : Below w.heap.size w w := Below.refl _ _
  obtain ⟨gd, hgd⟩ : ∃ g, g = w.heap.size := ⟨_, rfl⟩
  have HGd : Hid (w.heap.size ≤ gd) := by rw [hgd]; show _ ≤ _; omega
  rw [← hgd] at Xd
  try rw [← hgd]
  clear hgd
  replace hbw := Below.on hbw hb0
  clear hb0
  have HGD0 : Hid (gd < W0.heap.size) := Xd.out.lt
  refine (dneg (HDN.out.below hbw)).mono ?_
  rintro e2 v1 ⟨v, rfl, hv, hf, hb1⟩
  obtain ⟨s1, p1, m1, rfl, hd1⟩ := DO.of hv hf
  rw [← HNG.out] at hd1
  clear hv hf
  replace Xd : Hid _ := Xd.out.below hb1
  replace hbw := Below.on hbw hb1
  clear hb1
  have D1 : Hid (DO W0.heap.size v1 s1 p1 m1 e y) := hd1
  clear hd1
  obtain ⟨cd0, cd1, cd2, fd0, fd1, fd2⟩ := Xd.out
  have hned : gd < v1.heap.size := World.block_lt_of_cell? v1 _ cd0
  go_wp2_with fail
  clear cd0 cd1 cd2 fd0 fd1 fd2 hned
  have HDn : Hid (gd ≠ v1.heap.size) := Nat.ne_of_lt Xd.out.lt
  have Xn0 : Hid (B3q (v1.alloc (.cells #[.bool s1, .slice p1 m1 m1, .int .i64 e] 26)) v1.heap.size (.bool s1) (.slice p1 m1 m1) (.int .i64 e)) := B3q.new v1 _ _ _ _
  have hbn : Below v1.heap.size v1 (v1.alloc (.cells #[.bool s1, .slice p1 m1 m1, .int .i64 e] 26)) := below1 v1 _
  generalize v1.alloc (.cells #[.bool s1, .slice p1 m1 m1, .int .i64 e] 26) = Wn at *
  have HGn : Hid (w.heap.size ≤ v1.heap.size) := hbw.size
  replace Xd : Hid _ := Xd.out.below hbn
  replace D1 : Hid (DO W0.heap.size Wn s1 p1 m1 e y) := D1.out.below hbn
  replace hbw := Below.on hbw hbn
  clear hbn
  generalize v1.heap.size = gn at *
  have Xn := Xn0
  clear Xn0
  obtain ⟨W5, hW5⟩ : ∃ W1, W1 = Wn.drew := ⟨_, rfl⟩
  have hbd : Below Wn.heap.size Wn W5 := by rw [hW5]; exact bDrew1 (Below.refl _ _)
  replace Xd : Hid _ := Xd.out.below hbd
  replace Xn : Hid _ := Xn.out.below hbd
  replace D1 : Hid (DO W0.heap.size W5 s1 p1 m1 e y) := D1.out.below hbd
  replace hbw := Below.on hbw hbd
  clear hbd
  have HJ : Hid ((fun W' : World => W'.cell? ⟨gn, 0, none⟩ = some (.bool s1) ∧ W'.cell? ⟨gn, 1, none⟩ = some (.slice p1 m1 m1) ∧ W'.cell? ⟨gn, 2, none⟩ = some (.int .i64 e)) W5) := ⟨Xn.out.c0, Xn.out.c1, Xn.out.c2⟩
  refine wp_region_J (fun W' => W'.cell? ⟨gn, 0, none⟩ = some (.bool s1) ∧ W'.cell? ⟨gn, 1, none⟩ = some (.slice p1 m1 m1) ∧ W'.cell? ⟨gn, 2, none⟩ = some (.int .i64 e)) (by kernel_rfl) ?_
  rw [← hW5]
  clear hW5
  refine wpJ_take (i := 0) (v := ?v6x0) rfl (by kernel_rfl) (by kernel_rfl) (by kernel_rfl) (fun _ _ _ h => h) (by kernel_rfl) ?hy6x0 HJ.out ?rest6x0
  case hy6x0 => (intro W' hJ; obtain ⟨j0, j1, j2⟩ := hJ; go_simp; first | done | with_reducible rfl)
  refine wpJ_take (i := 1) (v := ?v7x1) rfl (by kernel_rfl) (by kernel_rfl) (by kernel_rfl) (fun _ _ _ h => h) (by kernel_rfl) ?hy7x1 HJ.out ?rest7x1
  case hy7x1 => (intro W' hJ; obtain ⟨j0, j1, j2⟩ := hJ; go_simp; first | done | with_reducible rfl)
  refine wpJ_take (i := 2) (v := ?v8x2) rfl (by kernel_rfl) (by kernel_rfl) (by kernel_rfl) (fun _ _ _ h => h) (by kernel_rfl) ?hy8x2 HJ.out ?rest8x2
  case hy8x2 => (intro W' hJ; obtain ⟨j0, j1, j2⟩ := hJ; go_simp; first | done | with_reducible rfl)
  refine wpJ_one (i := 3) (by kernel_rfl) rfl (by kernel_rfl) (fun KJ hK => ?_)
  go_simp
  refine (HLW.out.sg _).mono ?_
  rintro e v2 ⟨rfl, hb2⟩
  replace Xd : Hid _ := Xd.out.below hb2
  replace Xn : Hid _ := Xn.out.below hb2
  replace D1 : Hid (DO W0.heap.size v2 s1 p1 m1 e y) := D1.out.below hb2
  replace hbw := Below.on hbw hb2
  clear hb2
  clear HJ
  have HJ : Hid ((fun W' : World => W'.cell? ⟨gn, 0, none⟩ = some (.bool s1) ∧ W'.cell? ⟨gn, 1, none⟩ = some (.slice p1 m1 m1) ∧ W'.cell? ⟨gn, 2, none⟩ = some (.int .i64 e)) v2) := ⟨Xn.out.c0, Xn.out.c1, Xn.out.c2⟩
  refine hK _ _ HJ.out ?_
  clear hK
  refine wpJ_take (i := 4) (v := ?v9x4) rfl (by kernel_rfl) (by kernel_rfl) (by kernel_rfl) (fun _ _ _ h => h) (by kernel_rfl) ?hy9x4 HJ.out ?rest9x4
  case hy9x4 => (intro W' hJ; obtain ⟨j0, j1, j2⟩ := hJ; go_simp; first | done | with_reducible rfl)
  obtain ⟨cd0, cd1, cd2, fd0, fd1, fd2⟩ := Xd.out
  have hned : gd < v2.heap.size := World.block_lt_of_cell? v2 _ cd0
  obtain ⟨cn0, cn1, cn2, fn0, fn1, fn2⟩ := Xn.out
  have hnen : gn < v2.heap.size := World.block_lt_of_cell? v2 _ cn0
  have qa := HDn.out
  have qb : gn ≠ gd := fun h => qa h.symm
  refine wpJ_one (i := 5) (by kernel_rfl) rfl (by kernel_rfl) (fun KJ hK => ?_)
  go_simp
  have HJ2 : Hid ((fun W' : World => W'.cell? ⟨gn, 0, none⟩ = some (.bool s1) ∧ W'.cell? ⟨gn, 1, none⟩ = some (.slice p1 m1 m1) ∧ W'.cell? ⟨gn, 2, none⟩ = some (.int .i64 e)) (((v2.setCell ⟨gd, 0, none⟩ (.bool s1)).setCell ⟨gd, 1, none⟩ (.slice p1 m1 m1)).setCell ⟨gd, 2, none⟩ (.int .i64 e))) := ⟨by go_simp, by go_simp, by go_simp⟩
  refine hK _ _ HJ2.out ?_
  clear hK HJ
  have HJ := HJ2
  clear HJ2
  have Xd2 : Hid (B3q (((v2.setCell ⟨gd, 0, none⟩ (.bool s1)).setCell ⟨gd, 1, none⟩ (.slice p1 m1 m1)).setCell ⟨gd, 2, none⟩ (.int .i64 e)) gd (.bool s1) (.slice p1 m1 m1) (.int .i64 e)) := ⟨by go_simp, by go_simp, by go_simp, by go_simp, by go_simp, by go_simp⟩
  have D12 : Hid (DN (((v2.setCell ⟨gd, 0, none⟩ (.bool s1)).setCell ⟨gd, 1, none⟩ (.slice p1 m1 m1)).setCell ⟨gd, 2, none⟩ (.int .i64 e)) s1 p1 m1 m1 e y) := (((D1.out.set _ _ _ HGD0.out).set _ _ _ HGD0.out).set _ _ _ HGD0.out).dn
  have hbw2 : Below w.heap.size w (((v2.setCell ⟨gd, 0, none⟩ (.bool s1)).setCell ⟨gd, 1, none⟩ (.slice p1 m1 m1)).setCell ⟨gd, 2, none⟩ (.int .i64 e)) := bSet (bSet (bSet hbw _ _ _ HGd.out) _ _ _ HGd.out) _ _ _ HGd.out
  clear cd0 cd1 cd2 fd0 fd1 fd2 hned
  clear cn0 cn1 cn2 fn0 fn1 fn2 hnen
  clear qa qb hbw D1 Xd Xn
  generalize (((v2.setCell ⟨gd, 0, none⟩ (.bool s1)).setCell ⟨gd, 1, none⟩ (.slice p1 m1 m1)).setCell ⟨gd, 2, none⟩ (.int .i64 e)) = Wd at *
  have Xd := Xd2
  have D1 := D12
  have hbw := hbw2
  clear Xd2 D12 hbw2 HGD0
  refine wpJ_take (i := 6) (v := ?v10x6) rfl (by kernel_rfl) (by kernel_rfl) (by kernel_rfl) (fun _ _ _ h => h) (by kernel_rfl) ?hy10x6 HJ.out ?rest10x6
  case hy10x6 => (intro W' hJ; go_simp; first | done | with_reducible rfl)
  refine wpJ_done (by kernel_rfl) ?_ _
  clear HJ
  obtain ⟨cd0, cd1, cd2, fd0, fd1, fd2⟩ := Xd.out
  have hned : gd < Wd.heap.size := World.block_lt_of_cell? Wd _ cd0
  go_wp2_with fail
  clear cd0 cd1 cd2 fd0 fd1 fd2 hned
  refine (HRF.out.of _).mono ?_
  rintro e v4 ⟨rfl, hb4⟩
  replace Xd : Hid _ := Xd.out.below hb4
  replace D1 : Hid _ := D1.out.below hb4
  replace hbw := Below.on hbw hb4
  clear hb4
  obtain ⟨cd0, cd1, cd2, fd0, fd1, fd2⟩ := Xd.out
  have hned : gd < v4.heap.size := World.block_lt_of_cell? v4 _ cd0
  go_wp2_with fail
  clear cd0 cd1 cd2 fd0 fd1 fd2 hned
  have Xk0 : Hid (B6q (v4.alloc (.cells #[U S, .int .i64 P, .int .i64 E, .int .i64 G, U I, U Q] 71)) v4.heap.size (U S) (.int .i64 P) (.int .i64 E) (.int .i64 G) (U I) (U Q)) := B6q.new v4 _ _ _ _ _ _ _
  have hbn : Below v4.heap.size v4 (v4.alloc (.cells #[U S, .int .i64 P, .int .i64 E, .int .i64 G, U I, U Q] 71)) := below1 v4 _
  generalize v4.alloc (.cells #[U S, .int .i64 P, .int .i64 E, .int .i64 G, U I, U Q] 71) = Wk at *
  have HGk : Hid (w.heap.size ≤ v4.heap.size) := hbw.size
  replace Xd : Hid _ := Xd.out.below hbn
  replace D1 : Hid _ := D1.out.below hbn
  replace hbw := Below.on hbw hbn
  clear hbn
  generalize v4.heap.size = gk at *
  have Xk := Xk0
  clear Xk0
  refine (HMD.out _ (TB.out.below hbw)).mono ?_
  rintro e2 v5 ⟨hv, hb5⟩
  obtain ⟨v, rfl, hv2⟩ := hv.form (HF.out) (rfl)
  obtain ⟨s5, p5, m5, rfl, hd5⟩ := hv2.dn (HF.out)
  clear hv hv2
  replace Xd : Hid _ := Xd.out.below hb5
  replace Xk : Hid _ := Xk.out.below hb5
  replace D1 : Hid _ := D1.out.below hb5
  replace hbw := Below.on hbw hb5
  clear hb5
  have D5 : Hid (DN v5 s5 p5 m5 m5 (ex) (iv false mn)) := hd5
  clear hd5
  obtain ⟨cd0, cd1, cd2, fd0, fd1, fd2⟩ := Xd.out
  have hned : gd < v5.heap.size := World.block_lt_of_cell? v5 _ cd0
  obtain ⟨ck0, ck1, ck2, ck3, ck4, ck5, fk0, fk1, fk2, fk3, fk4, fk5⟩ := Xk.out
  have hnek : gk < v5.heap.size := World.block_lt_of_cell? v5 _ ck0
  go_wp2_with fail
  clear cd0 cd1 cd2 fd0 fd1 fd2 hned
  clear ck0 ck1 ck2 ck3 ck4 ck5 fk0 fk1 fk2 fk3 fk4 fk5 hnek
  have Xh0 : Hid (B3q (v5.alloc (.cells #[.bool s5, .slice p5 m5 m5, .int .i64 (ex)] 26)) v5.heap.size (.bool s5) (.slice p5 m5 m5) (.int .i64 (ex))) := B3q.new v5 _ _ _ _
  have hbn : Below v5.heap.size v5 (v5.alloc (.cells #[.bool s5, .slice p5 m5 m5, .int .i64 (ex)] 26)) := below1 v5 _
  generalize v5.alloc (.cells #[.bool s5, .slice p5 m5 m5, .int .i64 (ex)] 26) = Wh at *
  have HGh : Hid (w.heap.size ≤ v5.heap.size) := hbw.size
  replace Xd : Hid _ := Xd.out.below hbn
  replace Xk : Hid _ := Xk.out.below hbn
  replace D1 : Hid _ := D1.out.below hbn
  replace D5 : Hid _ := D5.out.below hbn
  replace hbw := Below.on hbw hbn
  clear hbn
  generalize v5.heap.size = gh at *
  have Xh := Xh0
  clear Xh0
  refine (at8 D1.out D5.out).mono ?_
  rintro e v6 ⟨rfl, hb6⟩
  rw [HCC.out]
  replace Xd : Hid _ := Xd.out.below hb6
  replace Xk : Hid _ := Xk.out.below hb6
  replace Xh : Hid _ := Xh.out.below hb6
  replace D1 : Hid _ := D1.out.below hb6
  replace D5 : Hid _ := D5.out.below hb6
  replace hbw := Below.on hbw hb6
  clear hb6
  obtain ⟨cd0, cd1, cd2, fd0, fd1, fd2⟩ := Xd.out
  have hned : gd < v6.heap.size := World.block_lt_of_cell? v6 _ cd0
  obtain ⟨ch0, ch1, ch2, fh0, fh1, fh2⟩ := Xh.out
  have hneh : gh < v6.heap.size := World.block_lt_of_cell? v6 _ ch0
  go_wp2_with fail
  clear cd0 cd1 cd2 fd0 fd1 fd2 hned
  clear ch0 ch1 ch2 fh0 fh1 fh2 hneh
  refine (at8 D1.out D5.out).mono ?_
  rintro e v7 ⟨rfl, hb7⟩
  rw [HCC.out]
  replace Xd : Hid _ := Xd.out.below hb7
  replace Xk : Hid _ := Xk.out.below hb7
  replace Xh : Hid _ := Xh.out.below hb7
  replace D1 : Hid _ := D1.out.below hb7
  replace D5 : Hid _ := D5.out.below hb7
  replace hbw := Below.on hbw hb7
  clear hb7
  go_wp2_with fail
  go_ret
  exact ⟨rfl, hbw⟩
end Go.Proofs.YtfkoilaobglddaaDoor

