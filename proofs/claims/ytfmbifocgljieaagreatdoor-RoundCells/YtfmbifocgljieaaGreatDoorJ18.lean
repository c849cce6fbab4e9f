import Derived.Test.YtfmbifocgljieaaGreatDoorJ17
import Derived.Test.YtfmbifocgljieaaGreatDoorJ14
import Derived.Test.YtfmbifocgljieaaGreatDoorJ12
import Derived.Test.YtfmbifocgljieaaGreatDoorJ16
import Derived.Deep.LoopGhost
import Derived.Test.YtfmbifocgljieaaGreatDoorJ13
import Derived.Test.YtfmbifocgljieaaGreatDoorJ11
import Derived.Test.YtfmbifocgljieaaGreatDoorJ10
import Derived.Test.YtfmbifocgljieaaGreatDoorJ9
namespace Go.Proofs.YtfmbifocgljieaaGreatDoor
open Go.RowKit Go.Shelf
set_option maxRecDepth 20000
set_option maxHeartbeats 0
theorem decide_x (f : Int) (h1 : f ≠ 32) (h2 : f ≠ 64) {pa pb : Option Addr} {na ca nb cb : Nat} {e g : Int} (s t : Bool) (w : World) :
    Calls Tryz.prog 10 #[.int .i64 f, SV s pa na ca e t pb nb cb g] w fun en w' => en = .returned (.tuple #[.int .u64 0, .bool false, .int .i64 1]) ∧ Below w.heap.size w w' := by
  have H : Hid (f ≠ 32 ∧ f ≠ 64) := ⟨h1, h2⟩
  clear h1 h2
  go_enter Tryz.func10, Tryz.ntmps10
  go_wp2_with fail
  obtain ⟨W0, hW0⟩ : ∃ W0, W0 = (w.alloc (.cells #[.bool s, .slice pa na ca, .int .i64 e, .bool t, .slice pb nb cb, .int .i64 g] 35)) := ⟨_, rfl⟩
  have Xa : Hid (B6q W0 (w.heap.size) (.bool s) (.slice pa na ca) (.int .i64 e) (.bool t) (.slice pb nb cb) (.int .i64 g)) := by rw [hW0]; exact ⟨by go_simp, by go_simp, by go_simp, by go_simp, by go_simp, by go_simp, by go_simp, by go_simp, by go_simp, by go_simp, by go_simp, by go_simp⟩
  have hb0 : Below w.heap.size w W0 := by rw [hW0]; exact below1 w _
  rw [← hW0]
  clear hW0
  have hbw : Below w.heap.size w w := Below.refl _ _
  obtain ⟨ga, hga⟩ : ∃ g, g = w.heap.size := ⟨_, rfl⟩
  have HGa : Hid (w.heap.size ≤ ga) := by rw [hga]; show _ ≤ _; omega
  rw [← hga] at Xa
  try rw [← hga]
  clear hga
  replace hbw := Below.on hbw hb0
  clear hb0
  refine (of_x f H.out.1 H.out.2 _).mono ?_
  rintro e v1 ⟨rfl, hb1⟩
  replace Xa : Hid _ := Xa.out.below hb1
  replace hbw := Below.on hbw hb1
  clear hb1
  obtain ⟨ca0, ca1, ca2, ca3, ca4, ca5, fa0, fa1, fa2, fa3, fa4, fa5⟩ := Xa.out
  have hnea : ga < v1.heap.size := World.block_lt_of_cell? v1 _ ca0
  go_wp2_with fail
  clear ca0 ca1 ca2 ca3 ca4 ca5 fa0 fa1 fa2 fa3 fa4 fa5 hnea
  refine bodyPost_ret (v := .tuple #[.int .u64 0, .bool false, .int .i64 1]) (by rw [results_t3 rfl]; go_simp) rfl ⟨rfl, ?_⟩
  first | exact hbw | exact Below.on hbw (below1 _ _)
theorem docdec_x (f : Int) (h1 : f ≠ 32) (h2 : f ≠ 64) {pa pb : Option Addr} {na ca nb cb : Nat} {e g : Int} (s t : Bool) (w : World) :
    Calls Tryz.prog 53 #[.int .i64 f, SV s pa na ca e t pb nb cb g] w fun en w' => en = .returned (.tuple #[.int .u64 0, .bool false, .int .i64 1]) ∧ Below w.heap.size w w' := by
  have H : Hid (f ≠ 32 ∧ f ≠ 64) := ⟨h1, h2⟩
  clear h1 h2
  go_enter Tryz.func53, Tryz.ntmps53
  go_wp2_with fail
  obtain ⟨W0, hW0⟩ : ∃ W0, W0 = (w.alloc (.cells #[.bool s, .slice pa na ca, .int .i64 e, .bool t, .slice pb nb cb, .int .i64 g] 35)) := ⟨_, rfl⟩
  have Xa : Hid (B6q W0 (w.heap.size) (.bool s) (.slice pa na ca) (.int .i64 e) (.bool t) (.slice pb nb cb) (.int .i64 g)) := by rw [hW0]; exact ⟨by go_simp, by go_simp, by go_simp, by go_simp, by go_simp, by go_simp, by go_simp, by go_simp, by go_simp, by go_simp, by go_simp, by go_simp⟩
  have hb0 : Below w.heap.size w W0 := by rw [hW0]; exact below1 w _
  rw [← hW0]
  clear hW0
  have hbw : Below w.heap.size w w := Below.refl _ _
  obtain ⟨ga, hga⟩ : ∃ g, g = w.heap.size := ⟨_, rfl⟩
  have HGa : Hid (w.heap.size ≤ ga) := by rw [hga]; show _ ≤ _; omega
  rw [← hga] at Xa
  try rw [← hga]
  clear hga
  replace hbw := Below.on hbw hb0
  clear hb0
  refine (rof_x f H.out.1 H.out.2 _).mono ?_
  rintro e v1 ⟨rfl, hb1⟩
  replace Xa : Hid _ := Xa.out.below hb1
  replace hbw := Below.on hbw hb1
  clear hb1
  obtain ⟨ca0, ca1, ca2, ca3, ca4, ca5, fa0, fa1, fa2, fa3, fa4, fa5⟩ := Xa.out
  have hnea : ga < v1.heap.size := World.block_lt_of_cell? v1 _ ca0
  go_wp2_with fail
  clear ca0 ca1 ca2 ca3 ca4 ca5 fa0 fa1 fa2 fa3 fa4 fa5 hnea
  refine bodyPost_ret (v := .tuple #[.int .u64 0, .bool false, .int .i64 1]) (by rw [results_t3 rfl]; go_simp) rfl ⟨rfl, ?_⟩
  first | exact hbw | exact Below.on hbw (below1 _ _)
theorem docdec_e {f : Int} {S : Nat} {P E G : Int} {I Q : Nat} (R : Rf f S P E G I Q) {pa pb : Option Addr} {na ca nb cb : Nat} {xs ys : List Nat} {w : World} {e g : Int} (s t : Bool) (h : At w pa na ca xs) (k : At w pb nb cb ys) (hc : (CmpA s xs e t ys g).2 ≠ 0) :
    Calls Tryz.prog 53 #[.int .i64 f, SV s pa na ca e t pb nb cb g] w fun en w' => en = .returned (.tuple #[.int .u64 0, .bool false, .int .i64 2]) ∧ Below w.heap.size w w' := by
  obtain ⟨cc, hcc⟩ : ∃ cc, cc = (CmpA s xs e t ys g).1 := ⟨_, rfl⟩
  obtain ⟨er, her⟩ : ∃ er, er = (CmpA s xs e t ys g).2 := ⟨_, rfl⟩
  have hc9 := hc
  simp only [← her] at hc9
  have HR : Hid (Rf f S P E G I Q ∧ (CmpA s xs e t ys g).1 = cc ∧ (CmpA s xs e t ys g).2 = er) := ⟨R, hcc.symm, her.symm⟩
  clear hcc her hc R
  have c1 : (er == 0) = false := by simp [hc9]
  have c2 : (er != 0) = true := by simp [hc9]
  clear hc9
  have HA : Hid (At w pa na ca xs) := h
  have HB : Hid (At w pb nb cb ys) := k
  clear h k
  go_enter Tryz.func53, Tryz.ntmps53
  go_wp2_with fail
  obtain ⟨W0, hW0⟩ : ∃ W0, W0 = (w.alloc (.cells #[.bool s, .slice pa na ca, .int .i64 e, .bool t, .slice pb nb cb, .int .i64 g] 35)) := ⟨_, rfl⟩
  have Xa : Hid (B6q W0 (w.heap.size) (.bool s) (.slice pa na ca) (.int .i64 e) (.bool t) (.slice pb nb cb) (.int .i64 g)) := by rw [hW0]; exact ⟨by go_simp, by go_simp, by go_simp, by go_simp, by go_simp, by go_simp, by go_simp, by go_simp, by go_simp, by go_simp, by go_simp, by go_simp⟩
  have hb0 : Below w.heap.size w W0 := by rw [hW0]; exact below1 w _
  rw [← hW0]
  clear hW0
  have hbw : Below w.heap.size w w := Below.refl _ _
  obtain ⟨ga, hga⟩ : ∃ g, g = w.heap.size := ⟨_, rfl⟩
  have HGa : Hid (w.heap.size ≤ ga) := by rw [hga]; show _ ≤ _; omega
  rw [← hga] at Xa
  try rw [← hga]
  clear hga
  replace HA : Hid _ := HA.out.below hb0
  replace HB : Hid _ := HB.out.below hb0
  replace hbw := Below.on hbw hb0
  clear hb0
  refine (HR.out.1.of _).mono ?_
  rintro e v1 ⟨rfl, hb1⟩
  replace Xa : Hid _ := Xa.out.below hb1
  replace HA : Hid _ := HA.out.below hb1
  replace HB : Hid _ := HB.out.below hb1
  replace hbw := Below.on hbw hb1
  clear hb1
  obtain ⟨ca0, ca1, ca2, ca3, ca4, ca5, fa0, fa1, fa2, fa3, fa4, fa5⟩ := Xa.out
  have hnea : ga < v1.heap.size := World.block_lt_of_cell? v1 _ ca0
  go_wp2_with fail
  clear ca0 ca1 ca2 ca3 ca4 ca5 fa0 fa1 fa2 fa3 fa4 fa5 hnea
  have Xk0 : Hid (B6q (v1.alloc (.cells #[U S, .int .i64 P, .int .i64 E, .int .i64 G, U I, U Q] 126)) v1.heap.size (U S) (.int .i64 P) (.int .i64 E) (.int .i64 G) (U I) (U Q)) := B6q.new v1 _ _ _ _ _ _ _
  have hbn : Below v1.heap.size v1 (v1.alloc (.cells #[U S, .int .i64 P, .int .i64 E, .int .i64 G, U I, U Q] 126)) := below1 v1 _
  generalize v1.alloc (.cells #[U S, .int .i64 P, .int .i64 E, .int .i64 G, U I, U Q] 126) = Wk at *
  have HGk : Hid (w.heap.size ≤ v1.heap.size) := hbw.size
  replace Xa : Hid _ := Xa.out.below hbn
  replace HA : Hid _ := HA.out.below hbn
  replace HB : Hid _ := HB.out.below hbn
  replace hbw := Below.on hbw hbn
  clear hbn
  generalize v1.heap.size = gk at *
  have Xk := Xk0
  clear Xk0
  refine (doccmpA s t HA.out HB.out).mono ?_
  rintro e v2 ⟨rfl, hb2⟩
  rw [HR.out.2.1, HR.out.2.2]
  replace Xa : Hid _ := Xa.out.below hb2
  replace Xk : Hid _ := Xk.out.below hb2
  replace HA : Hid _ := HA.out.below hb2
  replace HB : Hid _ := HB.out.below hb2
  replace hbw := Below.on hbw hb2
  clear hb2
  obtain ⟨ca0, ca1, ca2, ca3, ca4, ca5, fa0, fa1, fa2, fa3, fa4, fa5⟩ := Xa.out
  have hnea : ga < v2.heap.size := World.block_lt_of_cell? v2 _ ca0
  go_wp2_with fail
  clear ca0 ca1 ca2 ca3 ca4 ca5 fa0 fa1 fa2 fa3 fa4 fa5 hnea
  refine bodyPost_ret (v := .tuple #[.int .u64 0, .bool false, .int .i64 2]) (by rw [results_t3 rfl]; go_simp) rfl ⟨rfl, ?_⟩
  first | exact hbw | exact Below.on hbw (below1 _ _)
theorem docdec_g {f : Int} {S : Nat} {P E G : Int} {I Q : Nat} (R : Rf f S P E G I Q) {pa pb : Option Addr} {na ca nb cb : Nat} {xs ys : List Nat} {w : World} {e g : Int} (s t : Bool) (h : At w pa na ca xs) (k : At w pb nb cb ys) (hc : (CmpA s xs e t ys g).2 = 0 ∧ 0 < (CmpA s xs e t ys g).1) :
    Calls Tryz.prog 53 #[.int .i64 f, SV s pa na ca e t pb nb cb g] w fun en w' => en = .returned (.tuple #[.int .u64 0, .bool false, .int .i64 2]) ∧ Below w.heap.size w w' := by
  obtain ⟨cc, hcc⟩ : ∃ cc, cc = (CmpA s xs e t ys g).1 := ⟨_, rfl⟩
  obtain ⟨er, her⟩ : ∃ er, er = (CmpA s xs e t ys g).2 := ⟨_, rfl⟩
  have hc9 := hc
  simp only [← hcc, ← her] at hc9
  have HR : Hid (Rf f S P E G I Q ∧ (CmpA s xs e t ys g).1 = cc ∧ (CmpA s xs e t ys g).2 = er) := ⟨R, hcc.symm, her.symm⟩
  clear hcc her hc R
  have c1 : er = 0 := hc9.1
  subst c1
  have c3 : decide (0 < cc) = true := decide_eq_true hc9.2
  have c4 : 0 < cc := hc9.2
  clear hc9
  have HA : Hid (At w pa na ca xs) := h
  have HB : Hid (At w pb nb cb ys) := k
  clear h k
  go_enter Tryz.func53, Tryz.ntmps53
  go_wp2_with fail
  obtain ⟨W0, hW0⟩ : ∃ W0, W0 = (w.alloc (.cells #[.bool s, .slice pa na ca, .int .i64 e, .bool t, .slice pb nb cb, .int .i64 g] 35)) := ⟨_, rfl⟩
  have Xa : Hid (B6q W0 (w.heap.size) (.bool s) (.slice pa na ca) (.int .i64 e) (.bool t) (.slice pb nb cb) (.int .i64 g)) := by rw [hW0]; exact ⟨by go_simp, by go_simp, by go_simp, by go_simp, by go_simp, by go_simp, by go_simp, by go_simp, by go_simp, by go_simp, by go_simp, by go_simp⟩
  have hb0 : Below w.heap.size w W0 := by rw [hW0]; exact below1 w _
  rw [← hW0]
  clear hW0
  have hbw : Below w.heap.size w w := Below.refl _ _
  obtain ⟨ga, hga⟩ : ∃ g, g = w.heap.size := ⟨_, rfl⟩
  have HGa : Hid (w.heap.size ≤ ga) := by rw [hga]; show _ ≤ _; omega
  rw [← hga] at Xa
  try rw [← hga]
  clear hga
  replace HA : Hid _ := HA.out.below hb0
  replace HB : Hid _ := HB.out.below hb0
  replace hbw := Below.on hbw hb0
  clear hb0
  refine (HR.out.1.of _).mono ?_
  rintro e v1 ⟨rfl, hb1⟩
  replace Xa : Hid _ := Xa.out.below hb1
  replace HA : Hid _ := HA.out.below hb1
  replace HB : Hid _ := HB.out.below hb1
  replace hbw := Below.on hbw hb1
  clear hb1
  obtain ⟨ca0, ca1, ca2, ca3, ca4, ca5, fa0, fa1, fa2, fa3, fa4, fa5⟩ := Xa.out
  have hnea : ga < v1.heap.size := World.block_lt_of_cell? v1 _ ca0
  go_wp2_with fail
  clear ca0 ca1 ca2 ca3 ca4 ca5 fa0 fa1 fa2 fa3 fa4 fa5 hnea
  have Xk0 : Hid (B6q (v1.alloc (.cells #[U S, .int .i64 P, .int .i64 E, .int .i64 G, U I, U Q] 126)) v1.heap.size (U S) (.int .i64 P) (.int .i64 E) (.int .i64 G) (U I) (U Q)) := B6q.new v1 _ _ _ _ _ _ _
  have hbn : Below v1.heap.size v1 (v1.alloc (.cells #[U S, .int .i64 P, .int .i64 E, .int .i64 G, U I, U Q] 126)) := below1 v1 _
  generalize v1.alloc (.cells #[U S, .int .i64 P, .int .i64 E, .int .i64 G, U I, U Q] 126) = Wk at *
  have HGk : Hid (w.heap.size ≤ v1.heap.size) := hbw.size
  replace Xa : Hid _ := Xa.out.below hbn
  replace HA : Hid _ := HA.out.below hbn
  replace HB : Hid _ := HB.out.below hbn
  replace hbw := Below.on hbw hbn
  clear hbn
  generalize v1.heap.size = gk at *
  have Xk := Xk0
  clear Xk0
  refine (doccmpA s t HA.out HB.out).mono ?_
  rintro e v2 ⟨rfl, hb2⟩
  rw [HR.out.2.1, HR.out.2.2]
  replace Xa : Hid _ := Xa.out.below hb2
  replace Xk : Hid _ := Xk.out.below hb2
  replace HA : Hid _ := HA.out.below hb2
  replace HB : Hid _ := HB.out.below hb2
  replace hbw := Below.on hbw hb2
  clear hb2
  obtain ⟨ca0, ca1, ca2, ca3, ca4, ca5, fa0, fa1, fa2, fa3, fa4, fa5⟩ := Xa.out
  have hnea : ga < v2.heap.size := World.block_lt_of_cell? v2 _ ca0
  go_wp2_with fail
  clear ca0 ca1 ca2 ca3 ca4 ca5 fa0 fa1 fa2 fa3 fa4 fa5 hnea
  refine bodyPost_ret (v := .tuple #[.int .u64 0, .bool false, .int .i64 2]) (by rw [results_t3 rfl]; go_simp) rfl ⟨rfl, ?_⟩
  first | exact hbw | exact Below.on hbw (below1 _ _)
theorem docdec_y {f : Int} {S : Nat} {P E G : Int} {I Q : Nat} (R : Rf f S P E G I Q) {pa pb : Option Addr} {na ca nb cb : Nat} {xs ys : List Nat} {w : World} {e g : Int} (s t : Bool) (h : At w pa na ca xs) (k : At w pb nb cb ys) (hc : (CmpA s xs e t ys g).2 = 0 ∧ ¬ 0 < (CmpA s xs e t ys g).1) {y1 y2 : Int} (n1 : ∀ (w : World), At w pa na ca xs → Calls Tryz.prog 52 #[.int .i64 f, DV s pa na ca e] w fun en w' => en = .returned (.tuple #[.int .u64 y1, .int .i64 0]) ∧ Below w.heap.size w w') (n2 : ∀ (w : World), At w pb nb cb ys → Calls Tryz.prog 52 #[.int .i64 f, DV t pb nb cb g] w fun en w' => en = .returned (.tuple #[.int .u64 y2, .int .i64 0]) ∧ Below w.heap.size w w') (hv : y1 = y2) :
    Calls Tryz.prog 53 #[.int .i64 f, SV s pa na ca e t pb nb cb g] w fun en w' => en = .returned (.tuple #[.int .u64 y1, .bool true, .int .i64 0]) ∧ Below w.heap.size w w' := by
  obtain ⟨cc, hcc⟩ : ∃ cc, cc = (CmpA s xs e t ys g).1 := ⟨_, rfl⟩
  obtain ⟨er, her⟩ : ∃ er, er = (CmpA s xs e t ys g).2 := ⟨_, rfl⟩
  have hc9 := hc
  simp only [← hcc, ← her] at hc9
  have HR : Hid (Rf f S P E G I Q ∧ (CmpA s xs e t ys g).1 = cc ∧ (CmpA s xs e t ys g).2 = er) := ⟨R, hcc.symm, her.symm⟩
  clear hcc her hc R
  have c1 : er = 0 := hc9.1
  subst c1
  have c3 : decide (0 < cc) = false := decide_eq_false hc9.2
  have c4 : ¬ 0 < cc := hc9.2
  have HN1 : Hid (∀ (w : World), At w pa na ca xs → Calls Tryz.prog 52 #[.int .i64 f, DV s pa na ca e] w fun en w' => en = .returned (.tuple #[.int .u64 y1, .int .i64 0]) ∧ Below w.heap.size w w') := n1
  have HN2 : Hid (∀ (w : World), At w pb nb cb ys → Calls Tryz.prog 52 #[.int .i64 f, DV t pb nb cb g] w fun en w' => en = .returned (.tuple #[.int .u64 y2, .int .i64 0]) ∧ Below w.heap.size w w') := n2
  subst hv
  have v9 : (y1 == y1) = true := by simp
  have v8 : (y1 != y1) = false := by simp
  clear n1 n2
  clear hc9
  have HA : Hid (At w pa na ca xs) := h
  have HB : Hid (At w pb nb cb ys) := k
  clear h k
  go_enter Tryz.func53, Tryz.ntmps53
  go_wp2_with fail
  obtain ⟨W0, hW0⟩ : ∃ W0, W0 = (w.alloc (.cells #[.bool s, .slice pa na ca, .int .i64 e, .bool t, .slice pb nb cb, .int .i64 g] 35)) := ⟨_, rfl⟩
  have Xa : Hid (B6q W0 (w.heap.size) (.bool s) (.slice pa na ca) (.int .i64 e) (.bool t) (.slice pb nb cb) (.int .i64 g)) := by rw [hW0]; exact ⟨by go_simp, by go_simp, by go_simp, by go_simp, by go_simp, by go_simp, by go_simp, by go_simp, by go_simp, by go_simp, by go_simp, by go_simp⟩
  have hb0 : Below w.heap.size w W0 := by rw [hW0]; exact below1 w _
  rw [← hW0]
  clear hW0
  have hbw : Below w.heap.size w w := Below.refl _ _
  obtain ⟨ga, hga⟩ : ∃ g, g = w.heap.size := ⟨_, rfl⟩
  have HGa : Hid (w.heap.size ≤ ga) := by rw [hga]; show _ ≤ _; omega
  rw [← hga] at Xa
  try rw [← hga]
  clear hga
  replace HA : Hid _ := HA.out.below hb0
  replace HB : Hid _ := HB.out.below hb0
  replace hbw := Below.on hbw hb0
  clear hb0
  refine (HR.out.1.of _).mono ?_
  rintro e v1 ⟨rfl, hb1⟩
  replace Xa : Hid _ := Xa.out.below hb1
  replace HA : Hid _ := HA.out.below hb1
  replace HB : Hid _ := HB.out.below hb1
  replace hbw := Below.on hbw hb1
  clear hb1
  obtain ⟨ca0, ca1, ca2, ca3, ca4, ca5, fa0, fa1, fa2, fa3, fa4, fa5⟩ := Xa.out
  have hnea : ga < v1.heap.size := World.block_lt_of_cell? v1 _ ca0
  go_wp2_with fail
  clear ca0 ca1 ca2 ca3 ca4 ca5 fa0 fa1 fa2 fa3 fa4 fa5 hnea
  have Xk0 : Hid (B6q (v1.alloc (.cells #[U S, .int .i64 P, .int .i64 E, .int .i64 G, U I, U Q] 126)) v1.heap.size (U S) (.int .i64 P) (.int .i64 E) (.int .i64 G) (U I) (U Q)) := B6q.new v1 _ _ _ _ _ _ _
  have hbn : Below v1.heap.size v1 (v1.alloc (.cells #[U S, .int .i64 P, .int .i64 E, .int .i64 G, U I, U Q] 126)) := below1 v1 _
  generalize v1.alloc (.cells #[U S, .int .i64 P, .int .i64 E, .int .i64 G, U I, U Q] 126) = Wk at *
  have HGk : Hid (w.heap.size ≤ v1.heap.size) := hbw.size
  replace Xa : Hid _ := Xa.out.below hbn
  replace HA : Hid _ := HA.out.below hbn
  replace HB : Hid _ := HB.out.below hbn
  replace hbw := Below.on hbw hbn
  clear hbn
  generalize v1.heap.size = gk at *
  have Xk := Xk0
  clear Xk0
  refine (doccmpA s t HA.out HB.out).mono ?_
  rintro e v2 ⟨rfl, hb2⟩
  rw [HR.out.2.1, HR.out.2.2]
  replace Xa : Hid _ := Xa.out.below hb2
  replace Xk : Hid _ := Xk.out.below hb2
  replace HA : Hid _ := HA.out.below hb2
  replace HB : Hid _ := HB.out.below hb2
  replace hbw := Below.on hbw hb2
  clear hb2
  obtain ⟨ca0, ca1, ca2, ca3, ca4, ca5, fa0, fa1, fa2, fa3, fa4, fa5⟩ := Xa.out
  have hnea : ga < v2.heap.size := World.block_lt_of_cell? v2 _ ca0
  go_wp2_with fail
  clear ca0 ca1 ca2 ca3 ca4 ca5 fa0 fa1 fa2 fa3 fa4 fa5 hnea
  refine (HN1.out _ HA.out).mono ?_
  rintro e v3 ⟨rfl, hb3⟩
  replace Xa : Hid _ := Xa.out.below hb3
  replace Xk : Hid _ := Xk.out.below hb3
  replace HA : Hid _ := HA.out.below hb3
  replace HB : Hid _ := HB.out.below hb3
  replace hbw := Below.on hbw hb3
  clear hb3
  obtain ⟨ca0, ca1, ca2, ca3, ca4, ca5, fa0, fa1, fa2, fa3, fa4, fa5⟩ := Xa.out
  have hnea : ga < v3.heap.size := World.block_lt_of_cell? v3 _ ca0
  go_wp2_with fail
  clear ca0 ca1 ca2 ca3 ca4 ca5 fa0 fa1 fa2 fa3 fa4 fa5 hnea
  refine (HN2.out _ HB.out).mono ?_
  rintro e v4 ⟨rfl, hb4⟩
  replace Xa : Hid _ := Xa.out.below hb4
  replace Xk : Hid _ := Xk.out.below hb4
  replace HA : Hid _ := HA.out.below hb4
  replace HB : Hid _ := HB.out.below hb4
  replace hbw := Below.on hbw hb4
  clear hb4
  obtain ⟨ca0, ca1, ca2, ca3, ca4, ca5, fa0, fa1, fa2, fa3, fa4, fa5⟩ := Xa.out
  have hnea : ga < v4.heap.size := World.block_lt_of_cell? v4 _ ca0
  go_wp2_with fail
  clear ca0 ca1 ca2 ca3 ca4 ca5 fa0 fa1 fa2 fa3 fa4 fa5 hnea
  refine bodyPost_ret (v := .tuple #[.int .u64 y1, .bool true, .int .i64 0]) (by rw [results_t3 rfl]; go_simp) rfl ⟨rfl, ?_⟩
  first | exact hbw | exact Below.on hbw (below1 _ _)
theorem docdec_n {f : Int} {S : Nat} {P E G : Int} {I Q : Nat} (R : Rf f S P E G I Q) {pa pb : Option Addr} {na ca nb cb : Nat} {xs ys : List Nat} {w : World} {e g : Int} (s t : Bool) (h : At w pa na ca xs) (k : At w pb nb cb ys) (hc : (CmpA s xs e t ys g).2 = 0 ∧ ¬ 0 < (CmpA s xs e t ys g).1) {y1 y2 : Int} (n1 : ∀ (w : World), At w pa na ca xs → Calls Tryz.prog 52 #[.int .i64 f, DV s pa na ca e] w fun en w' => en = .returned (.tuple #[.int .u64 y1, .int .i64 0]) ∧ Below w.heap.size w w') (n2 : ∀ (w : World), At w pb nb cb ys → Calls Tryz.prog 52 #[.int .i64 f, DV t pb nb cb g] w fun en w' => en = .returned (.tuple #[.int .u64 y2, .int .i64 0]) ∧ Below w.heap.size w w') (hv : y1 ≠ y2) :
    Calls Tryz.prog 53 #[.int .i64 f, SV s pa na ca e t pb nb cb g] w fun en w' => en = .returned (.tuple #[.int .u64 0, .bool false, .int .i64 0]) ∧ Below w.heap.size w w' := by
  obtain ⟨cc, hcc⟩ : ∃ cc, cc = (CmpA s xs e t ys g).1 := ⟨_, rfl⟩
  obtain ⟨er, her⟩ : ∃ er, er = (CmpA s xs e t ys g).2 := ⟨_, rfl⟩
  have hc9 := hc
  simp only [← hcc, ← her] at hc9
  have HR : Hid (Rf f S P E G I Q ∧ (CmpA s xs e t ys g).1 = cc ∧ (CmpA s xs e t ys g).2 = er) := ⟨R, hcc.symm, her.symm⟩
  clear hcc her hc R
  have c1 : er = 0 := hc9.1
  subst c1
  have c3 : decide (0 < cc) = false := decide_eq_false hc9.2
  have c4 : ¬ 0 < cc := hc9.2
  have HN1 : Hid (∀ (w : World), At w pa na ca xs → Calls Tryz.prog 52 #[.int .i64 f, DV s pa na ca e] w fun en w' => en = .returned (.tuple #[.int .u64 y1, .int .i64 0]) ∧ Below w.heap.size w w') := n1
  have HN2 : Hid (∀ (w : World), At w pb nb cb ys → Calls Tryz.prog 52 #[.int .i64 f, DV t pb nb cb g] w fun en w' => en = .returned (.tuple #[.int .u64 y2, .int .i64 0]) ∧ Below w.heap.size w w') := n2
  have v9 : (y1 == y2) = false := by simp [hv]
  have v8 : (y1 != y2) = true := by simp [hv]
  clear hv
  clear n1 n2
  clear hc9
  have HA : Hid (At w pa na ca xs) := h
  have HB : Hid (At w pb nb cb ys) := k
  clear h k
  go_enter Tryz.func53, Tryz.ntmps53
  go_wp2_with fail
  obtain ⟨W0, hW0⟩ : ∃ W0, W0 = (w.alloc (.cells #[.bool s, .slice pa na ca, .int .i64 e, .bool t, .slice pb nb cb, .int .i64 g] 35)) := ⟨_, rfl⟩
  have Xa : Hid (B6q W0 (w.heap.size) (.bool s) (.slice pa na ca) (.int .i64 e) (.bool t) (.slice pb nb cb) (.int .i64 g)) := by rw [hW0]; exact ⟨by go_simp, by go_simp, by go_simp, by go_simp, by go_simp, by go_simp, by go_simp, by go_simp, by go_simp, by go_simp, by go_simp, by go_simp⟩
  have hb0 : Below w.heap.size w W0 := by rw [hW0]; exact below1 w _
  rw [← hW0]
  clear hW0
  have hbw : Below w.heap.size w w := Below.refl _ _
  obtain ⟨ga, hga⟩ : ∃ g, g = w.heap.size := ⟨_, rfl⟩
  have HGa : Hid (w.heap.size ≤ ga) := by rw [hga]; show _ ≤ _; omega
  rw [← hga] at Xa
  try rw [← hga]
  clear hga
  replace HA : Hid _ := HA.out.below hb0
  replace HB : Hid _ := HB.out.below hb0
  replace hbw := Below.on hbw hb0
  clear hb0
  refine (HR.out.1.of _).mono ?_
  rintro e v1 ⟨rfl, hb1⟩
  replace Xa : Hid _ := Xa.out.below hb1
  replace HA : Hid _ := HA.out.below hb1
  replace HB : Hid _ := HB.out.below hb1
  replace hbw := Below.on hbw hb1
  clear hb1
  obtain ⟨ca0, ca1, ca2, ca3, ca4, ca5, fa0, fa1, fa2, fa3, fa4, fa5⟩ := Xa.out
  have hnea : ga < v1.heap.size := World.block_lt_of_cell? v1 _ ca0
  go_wp2_with fail
  clear ca0 ca1 ca2 ca3 ca4 ca5 fa0 fa1 fa2 fa3 fa4 fa5 hnea
  have Xk0 : Hid (B6q (v1.alloc (.cells #[U S, .int .i64 P, .int .i64 E, .int .i64 G, U I, U Q] 126)) v1.heap.size (U S) (.int .i64 P) (.int .i64 E) (.int .i64 G) (U I) (U Q)) := B6q.new v1 _ _ _ _ _ _ _
  have hbn : Below v1.heap.size v1 (v1.alloc (.cells #[U S, .int .i64 P, .int .i64 E, .int .i64 G, U I, U Q] 126)) := below1 v1 _
  generalize v1.alloc (.cells #[U S, .int .i64 P, .int .i64 E, .int .i64 G, U I, U Q] 126) = Wk at *
  have HGk : Hid (w.heap.size ≤ v1.heap.size) := hbw.size
  replace Xa : Hid _ := Xa.out.below hbn
  replace HA : Hid _ := HA.out.below hbn
  replace HB : Hid _ := HB.out.below hbn
  replace hbw := Below.on hbw hbn
  clear hbn
  generalize v1.heap.size = gk at *
  have Xk := Xk0
  clear Xk0
  refine (doccmpA s t HA.out HB.out).mono ?_
  rintro e v2 ⟨rfl, hb2⟩
  rw [HR.out.2.1, HR.out.2.2]
  replace Xa : Hid _ := Xa.out.below hb2
  replace Xk : Hid _ := Xk.out.below hb2
  replace HA : Hid _ := HA.out.below hb2
  replace HB : Hid _ := HB.out.below hb2
  replace hbw := Below.on hbw hb2
  clear hb2
  obtain ⟨ca0, ca1, ca2, ca3, ca4, ca5, fa0, fa1, fa2, fa3, fa4, fa5⟩ := Xa.out
  have hnea : ga < v2.heap.size := World.block_lt_of_cell? v2 _ ca0
  go_wp2_with fail
  clear ca0 ca1 ca2 ca3 ca4 ca5 fa0 fa1 fa2 fa3 fa4 fa5 hnea
  refine (HN1.out _ HA.out).mono ?_
  rintro e v3 ⟨rfl, hb3⟩
  replace Xa : Hid _ := Xa.out.below hb3
  replace Xk : Hid _ := Xk.out.below hb3
  replace HA : Hid _ := HA.out.below hb3
  replace HB : Hid _ := HB.out.below hb3
  replace hbw := Below.on hbw hb3
  clear hb3
  obtain ⟨ca0, ca1, ca2, ca3, ca4, ca5, fa0, fa1, fa2, fa3, fa4, fa5⟩ := Xa.out
  have hnea : ga < v3.heap.size := World.block_lt_of_cell? v3 _ ca0
  go_wp2_with fail
  clear ca0 ca1 ca2 ca3 ca4 ca5 fa0 fa1 fa2 fa3 fa4 fa5 hnea
  refine (HN2.out _ HB.out).mono ?_
  rintro e v4 ⟨rfl, hb4⟩
  replace Xa : Hid _ := Xa.out.below hb4
  replace Xk : Hid _ := Xk.out.below hb4
  replace HA : Hid _ := HA.out.below hb4
  replace HB : Hid _ := HB.out.below hb4
  replace hbw := Below.on hbw hb4
  clear hb4
  obtain ⟨ca0, ca1, ca2, ca3, ca4, ca5, fa0, fa1, fa2, fa3, fa4, fa5⟩ := Xa.out
  have hnea : ga < v4.heap.size := World.block_lt_of_cell? v4 _ ca0
  go_wp2_with fail
  clear ca0 ca1 ca2 ca3 ca4 ca5 fa0 fa1 fa2 fa3 fa4 fa5 hnea
  refine bodyPost_ret (v := .tuple #[.int .u64 0, .bool false, .int .i64 0]) (by rw [results_t3 rfl]; go_simp) rfl ⟨rfl, ?_⟩
  first | exact hbw | exact Below.on hbw (below1 _ _)
theorem docnear_is {f p m l P G : Int} {S I H sd Q : Nat} {Be : Int} (J : Jn f p m l S I H sd Be) (R : Rf f S P l G I Q) (K : Sk S P l G I Q H) {s : Bool} {xs : List Nat} {e : Int} (hf : formD s xs e = true) {w : World} {q : Option Addr} {n c : Nat} (h : At w q n c xs) :
    Calls Tryz.prog 52 #[.int .i64 f, DV s q n c e] w fun en w' => en = .returned (.tuple #[.int .u64 (rnp l sd Be S I (iv s (valB B64 xs)) e : Nat), .int .i64 0]) ∧ Below w.heap.size w w' := by
  by_cases hv : valB B64 xs = 0
  · rw [show rnp l sd Be S I (iv s (valB B64 xs)) e = 0 by rw [hv, show iv s 0 = 0 by cases s <;> rfl]; unfold rnp; rw [if_pos rfl]]
    obtain rfl := val_nil h hf hv
    exact docnearest_z R s h hf
  · obtain ⟨x, hx⟩ : ∃ x, x = iv s (valB B64 xs) := ⟨_, rfl⟩
    have hx0 : x ≠ 0 := by rw [hx]; cases s <;> simp [iv] <;> omega
    have hsx : s = decide (x < 0) := by rw [hx, iv_lt, decide_eq_true (show 0 < valB B64 xs by omega), Bool.and_true]
    have he : -4194304 ≤ e := by
      have h9 := hf
      unfold formD at h9
      simp only [Bool.and_eq_true, decide_eq_true_eq] at h9
      omega
    obtain ⟨Z, h1, h2, h3, -⟩ := rnp_is J x e he
    have h4 := formD_dn h hf
    rw [← hx] at h4 ⊢
    refine (docnearest_n R K h4 hx0).mono fun en w' ⟨⟨Y, h5, h6⟩, h7⟩ => ⟨?_, h7⟩
    rw [h5, h6.uniq h2.trc, h3, hsx]
    by_cases h8 : x < 0 <;> simp [h8]
def DecB (f : Int) (s : Bool) (xs : List Nat) (e : Int) (t : Bool) (ys : List Nat) (g : Int) : Prop := ∃ (v : Int) (ok : Bool) (er : Int), (∀ (w : World) (pa pb : Option Addr) (na ca nb cb : Nat), At w pa na ca xs → At w pb nb cb ys → Tab w → Calls Tryz.prog 10 #[.int .i64 f, SV s pa na ca e t pb nb cb g] w fun en w' => en = .returned (.tuple #[.int .u64 v, .bool ok, .int .i64 er]) ∧ Below w.heap.size w w') ∧ (∀ (w : World) (pa pb : Option Addr) (na ca nb cb : Nat), At w pa na ca xs → At w pb nb cb ys → Calls Tryz.prog 53 #[.int .i64 f, SV s pa na ca e t pb nb cb g] w fun en w' => en = .returned (.tuple #[.int .u64 v, .bool ok, .int .i64 er]) ∧ Below w.heap.size w w')
theorem cmpI_gt0 {a b : Int} : 0 < cmpI a b ↔ b < a := by
  unfold cmpI
  split
  · constructor <;> intro h <;> omega
  · split
    · constructor <;> intro h <;> omega
    · constructor <;> intro h <;> omega
theorem dec_fmt {f p m l P G : Int} {S I H sd Q : Nat} {Be : Int} (J : Jn f p m l S I H sd Be) (R : Rf f S P l G I Q) (K : Sk S P l G I Q H) (s : Bool) (xs : List Nat) (e : Int) (t : Bool) (ys : List Nat) (g : Int) : DecB f s xs e t ys g := by
  cases hf : formD s xs e
  · exact ⟨0, false, 2, fun w pa pb na ca nb cb h k _ => decide_f J (fun w' hb => sform_l (h.below hb) hf), fun w pa pb na ca nb cb h k => docdec_e R s t h k (by unfold CmpA; rw [if_neg (by simp [hf])]; decide)⟩
  cases hg : formD t ys g
  · exact ⟨0, false, 2, fun w pa pb na ca nb cb h k _ => decide_f J (fun w' hb => sform_r ((formD_dn h hf).below hb) (k.below hb) hg), fun w pa pb na ca nb cb h k => docdec_e R s t h k (by unfold CmpA; rw [if_neg (by simp [hg])]; decide)⟩
  have hC : CmpA s xs e t ys g = (cmpI (dv (iv s (valB B64 xs)) e) (dv (iv t (valB B64 ys)) g), 0) := by unfold CmpA; rw [if_pos ⟨hf, hg⟩]
  by_cases hc : dv (iv t (valB B64 ys)) g < dv (iv s (valB B64 xs)) e
  · exact ⟨0, false, 2, fun w pa pb na ca nb cb h k _ => decide_f J (fun w' hb => sform_g ((formD_dn h hf).below hb) ((formD_dn k hg).below hb) hc), fun w pa pb na ca nb cb h k => docdec_g R s t h k (by rw [hC]; exact ⟨rfl, cmpI_gt0.2 hc⟩)⟩
  have hc2 : (CmpA s xs e t ys g).2 = 0 ∧ ¬ 0 < (CmpA s xs e t ys g).1 := by rw [hC]; exact ⟨rfl, fun h => hc (cmpI_gt0.1 h)⟩
  by_cases hq : rnp l sd Be S I (iv s (valB B64 xs)) e = rnp l sd Be S I (iv t (valB B64 ys)) g
  · exact ⟨_, true, 0, fun w pa pb na ca nb cb h k hT => decide_y J (formD_dn h hf) (formD_dn k hg) (by omega) hq hT, fun w pa pb na ca nb cb h k => docdec_y R s t h k hc2 (fun w h => docnear_is J R K hf h) (fun w h => docnear_is J R K hg h) (by rw [hq])⟩
  · exact ⟨0, false, 0, fun w pa pb na ca nb cb h k hT => decide_n J (formD_dn h hf) (formD_dn k hg) (by omega) hq hT, fun w pa pb na ca nb cb h k => docdec_n R s t h k hc2 (fun w h => docnear_is J R K hf h) (fun w h => docnear_is J R K hg h) (fun h9 => hq (Int.ofNat.inj h9))⟩
theorem dec_all (f : Int) (s : Bool) (xs : List Nat) (e : Int) (t : Bool) (ys : List Nat) (g : Int) : DecB f s xs e t ys g := by
  by_cases h1 : f = 32
  · subst h1; exact dec_fmt jn_32 rf_32 sk_32 s xs e t ys g
  by_cases h2 : f = 64
  · subst h2; exact dec_fmt jn_64 rf_64 sk_64 s xs e t ys g
  · exact ⟨0, false, 1, fun w pa pb na ca nb cb _ _ _ => decide_x f h1 h2 s t w, fun w pa pb na ca nb cb _ _ => docdec_x f h1 h2 s t w⟩
theorem plays8_2 {pa pb : Option Addr} {na ca nb cb wd : Nat} {xa xb : List Nat} {w : World} {ff ea eb : Int} (sa sb : Bool) (ha : At w pa na ca xa) (hb : At w pb nb cb xb) (hn : na ≤ 17592186044416 ∧ nb ≤ 17592186044416 ∧ wd < B64) (hT : Tab w) :
    Calls Tryz.prog 24 #[(.agg #[.int .i64 2, .int .i64 ff, .bool sa, .slice pa na ca, .int .i64 ea, .bool sb, .slice pb nb cb, .int .i64 eb, U wd])] w fun en w' => en = .returned (.bool true) ∧ Below w.heap.size w w' := by
  have HA : Hid (At w pa na ca xa) := ha
  have HB : Hid (At w pb nb cb xb) := hb
  have HN : Hid (na ≤ 17592186044416 ∧ nb ≤ 17592186044416 ∧ wd < B64) := hn
  have TB : Hid (Tab w) := hT
  clear ha hb hn hT
  obtain ⟨v, ok, er, h1, h2⟩ := dec_all ff sa xa ea sb xb eb
  have H1 : Hid (∀ (w : World) (pa pb : Option Addr) (na ca nb cb : Nat), At w pa na ca xa → At w pb nb cb xb → Tab w → Calls Tryz.prog 10 #[.int .i64 ff, SV sa pa na ca ea sb pb nb cb eb] w fun en w' => en = .returned (.tuple #[.int .u64 v, .bool ok, .int .i64 er]) ∧ Below w.heap.size w w') := h1
  have H2 : Hid (∀ (w : World) (pa pb : Option Addr) (na ca nb cb : Nat), At w pa na ca xa → At w pb nb cb xb → Calls Tryz.prog 53 #[.int .i64 ff, SV sa pa na ca ea sb pb nb cb eb] w fun en w' => en = .returned (.tuple #[.int .u64 v, .bool ok, .int .i64 er]) ∧ Below w.heap.size w w') := h2
  have q0 : (v == v) = true := by simp
  have q1 : (er == er) = true := by simp
  have q2 : (ok == ok) = true := by simp
  clear h1 h2
  go_enter Tryz.func24, Tryz.ntmps24
  go_wp2_with fail
  obtain ⟨W0, hW0⟩ : ∃ W0, W0 = (w.alloc (.cells #[.int .i64 2, .int .i64 ff, .bool sa, .slice pa na ca, .int .i64 ea, .bool sb, .slice pb nb cb, .int .i64 eb, U wd] 59)) := ⟨_, rfl⟩
  have Xo : Hid (B9q W0 (w.heap.size) (.int .i64 2) (.int .i64 ff) (.bool sa) (.slice pa na ca) (.int .i64 ea) (.bool sb) (.slice pb nb cb) (.int .i64 eb) (U wd)) := by rw [hW0]; exact ⟨by go_simp, by go_simp, by go_simp, by go_simp, by go_simp, by go_simp, by go_simp, by go_simp, by go_simp, by go_simp, by go_simp, by go_simp, by go_simp, by go_simp, by go_simp, by go_simp, by go_simp, by go_simp⟩
  have hb0 : Below w.heap.size w W0 := by rw [hW0]; exact below1 w _
  rw [← hW0]
  clear hW0
  have hbw : Below w.heap.size w w := Below.refl _ _
  obtain ⟨go, hgo⟩ : ∃ g, g = w.heap.size := ⟨_, rfl⟩
  have HGo : Hid (w.heap.size ≤ go) := by rw [hgo]; show _ ≤ _; omega
  rw [← hgo] at Xo
  try rw [← hgo]
  clear hgo
  replace hbw := Below.on hbw hb0
  clear hb0
  obtain ⟨W1, hW1⟩ : ∃ W1, W1 = W0.drew := ⟨_, rfl⟩
  have hbd : Below W0.heap.size W0 W1 := by rw [hW1]; exact bDrew1 (Below.refl _ _)
  replace Xo : Hid (B9q W1 go (.int .i64 2) (.int .i64 ff) (.bool sa) (.slice pa na ca) (.int .i64 ea) (.bool sb) (.slice pb nb cb) (.int .i64 eb) (U wd)) := Xo.out.below hbd
  replace hbw := Below.on hbw hbd
  clear hbd
  have HJ : Hid ((fun W' : World => W'.cell? ⟨go, 0, none⟩ = some (.int .i64 2) ∧ W'.cell? ⟨go, 1, none⟩ = some (.int .i64 ff) ∧ W'.cell? ⟨go, 2, none⟩ = some (.bool sa) ∧ W'.cell? ⟨go, 3, none⟩ = some (.slice pa na ca) ∧ W'.cell? ⟨go, 4, none⟩ = some (.int .i64 ea) ∧ W'.cell? ⟨go, 5, none⟩ = some (.bool sb) ∧ W'.cell? ⟨go, 6, none⟩ = some (.slice pb nb cb) ∧ W'.cell? ⟨go, 7, none⟩ = some (.int .i64 eb) ∧ W'.cell? ⟨go, 8, none⟩ = some (U wd)) W1) := ⟨Xo.out.c0, Xo.out.c1, Xo.out.c2, Xo.out.c3, Xo.out.c4, Xo.out.c5, Xo.out.c6, Xo.out.c7, Xo.out.c8⟩
  refine wp_region_J (fun W' => W'.cell? ⟨go, 0, none⟩ = some (.int .i64 2) ∧ W'.cell? ⟨go, 1, none⟩ = some (.int .i64 ff) ∧ W'.cell? ⟨go, 2, none⟩ = some (.bool sa) ∧ W'.cell? ⟨go, 3, none⟩ = some (.slice pa na ca) ∧ W'.cell? ⟨go, 4, none⟩ = some (.int .i64 ea) ∧ W'.cell? ⟨go, 5, none⟩ = some (.bool sb) ∧ W'.cell? ⟨go, 6, none⟩ = some (.slice pb nb cb) ∧ W'.cell? ⟨go, 7, none⟩ = some (.int .i64 eb) ∧ W'.cell? ⟨go, 8, none⟩ = some (U wd)) (by kernel_rfl) ?_
  rw [← hW1]
  clear hW1
  refine wpJ_tq 0 rfl HJ.out ?_
  refine wpJ_tq 2 rfl HJ.out ?_
  refine wpJ_tq 3 rfl HJ.out ?_
  go_simp
  refine wpJ_nodes5 fun WP hWP L0 a0 hL ha => ?_
  have N1_4 : ∀ (ga : Nat) (gb : Nat) (gt : Nat) (W' : World), (B9q W' go (.int .i64 2) (.int .i64 ff) (.bool sa) (.slice pa na ca) (.int .i64 ea) (.bool sb) (.slice pb nb cb) (.int .i64 eb) (U wd)) ∧ (Below w.heap.size w W') ∧ (At W' (some ⟨ga, 0, none⟩) na na xa) ∧ (At W' (some ⟨gb, 0, none⟩) nb nb xb) ∧ (B9q W' gt (.int .i64 0) (.int .i64 0) (.bool false) (.slice none 0 0) (.int .i64 0) (.bool false) (.slice none 0 0) (.int .i64 0) (.int .u64 0)) ∧ (w.heap.size ≤ gt) ∧ (go ≠ gt) ∧ (na = 0 ∨ ga ≠ gt) ∧ (nb = 0 ∨ gb ≠ gt) → WP 2 ((L0.setIfInBounds 1 true).setIfInBounds 4 true) ((a0.put (some 34) (.agg #[.int .i64 2, .int .i64 ff, .bool sa, .slice (some ⟨ga, 0, none⟩) na na, .int .i64 ea, .bool sb, .slice (some ⟨gb, 0, none⟩) nb nb, .int .i64 eb, U wd])).put (some 3) (.pointer (some ⟨gt, 0, none⟩))) W' := by
    rintro ga gb gt W' ⟨xo, hbw, ta, tb, xt, ht, nt, oa, ob⟩
    subst hWP hL ha
    have Hxo := Hid.mk5 xo
    have Hta := Hid.mk5 ta
    have Htb := Hid.mk5 tb
    have Hxt := Hid.mk5 xt
    have Hht := Hid.mk5 ht
    have Hnt := Hid.mk5 nt
    have Hoa := Hid.mk5 oa
    have Hob := Hid.mk5 ob
    clear xo ta tb xt ht nt oa ob
    go_simp
    have Xo := Hxo
    have Xt := Hxt
    clear Hxo Hxt
    have q1 := Hnt.out
    have q1' := Ne.symm q1
    have HJ : Hid ((fun W' : World => W'.cell? ⟨go, 0, none⟩ = some (.int .i64 2) ∧ W'.cell? ⟨go, 1, none⟩ = some (.int .i64 ff) ∧ W'.cell? ⟨go, 2, none⟩ = some (.bool sa) ∧ W'.cell? ⟨go, 3, none⟩ = some (.slice pa na ca) ∧ W'.cell? ⟨go, 4, none⟩ = some (.int .i64 ea) ∧ W'.cell? ⟨go, 5, none⟩ = some (.bool sb) ∧ W'.cell? ⟨go, 6, none⟩ = some (.slice pb nb cb) ∧ W'.cell? ⟨go, 7, none⟩ = some (.int .i64 eb) ∧ W'.cell? ⟨go, 8, none⟩ = some (U wd)) W') := ⟨Xo.out.c0, Xo.out.c1, Xo.out.c2, Xo.out.c3, Xo.out.c4, Xo.out.c5, Xo.out.c6, Xo.out.c7, Xo.out.c8⟩
    obtain ⟨co0, co1, co2, co3, co4, co5, co6, co7, co8, fo0, fo1, fo2, fo3, fo4, fo5, fo6, fo7, fo8⟩ := Xo.out
    have hneo : go < W'.heap.size := World.block_lt_of_cell? W' _ co0
    obtain ⟨ct0, ct1, ct2, ct3, ct4, ct5, ct6, ct7, ct8, ft0, ft1, ft2, ft3, ft4, ft5, ft6, ft7, ft8⟩ := Xt.out
    have hnet : gt < W'.heap.size := World.block_lt_of_cell? W' _ ct0
    refine wpJ_on 5 rfl fun KJ hK => ?_
    go_simp
    have Yo : Hid (B9q (((((((((W'.setCell ⟨gt, 0, none⟩ (.int .i64 2)).setCell ⟨gt, 1, none⟩ (.int .i64 ff)).setCell ⟨gt, 2, none⟩ (.bool sa)).setCell ⟨gt, 3, none⟩ (.slice (some ⟨ga, 0, none⟩) na na)).setCell ⟨gt, 4, none⟩ (.int .i64 ea)).setCell ⟨gt, 5, none⟩ (.bool sb)).setCell ⟨gt, 6, none⟩ (.slice (some ⟨gb, 0, none⟩) nb nb)).setCell ⟨gt, 7, none⟩ (.int .i64 eb)).setCell ⟨gt, 8, none⟩ (U wd)) go (.int .i64 2) (.int .i64 ff) (.bool sa) (.slice pa na ca) (.int .i64 ea) (.bool sb) (.slice pb nb cb) (.int .i64 eb) (U wd)) := ⟨by go_simp, by go_simp, by go_simp, by go_simp, by go_simp, by go_simp, by go_simp, by go_simp, by go_simp, by go_simp, by go_simp, by go_simp, by go_simp, by go_simp, by go_simp, by go_simp, by go_simp, by go_simp⟩
    clear co0 co1 co2 co3 co4 co5 co6 co7 co8 fo0 fo1 fo2 fo3 fo4 fo5 fo6 fo7 fo8 hneo
    clear ct0 ct1 ct2 ct3 ct4 ct5 ct6 ct7 ct8 ft0 ft1 ft2 ft3 ft4 ft5 ft6 ft7 ft8 hnet
    have Yt : Hid (B9q (((((((((W'.setCell ⟨gt, 0, none⟩ (.int .i64 2)).setCell ⟨gt, 1, none⟩ (.int .i64 ff)).setCell ⟨gt, 2, none⟩ (.bool sa)).setCell ⟨gt, 3, none⟩ (.slice (some ⟨ga, 0, none⟩) na na)).setCell ⟨gt, 4, none⟩ (.int .i64 ea)).setCell ⟨gt, 5, none⟩ (.bool sb)).setCell ⟨gt, 6, none⟩ (.slice (some ⟨gb, 0, none⟩) nb nb)).setCell ⟨gt, 7, none⟩ (.int .i64 eb)).setCell ⟨gt, 8, none⟩ (U wd)) gt (.int .i64 2) (.int .i64 ff) (.bool sa) (.slice (some ⟨ga, 0, none⟩) na na) (.int .i64 ea) (.bool sb) (.slice (some ⟨gb, 0, none⟩) nb nb) (.int .i64 eb) (U wd)) := Xt.out.set9
    have TA : Hid (At (((((((((W'.setCell ⟨gt, 0, none⟩ (.int .i64 2)).setCell ⟨gt, 1, none⟩ (.int .i64 ff)).setCell ⟨gt, 2, none⟩ (.bool sa)).setCell ⟨gt, 3, none⟩ (.slice (some ⟨ga, 0, none⟩) na na)).setCell ⟨gt, 4, none⟩ (.int .i64 ea)).setCell ⟨gt, 5, none⟩ (.bool sb)).setCell ⟨gt, 6, none⟩ (.slice (some ⟨gb, 0, none⟩) nb nb)).setCell ⟨gt, 7, none⟩ (.int .i64 eb)).setCell ⟨gt, 8, none⟩ (U wd)) (some ⟨ga, 0, none⟩) na na xa) := (at_set9 (at_set9 (at_set9 (at_set9 (at_set9 (at_set9 (at_set9 (at_set9 (at_set9 Hta.out _ _ _ Hoa.out) _ _ _ Hoa.out) _ _ _ Hoa.out) _ _ _ Hoa.out) _ _ _ Hoa.out) _ _ _ Hoa.out) _ _ _ Hoa.out) _ _ _ Hoa.out) _ _ _ Hoa.out)
    have TC : Hid (At (((((((((W'.setCell ⟨gt, 0, none⟩ (.int .i64 2)).setCell ⟨gt, 1, none⟩ (.int .i64 ff)).setCell ⟨gt, 2, none⟩ (.bool sa)).setCell ⟨gt, 3, none⟩ (.slice (some ⟨ga, 0, none⟩) na na)).setCell ⟨gt, 4, none⟩ (.int .i64 ea)).setCell ⟨gt, 5, none⟩ (.bool sb)).setCell ⟨gt, 6, none⟩ (.slice (some ⟨gb, 0, none⟩) nb nb)).setCell ⟨gt, 7, none⟩ (.int .i64 eb)).setCell ⟨gt, 8, none⟩ (U wd)) (some ⟨gb, 0, none⟩) nb nb xb) := (at_set9 (at_set9 (at_set9 (at_set9 (at_set9 (at_set9 (at_set9 (at_set9 (at_set9 Htb.out _ _ _ Hob.out) _ _ _ Hob.out) _ _ _ Hob.out) _ _ _ Hob.out) _ _ _ Hob.out) _ _ _ Hob.out) _ _ _ Hob.out) _ _ _ Hob.out) _ _ _ Hob.out)
    have HJ2 : Hid ((fun W' : World => W'.cell? ⟨go, 0, none⟩ = some (.int .i64 2) ∧ W'.cell? ⟨go, 1, none⟩ = some (.int .i64 ff) ∧ W'.cell? ⟨go, 2, none⟩ = some (.bool sa) ∧ W'.cell? ⟨go, 3, none⟩ = some (.slice pa na ca) ∧ W'.cell? ⟨go, 4, none⟩ = some (.int .i64 ea) ∧ W'.cell? ⟨go, 5, none⟩ = some (.bool sb) ∧ W'.cell? ⟨go, 6, none⟩ = some (.slice pb nb cb) ∧ W'.cell? ⟨go, 7, none⟩ = some (.int .i64 eb) ∧ W'.cell? ⟨go, 8, none⟩ = some (U wd)) (((((((((W'.setCell ⟨gt, 0, none⟩ (.int .i64 2)).setCell ⟨gt, 1, none⟩ (.int .i64 ff)).setCell ⟨gt, 2, none⟩ (.bool sa)).setCell ⟨gt, 3, none⟩ (.slice (some ⟨ga, 0, none⟩) na na)).setCell ⟨gt, 4, none⟩ (.int .i64 ea)).setCell ⟨gt, 5, none⟩ (.bool sb)).setCell ⟨gt, 6, none⟩ (.slice (some ⟨gb, 0, none⟩) nb nb)).setCell ⟨gt, 7, none⟩ (.int .i64 eb)).setCell ⟨gt, 8, none⟩ (U wd))) := ⟨Yo.out.c0, Yo.out.c1, Yo.out.c2, Yo.out.c3, Yo.out.c4, Yo.out.c5, Yo.out.c6, Yo.out.c7, Yo.out.c8⟩
    have hbw2 : Below w.heap.size w (((((((((W'.setCell ⟨gt, 0, none⟩ (.int .i64 2)).setCell ⟨gt, 1, none⟩ (.int .i64 ff)).setCell ⟨gt, 2, none⟩ (.bool sa)).setCell ⟨gt, 3, none⟩ (.slice (some ⟨ga, 0, none⟩) na na)).setCell ⟨gt, 4, none⟩ (.int .i64 ea)).setCell ⟨gt, 5, none⟩ (.bool sb)).setCell ⟨gt, 6, none⟩ (.slice (some ⟨gb, 0, none⟩) nb nb)).setCell ⟨gt, 7, none⟩ (.int .i64 eb)).setCell ⟨gt, 8, none⟩ (U wd)) := below_set9 hbw Hht.out
    refine hK _ _ HJ2.out ?_
    clear hK HJ
    have HJ := HJ2
    clear HJ2
    clear Hta Htb hbw Xo Xt
    have Xo := Yo
    have Xt := Yt
    have hbw := hbw2
    clear hbw2 Yo Yt
    generalize (((((((((W'.setCell ⟨gt, 0, none⟩ (.int .i64 2)).setCell ⟨gt, 1, none⟩ (.int .i64 ff)).setCell ⟨gt, 2, none⟩ (.bool sa)).setCell ⟨gt, 3, none⟩ (.slice (some ⟨ga, 0, none⟩) na na)).setCell ⟨gt, 4, none⟩ (.int .i64 ea)).setCell ⟨gt, 5, none⟩ (.bool sb)).setCell ⟨gt, 6, none⟩ (.slice (some ⟨gb, 0, none⟩) nb nb)).setCell ⟨gt, 7, none⟩ (.int .i64 eb)).setCell ⟨gt, 8, none⟩ (U wd)) = V9 at *
    refine wpJ_tq 6 rfl HJ.out ?_
    refine wpJ_done (by kernel_rfl) ?_ _
    clear HJ
    obtain ⟨co0, co1, co2, co3, co4, co5, co6, co7, co8, fo0, fo1, fo2, fo3, fo4, fo5, fo6, fo7, fo8⟩ := Xo.out
    have hneo : go < V9.heap.size := World.block_lt_of_cell? V9 _ co0
    obtain ⟨ct0, ct1, ct2, ct3, ct4, ct5, ct6, ct7, ct8, ft0, ft1, ft2, ft3, ft4, ft5, ft6, ft7, ft8⟩ := Xt.out
    have hnet : gt < V9.heap.size := World.block_lt_of_cell? V9 _ ct0
    go_wp2_with fail
    clear co0 co1 co2 co3 co4 co5 co6 co7 co8 fo0 fo1 fo2 fo3 fo4 fo5 fo6 fo7 fo8 hneo
    clear ct0 ct1 ct2 ct3 ct4 ct5 ct6 ct7 ct8 ft0 ft1 ft2 ft3 ft4 ft5 ft6 ft7 ft8 hnet
    refine (H1.out _ _ _ _ _ _ _ TA.out TC.out (TB.out.below hbw)).mono ?_
    rintro e v2 ⟨rfl, hb2⟩
    replace Xo : Hid (B9q v2 go (.int .i64 2) (.int .i64 ff) (.bool sa) (.slice pa na ca) (.int .i64 ea) (.bool sb) (.slice pb nb cb) (.int .i64 eb) (U wd)) := Xo.out.below hb2
    replace Xt : Hid (B9q v2 gt (.int .i64 2) (.int .i64 ff) (.bool sa) (.slice (some ⟨ga, 0, none⟩) na na) (.int .i64 ea) (.bool sb) (.slice (some ⟨gb, 0, none⟩) nb nb) (.int .i64 eb) (U wd)) := Xt.out.below hb2
    replace TA : Hid _ := TA.out.below hb2
    replace TC : Hid _ := TC.out.below hb2
    replace hbw := Below.on hbw hb2
    clear hb2
    obtain ⟨co0, co1, co2, co3, co4, co5, co6, co7, co8, fo0, fo1, fo2, fo3, fo4, fo5, fo6, fo7, fo8⟩ := Xo.out
    have hneo : go < v2.heap.size := World.block_lt_of_cell? v2 _ co0
    go_wp2_with fail
    clear co0 co1 co2 co3 co4 co5 co6 co7 co8 fo0 fo1 fo2 fo3 fo4 fo5 fo6 fo7 fo8 hneo
    refine (H2.out _ _ _ _ _ _ _ (HA.out.below hbw) (HB.out.below hbw)).mono ?_
    rintro e v3 ⟨rfl, hb3⟩
    replace Xo : Hid (B9q v3 go (.int .i64 2) (.int .i64 ff) (.bool sa) (.slice pa na ca) (.int .i64 ea) (.bool sb) (.slice pb nb cb) (.int .i64 eb) (U wd)) := Xo.out.below hb3
    replace Xt : Hid (B9q v3 gt (.int .i64 2) (.int .i64 ff) (.bool sa) (.slice (some ⟨ga, 0, none⟩) na na) (.int .i64 ea) (.bool sb) (.slice (some ⟨gb, 0, none⟩) nb nb) (.int .i64 eb) (U wd)) := Xt.out.below hb3
    replace TA : Hid _ := TA.out.below hb3
    replace TC : Hid _ := TC.out.below hb3
    replace hbw := Below.on hbw hb3
    clear hb3
    obtain ⟨co0, co1, co2, co3, co4, co5, co6, co7, co8, fo0, fo1, fo2, fo3, fo4, fo5, fo6, fo7, fo8⟩ := Xo.out
    have hneo : go < v3.heap.size := World.block_lt_of_cell? v3 _ co0
    go_wp2_with fail
    clear co0 co1 co2 co3 co4 co5 co6 co7 co8 fo0 fo1 fo2 fo3 fo4 fo5 fo6 fo7 fo8 hneo
    go_ret
    exact ⟨rfl, hbw⟩
  have N1 : ∀ (ga : Nat) (gb : Nat) (W' : World), (B9q W' go (.int .i64 2) (.int .i64 ff) (.bool sa) (.slice pa na ca) (.int .i64 ea) (.bool sb) (.slice pb nb cb) (.int .i64 eb) (U wd)) ∧ (Below w.heap.size w W') ∧ (At W' (some ⟨ga, 0, none⟩) na na xa) ∧ (At W' (some ⟨gb, 0, none⟩) nb nb xb) → WP 3 (L0.setIfInBounds 1 true) (a0.put (some 34) (.agg #[.int .i64 2, .int .i64 ff, .bool sa, .slice (some ⟨ga, 0, none⟩) na na, .int .i64 ea, .bool sb, .slice (some ⟨gb, 0, none⟩) nb nb, .int .i64 eb, U wd])) W' := by
    rintro ga gb W' ⟨xo, hbw, ta, tb⟩
    subst hWP hL ha
    have Hxo := Hid.mk5 xo
    have Hta := Hid.mk5 ta
    have Htb := Hid.mk5 tb
    clear xo ta tb
    go_simp
    refine wpJ_on 4 rfl fun KJ hK => ?_
    go_simp
    have hb := below1 W' (.cells #[.int .i64 0, .int .i64 0, .bool false, .slice none 0 0, .int .i64 0, .bool false, .slice none 0 0, .int .i64 0, .int .u64 0] 59)
    refine hK _ _ ⟨(Hxo.out.below hb).c0, (Hxo.out.below hb).c1, (Hxo.out.below hb).c2, (Hxo.out.below hb).c3, (Hxo.out.below hb).c4, (Hxo.out.below hb).c5, (Hxo.out.below hb).c6, (Hxo.out.below hb).c7, (Hxo.out.below hb).c8⟩ ?_
    exact wpJ_same5 (by kernel_rfl) (by kernel_rfl) (N1_4 ga gb W'.heap.size _ ⟨(Hxo.out.below hb), (Below.on hbw hb), (Hta.out.below hb), (Htb.out.below hb), (B9q.new W' _ _ _ _ _ _ _ _ _ _), hbw.size, (Nat.ne_of_lt Hxo.out.lt), ((at_blk9 Hta.out).imp id Nat.ne_of_lt), ((at_blk9 Htb.out).imp id Nat.ne_of_lt)⟩)
  have N4 : ∀ (gt : Nat) (W' : World), (B9q W' go (.int .i64 2) (.int .i64 ff) (.bool sa) (.slice pa na ca) (.int .i64 ea) (.bool sb) (.slice pb nb cb) (.int .i64 eb) (U wd)) ∧ (Below w.heap.size w W') ∧ (B9q W' gt (.int .i64 0) (.int .i64 0) (.bool false) (.slice none 0 0) (.int .i64 0) (.bool false) (.slice none 0 0) (.int .i64 0) (.int .u64 0)) ∧ (w.heap.size ≤ gt) ∧ (go ≠ gt) → WP 3 (L0.setIfInBounds 4 true) (a0.put (some 3) (.pointer (some ⟨gt, 0, none⟩))) W' := by
    rintro gt W' ⟨xo, hbw, xt, ht, nt⟩
    subst hWP hL ha
    have Hxo := Hid.mk5 xo
    have Hxt := Hid.mk5 xt
    have Hht := Hid.mk5 ht
    have Hnt := Hid.mk5 nt
    clear xo xt ht nt
    go_simp
    refine wpJ_on 1 rfl fun KJ hK => ?_
    go_simp
    refine (twin8 sa sb (HA.out.below hbw) (HB.out.below hbw) ⟨HN.out.1, HN.out.2.1⟩).mono ?_
    rintro e9 W2 ⟨ga, gb, rfl, hga, hgb, hta, htb, hb⟩
    refine hK _ _ ⟨(Hxo.out.below hb).c0, (Hxo.out.below hb).c1, (Hxo.out.below hb).c2, (Hxo.out.below hb).c3, (Hxo.out.below hb).c4, (Hxo.out.below hb).c5, (Hxo.out.below hb).c6, (Hxo.out.below hb).c7, (Hxo.out.below hb).c8⟩ ?_
    exact wpJ_same5 (by kernel_rfl) (by kernel_rfl) (N1_4 ga gb gt W2 ⟨(Hxo.out.below hb), (Below.on hbw hb), hta, htb, (Hxt.out.below hb), Hht.out, Hnt.out, (.inr (Nat.ne_of_gt (Nat.lt_of_lt_of_le Hxt.out.lt hga))), (.inr (Nat.ne_of_gt (Nat.lt_of_lt_of_le Hxt.out.lt hgb)))⟩)
  have N_ : ∀ (W' : World), (B9q W' go (.int .i64 2) (.int .i64 ff) (.bool sa) (.slice pa na ca) (.int .i64 ea) (.bool sb) (.slice pb nb cb) (.int .i64 eb) (U wd)) ∧ (Below w.heap.size w W') → WP 4 L0 a0 W' := by
    rintro  W' ⟨xo, hbw⟩
    subst hWP hL ha
    have Hxo := Hid.mk5 xo
    clear xo
    go_simp
    refine wpJ_two (i := 1) (k := 4) (by kernel_rfl) rfl rfl (by kernel_rfl) (by kernel_rfl) (fun KJ hK => ?_) (fun KJ hK => ?_)
    · go_simp
      refine (twin8 sa sb (HA.out.below hbw) (HB.out.below hbw) ⟨HN.out.1, HN.out.2.1⟩).mono ?_
      rintro e9 W2 ⟨ga, gb, rfl, hga, hgb, hta, htb, hb⟩
      refine hK _ _ ⟨(Hxo.out.below hb).c0, (Hxo.out.below hb).c1, (Hxo.out.below hb).c2, (Hxo.out.below hb).c3, (Hxo.out.below hb).c4, (Hxo.out.below hb).c5, (Hxo.out.below hb).c6, (Hxo.out.below hb).c7, (Hxo.out.below hb).c8⟩ ?_
      exact wpJ_same5 (by kernel_rfl) (by kernel_rfl) (N1 ga gb W2 ⟨(Hxo.out.below hb), (Below.on hbw hb), hta, htb⟩)
    · go_simp
      have hb := below1 W' (.cells #[.int .i64 0, .int .i64 0, .bool false, .slice none 0 0, .int .i64 0, .bool false, .slice none 0 0, .int .i64 0, .int .u64 0] 59)
      refine hK _ _ ⟨(Hxo.out.below hb).c0, (Hxo.out.below hb).c1, (Hxo.out.below hb).c2, (Hxo.out.below hb).c3, (Hxo.out.below hb).c4, (Hxo.out.below hb).c5, (Hxo.out.below hb).c6, (Hxo.out.below hb).c7, (Hxo.out.below hb).c8⟩ ?_
      exact wpJ_same5 (by kernel_rfl) (by kernel_rfl) (N4 W'.heap.size _ ⟨(Hxo.out.below hb), (Below.on hbw hb), (B9q.new W' _ _ _ _ _ _ _ _ _ _), hbw.size, (Nat.ne_of_lt Hxo.out.lt)⟩)
  exact N_ W1 ⟨Xo.out, hbw⟩
theorem rdyad_n {p : Option Addr} {m K : Nat} {w : World} {z zo e : Int} (s : Bool) (h : ZR w s p m z) (hz : z ≠ 0) (hK : TzIs z.natAbs K) (hzo : zo.natAbs = z.natAbs / 2 ^ K ∧ zo % 2 = 1 ∧ decide (zo < 0) = decide (z < 0) ∧ iv (decide (z < 0)) (z.natAbs / 2 ^ K) = zo) (hm : m ≤ 16384) (he : -1099511627776 ≤ e ∧ e ≤ 1048576) (he2 : -1048576 ≤ e + K ∧ e + K ≤ 1048576) :
    Calls Tryz.prog 139 #[.agg #[.bool s, .slice p m m], .int .i64 e] w fun en w' => ∃ g m' c', en = .returned (DV s (some ⟨g, 0, none⟩) m' c' (e + K)) ∧ w.heap.size ≤ g ∧ DN w' s (some ⟨g, 0, none⟩) m' c' (e + K) zo ∧ Below w.heap.size w w' := by
  obtain ⟨xs, hA, hN⟩ := h.ex
  have AX : Hid (At32 w p m m xs) := hA
  have NX : Hid (Nf B32 xs z.natAbs) := hN
  have HZ : Hid (TzIs z.natAbs K ∧ 0 < z.natAbs ∧ s = decide (z < 0) ∧ m ≤ 16384 ∧ K ≤ 9223372036854775807) := ⟨hK, by omega, h.sg, hm, by omega⟩
  have HO : Hid (zo.natAbs = z.natAbs / 2 ^ K ∧ zo % 2 = 1 ∧ decide (zo < 0) = decide (z < 0) ∧ iv (decide (z < 0)) (z.natAbs / 2 ^ K) = zo) := hzo
  have HS : Hid (ZR w s p m z) := h
  have HZ0 : Hid (z ≠ 0) := hz
  have HE : Hid (-1048576 ≤ e + K ∧ e + K ≤ 1048576) := he2
  have hm0 : ¬ m = 0 := fun e0 => by have := h.zero.1 e0; omega
  have hm1 : ((m : Int) == 0) = false := by simp; omega
  have g1 : ¬ 1048576 < e := by omega
  have g2 : ¬ e < -1099511627776 := by omega
  have g5 : wrap64 (e + K) = e + K := by simp only [wrap64]; omega
  have g6 : IntKind.i64.wrap (e + K) = e + K := by simp [IntKind.wrap, IntKind.signed, IntKind.bits]; omega
  have g3 : ¬ e + (K : Int) < -1048576 := by omega
  have g7 : ¬ 1048576 < e + (K : Int) := by omega
  clear h hz hm hA hN he he2 hzo hK
  go_enter Tryz.func139, Tryz.ntmps139
  go_wp2_with fail
  obtain ⟨W0, hW0⟩ : ∃ W0, W0 = ((w.alloc (.cells #[.bool s, .slice p m m] 104)).alloc (.cells #[.bool false, .slice none 0 0, .int .i64 0] 33)) := ⟨_, rfl⟩
  have Xm : Hid (Box W0 (w.heap.size) (.bool s) (.slice p m m)) := by rw [hW0]; exact ⟨by go_simp, by go_simp, by go_simp, by go_simp⟩
  have Xr : Hid (B3q W0 (w.heap.size + 1) (.bool false) (.slice none 0 0) (.int .i64 0)) := by rw [hW0]; exact ⟨by go_simp, by go_simp, by go_simp, by go_simp, by go_simp, by go_simp⟩
  have hb0 : Below w.heap.size w W0 := by rw [hW0]; exact below2 w _ _
  rw [← hW0]
  clear hW0
  have hbw : Below w.heap.size w w := Below.refl _ _
  obtain ⟨gr, hgr⟩ : ∃ g, g = w.heap.size + 1 := ⟨_, rfl⟩
  have HGr : Hid (w.heap.size ≤ gr) := by rw [hgr]; show _ ≤ _; omega
  rw [← hgr] at Xr
  try rw [← hgr]
  obtain ⟨gm, hgm⟩ : ∃ g, g = w.heap.size := ⟨_, rfl⟩
  have HGm : Hid (w.heap.size ≤ gm) := by rw [hgm]; show _ ≤ _; omega
  rw [← hgm] at Xm
  try rw [← hgm]
  have HGD : Hid (gm ≠ gr ∧ gr ≠ gm) := by rw [hgm, hgr]; exact ⟨by omega, by omega⟩
  clear hgm hgr
  replace hbw := Below.on hbw hb0
  clear hb0
  refine (rsign04 s (HS.out.below hbw)).mono ?_
  rintro e v9 ⟨rfl, hb9⟩
  obtain ⟨sg, hsg⟩ : ∃ sg, sg = sgnI z := ⟨_, rfl⟩
  rw [← hsg]
  have hs0 : (sg == 0) = false := by rw [hsg]; have := HZ0.out; unfold sgnI; split <;> (try split) <;> simp <;> omega
  clear hsg
  replace Xm : Hid _ := Xm.out.below hb9
  replace Xr : Hid _ := Xr.out.below hb9
  replace hbw := Below.on hbw hb9
  clear hb9
  obtain ⟨cm0, cm1, fm0, fm1⟩ := Xm.out
  have hnem := Xm.out.lt
  go_wp2_with fail
  clear cm0 cm1 fm0 fm1 hnem
  clear hs0
  refine (rzeros_any (k := K) (AX.out.below hbw) NX.out (by have := HZ.out; omega) HZ.out.1 HZ.out.2.1).mono ?_
  rintro e2 v1 ⟨rfl, hw⟩
  obtain rfl := hw.symm
  clear hw
  obtain ⟨cm0, cm1, fm0, fm1⟩ := Xm.out
  have hnem := Xm.out.lt
  go_wp2_with fail
  clear cm0 cm1 fm0 fm1 hnem
  obtain ⟨W5, hW5⟩ : ∃ W1, W1 = v9.drew := ⟨_, rfl⟩
  have hbd : Below v9.heap.size v9 W5 := by rw [hW5]; exact bDrew1 (Below.refl _ _)
  replace Xm : Hid _ := Xm.out.below hbd
  replace Xr : Hid _ := Xr.out.below hbd
  replace hbw := Below.on hbw hbd
  clear hbd
  have HJ : Hid ((fun W' : World => W'.cell? ⟨gm, 0, none⟩ = some (.bool s) ∧ W'.cell? ⟨gm, 1, none⟩ = some (.slice p m m)) W5) := ⟨Xm.out.c0, Xm.out.c1⟩
  refine wp_region_J (fun W' => W'.cell? ⟨gm, 0, none⟩ = some (.bool s) ∧ W'.cell? ⟨gm, 1, none⟩ = some (.slice p m m)) (by kernel_rfl) ?_
  rw [← hW5]
  clear hW5
  refine wpJ_tq 0 rfl HJ.out ?_
  refine wpJ_tq 1 rfl HJ.out ?_
  refine wpJ_tq 2 rfl HJ.out ?_
  refine wpJ_tq 3 rfl HJ.out ?_
  refine wpJ_tq 4 rfl HJ.out ?_
  go_simp
  refine wpJ_tq 8 rfl HJ.out ?_
  refine wpJ_tq 9 rfl HJ.out ?_
  refine wpJ_tq 10 rfl HJ.out ?_
  refine wpJ_on 5 rfl fun KJ hK => ?_
  go_simp
  refine (rshr_alle (AX.out.below hbw) NX.out (by have := HZ.out; omega) K HZ.out.2.2.2.2).mono ?_
  rintro e2 v3 ⟨p3, m3, z3, rfl, hA3, hN3, hl3, hb3⟩
  have g4 : ¬ (16384 : Int) < (m3 : Int) := by have := HZ.out; omega
  have N3 : Hid (Nf B32 z3 (z.natAbs / 2 ^ K) ∧ m3 ≤ m) := ⟨hN3, hl3⟩
  replace Xm : Hid _ := Xm.out.below hb3
  replace Xr : Hid _ := Xr.out.below hb3
  replace hbw := Below.on hbw hb3
  clear hb3
  have A3 : Hid (At32 v3 p3 m3 m3 z3) := hA3
  clear hA3 hN3 hl3
  refine hK _ _ ⟨Xm.out.c0, Xm.out.c1⟩ ?_
  clear hK
  refine wpJ_on 6 rfl fun KJ hK => ?_
  go_simp
  refine (rmk_any s A3.out N3.out.1 (by have := HZ.out; have := N3.out; omega)).mono ?_
  rintro e v5 ⟨v, rfl, hv, hb5⟩
  obtain ⟨s5, g5, m5, rfl, hg5, hz5, hl5⟩ := hv
  have HN5 : Hid (v3.heap.size ≤ g5) := hg5
  have HB5 : Hid (v3.heap.size ≤ v5.heap.size) := hb5.size
  replace Xm : Hid _ := Xm.out.below hb5
  replace Xr : Hid _ := Xr.out.below hb5
  replace A3 : Hid _ := A3.out.below hb5
  replace hbw := Below.on hbw hb5
  clear hb5
  have Z5 : Hid (ZR v5 s5 (some ⟨g5, 0, none⟩) m5 (iv s (z.natAbs / 2 ^ K))) := hz5
  have HL5 : Hid (m5 ≤ m3) := hl5
  clear hz5 hl5 hg5
  have hz5 := Z5.out.cast (show iv s (z.natAbs / 2 ^ K) = zo from by rw [HZ.out.2.2.1]; exact HO.out.2.2.2)
  obtain rfl : s5 = s := by rw [hz5.sg, HZ.out.2.2.1]; exact HO.out.2.2.1
  obtain ⟨zs, hA5, hN5⟩ := hz5.ex
  have h05 : s5 = true → 0 < m5 := fun h8 => Nat.pos_of_ne_zero fun e0 => by have := hz5.zero.1 e0; have := HO.out.2.1; omega
  have HZ5 : Hid (At32 v5 (some ⟨g5, 0, none⟩) m5 m5 zs ∧ Nf B32 zs zo.natAbs ∧ (s5 = true → 0 < m5) ∧ m5 ≤ m) := ⟨hA5, hN5, h05, Nat.le_trans HL5.out N3.out.2⟩
  clear hz5 hA5 hN5 h05 Z5
  refine hK _ _ ⟨Xm.out.c0, Xm.out.c1⟩ ?_
  clear hK
  refine wpJ_on 7 rfl fun KJ hK => ?_
  go_simp
  have HRL : Hid (gr < v5.heap.size ∧ w.heap.size ≤ v5.heap.size) := ⟨Xr.out.lt, hbw.size⟩
  refine (to04_any s5 HZ5.out.1 HZ5.out.2.1 (by have := HZ5.out; have := HZ.out; omega) HZ5.out.2.2.1).mono ?_
  rintro e2 v6 ⟨g6, k6, c6, us, rfl, hA6, hN6, hg6, hb6⟩
  replace Xm : Hid _ := Xm.out.below hb6
  replace Xr : Hid _ := Xr.out.below hb6
  replace A3 : Hid _ := A3.out.below hb6
  replace hbw := Below.on hbw hb6
  clear hb6
  have A6 : Hid (At v6 (some ⟨g6, 0, none⟩) k6 c6 us) := hA6
  have N6 : Hid (Nf B64 us zo.natAbs ∧ gr < g6) := ⟨hN6, Nat.lt_of_lt_of_le HRL.out.1 hg6⟩
  clear hA6 hN6 hg6
  clear HJ
  have HJ : Hid ((fun W' : World => W'.cell? ⟨gm, 0, none⟩ = some (.bool s5) ∧ W'.cell? ⟨gm, 1, none⟩ = some (.slice p m m)) v6) := ⟨Xm.out.c0, Xm.out.c1⟩
  refine hK _ _ HJ.out ?_
  clear hK
  refine wpJ_tq 11 rfl HJ.out ?_
  obtain ⟨cr0, cr1, cr2, fr0, fr1, fr2⟩ := Xr.out
  have hner : gr < v6.heap.size := World.block_lt_of_cell? v6 _ cr0
  obtain ⟨cm0, cm1, fm0, fm1⟩ := Xm.out
  have hnem := Xm.out.lt
  obtain ⟨hgd0, hgd1⟩ := HGD.out
  refine wpJ_on 12 rfl fun KJ hK => ?_
  go_simp
  have HJ2 : Hid ((fun W' : World => W'.cell? ⟨gm, 0, none⟩ = some (.bool s5) ∧ W'.cell? ⟨gm, 1, none⟩ = some (.slice p m m)) (((v6.setCell ⟨gr, 0, none⟩ (.bool s5)).setCell ⟨gr, 1, none⟩ (.slice (some ⟨g6, 0, none⟩) k6 c6)).setCell ⟨gr, 2, none⟩ (.int .i64 (e + K)))) := ⟨by go_simp, by go_simp⟩
  refine hK _ _ HJ2.out ?_
  clear hK HJ
  have HJ := HJ2
  clear HJ2
  refine wpJ_done (by kernel_rfl) ?_ _
  clear HJ
  go_wp2_with fail
  refine bodyPost_ret (v := DV s5 (some ⟨g6, 0, none⟩) k6 c6 (e + K)) (by rw [results_cell1 rfl]; go_simp) rfl ⟨g6, k6, c6, rfl, Nat.le_trans HGr.out (Nat.le_of_lt N6.out.2), ⟨⟨⟨us, ?_, N6.out.1, ?_⟩, by rw [HZ.out.2.2.1]; exact HO.out.2.2.1.symm⟩, .inr ⟨HO.out.2.1, HE.out⟩⟩, ?_⟩
  · have := N6.out.2
    exact ((A6.out.setOther _ _ _ (by omega)).setOther _ _ _ (by omega)).setOther _ _ _ (by omega)
  · have h1 := (lim32 HZ5.out.2.1).1 (by rw [HZ5.out.1.len]; have := HZ5.out; have := HZ.out; omega)
    have h2 := N6.out.1.lim.2 h1
    rw [A6.out.len] at h2
    exact h2
  · exact bSet (bSet (bSet hbw _ _ _ HGr.out) _ _ _ HGr.out) _ _ _ HGr.out
theorem rfin_o {f P E G : Int} {S I Q : Nat} (R : Rf f S P E G I Q) (b : Nat) (hb : b < 2 * S) (hr : b % S < I) (h0 : 0 < S) (hS : S ≤ 9223372036854775808) (w : World) :
    Calls Tryz.prog 136 #[.int .i64 f, U b] w fun en w' => en = .returned (.int .i64 0) ∧ Below w.heap.size w w' := by
  have H : Hid (Rf f S P E G I Q ∧ b < 2 * S ∧ 0 < S ∧ S ≤ 9223372036854775808) := ⟨R, hb, h0, hS⟩
  obtain ⟨z, hz⟩ : ∃ z, z = b % S := ⟨_, rfl⟩
  have HZ : Hid (b % S = z) := hz.symm
  have k1 : ¬ (I : Int) ≤ (z : Int) := by omega
  clear R hb hr h0 hS hz
  go_enter Tryz.func136, Tryz.ntmps136
  go_wp2_with fail
  have hbw : Below w.heap.size w w := Below.refl _ _
  refine (check_ok H.out.1 b H.out.2.1 _).mono ?_
  rintro e v1 ⟨rfl, hb1⟩
  replace hbw := Below.on hbw hb1
  clear hb1
  go_wp2_with fail
  refine (H.out.1.of _).mono ?_
  rintro e v2 ⟨rfl, hb2⟩
  replace hbw := Below.on hbw hb2
  clear hb2
  go_wp2_with fail
  have Xk0 : Hid (B6q (v2.alloc (.cells #[U S, .int .i64 P, .int .i64 E, .int .i64 G, U I, U Q] 126)) v2.heap.size (U S) (.int .i64 P) (.int .i64 E) (.int .i64 G) (U I) (U Q)) := B6q.new v2 _ _ _ _ _ _ _
  have hbn : Below v2.heap.size v2 (v2.alloc (.cells #[U S, .int .i64 P, .int .i64 E, .int .i64 G, U I, U Q] 126)) := below1 v2 _
  generalize v2.alloc (.cells #[U S, .int .i64 P, .int .i64 E, .int .i64 G, U I, U Q] 126) = Wk at *
  have HGk : Hid (w.heap.size ≤ v2.heap.size) := hbw.size
  replace hbw := Below.on hbw hbn
  clear hbn
  generalize v2.heap.size = gk at *
  have Xk := Xk0
  clear Xk0
  refine (cut_any H.out.2.2.1 H.out.2.2.2 b _).mono ?_
  rintro e v3 ⟨rfl, hb3⟩
  rw [HZ.out]
  replace Xk : Hid _ := Xk.out.below hb3
  replace hbw := Below.on hbw hb3
  clear hb3
  obtain ⟨ck0, ck1, ck2, ck3, ck4, ck5, fk0, fk1, fk2, fk3, fk4, fk5⟩ := Xk.out
  have hnek : gk < v3.heap.size := World.block_lt_of_cell? v3 _ ck0
  go_wp2_with fail
  clear ck0 ck1 ck2 ck3 ck4 ck5 fk0 fk1 fk2 fk3 fk4 fk5 hnek
  go_ret
  exact ⟨rfl, hbw⟩
theorem zr_blk8 {w : World} {s : Bool} {g m : Nat} {z : Int} (h : ZR w s (some ⟨g, 0, none⟩) m z) : m = 0 ∨ g < w.heap.size := by
  obtain ⟨zs, hA, _⟩ := h.ex
  rcases hA.cells with h0 | ⟨g9, off, hp, hc⟩
  · exact .inl h0
  · by_cases h0 : m = 0
    · exact .inl h0
    · have h1 := World.block_lt_of_cell? w _ (hc 0 (by omega))
      injection hp with hp
      injection hp with hp1 hp2
      subst hp1
      exact .inr h1
theorem zr_set8 {w : World} {s : Bool} {g m : Nat} {z : Int} (h : ZR w s (some ⟨g, 0, none⟩) m z) (g2 o2 : Nat) (v : Value) (hne : m = 0 ∨ g ≠ g2) : ZR (w.setCell ⟨g2, o2, none⟩ v) s (some ⟨g, 0, none⟩) m z := by
  rcases hne with h0 | h0
  · obtain ⟨zs, hA, hN⟩ := h.ex
    exact ⟨⟨zs, ⟨hA.len, hA.cap, hA.big, hA.dig, .inl h0⟩, hN⟩, h.sg⟩
  · exact h.set g2 o2 v h0
theorem mid_sum {H : Nat} (hH : 0 < H) (s : Nat) : vs H s + vs H (s + 1) = (2 * (s - (s / H - 1) * H) + 1) * 2 ^ (s / H - 1) := by
  rw [vs_next hH]
  unfold vs
  rw [Nat.add_mul, Nat.one_mul, Nat.mul_assoc]
  omega
theorem mid_zo {sg : Bool} {M q : Nat} (hM : M % 2 = 1) : iv sg (M * 2 ^ q) ≠ 0 ∧ TzIs (iv sg (M * 2 ^ q)).natAbs q ∧ ((iv sg M).natAbs = (iv sg (M * 2 ^ q)).natAbs / 2 ^ q ∧ iv sg M % 2 = 1 ∧ decide (iv sg M < 0) = decide (iv sg (M * 2 ^ q) < 0) ∧ iv (decide (iv sg (M * 2 ^ q) < 0)) ((iv sg (M * 2 ^ q)).natAbs / 2 ^ q) = iv sg M) ∧ decide (iv sg (M * 2 ^ q) < 0) = sg := by
  have hq : 0 < 2 ^ q := Nat.pow_pos (by omega)
  have h1 : 0 < M * 2 ^ q := Nat.mul_pos (by omega) hq
  have h2 : ∀ a : Nat, (iv sg a).natAbs = a := fun a => by cases sg <;> simp [iv]
  have h3 : ∀ a : Nat, 0 < a → decide (iv sg a < 0) = sg := fun a ha => by rw [iv_lt, decide_eq_true ha, Bool.and_true]
  have h4 : M * 2 ^ q / 2 ^ q = M := Nat.mul_div_cancel _ hq
  refine ⟨fun e0 => ?_, ?_, ⟨?_, ?_, ?_, ?_⟩, h3 _ h1⟩
  · have := h2 (M * 2 ^ q)
    rw [e0] at this
    have h5 : Int.natAbs 0 = 0 := rfl
    omega
  · rw [h2]
    exact ⟨Nat.mul_mod_left _ _, by rw [h4]; exact hM⟩
  · rw [h2, h2, h4]
  · cases sg
    · rw [iv_f]; omega
    · rw [iv_t]; omega
  · rw [h3 _ h1, h3 _ (by omega)]
  · rw [h3 _ h1, h2, h4]
theorem rmid_o {f P E G : Int} {S I Q H : Nat} (R : Rf f S P E G I Q) (wh : ∀ (b : Nat) w, Calls Tryz.prog 138 #[FV S P E G I Q, U b] w fun en w' => ∃ v, en = .returned v ∧ GotR w.heap.size w' v (svS S H b) 2200 ∧ Below w.heap.size w w') (b : Nat) (hb : b < 2 * S) (hr : b % S < I) (hc : I < S ∧ S ≤ 9223372036854775808 ∧ 0 < H ∧ -1074 ≤ E ∧ E ≤ -149) (hq : b % S / H - 1 ≤ 2045) (w : World) :
    Calls Tryz.prog 91 #[.int .i64 f, U b] w fun en w' => ∃ g m' c', en = .returned (.tuple #[DV (decide (S ≤ b)) (some ⟨g, 0, none⟩) m' c' (E - 1 + ((b % S / H - 1 : Nat) : Int)), .int .i64 0]) ∧ DN w' (decide (S ≤ b)) (some ⟨g, 0, none⟩) m' c' (E - 1 + ((b % S / H - 1 : Nat) : Int)) (iv (decide (S ≤ b)) (2 * (b % S - (b % S / H - 1) * H) + 1)) ∧ Below w.heap.size w w' := by
  obtain ⟨s, hs⟩ : ∃ s, s = b % S := ⟨_, rfl⟩
  obtain ⟨sg, hsg⟩ : ∃ sg, sg = decide (S ≤ b) := ⟨_, rfl⟩
  obtain ⟨q, hqq⟩ : ∃ q, q = s / H - 1 := ⟨_, rfl⟩
  obtain ⟨M, hM⟩ : ∃ M, M = 2 * (s - q * H) + 1 := ⟨_, rfl⟩
  rw [← hs] at hr hq ⊢
  rw [← hqq] at hq ⊢
  rw [← hM, ← hsg]
  have HC : Hid (Rf f S P E G I Q ∧ b < 2 * S ∧ s < I ∧ (I < S ∧ S ≤ 9223372036854775808 ∧ 0 < H ∧ -1074 ≤ E ∧ E ≤ -149) ∧ q ≤ 2045 ∧ b % S = s ∧ decide (S ≤ b) = sg) := ⟨R, hb, hr, hc, hq, hs.symm, hsg.symm⟩
  have HW : Hid (∀ (b : Nat) w, Calls Tryz.prog 138 #[FV S P E G I Q, U b] w fun en w' => ∃ v, en = .returned v ∧ GotR w.heap.size w' v (svS S H b) 2200 ∧ Below w.heap.size w w') := wh
  have HM : Hid (vs H s + vs H (s + 1) = M * 2 ^ q ∧ M % 2 = 1) := ⟨by rw [hM, hqq]; exact mid_sum hc.2.2.1 s, by omega⟩
  have k1 : IntKind.u64.wrap ((s : Int) + 1) = ((s + 1 : Nat) : Int) := by rw [IntKind.wrap_u64]; omega
  have k2 : wrap64 (E - 1) = E - 1 := by simp only [wrap64]; omega
  have k3 : IntKind.i64.wrap (E - 1) = E - 1 := by simp [IntKind.wrap, IntKind.signed, IntKind.bits]; omega
  clear R wh hb hr hc hq hs hsg hqq hM
  go_enter Tryz.func91, Tryz.ntmps91
  go_wp2_with fail
  obtain ⟨W0, hW0⟩ : ∃ W0, W0 = (w.alloc (.cells #[.bool false, .slice none 0 0, .int .i64 0] 33)) := ⟨_, rfl⟩
  have Xr : Hid (B3q W0 (w.heap.size) (.bool false) (.slice none 0 0) (.int .i64 0)) := by rw [hW0]; exact ⟨by go_simp, by go_simp, by go_simp, by go_simp, by go_simp, by go_simp⟩
  have hb0 : Below w.heap.size w W0 := by rw [hW0]; exact below1 w _
  rw [← hW0]
  clear hW0
  have hbw : Below w.heap.size w w := Below.refl _ _
  obtain ⟨gr, hgr⟩ : ∃ g, g = w.heap.size := ⟨_, rfl⟩
  have HGr : Hid (w.heap.size ≤ gr) := by rw [hgr]; show _ ≤ _; omega
  rw [← hgr] at Xr
  try rw [← hgr]
  clear hgr
  replace hbw := Below.on hbw hb0
  clear hb0
  refine (rfin_o HC.out.1 b HC.out.2.1 (by rw [HC.out.2.2.2.2.2.1]; exact HC.out.2.2.1) (by have := HC.out.2.2.2.1; omega) HC.out.2.2.2.1.2.1 _).mono ?_
  rintro e v1 ⟨rfl, hb1⟩
  replace Xr : Hid _ := Xr.out.below hb1
  replace hbw := Below.on hbw hb1
  clear hb1
  go_wp2_with fail
  refine (HC.out.1.of _).mono ?_
  rintro e v2 ⟨rfl, hb2⟩
  replace Xr : Hid _ := Xr.out.below hb2
  replace hbw := Below.on hbw hb2
  clear hb2
  go_wp2_with fail
  have HKR0' : Hid (gr < v2.heap.size) := Xr.out.lt
  have Xk0 : Hid (B6q (v2.alloc (.cells #[U S, .int .i64 P, .int .i64 E, .int .i64 G, U I, U Q] 126)) v2.heap.size (U S) (.int .i64 P) (.int .i64 E) (.int .i64 G) (U I) (U Q)) := B6q.new v2 _ _ _ _ _ _ _
  have hbn : Below v2.heap.size v2 (v2.alloc (.cells #[U S, .int .i64 P, .int .i64 E, .int .i64 G, U I, U Q] 126)) := below1 v2 _
  generalize v2.alloc (.cells #[U S, .int .i64 P, .int .i64 E, .int .i64 G, U I, U Q] 126) = Wk at *
  have HGk : Hid (w.heap.size ≤ v2.heap.size) := hbw.size
  replace Xr : Hid _ := Xr.out.below hbn
  replace hbw := Below.on hbw hbn
  clear hbn
  generalize v2.heap.size = gk at *
  have Xk := Xk0
  clear Xk0
  have HKR0 : Hid (gk ≠ gr) := Nat.ne_of_gt HKR0'.out
  refine (cut_any (by have := HC.out.2.2.2.1; omega) HC.out.2.2.2.1.2.1 b _).mono ?_
  rintro e v3 ⟨rfl, hb3⟩
  rw [HC.out.2.2.2.2.2.1, HC.out.2.2.2.2.2.2]
  replace Xr : Hid _ := Xr.out.below hb3
  replace Xk : Hid _ := Xk.out.below hb3
  replace hbw := Below.on hbw hb3
  clear hb3
  obtain ⟨ck0, ck1, ck2, ck3, ck4, ck5, fk0, fk1, fk2, fk3, fk4, fk5⟩ := Xk.out
  have hnek : gk < v3.heap.size := World.block_lt_of_cell? v3 _ ck0
  go_wp2_with fail
  clear ck0 ck1 ck2 ck3 ck4 ck5 fk0 fk1 fk2 fk3 fk4 fk5 hnek
  have HV1 : Hid (svS S H s = (vs H s : Int) ∧ svS S H (s + 1) = (vs H (s + 1) : Int)) := by have h := HC.out; constructor <;> (rw [svS_eq, if_neg (by omega), Nat.mod_eq_of_lt (by omega)])
  have HKR : Hid (gk ≠ gr) := HKR0.out
  obtain ⟨W5, hW5⟩ : ∃ W1, W1 = v3.drew := ⟨_, rfl⟩
  have hbd : Below v3.heap.size v3 W5 := by rw [hW5]; exact bDrew1 (Below.refl _ _)
  replace Xr : Hid _ := Xr.out.below hbd
  replace Xk : Hid _ := Xk.out.below hbd
  replace hbw := Below.on hbw hbd
  clear hbd
  have HJ : Hid ((fun W' : World => W'.cell? ⟨gk, 0, none⟩ = some (U S) ∧ W'.cell? ⟨gk, 1, none⟩ = some (.int .i64 P) ∧ W'.cell? ⟨gk, 2, none⟩ = some (.int .i64 E) ∧ W'.cell? ⟨gk, 3, none⟩ = some (.int .i64 G) ∧ W'.cell? ⟨gk, 4, none⟩ = some (U I) ∧ W'.cell? ⟨gk, 5, none⟩ = some (U Q)) W5) := ⟨Xk.out.c0, Xk.out.c1, Xk.out.c2, Xk.out.c3, Xk.out.c4, Xk.out.c5⟩
  refine wp_region_J (fun W' => W'.cell? ⟨gk, 0, none⟩ = some (U S) ∧ W'.cell? ⟨gk, 1, none⟩ = some (.int .i64 P) ∧ W'.cell? ⟨gk, 2, none⟩ = some (.int .i64 E) ∧ W'.cell? ⟨gk, 3, none⟩ = some (.int .i64 G) ∧ W'.cell? ⟨gk, 4, none⟩ = some (U I) ∧ W'.cell? ⟨gk, 5, none⟩ = some (U Q)) (by kernel_rfl) ?_
  rw [← hW5]
  clear hW5
  refine wpJ_tq 0 rfl HJ.out ?_
  refine wpJ_tq 1 rfl HJ.out ?_
  refine wpJ_tq 3 rfl HJ.out ?_
  refine wpJ_tq 4 rfl HJ.out ?_
  refine wpJ_tq 5 rfl HJ.out ?_
  go_simp
  refine wpJ_nodes5 fun WP hWP L0 a0 hL ha => ?_
  have N2_6_7_8 : ∀ (t1 : Bool) (k1_ : Nat) (n1 : Nat) (t2 : Bool) (k2_ : Nat) (n2 : Nat) (t3 : Bool) (k3_ : Nat) (n3 : Nat) (gm : Nat) (W' : World), (B6q W' gk (U S) (.int .i64 P) (.int .i64 E) (.int .i64 G) (U I) (U Q)) ∧ (B3q W' gr (.bool false) (.slice none 0 0) (.int .i64 0)) ∧ (Below w.heap.size w W') ∧ (ZR W' t1 (some ⟨k1_, 0, none⟩) n1 (vs H s : Int)) ∧ (n1 ≤ 2200) ∧ (ZR W' t2 (some ⟨k2_, 0, none⟩) n2 (vs H (s + 1) : Int)) ∧ (n2 ≤ 2200) ∧ (ZR W' t3 (some ⟨k3_, 0, none⟩) n3 ((vs H s : Int) + (vs H (s + 1) : Int))) ∧ (n3 ≤ 2300) ∧ (Box W' gm (.bool false) (.slice none 0 0)) ∧ (w.heap.size ≤ gm) ∧ (gk ≠ gm ∧ gr ≠ gm) ∧ (n3 = 0 ∨ k3_ ≠ gm) → WP 1 ((((L0.setIfInBounds 2 true).setIfInBounds 6 true).setIfInBounds 7 true).setIfInBounds 8 true) ((((a0.put (some 32) (.agg #[.bool t1, .slice (some ⟨k1_, 0, none⟩) n1 n1])).put (some 36) (.agg #[.bool t2, .slice (some ⟨k2_, 0, none⟩) n2 n2])).put (some 37) (.agg #[.bool t3, .slice (some ⟨k3_, 0, none⟩) n3 n3])).put (some 11) (.pointer (some ⟨gm, 0, none⟩))) W' := by
    rintro t1 k1_ n1 t2 k2_ n2 t3 k3_ n3 gm W' ⟨xk, xr, hbw, z1, l1, z2, l2, z3, l3, xm, hm, nm, o3⟩
    subst hWP hL ha
    have Hxk := Hid.mk5 xk
    have Hxr := Hid.mk5 xr
    have Hz1 := Hid.mk5 z1
    have Hl1 := Hid.mk5 l1
    have Hz2 := Hid.mk5 z2
    have Hl2 := Hid.mk5 l2
    have Hz3 := Hid.mk5 z3
    have Hl3 := Hid.mk5 l3
    have Hxm := Hid.mk5 xm
    have Hhm := Hid.mk5 hm
    have Hnm := Hid.mk5 nm
    have Ho3 := Hid.mk5 o3
    clear xk xr z1 l1 z2 l2 z3 l3 xm hm nm o3
    go_simp
    have Xk := Hxk
    have Xr := Hxr
    have Xm := Hxm
    clear Hxk Hxr Hxm
    obtain ⟨q1, q2⟩ := Hnm.out
    have q1' := Ne.symm q1
    have q2' := Ne.symm q2
    have HJ : Hid ((fun W' : World => W'.cell? ⟨gk, 0, none⟩ = some (U S) ∧ W'.cell? ⟨gk, 1, none⟩ = some (.int .i64 P) ∧ W'.cell? ⟨gk, 2, none⟩ = some (.int .i64 E) ∧ W'.cell? ⟨gk, 3, none⟩ = some (.int .i64 G) ∧ W'.cell? ⟨gk, 4, none⟩ = some (U I) ∧ W'.cell? ⟨gk, 5, none⟩ = some (U Q)) W') := ⟨Xk.out.c0, Xk.out.c1, Xk.out.c2, Xk.out.c3, Xk.out.c4, Xk.out.c5⟩
    obtain ⟨ck0, ck1, ck2, ck3, ck4, ck5, fk0, fk1, fk2, fk3, fk4, fk5⟩ := Xk.out
    have hnek : gk < W'.heap.size := World.block_lt_of_cell? W' _ ck0
    obtain ⟨cr0, cr1, cr2, fr0, fr1, fr2⟩ := Xr.out
    have hner : gr < W'.heap.size := World.block_lt_of_cell? W' _ cr0
    obtain ⟨cm0, cm1, fm0, fm1⟩ := Xm.out
    have hnem := Xm.out.lt
    refine wpJ_on 9 rfl fun KJ hK => ?_
    go_simp
    have Yk : Hid (B6q ((W'.setCell ⟨gm, 0, none⟩ (.bool t3)).setCell ⟨gm, 1, none⟩ (.slice (some ⟨k3_, 0, none⟩) n3 n3)) gk (U S) (.int .i64 P) (.int .i64 E) (.int .i64 G) (U I) (U Q)) := ⟨by go_simp, by go_simp, by go_simp, by go_simp, by go_simp, by go_simp, by go_simp, by go_simp, by go_simp, by go_simp, by go_simp, by go_simp⟩
    have Yr : Hid (B3q ((W'.setCell ⟨gm, 0, none⟩ (.bool t3)).setCell ⟨gm, 1, none⟩ (.slice (some ⟨k3_, 0, none⟩) n3 n3)) gr (.bool false) (.slice none 0 0) (.int .i64 0)) := ⟨by go_simp, by go_simp, by go_simp, by go_simp, by go_simp, by go_simp⟩
    have Ym : Hid (Box ((W'.setCell ⟨gm, 0, none⟩ (.bool t3)).setCell ⟨gm, 1, none⟩ (.slice (some ⟨k3_, 0, none⟩) n3 n3)) gm (.bool t3) (.slice (some ⟨k3_, 0, none⟩) n3 n3)) := ⟨by go_simp, by go_simp, by go_simp, by go_simp⟩
    have HJ2 : Hid ((fun W' : World => W'.cell? ⟨gk, 0, none⟩ = some (U S) ∧ W'.cell? ⟨gk, 1, none⟩ = some (.int .i64 P) ∧ W'.cell? ⟨gk, 2, none⟩ = some (.int .i64 E) ∧ W'.cell? ⟨gk, 3, none⟩ = some (.int .i64 G) ∧ W'.cell? ⟨gk, 4, none⟩ = some (U I) ∧ W'.cell? ⟨gk, 5, none⟩ = some (U Q)) ((W'.setCell ⟨gm, 0, none⟩ (.bool t3)).setCell ⟨gm, 1, none⟩ (.slice (some ⟨k3_, 0, none⟩) n3 n3))) := ⟨Yk.out.c0, Yk.out.c1, Yk.out.c2, Yk.out.c3, Yk.out.c4, Yk.out.c5⟩
    have Hy3 : Hid (ZR ((W'.setCell ⟨gm, 0, none⟩ (.bool t3)).setCell ⟨gm, 1, none⟩ (.slice (some ⟨k3_, 0, none⟩) n3 n3)) t3 (some ⟨k3_, 0, none⟩) n3 ((vs H s : Int) + (vs H (s + 1) : Int))) := zr_set8 (zr_set8 Hz3.out _ _ _ Ho3.out) _ _ _ Ho3.out
    have hbw2 : Below w.heap.size w ((W'.setCell ⟨gm, 0, none⟩ (.bool t3)).setCell ⟨gm, 1, none⟩ (.slice (some ⟨k3_, 0, none⟩) n3 n3)) := bSet (bSet hbw _ _ _ Hhm.out) _ _ _ Hhm.out
    refine hK _ _ HJ2.out ?_
    clear hK HJ
    have HJ := HJ2
    clear HJ2
    clear ck0 ck1 ck2 ck3 ck4 ck5 fk0 fk1 fk2 fk3 fk4 fk5 hnek
    clear cr0 cr1 cr2 fr0 fr1 fr2 hner
    clear cm0 cm1 fm0 fm1 hnem
    clear Hz1 Hz2 Hz3 hbw Xk Xr Xm
    have Xk := Yk
    have Xr := Yr
    have Xm := Ym
    have Z3 := Hy3
    have hbw := hbw2
    clear Hy3 hbw2 Yk Yr Ym
    generalize ((W'.setCell ⟨gm, 0, none⟩ (.bool t3)).setCell ⟨gm, 1, none⟩ (.slice (some ⟨k3_, 0, none⟩) n3 n3)) = V9 at *
    refine wpJ_done (by kernel_rfl) ?_ _
    clear HJ
    obtain ⟨ck0, ck1, ck2, ck3, ck4, ck5, fk0, fk1, fk2, fk3, fk4, fk5⟩ := Xk.out
    have hnek : gk < V9.heap.size := World.block_lt_of_cell? V9 _ ck0
    obtain ⟨cm0, cm1, fm0, fm1⟩ := Xm.out
    have hnem := Xm.out.lt
    go_wp2_with fail
    clear ck0 ck1 ck2 ck3 ck4 ck5 fk0 fk1 fk2 fk3 fk4 fk5 hnek
    clear cm0 cm1 fm0 fm1 hnem
    obtain ⟨W6, hW6⟩ : ∃ W1, W1 = V9.drew := ⟨_, rfl⟩
    have hbd : Below V9.heap.size V9 W6 := by rw [hW6]; exact bDrew1 (Below.refl _ _)
    replace Xr : Hid _ := Xr.out.below hbd
    replace Xk : Hid _ := Xk.out.below hbd
    replace Xm : Hid _ := Xm.out.below hbd
    replace Z3 : Hid _ := Z3.out.below hbd
    replace hbw := Below.on hbw hbd
    clear hbd
    have HJ : Hid ((fun W' : World => W'.cell? ⟨gk, 2, none⟩ = some (.int .i64 E) ∧ W'.cell? ⟨gm, 0, none⟩ = some (.bool t3) ∧ W'.cell? ⟨gm, 1, none⟩ = some (.slice (some ⟨k3_, 0, none⟩) n3 n3)) W6) := ⟨Xk.out.c2, Xm.out.c0, Xm.out.c1⟩
    refine wp_region_J (fun W' => W'.cell? ⟨gk, 2, none⟩ = some (.int .i64 E) ∧ W'.cell? ⟨gm, 0, none⟩ = some (.bool t3) ∧ W'.cell? ⟨gm, 1, none⟩ = some (.slice (some ⟨k3_, 0, none⟩) n3 n3)) (by kernel_rfl) ?_
    rw [← hW6]
    clear hW6
    refine wpJ_tq 0 rfl HJ.out ?_
    refine wpJ_tq 1 rfl HJ.out ?_
    refine wpJ_tq 2 rfl HJ.out ?_
    refine wpJ_tq 4 rfl HJ.out ?_
    refine wpJ_tq 5 rfl HJ.out ?_
    go_simp
    refine wpJ_tq 6 rfl HJ.out ?_
    refine wpJ_on 3 rfl fun KJ hK => ?_
    go_simp
    obtain ⟨zs, hA, hN⟩ := Z3.out.ex
    rw [show ((vs H s : Int) + (vs H (s + 1) : Int)).natAbs = M * 2 ^ q from by rw [← HM.out.1]; omega] at hN
    have HNR : Hid (gr < W6.heap.size) := Xr.out.lt
    refine (rmk_any sg hA hN (by have := Hl3.out; omega)).mono ?_
    rintro e9 v4 ⟨v, rfl, ⟨t4, g4, n4, rfl, _, hz4, hl4⟩, hb4⟩
    clear hA hN
    replace Xr : Hid _ := Xr.out.below hb4
    replace Xk : Hid _ := Xk.out.below hb4
    replace Xm : Hid _ := Xm.out.below hb4
    replace Z3 : Hid _ := Z3.out.below hb4
    replace hbw := Below.on hbw hb4
    clear hb4
    have Z4 : Hid (ZR v4 t4 (some ⟨g4, 0, none⟩) n4 (iv sg (M * 2 ^ q))) := hz4
    have HL4 : Hid (n4 ≤ 16384) := by have := Hl3.out; show _ ≤ _; omega
    clear hz4 hl4
    refine hK _ _ ⟨Xk.out.c2, Xm.out.c0, Xm.out.c1⟩ ?_
    clear hK
    refine wpJ_on 7 rfl fun KJ hK => ?_
    go_simp
    obtain ⟨y1, y2, y3, y4⟩ := mid_zo (sg := sg) (q := q) HM.out.2
    have HT4 : Hid (t4 = sg) := Z4.out.sg.trans y4
    have HRB : Hid (gr < v4.heap.size ∧ w.heap.size ≤ v4.heap.size) := ⟨Xr.out.lt, hbw.size⟩
    refine (rdyad_n t4 Z4.out y1 y2 y3 HL4.out (by have := HC.out; omega) (by have := HC.out; omega)).mono ?_
    rintro e9 v5 ⟨g5, m5, c5, rfl, hg5, hd5, hb5⟩
    clear y1 y2 y3 y4
    rw [HT4.out] at hd5 ⊢
    have HR5 : Hid (gr < g5) := Nat.lt_of_lt_of_le HRB.out.1 hg5
    replace Xr : Hid _ := Xr.out.below hb5
    replace Xk : Hid _ := Xk.out.below hb5
    replace Xm : Hid _ := Xm.out.below hb5
    replace Z3 : Hid _ := Z3.out.below hb5
    replace Z4 : Hid _ := Z4.out.below hb5
    replace hbw := Below.on hbw hb5
    clear hb5
    have D5 : Hid (DN v5 sg (some ⟨g5, 0, none⟩) m5 c5 (E - 1 + (q : Int)) (iv sg M)) := hd5
    clear hd5 hg5
    refine hK _ _ ⟨Xk.out.c2, Xm.out.c0, Xm.out.c1⟩ ?_
    clear hK
    have z1 : gk ≠ gr := HKR.out
    have z2 := Ne.symm z1
    obtain ⟨cr0, cr1, cr2, fr0, fr1, fr2⟩ := Xr.out
    have hner : gr < v5.heap.size := World.block_lt_of_cell? v5 _ cr0
    obtain ⟨ck0, ck1, ck2, ck3, ck4, ck5, fk0, fk1, fk2, fk3, fk4, fk5⟩ := Xk.out
    have hnek : gk < v5.heap.size := World.block_lt_of_cell? v5 _ ck0
    obtain ⟨cm0, cm1, fm0, fm1⟩ := Xm.out
    have hnem := Xm.out.lt
    refine wpJ_on 8 rfl fun KJ hK => ?_
    go_simp
    have HJ2 : Hid ((fun W' : World => W'.cell? ⟨gk, 2, none⟩ = some (.int .i64 E) ∧ W'.cell? ⟨gm, 0, none⟩ = some (.bool t3) ∧ W'.cell? ⟨gm, 1, none⟩ = some (.slice (some ⟨k3_, 0, none⟩) n3 n3)) (((v5.setCell ⟨gr, 0, none⟩ (.bool sg)).setCell ⟨gr, 1, none⟩ (.slice (some ⟨g5, 0, none⟩) m5 c5)).setCell ⟨gr, 2, none⟩ (.int .i64 (E - 1 + (q : Int))))) := ⟨by go_simp, by go_simp, by go_simp⟩
    refine hK _ _ HJ2.out ?_
    clear hK HJ
    have HJ := HJ2
    clear HJ2
    refine wpJ_tq 9 rfl HJ.out ?_
    refine wpJ_done (by kernel_rfl) ?_ _
    clear HJ
    go_wp2_with fail
    refine bodyPost_ret (v := .tuple #[DV sg (some ⟨g5, 0, none⟩) m5 c5 (E - 1 + (q : Int)), .int .i64 0]) (by rw [results_cell_tmp rfl]; go_simp) rfl ⟨g5, m5, c5, rfl, ?_, ?_⟩
    · have := HR5.out
      exact ((D5.out.set _ _ _ (by omega)).set _ _ _ (by omega)).set _ _ _ (by omega)
    · exact bSet (bSet (bSet hbw _ _ _ HGr.out) _ _ _ HGr.out) _ _ _ HGr.out
  have N2_6_7 : ∀ (t1 : Bool) (k1_ : Nat) (n1 : Nat) (t2 : Bool) (k2_ : Nat) (n2 : Nat) (t3 : Bool) (k3_ : Nat) (n3 : Nat) (W' : World), (B6q W' gk (U S) (.int .i64 P) (.int .i64 E) (.int .i64 G) (U I) (U Q)) ∧ (B3q W' gr (.bool false) (.slice none 0 0) (.int .i64 0)) ∧ (Below w.heap.size w W') ∧ (ZR W' t1 (some ⟨k1_, 0, none⟩) n1 (vs H s : Int)) ∧ (n1 ≤ 2200) ∧ (ZR W' t2 (some ⟨k2_, 0, none⟩) n2 (vs H (s + 1) : Int)) ∧ (n2 ≤ 2200) ∧ (ZR W' t3 (some ⟨k3_, 0, none⟩) n3 ((vs H s : Int) + (vs H (s + 1) : Int))) ∧ (n3 ≤ 2300) → WP 2 (((L0.setIfInBounds 2 true).setIfInBounds 6 true).setIfInBounds 7 true) (((a0.put (some 32) (.agg #[.bool t1, .slice (some ⟨k1_, 0, none⟩) n1 n1])).put (some 36) (.agg #[.bool t2, .slice (some ⟨k2_, 0, none⟩) n2 n2])).put (some 37) (.agg #[.bool t3, .slice (some ⟨k3_, 0, none⟩) n3 n3])) W' := by
    rintro t1 k1_ n1 t2 k2_ n2 t3 k3_ n3 W' ⟨xk, xr, hbw, z1, l1, z2, l2, z3, l3⟩
    subst hWP hL ha
    have Hxk := Hid.mk5 xk
    have Hxr := Hid.mk5 xr
    have Hz1 := Hid.mk5 z1
    have Hl1 := Hid.mk5 l1
    have Hz2 := Hid.mk5 z2
    have Hl2 := Hid.mk5 l2
    have Hz3 := Hid.mk5 z3
    have Hl3 := Hid.mk5 l3
    clear xk xr z1 l1 z2 l2 z3 l3
    go_simp
    refine wpJ_on 8 rfl fun KJ hK => ?_
    go_simp
    have hb := below1 W' (.cells #[.bool false, .slice none 0 0] 104)
    refine hK _ _ ⟨(Hxk.out.below hb).c0, (Hxk.out.below hb).c1, (Hxk.out.below hb).c2, (Hxk.out.below hb).c3, (Hxk.out.below hb).c4, (Hxk.out.below hb).c5⟩ ?_
    exact wpJ_same5 (by kernel_rfl) (by kernel_rfl) (N2_6_7_8 t1 k1_ n1 t2 k2_ n2 t3 k3_ n3 W'.heap.size _ ⟨(Hxk.out.below hb), (Hxr.out.below hb), (Below.on hbw hb), (Hz1.out.below hb), Hl1.out, (Hz2.out.below hb), Hl2.out, (Hz3.out.below hb), Hl3.out, (Box.new W' _ _ _), hbw.size, ⟨Nat.ne_of_lt (World.block_lt_of_cell? W' _ Hxk.out.c0), Nat.ne_of_lt Hxr.out.lt⟩, ((zr_blk8 Hz3.out).imp id Nat.ne_of_lt)⟩)
  have N2_6_8 : ∀ (t1 : Bool) (k1_ : Nat) (n1 : Nat) (t2 : Bool) (k2_ : Nat) (n2 : Nat) (gm : Nat) (W' : World), (B6q W' gk (U S) (.int .i64 P) (.int .i64 E) (.int .i64 G) (U I) (U Q)) ∧ (B3q W' gr (.bool false) (.slice none 0 0) (.int .i64 0)) ∧ (Below w.heap.size w W') ∧ (ZR W' t1 (some ⟨k1_, 0, none⟩) n1 (vs H s : Int)) ∧ (n1 ≤ 2200) ∧ (ZR W' t2 (some ⟨k2_, 0, none⟩) n2 (vs H (s + 1) : Int)) ∧ (n2 ≤ 2200) ∧ (Box W' gm (.bool false) (.slice none 0 0)) ∧ (w.heap.size ≤ gm) ∧ (gk ≠ gm ∧ gr ≠ gm) → WP 2 (((L0.setIfInBounds 2 true).setIfInBounds 6 true).setIfInBounds 8 true) (((a0.put (some 32) (.agg #[.bool t1, .slice (some ⟨k1_, 0, none⟩) n1 n1])).put (some 36) (.agg #[.bool t2, .slice (some ⟨k2_, 0, none⟩) n2 n2])).put (some 11) (.pointer (some ⟨gm, 0, none⟩))) W' := by
    rintro t1 k1_ n1 t2 k2_ n2 gm W' ⟨xk, xr, hbw, z1, l1, z2, l2, xm, hm, nm⟩
    subst hWP hL ha
    have Hxk := Hid.mk5 xk
    have Hxr := Hid.mk5 xr
    have Hz1 := Hid.mk5 z1
    have Hl1 := Hid.mk5 l1
    have Hz2 := Hid.mk5 z2
    have Hl2 := Hid.mk5 l2
    have Hxm := Hid.mk5 xm
    have Hhm := Hid.mk5 hm
    have Hnm := Hid.mk5 nm
    clear xk xr z1 l1 z2 l2 xm hm nm
    go_simp
    refine wpJ_on 7 rfl fun KJ hK => ?_
    go_simp
    refine (radd04 t1 t2 Hz1.out Hz2.out (by have := Hl1.out; omega) (by have := Hl2.out; omega)).mono ?_
    rintro e9 W2 ⟨v, rfl, ⟨t3, k3_, n3, rfl, hg, hz, hl⟩, hb⟩
    have hl9 : n3 ≤ 2300 := by have := Hl1.out; have := Hl2.out; omega
    refine hK _ _ ⟨(Hxk.out.below hb).c0, (Hxk.out.below hb).c1, (Hxk.out.below hb).c2, (Hxk.out.below hb).c3, (Hxk.out.below hb).c4, (Hxk.out.below hb).c5⟩ ?_
    exact wpJ_same5 (by kernel_rfl) (by kernel_rfl) (N2_6_7_8 t1 k1_ n1 t2 k2_ n2 t3 k3_ n3 gm W2 ⟨(Hxk.out.below hb), (Hxr.out.below hb), (Below.on hbw hb), (Hz1.out.below hb), Hl1.out, (Hz2.out.below hb), Hl2.out, hz, hl9, (Hxm.out.below hb), Hhm.out, Hnm.out, (.inr (Nat.ne_of_gt (Nat.lt_of_lt_of_le Hxm.out.lt hg)))⟩)
  have N2_6 : ∀ (t1 : Bool) (k1_ : Nat) (n1 : Nat) (t2 : Bool) (k2_ : Nat) (n2 : Nat) (W' : World), (B6q W' gk (U S) (.int .i64 P) (.int .i64 E) (.int .i64 G) (U I) (U Q)) ∧ (B3q W' gr (.bool false) (.slice none 0 0) (.int .i64 0)) ∧ (Below w.heap.size w W') ∧ (ZR W' t1 (some ⟨k1_, 0, none⟩) n1 (vs H s : Int)) ∧ (n1 ≤ 2200) ∧ (ZR W' t2 (some ⟨k2_, 0, none⟩) n2 (vs H (s + 1) : Int)) ∧ (n2 ≤ 2200) → WP 3 ((L0.setIfInBounds 2 true).setIfInBounds 6 true) ((a0.put (some 32) (.agg #[.bool t1, .slice (some ⟨k1_, 0, none⟩) n1 n1])).put (some 36) (.agg #[.bool t2, .slice (some ⟨k2_, 0, none⟩) n2 n2])) W' := by
    rintro t1 k1_ n1 t2 k2_ n2 W' ⟨xk, xr, hbw, z1, l1, z2, l2⟩
    subst hWP hL ha
    have Hxk := Hid.mk5 xk
    have Hxr := Hid.mk5 xr
    have Hz1 := Hid.mk5 z1
    have Hl1 := Hid.mk5 l1
    have Hz2 := Hid.mk5 z2
    have Hl2 := Hid.mk5 l2
    clear xk xr z1 l1 z2 l2
    go_simp
    refine wpJ_two (i := 7) (k := 8) (by kernel_rfl) rfl rfl (by kernel_rfl) (by kernel_rfl) (fun KJ hK => ?_) (fun KJ hK => ?_)
    · go_simp
      refine (radd04 t1 t2 Hz1.out Hz2.out (by have := Hl1.out; omega) (by have := Hl2.out; omega)).mono ?_
      rintro e9 W2 ⟨v, rfl, ⟨t3, k3_, n3, rfl, hg, hz, hl⟩, hb⟩
      have hl9 : n3 ≤ 2300 := by have := Hl1.out; have := Hl2.out; omega
      refine hK _ _ ⟨(Hxk.out.below hb).c0, (Hxk.out.below hb).c1, (Hxk.out.below hb).c2, (Hxk.out.below hb).c3, (Hxk.out.below hb).c4, (Hxk.out.below hb).c5⟩ ?_
      exact wpJ_same5 (by kernel_rfl) (by kernel_rfl) (N2_6_7 t1 k1_ n1 t2 k2_ n2 t3 k3_ n3 W2 ⟨(Hxk.out.below hb), (Hxr.out.below hb), (Below.on hbw hb), (Hz1.out.below hb), Hl1.out, (Hz2.out.below hb), Hl2.out, hz, hl9⟩)
    · go_simp
      have hb := below1 W' (.cells #[.bool false, .slice none 0 0] 104)
      refine hK _ _ ⟨(Hxk.out.below hb).c0, (Hxk.out.below hb).c1, (Hxk.out.below hb).c2, (Hxk.out.below hb).c3, (Hxk.out.below hb).c4, (Hxk.out.below hb).c5⟩ ?_
      exact wpJ_same5 (by kernel_rfl) (by kernel_rfl) (N2_6_8 t1 k1_ n1 t2 k2_ n2 W'.heap.size _ ⟨(Hxk.out.below hb), (Hxr.out.below hb), (Below.on hbw hb), (Hz1.out.below hb), Hl1.out, (Hz2.out.below hb), Hl2.out, (Box.new W' _ _ _), hbw.size, ⟨Nat.ne_of_lt (World.block_lt_of_cell? W' _ Hxk.out.c0), Nat.ne_of_lt Hxr.out.lt⟩⟩)
  have N2_8 : ∀ (t1 : Bool) (k1_ : Nat) (n1 : Nat) (gm : Nat) (W' : World), (B6q W' gk (U S) (.int .i64 P) (.int .i64 E) (.int .i64 G) (U I) (U Q)) ∧ (B3q W' gr (.bool false) (.slice none 0 0) (.int .i64 0)) ∧ (Below w.heap.size w W') ∧ (ZR W' t1 (some ⟨k1_, 0, none⟩) n1 (vs H s : Int)) ∧ (n1 ≤ 2200) ∧ (Box W' gm (.bool false) (.slice none 0 0)) ∧ (w.heap.size ≤ gm) ∧ (gk ≠ gm ∧ gr ≠ gm) → WP 3 ((L0.setIfInBounds 2 true).setIfInBounds 8 true) ((a0.put (some 32) (.agg #[.bool t1, .slice (some ⟨k1_, 0, none⟩) n1 n1])).put (some 11) (.pointer (some ⟨gm, 0, none⟩))) W' := by
    rintro t1 k1_ n1 gm W' ⟨xk, xr, hbw, z1, l1, xm, hm, nm⟩
    subst hWP hL ha
    have Hxk := Hid.mk5 xk
    have Hxr := Hid.mk5 xr
    have Hz1 := Hid.mk5 z1
    have Hl1 := Hid.mk5 l1
    have Hxm := Hid.mk5 xm
    have Hhm := Hid.mk5 hm
    have Hnm := Hid.mk5 nm
    clear xk xr z1 l1 xm hm nm
    go_simp
    refine wpJ_on 6 rfl fun KJ hK => ?_
    go_simp
    refine (HW.out (s + 1) W').mono ?_
    rintro e9 W2 ⟨v, rfl, ⟨t2, k2_, n2, rfl, hg, hz, hl⟩, hb⟩
    rw [HV1.out.2] at hz
    refine hK _ _ ⟨(Hxk.out.below hb).c0, (Hxk.out.below hb).c1, (Hxk.out.below hb).c2, (Hxk.out.below hb).c3, (Hxk.out.below hb).c4, (Hxk.out.below hb).c5⟩ ?_
    exact wpJ_same5 (by kernel_rfl) (by kernel_rfl) (N2_6_8 t1 k1_ n1 t2 k2_ n2 gm W2 ⟨(Hxk.out.below hb), (Hxr.out.below hb), (Below.on hbw hb), (Hz1.out.below hb), Hl1.out, hz, hl, (Hxm.out.below hb), Hhm.out, Hnm.out⟩)
  have N2 : ∀ (t1 : Bool) (k1_ : Nat) (n1 : Nat) (W' : World), (B6q W' gk (U S) (.int .i64 P) (.int .i64 E) (.int .i64 G) (U I) (U Q)) ∧ (B3q W' gr (.bool false) (.slice none 0 0) (.int .i64 0)) ∧ (Below w.heap.size w W') ∧ (ZR W' t1 (some ⟨k1_, 0, none⟩) n1 (vs H s : Int)) ∧ (n1 ≤ 2200) → WP 4 (L0.setIfInBounds 2 true) (a0.put (some 32) (.agg #[.bool t1, .slice (some ⟨k1_, 0, none⟩) n1 n1])) W' := by
    rintro t1 k1_ n1 W' ⟨xk, xr, hbw, z1, l1⟩
    subst hWP hL ha
    have Hxk := Hid.mk5 xk
    have Hxr := Hid.mk5 xr
    have Hz1 := Hid.mk5 z1
    have Hl1 := Hid.mk5 l1
    clear xk xr z1 l1
    go_simp
    refine wpJ_two (i := 6) (k := 8) (by kernel_rfl) rfl rfl (by kernel_rfl) (by kernel_rfl) (fun KJ hK => ?_) (fun KJ hK => ?_)
    · go_simp
      refine (HW.out (s + 1) W').mono ?_
      rintro e9 W2 ⟨v, rfl, ⟨t2, k2_, n2, rfl, hg, hz, hl⟩, hb⟩
      rw [HV1.out.2] at hz
      refine hK _ _ ⟨(Hxk.out.below hb).c0, (Hxk.out.below hb).c1, (Hxk.out.below hb).c2, (Hxk.out.below hb).c3, (Hxk.out.below hb).c4, (Hxk.out.below hb).c5⟩ ?_
      exact wpJ_same5 (by kernel_rfl) (by kernel_rfl) (N2_6 t1 k1_ n1 t2 k2_ n2 W2 ⟨(Hxk.out.below hb), (Hxr.out.below hb), (Below.on hbw hb), (Hz1.out.below hb), Hl1.out, hz, hl⟩)
    · go_simp
      have hb := below1 W' (.cells #[.bool false, .slice none 0 0] 104)
      refine hK _ _ ⟨(Hxk.out.below hb).c0, (Hxk.out.below hb).c1, (Hxk.out.below hb).c2, (Hxk.out.below hb).c3, (Hxk.out.below hb).c4, (Hxk.out.below hb).c5⟩ ?_
      exact wpJ_same5 (by kernel_rfl) (by kernel_rfl) (N2_8 t1 k1_ n1 W'.heap.size _ ⟨(Hxk.out.below hb), (Hxr.out.below hb), (Below.on hbw hb), (Hz1.out.below hb), Hl1.out, (Box.new W' _ _ _), hbw.size, ⟨Nat.ne_of_lt (World.block_lt_of_cell? W' _ Hxk.out.c0), Nat.ne_of_lt Hxr.out.lt⟩⟩)
  have N8 : ∀ (gm : Nat) (W' : World), (B6q W' gk (U S) (.int .i64 P) (.int .i64 E) (.int .i64 G) (U I) (U Q)) ∧ (B3q W' gr (.bool false) (.slice none 0 0) (.int .i64 0)) ∧ (Below w.heap.size w W') ∧ (Box W' gm (.bool false) (.slice none 0 0)) ∧ (w.heap.size ≤ gm) ∧ (gk ≠ gm ∧ gr ≠ gm) → WP 4 (L0.setIfInBounds 8 true) (a0.put (some 11) (.pointer (some ⟨gm, 0, none⟩))) W' := by
    rintro gm W' ⟨xk, xr, hbw, xm, hm, nm⟩
    subst hWP hL ha
    have Hxk := Hid.mk5 xk
    have Hxr := Hid.mk5 xr
    have Hxm := Hid.mk5 xm
    have Hhm := Hid.mk5 hm
    have Hnm := Hid.mk5 nm
    clear xk xr xm hm nm
    go_simp
    refine wpJ_on 2 rfl fun KJ hK => ?_
    go_simp
    refine (HW.out (s) W').mono ?_
    rintro e9 W2 ⟨v, rfl, ⟨t1, k1_, n1, rfl, hg, hz, hl⟩, hb⟩
    rw [HV1.out.1] at hz
    refine hK _ _ ⟨(Hxk.out.below hb).c0, (Hxk.out.below hb).c1, (Hxk.out.below hb).c2, (Hxk.out.below hb).c3, (Hxk.out.below hb).c4, (Hxk.out.below hb).c5⟩ ?_
    exact wpJ_same5 (by kernel_rfl) (by kernel_rfl) (N2_8 t1 k1_ n1 gm W2 ⟨(Hxk.out.below hb), (Hxr.out.below hb), (Below.on hbw hb), hz, hl, (Hxm.out.below hb), Hhm.out, Hnm.out⟩)
  have N_ : ∀ (W' : World), (B6q W' gk (U S) (.int .i64 P) (.int .i64 E) (.int .i64 G) (U I) (U Q)) ∧ (B3q W' gr (.bool false) (.slice none 0 0) (.int .i64 0)) ∧ (Below w.heap.size w W') → WP 5 L0 a0 W' := by
    rintro  W' ⟨xk, xr, hbw⟩
    subst hWP hL ha
    have Hxk := Hid.mk5 xk
    have Hxr := Hid.mk5 xr
    clear xk xr
    go_simp
    refine wpJ_two (i := 2) (k := 8) (by kernel_rfl) rfl rfl (by kernel_rfl) (by kernel_rfl) (fun KJ hK => ?_) (fun KJ hK => ?_)
    · go_simp
      refine (HW.out (s) W').mono ?_
      rintro e9 W2 ⟨v, rfl, ⟨t1, k1_, n1, rfl, hg, hz, hl⟩, hb⟩
      rw [HV1.out.1] at hz
      refine hK _ _ ⟨(Hxk.out.below hb).c0, (Hxk.out.below hb).c1, (Hxk.out.below hb).c2, (Hxk.out.below hb).c3, (Hxk.out.below hb).c4, (Hxk.out.below hb).c5⟩ ?_
      exact wpJ_same5 (by kernel_rfl) (by kernel_rfl) (N2 t1 k1_ n1 W2 ⟨(Hxk.out.below hb), (Hxr.out.below hb), (Below.on hbw hb), hz, hl⟩)
    · go_simp
      have hb := below1 W' (.cells #[.bool false, .slice none 0 0] 104)
      refine hK _ _ ⟨(Hxk.out.below hb).c0, (Hxk.out.below hb).c1, (Hxk.out.below hb).c2, (Hxk.out.below hb).c3, (Hxk.out.below hb).c4, (Hxk.out.below hb).c5⟩ ?_
      exact wpJ_same5 (by kernel_rfl) (by kernel_rfl) (N8 W'.heap.size _ ⟨(Hxk.out.below hb), (Hxr.out.below hb), (Below.on hbw hb), (Box.new W' _ _ _), hbw.size, ⟨Nat.ne_of_lt (World.block_lt_of_cell? W' _ Hxk.out.c0), Nat.ne_of_lt Hxr.out.lt⟩⟩)
  exact N_ W5 ⟨Xk.out, Xr.out, hbw⟩
theorem dn_z0 (w : World) : DN w false none 0 0 0 0 := ⟨⟨⟨[], ⟨At.empty w none 0 (Nat.zero_le _), Nf.nil _, by omega⟩⟩, rfl⟩, .inl ⟨rfl, rfl⟩⟩
def JnR (H I : Nat) (l : Int) (man : Nat) (ex : Int) (s : Nat) : Prop := s < I ∧ man * 2 ^ (ex - l).toNat = vs H s * 2 ^ (l - ex).toNat
theorem JnR.uniq {H I : Nat} {l : Int} {man : Nat} {ex : Int} {s t : Nat} (hH : 0 < H) (h : JnR H I l man ex s) (k : JnR H I l man ex t) : s = t := by
  have h1 : vs H s * 2 ^ (l - ex).toNat = vs H t * 2 ^ (l - ex).toNat := h.2.symm.trans k.2
  have h2 : vs H s = vs H t := Nat.eq_of_mul_eq_mul_right (Nat.two_pow_pos _) h1
  rcases Nat.lt_trichotomy s t with h3 | h3 | h3
  · have := vs_mono hH h3; omega
  · exact h3
  · have := vs_mono hH h3; omega
def JA (S H I : Nat) (l : Int) (neg : Bool) (man : Nat) (ex : Int) (r : Nat) (er : Int) : Prop :=
  (er = 0 ∧ ∃ s, JnR H I l man ex s ∧ r = if neg then S + s else s) ∨ (er = 5 ∧ r = 0 ∧ ∀ s, ¬ JnR H I l man ex s)
theorem JA.uniq {S H I : Nat} {l : Int} {neg : Bool} {man : Nat} {ex : Int} {r r' : Nat} {er er' : Int} (hH : 0 < H) (h : JA S H I l neg man ex r er) (k : JA S H I l neg man ex r' er') : r = r' ∧ er = er' := by
  rcases h with ⟨h1, s, h2, h3⟩ | ⟨h1, h2, h3⟩ <;> rcases k with ⟨k1, t, k2, k3⟩ | ⟨k1, k2, k3⟩
  · obtain rfl := h2.uniq hH k2
    exact ⟨h3.trans k3.symm, h1.trans k1.symm⟩
  · exact absurd h2 (k3 s)
  · exact absurd k2 (h3 t)
  · exact ⟨h2.trans k2.symm, h1.trans k1.symm⟩
theorem JnR.shift {H I : Nat} {l : Int} {man m' j : Nat} {ex : Int} {s : Nat} (hm : man = m' * 2 ^ j) : JnR H I l man ex s ↔ JnR H I l m' (ex + j) s := by
  obtain ⟨A, hA⟩ : ∃ A, A = (ex - l).toNat := ⟨_, rfl⟩
  obtain ⟨B, hB⟩ : ∃ B, B = (l - ex).toNat := ⟨_, rfl⟩
  obtain ⟨A2, hA2⟩ : ∃ A, A = (ex + j - l).toNat := ⟨_, rfl⟩
  obtain ⟨B2, hB2⟩ : ∃ B, B = (l - (ex + j)).toNat := ⟨_, rfl⟩
  have hq : j + A + B2 = A2 + B := by omega
  unfold JnR
  rw [← hA, ← hB, ← hA2, ← hB2, hm]
  constructor
  · rintro ⟨h1, h2⟩
    refine ⟨h1, Nat.eq_of_mul_eq_mul_right (Nat.two_pow_pos B) ?_⟩
    have h3 : m' * 2 ^ j * 2 ^ A * 2 ^ B2 = vs H s * 2 ^ B * 2 ^ B2 := by rw [h2]
    rw [Nat.mul_assoc, Nat.mul_assoc, Nat.mul_assoc, ← Nat.pow_add, ← Nat.pow_add, ← Nat.pow_add, show j + (A + B2) = A2 + B by omega, Nat.add_comm B B2, Nat.pow_add, Nat.pow_add, ← Nat.mul_assoc, ← Nat.mul_assoc] at h3
    exact h3
  · rintro ⟨h1, h2⟩
    refine ⟨h1, Nat.eq_of_mul_eq_mul_right (Nat.two_pow_pos B2) ?_⟩
    have h3 : m' * 2 ^ A2 * 2 ^ B = vs H s * 2 ^ B2 * 2 ^ B := by rw [h2]
    rw [Nat.mul_assoc, Nat.mul_assoc, ← Nat.pow_add, ← Nat.pow_add, show A2 + B = j + (A + B2) by omega, Nat.add_comm B2 B, Nat.pow_add, Nat.pow_add, Nat.pow_add, ← Nat.mul_assoc, ← Nat.mul_assoc, ← Nat.mul_assoc] at h3
    exact h3
theorem JA.shift {S H I : Nat} {l : Int} {neg : Bool} {man m' j : Nat} {ex : Int} {r : Nat} {er : Int} (hm : man = m' * 2 ^ j) (h : JA S H I l neg m' (ex + j) r er) : JA S H I l neg man ex r er := by
  rcases h with ⟨h1, s, h2, h3⟩ | ⟨h1, h2, h3⟩
  · exact .inl ⟨h1, s, (JnR.shift hm).2 h2, h3⟩
  · exact .inr ⟨h1, h2, fun s hj => h3 s ((JnR.shift hm).1 hj)⟩
theorem cls_e {f : Int} {b : Nat} {er : Int} (hB : ∀ w, Calls Tryz.prog 41 #[.int .i64 f, U b] w fun e w' => e = .returned (.tuple #[PV 0 0 0 false 0, .int .i64 er]) ∧ Below w.heap.size w w') (he : er ≠ 0) (w : World) :
    Calls Tryz.prog 18 #[.int .i64 f, U b] w fun en w' => en = .returned (.tuple #[.int .i64 0, .int .i64 er]) ∧ Below w.heap.size w w' := by
  have HB : Hid (∀ w, Calls Tryz.prog 41 #[.int .i64 f, U b] w fun e w' => e = .returned (.tuple #[PV 0 0 0 false 0, .int .i64 er]) ∧ Below w.heap.size w w') := hB
  have e1 : (er == 0) = false := by simp [he]
  have e2 : (er != 0) = true := by simp [he]
  have hbw : Below w.heap.size w w := Below.refl _ _
  clear hB he
  go_enter Tryz.func18, Tryz.ntmps18
  go_wp2_with fail
  refine (HB.out _).mono ?_
  rintro e v1 ⟨rfl, hb1⟩
  replace hbw := Below.on hbw hb1
  clear hb1
  go_wp2_with fail
  go_ret2
  refine ⟨rfl, ?_⟩
  first | exact hbw | exact Below.on hbw (below1 _ _)
theorem docclass_e {f : Int} {b : Nat} {er : Int} (hB : ∀ w, Calls Tryz.prog 135 #[.int .i64 f, U b] w fun e w' => e = .returned (.int .i64 er) ∧ Below w.heap.size w w') (he : er ≠ 0) (w : World) :
    Calls Tryz.prog 90 #[.int .i64 f, U b] w fun en w' => en = .returned (.tuple #[.int .i64 0, .int .i64 er]) ∧ Below w.heap.size w w' := by
  have HB : Hid (∀ w, Calls Tryz.prog 135 #[.int .i64 f, U b] w fun e w' => e = .returned (.int .i64 er) ∧ Below w.heap.size w w') := hB
  have e1 : (er == 0) = false := by simp [he]
  have e2 : (er != 0) = true := by simp [he]
  have hbw : Below w.heap.size w w := Below.refl _ _
  clear hB he
  go_enter Tryz.func90, Tryz.ntmps90
  go_wp2_with fail
  refine (HB.out _).mono ?_
  rintro e v1 ⟨rfl, hb1⟩
  replace hbw := Below.on hbw hb1
  clear hb1
  go_wp2_with fail
  go_ret2
  refine ⟨rfl, ?_⟩
  first | exact hbw | exact Below.on hbw (below1 _ _)
theorem JA.ex (S H I : Nat) (l : Int) (neg : Bool) (man : Nat) (ex : Int) : ∃ r er, JA S H I l neg man ex r er := by
  by_cases h : ∃ s, JnR H I l man ex s
  · obtain ⟨s, hs⟩ := h
    exact ⟨_, 0, .inl ⟨rfl, s, hs, rfl⟩⟩
  · exact ⟨0, 5, .inr ⟨rfl, rfl, fun s hs => h ⟨s, hs⟩⟩⟩
end Go.Proofs.YtfmbifocgljieaaGreatDoor
