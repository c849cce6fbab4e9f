import Derived.Test.YtmlclpjimkjjeaaGreatDoorDq3
import Derived.Deep.LoopGhost
import Derived.Test.YtmlclpjimkjjeaaGreatDoorJ8
import Derived.Test.YtmlclpjimkjjeaaGreatDoorJ18
namespace Go.Proofs.YtmlclpjimkjjeaaGreatDoor
open Go.RowKit Go.Shelf
set_option maxRecDepth 20000
set_option maxHeartbeats 0
theorem rquo_lu {p q : Option Addr} {m c n d : Nat} {w : World} {e f : Int} {s t : Bool} {P : Int} (hP : P < 1) :
  Calls Tryz.prog 118 #[DV s p m c e, DV t q n d f, .int .i64 P, .bool true] w fun en w' => en = .returned (.tuple #[DV false none 0 0 0, .int .i64 1]) ∧ Below w.heap.size w w' := by
 have f1 : P ≤ 0 := by omega
 go_enter Tryz.func118, Tryz.ntmps118
 go_wp2_with fail
 refine bodyPost_ret (v := .tuple #[DV false none 0 0 0, .int .i64 1]) (by rw [results_cell_tmp rfl]; go_simp) rfl ⟨rfl, ?_⟩
 exact below3 w _ _ _
theorem rquo_gu {p q : Option Addr} {m c n d : Nat} {w : World} {e f : Int} {s t : Bool} {P : Int} (hP : 70000 < P) :
  Calls Tryz.prog 118 #[DV s p m c e, DV t q n d f, .int .i64 P, .bool true] w fun en w' => en = .returned (.tuple #[DV false none 0 0 0, .int .i64 1]) ∧ Below w.heap.size w w' := by
 have f1 : ¬ P < 1 := by omega
 have f2 : ¬ P ≤ 0 := by omega
 go_enter Tryz.func118, Tryz.ntmps118
 go_wp2_with fail
 refine bodyPost_ret (v := .tuple #[DV false none 0 0 0, .int .i64 1]) (by rw [results_cell_tmp rfl]; go_simp) rfl ⟨rfl, ?_⟩
 exact below3 w _ _ _
theorem rquo_au {p q : Option Addr} {m c n d : Nat} {w : World} {e f : Int} {s t : Bool} {xs : List Nat} {P : Int} (hP : 1 ≤ P ∧ P ≤ 70000) (h : At w p m c xs) (hf : formD s xs e = false) :
  Calls Tryz.prog 118 #[DV s p m c e, DV t q n d f, .int .i64 P, .bool true] w fun en w' => en = .returned (.tuple #[DV false none 0 0 0, .int .i64 2]) ∧ Below w.heap.size w w' := by
 have f1 : ¬ P < 1 := by omega
 have f2 : ¬ (70000 : Int) < P := by omega
 have f3 : ¬ P ≤ 0 := by omega
 have H : Hid (At w p m c xs ∧ formD s xs e = false) := ⟨h, hf⟩;clear h hf hP
 go_enter Tryz.func118, Tryz.ntmps118
 go_wp2_with fail;obtain ⟨W0, hW0⟩ := exq (((w.alloc (.cells #[.bool s, .slice p m c, .int .i64 e] 27)).alloc (.cells #[.bool t, .slice q n d, .int .i64 f] 27)).alloc (.cells #[.bool false, .slice none 0 0, .int .i64 0] 27))
 have Xa : Hid (B3q W0 (w.heap.size) (.bool s) (.slice p m c) (.int .i64 e)) := by rw [hW0]; constructor <;> go_simp
 have Xb : Hid (B3q W0 (w.heap.size + 1) (.bool t) (.slice q n d) (.int .i64 f)) := by rw [hW0]; constructor <;> go_simp
 have Xr : Hid (B3q W0 (w.heap.size + 1 + 1) (.bool false) (.slice none 0 0) (.int .i64 0)) := by rw [hW0]; constructor <;> go_simp
 have hb0 := bq3 hW0;rw [← hW0];clear hW0;have hbw := brf w;obtain ⟨gr, hgr⟩ := exq (w.heap.size + 1 + 1);have HGr : Hid (w.heap.size ≤ gr) := hgl hgr;rw [← hgr] at Xr
 try rw [← hgr]
 obtain ⟨gb, hgb⟩ := exq (w.heap.size + 1);have HGb : Hid (w.heap.size ≤ gb) := hgl hgb;rw [← hgb] at Xb
 try rw [← hgb]
 obtain ⟨ga, hga⟩ := exq w.heap.size;have HGa : Hid (w.heap.size ≤ ga) := hgl hga;rw [← hga] at Xa
 try rw [← hga]
 have HGD : Hid (ga ≠ gb ∧ ga ≠ gr ∧ gb ≠ ga ∧ gb ≠ gr ∧ gr ≠ ga ∧ gr ≠ gb) := by rw [hga, hgb, hgr]; show _ ∧ _; omega
 clear hga hgb hgr;replace hbw := bon hbw hb0;clear hb0;obtain ⟨ca0, ca1, ca2, fa0, fa1, fa2⟩ := Xa.out;have hnea : ga < W0.heap.size := blt ca0;obtain ⟨cb0, cb1, cb2, fb0, fb1, fb2⟩ := Xb.out;have hneb : gb < W0.heap.size := blt cb0;go_wp2_with fail;clear ca0 ca1 ca2 fa0 fa1 fa2 hnea cb0 cb1 cb2 fb0 fb1 fb2 hneb
 refine (docformd s (H.out.1.below hbw)).mono ?_
 rintro e v1 ⟨rfl, hb1⟩;rw [H.out.2];replace Xa := B3q.b Xa hb1;replace Xb := B3q.b Xb hb1;replace Xr := B3q.b Xr hb1;replace hbw := bon hbw hb1;clear hb1;obtain ⟨cr0, cr1, cr2, fr0, fr1, fr2⟩ := Xr.out;have hner : gr < v1.heap.size := blt cr0;go_wp2_with fail
 refine bodyPost_ret (v := .tuple #[DV false none 0 0 0, .int .i64 2]) (by rw [results_cell_tmp rfl]; go_simp) rfl ⟨rfl, ?_⟩
 first | exact hbw | exact bSet (bSet (bSet hbw _ _ _ HGr.out) _ _ _ HGr.out) _ _ _ HGr.out
theorem rquo_bu {p q : Option Addr} {m c n d : Nat} {w : World} {e f : Int} {s t : Bool} {ys : List Nat} {x P : Int} (hP : 1 ≤ P ∧ P ≤ 70000) (h : DN w s p m c e x) (k : At w q n d ys) (hf : formD t ys f = false) :
  Calls Tryz.prog 118 #[DV s p m c e, DV t q n d f, .int .i64 P, .bool true] w fun en w' => en = .returned (.tuple #[DV false none 0 0 0, .int .i64 2]) ∧ Below w.heap.size w w' := by
 have f1 : ¬ P < 1 := by omega
 have f2 : ¬ (70000 : Int) < P := by omega
 have f3 : ¬ P ≤ 0 := by omega
 have H := hdQ h;have K : Hid (At w q n d ys ∧ formD t ys f = false) := ⟨k, hf⟩;clear h k hf hP
 go_enter Tryz.func118, Tryz.ntmps118
 go_wp2_with fail;obtain ⟨W0, hW0⟩ := exq (((w.alloc (.cells #[.bool s, .slice p m c, .int .i64 e] 27)).alloc (.cells #[.bool t, .slice q n d, .int .i64 f] 27)).alloc (.cells #[.bool false, .slice none 0 0, .int .i64 0] 27))
 have Xa : Hid (B3q W0 (w.heap.size) (.bool s) (.slice p m c) (.int .i64 e)) := by rw [hW0]; constructor <;> go_simp
 have Xb : Hid (B3q W0 (w.heap.size + 1) (.bool t) (.slice q n d) (.int .i64 f)) := by rw [hW0]; constructor <;> go_simp
 have Xr : Hid (B3q W0 (w.heap.size + 1 + 1) (.bool false) (.slice none 0 0) (.int .i64 0)) := by rw [hW0]; constructor <;> go_simp
 have hb0 := bq3 hW0;rw [← hW0];clear hW0;have hbw := brf w;obtain ⟨gr, hgr⟩ := exq (w.heap.size + 1 + 1);have HGr : Hid (w.heap.size ≤ gr) := hgl hgr;rw [← hgr] at Xr
 try rw [← hgr]
 obtain ⟨gb, hgb⟩ := exq (w.heap.size + 1);have HGb : Hid (w.heap.size ≤ gb) := hgl hgb;rw [← hgb] at Xb
 try rw [← hgb]
 obtain ⟨ga, hga⟩ := exq w.heap.size;have HGa : Hid (w.heap.size ≤ ga) := hgl hga;rw [← hga] at Xa
 try rw [← hga]
 have HGD : Hid (ga ≠ gb ∧ ga ≠ gr ∧ gb ≠ ga ∧ gb ≠ gr ∧ gr ≠ ga ∧ gr ≠ gb) := by rw [hga, hgb, hgr]; show _ ∧ _; omega
 clear hga hgb hgr;replace hbw := bon hbw hb0;clear hb0;obtain ⟨ca0, ca1, ca2, fa0, fa1, fa2⟩ := Xa.out;have hnea : ga < W0.heap.size := blt ca0;obtain ⟨cb0, cb1, cb2, fb0, fb1, fb2⟩ := Xb.out;have hneb : gb < W0.heap.size := blt cb0;go_wp2_with fail;clear ca0 ca1 ca2 fa0 fa1 fa2 hnea cb0 cb1 cb2 fb0 fb1 fb2 hneb
 refine (docformT8 (H.out.below hbw)).mono ?_
 rintro e v1 ⟨rfl, hb1⟩;replace Xa := B3q.b Xa hb1;replace Xb := B3q.b Xb hb1;replace Xr := B3q.b Xr hb1;replace hbw := bon hbw hb1;clear hb1;obtain ⟨cb0, cb1, cb2, fb0, fb1, fb2⟩ := Xb.out;have hneb : gb < v1.heap.size := blt cb0;go_wp2_with fail;clear cb0 cb1 cb2 fb0 fb1 fb2 hneb
 refine (docformd t (K.out.1.below hbw)).mono ?_
 rintro e v2 ⟨rfl, hb2⟩;rw [K.out.2];replace Xa := B3q.b Xa hb2;replace Xb := B3q.b Xb hb2;replace Xr := B3q.b Xr hb2;replace hbw := bon hbw hb2;clear hb2;obtain ⟨cr0, cr1, cr2, fr0, fr1, fr2⟩ := Xr.out;have hner : gr < v2.heap.size := blt cr0;go_wp2_with fail
 refine bodyPost_ret (v := .tuple #[DV false none 0 0 0, .int .i64 2]) (by rw [results_cell_tmp rfl]; go_simp) rfl ⟨rfl, ?_⟩
 first | exact hbw | exact bSet (bSet (bSet hbw _ _ _ HGr.out) _ _ _ HGr.out) _ _ _ HGr.out
theorem rquo_zu {p q : Option Addr} {m c n d : Nat} {w : World} {e f : Int} {s t : Bool} {x y P : Int} (hP : 1 ≤ P ∧ P ≤ 70000) (h : DN w s p m c e x) (k : DN w t q n d f y) (hn : n = 0) :
  Calls Tryz.prog 118 #[DV s p m c e, DV t q n d f, .int .i64 P, .bool true] w fun en w' => en = .returned (.tuple #[DV false none 0 0 0, .int .i64 4]) ∧ Below w.heap.size w w' := by
 have f1 : ¬ P < 1 := by omega
 have f2 : ¬ (70000 : Int) < P := by omega
 have f3 : ¬ P ≤ 0 := by omega
 have H := hdQ h;have K := hdQ k;have HN : Hid (n = 0) := hn;clear h k hn hP
 go_enter Tryz.func118, Tryz.ntmps118
 go_wp2_with fail;obtain ⟨W0, hW0⟩ := exq (((w.alloc (.cells #[.bool s, .slice p m c, .int .i64 e] 27)).alloc (.cells #[.bool t, .slice q n d, .int .i64 f] 27)).alloc (.cells #[.bool false, .slice none 0 0, .int .i64 0] 27))
 have Xa : Hid (B3q W0 (w.heap.size) (.bool s) (.slice p m c) (.int .i64 e)) := by rw [hW0]; constructor <;> go_simp
 have Xb : Hid (B3q W0 (w.heap.size + 1) (.bool t) (.slice q n d) (.int .i64 f)) := by rw [hW0]; constructor <;> go_simp
 have Xr : Hid (B3q W0 (w.heap.size + 1 + 1) (.bool false) (.slice none 0 0) (.int .i64 0)) := by rw [hW0]; constructor <;> go_simp
 have hb0 := bq3 hW0;rw [← hW0];clear hW0;have hbw := brf w;obtain ⟨gr, hgr⟩ := exq (w.heap.size + 1 + 1);have HGr : Hid (w.heap.size ≤ gr) := hgl hgr;rw [← hgr] at Xr
 try rw [← hgr]
 obtain ⟨gb, hgb⟩ := exq (w.heap.size + 1);have HGb : Hid (w.heap.size ≤ gb) := hgl hgb;rw [← hgb] at Xb
 try rw [← hgb]
 obtain ⟨ga, hga⟩ := exq w.heap.size;have HGa : Hid (w.heap.size ≤ ga) := hgl hga;rw [← hga] at Xa
 try rw [← hga]
 have HGD : Hid (ga ≠ gb ∧ ga ≠ gr ∧ gb ≠ ga ∧ gb ≠ gr ∧ gr ≠ ga ∧ gr ≠ gb) := by rw [hga, hgb, hgr]; show _ ∧ _; omega
 clear hga hgb hgr;replace hbw := bon hbw hb0;clear hb0;obtain ⟨ca0, ca1, ca2, fa0, fa1, fa2⟩ := Xa.out;have hnea : ga < W0.heap.size := blt ca0;obtain ⟨cb0, cb1, cb2, fb0, fb1, fb2⟩ := Xb.out;have hneb : gb < W0.heap.size := blt cb0;go_wp2_with fail;clear ca0 ca1 ca2 fa0 fa1 fa2 hnea cb0 cb1 cb2 fb0 fb1 fb2 hneb
 refine (docformT8 (H.out.below hbw)).mono ?_
 rintro e v1 ⟨rfl, hb1⟩;replace Xa := B3q.b Xa hb1;replace Xb := B3q.b Xb hb1;replace Xr := B3q.b Xr hb1;replace hbw := bon hbw hb1;clear hb1;obtain ⟨cb0, cb1, cb2, fb0, fb1, fb2⟩ := Xb.out;have hneb : gb < v1.heap.size := blt cb0;go_wp2_with fail;clear cb0 cb1 cb2 fb0 fb1 fb2 hneb
 refine (docformT8 (K.out.below hbw)).mono ?_
 rintro e v2 ⟨rfl, hb2⟩;replace Xa := B3q.b Xa hb2;replace Xb := B3q.b Xb hb2;replace Xr := B3q.b Xr hb2;replace hbw := bon hbw hb2;clear hb2;obtain ⟨cb0, cb1, cb2, fb0, fb1, fb2⟩ := Xb.out;have hneb : gb < v2.heap.size := blt cb0;go_wp2_with fail;clear cb0 cb1 cb2 fb0 fb1 fb2 hneb
 refine (nought).mono ?_
 rintro e v3 ⟨rfl, hb3⟩;rw [decide_eq_true HN.out];replace Xa := B3q.b Xa hb3;replace Xb := B3q.b Xb hb3;replace Xr := B3q.b Xr hb3;replace hbw := bon hbw hb3;clear hb3;obtain ⟨cr0, cr1, cr2, fr0, fr1, fr2⟩ := Xr.out;have hner : gr < v3.heap.size := blt cr0;go_wp2_with fail
 refine bodyPost_ret (v := .tuple #[DV false none 0 0 0, .int .i64 4]) (by rw [results_cell_tmp rfl]; go_simp) rfl ⟨rfl, ?_⟩
 first | exact hbw | exact bSet (bSet (bSet hbw _ _ _ HGr.out) _ _ _ HGr.out) _ _ _ HGr.out
theorem rquo_mu {p q : Option Addr} {m c n d : Nat} {w : World} {e f : Int} {s t : Bool} {x y P : Int} (hP : 1 ≤ P ∧ P ≤ 70000) (h : DN w s p m c e x) (k : DN w t q n d f y) (hn : n ≠ 0) (hm : 4096 < m) :
  Calls Tryz.prog 118 #[DV s p m c e, DV t q n d f, .int .i64 P, .bool true] w fun en w' => en = .returned (.tuple #[DV false none 0 0 0, .int .i64 5]) ∧ Below w.heap.size w w' := by
 have f1 : ¬ P < 1 := by omega
 have f2 : ¬ (70000 : Int) < P := by omega
 have f3 : ¬ P ≤ 0 := by omega
 have H := hdQ h;have K := hdQ k;have HN : Hid (n ≠ 0) := hn
 have f4 : (4096 : Int) < (m : Int) := by omega
 clear h k hn hP hm
 go_enter Tryz.func118, Tryz.ntmps118
 go_wp2_with fail;obtain ⟨W0, hW0⟩ := exq (((w.alloc (.cells #[.bool s, .slice p m c, .int .i64 e] 27)).alloc (.cells #[.bool t, .slice q n d, .int .i64 f] 27)).alloc (.cells #[.bool false, .slice none 0 0, .int .i64 0] 27))
 have Xa : Hid (B3q W0 (w.heap.size) (.bool s) (.slice p m c) (.int .i64 e)) := by rw [hW0]; constructor <;> go_simp
 have Xb : Hid (B3q W0 (w.heap.size + 1) (.bool t) (.slice q n d) (.int .i64 f)) := by rw [hW0]; constructor <;> go_simp
 have Xr : Hid (B3q W0 (w.heap.size + 1 + 1) (.bool false) (.slice none 0 0) (.int .i64 0)) := by rw [hW0]; constructor <;> go_simp
 have hb0 := bq3 hW0;rw [← hW0];clear hW0;have hbw := brf w;obtain ⟨gr, hgr⟩ := exq (w.heap.size + 1 + 1);have HGr : Hid (w.heap.size ≤ gr) := hgl hgr;rw [← hgr] at Xr
 try rw [← hgr]
 obtain ⟨gb, hgb⟩ := exq (w.heap.size + 1);have HGb : Hid (w.heap.size ≤ gb) := hgl hgb;rw [← hgb] at Xb
 try rw [← hgb]
 obtain ⟨ga, hga⟩ := exq w.heap.size;have HGa : Hid (w.heap.size ≤ ga) := hgl hga;rw [← hga] at Xa
 try rw [← hga]
 have HGD : Hid (ga ≠ gb ∧ ga ≠ gr ∧ gb ≠ ga ∧ gb ≠ gr ∧ gr ≠ ga ∧ gr ≠ gb) := by rw [hga, hgb, hgr]; show _ ∧ _; omega
 clear hga hgb hgr;replace hbw := bon hbw hb0;clear hb0;obtain ⟨ca0, ca1, ca2, fa0, fa1, fa2⟩ := Xa.out;have hnea : ga < W0.heap.size := blt ca0;obtain ⟨cb0, cb1, cb2, fb0, fb1, fb2⟩ := Xb.out;have hneb : gb < W0.heap.size := blt cb0;go_wp2_with fail;clear ca0 ca1 ca2 fa0 fa1 fa2 hnea cb0 cb1 cb2 fb0 fb1 fb2 hneb
 refine (docformT8 (H.out.below hbw)).mono ?_
 rintro e v1 ⟨rfl, hb1⟩;replace Xa := B3q.b Xa hb1;replace Xb := B3q.b Xb hb1;replace Xr := B3q.b Xr hb1;replace hbw := bon hbw hb1;clear hb1;obtain ⟨cb0, cb1, cb2, fb0, fb1, fb2⟩ := Xb.out;have hneb : gb < v1.heap.size := blt cb0;go_wp2_with fail;clear cb0 cb1 cb2 fb0 fb1 fb2 hneb
 refine (docformT8 (K.out.below hbw)).mono ?_
 rintro e v2 ⟨rfl, hb2⟩;replace Xa := B3q.b Xa hb2;replace Xb := B3q.b Xb hb2;replace Xr := B3q.b Xr hb2;replace hbw := bon hbw hb2;clear hb2;obtain ⟨cb0, cb1, cb2, fb0, fb1, fb2⟩ := Xb.out;have hneb : gb < v2.heap.size := blt cb0;go_wp2_with fail;clear cb0 cb1 cb2 fb0 fb1 fb2 hneb
 refine (nought).mono ?_
 rintro e v3 ⟨rfl, hb3⟩;rw [decide_eq_false HN.out];replace Xa := B3q.b Xa hb3;replace Xb := B3q.b Xb hb3;replace Xr := B3q.b Xr hb3;replace hbw := bon hbw hb3;clear hb3;obtain ⟨hgd0, hgd1, hgd2, hgd3, hgd4, hgd5⟩ := HGD.out;obtain ⟨ca0, ca1, ca2, fa0, fa1, fa2⟩ := Xa.out;have hnea : ga < v3.heap.size := blt ca0;obtain ⟨cb0, cb1, cb2, fb0, fb1, fb2⟩ := Xb.out;have hneb : gb < v3.heap.size := blt cb0;obtain ⟨cr0, cr1, cr2, fr0, fr1, fr2⟩ := Xr.out;have hner : gr < v3.heap.size := blt cr0;go_wp2_with fail
 refine bodyPost_ret (v := .tuple #[DV false none 0 0 0, .int .i64 5]) (by rw [results_cell_tmp rfl]; go_simp) rfl ⟨rfl, ?_⟩
 first | exact hbw | exact bSet (bSet (bSet hbw _ _ _ HGr.out) _ _ _ HGr.out) _ _ _ HGr.out
theorem rquo_nu {p q : Option Addr} {m c n d : Nat} {w : World} {e f : Int} {s t : Bool} {x y P : Int} (hP : 1 ≤ P ∧ P ≤ 70000) (h : DN w s p m c e x) (k : DN w t q n d f y) (hn : n ≠ 0) (hm : ¬ 4096 < m) (hm2 : 4096 < n) :
  Calls Tryz.prog 118 #[DV s p m c e, DV t q n d f, .int .i64 P, .bool true] w fun en w' => en = .returned (.tuple #[DV false none 0 0 0, .int .i64 5]) ∧ Below w.heap.size w w' := by
 have f1 : ¬ P < 1 := by omega
 have f2 : ¬ (70000 : Int) < P := by omega
 have f3 : ¬ P ≤ 0 := by omega
 have H := hdQ h;have K := hdQ k;have HN : Hid (n ≠ 0) := hn
 have f4 : ¬ (4096 : Int) < (m : Int) := by omega
 have f5 : (4096 : Int) < (n : Int) := by omega
 clear h k hn hP hm hm2
 go_enter Tryz.func118, Tryz.ntmps118
 go_wp2_with fail;obtain ⟨W0, hW0⟩ := exq (((w.alloc (.cells #[.bool s, .slice p m c, .int .i64 e] 27)).alloc (.cells #[.bool t, .slice q n d, .int .i64 f] 27)).alloc (.cells #[.bool false, .slice none 0 0, .int .i64 0] 27))
 have Xa : Hid (B3q W0 (w.heap.size) (.bool s) (.slice p m c) (.int .i64 e)) := by rw [hW0]; constructor <;> go_simp
 have Xb : Hid (B3q W0 (w.heap.size + 1) (.bool t) (.slice q n d) (.int .i64 f)) := by rw [hW0]; constructor <;> go_simp
 have Xr : Hid (B3q W0 (w.heap.size + 1 + 1) (.bool false) (.slice none 0 0) (.int .i64 0)) := by rw [hW0]; constructor <;> go_simp
 have hb0 := bq3 hW0;rw [← hW0];clear hW0;have hbw := brf w;obtain ⟨gr, hgr⟩ := exq (w.heap.size + 1 + 1);have HGr : Hid (w.heap.size ≤ gr) := hgl hgr;rw [← hgr] at Xr
 try rw [← hgr]
 obtain ⟨gb, hgb⟩ := exq (w.heap.size + 1);have HGb : Hid (w.heap.size ≤ gb) := hgl hgb;rw [← hgb] at Xb
 try rw [← hgb]
 obtain ⟨ga, hga⟩ := exq w.heap.size;have HGa : Hid (w.heap.size ≤ ga) := hgl hga;rw [← hga] at Xa
 try rw [← hga]
 have HGD : Hid (ga ≠ gb ∧ ga ≠ gr ∧ gb ≠ ga ∧ gb ≠ gr ∧ gr ≠ ga ∧ gr ≠ gb) := by rw [hga, hgb, hgr]; show _ ∧ _; omega
 clear hga hgb hgr;replace hbw := bon hbw hb0;clear hb0;obtain ⟨ca0, ca1, ca2, fa0, fa1, fa2⟩ := Xa.out;have hnea : ga < W0.heap.size := blt ca0;obtain ⟨cb0, cb1, cb2, fb0, fb1, fb2⟩ := Xb.out;have hneb : gb < W0.heap.size := blt cb0;go_wp2_with fail;clear ca0 ca1 ca2 fa0 fa1 fa2 hnea cb0 cb1 cb2 fb0 fb1 fb2 hneb
 refine (docformT8 (H.out.below hbw)).mono ?_
 rintro e v1 ⟨rfl, hb1⟩;replace Xa := B3q.b Xa hb1;replace Xb := B3q.b Xb hb1;replace Xr := B3q.b Xr hb1;replace hbw := bon hbw hb1;clear hb1;obtain ⟨cb0, cb1, cb2, fb0, fb1, fb2⟩ := Xb.out;have hneb : gb < v1.heap.size := blt cb0;go_wp2_with fail;clear cb0 cb1 cb2 fb0 fb1 fb2 hneb
 refine (docformT8 (K.out.below hbw)).mono ?_
 rintro e v2 ⟨rfl, hb2⟩;replace Xa := B3q.b Xa hb2;replace Xb := B3q.b Xb hb2;replace Xr := B3q.b Xr hb2;replace hbw := bon hbw hb2;clear hb2;obtain ⟨cb0, cb1, cb2, fb0, fb1, fb2⟩ := Xb.out;have hneb : gb < v2.heap.size := blt cb0;go_wp2_with fail;clear cb0 cb1 cb2 fb0 fb1 fb2 hneb
 refine (nought).mono ?_
 rintro e v3 ⟨rfl, hb3⟩;rw [decide_eq_false HN.out];replace Xa := B3q.b Xa hb3;replace Xb := B3q.b Xb hb3;replace Xr := B3q.b Xr hb3;replace hbw := bon hbw hb3;clear hb3;obtain ⟨hgd0, hgd1, hgd2, hgd3, hgd4, hgd5⟩ := HGD.out;obtain ⟨ca0, ca1, ca2, fa0, fa1, fa2⟩ := Xa.out;have hnea : ga < v3.heap.size := blt ca0;obtain ⟨cb0, cb1, cb2, fb0, fb1, fb2⟩ := Xb.out;have hneb : gb < v3.heap.size := blt cb0;obtain ⟨cr0, cr1, cr2, fr0, fr1, fr2⟩ := Xr.out;have hner : gr < v3.heap.size := blt cr0;go_wp2_with fail
 refine bodyPost_ret (v := .tuple #[DV false none 0 0 0, .int .i64 5]) (by rw [results_cell_tmp rfl]; go_simp) rfl ⟨rfl, ?_⟩
 first | exact hbw | exact bSet (bSet (bSet hbw _ _ _ HGr.out) _ _ _ HGr.out) _ _ _ HGr.out
theorem rquo_ou {p q : Option Addr} {m c n d : Nat} {w : World} {e f : Int} {s t : Bool} {x y : Int} {P : Nat} (hP : 1 ≤ P ∧ P ≤ 70000) (h : DN w s p m c e x) (k : DN w t q n d f y) (hy : y ≠ 0) (hn : n ≠ 0) (hm : m ≤ 4096) (hm2 : n ≤ 4096) :
  Calls Tryz.prog 118 #[DV s p m c e, DV t q n d f, .int .i64 P, .bool true] w fun en w' => ∃ zo eo er, SaidD w.heap.size w' en zo eo er ∧ QuoM true x e y f P zo eo er ∧ Below w.heap.size w w' := by
 have f1 : ¬ (P : Int) < 1 := by omega
 have f2 : ¬ (70000 : Int) < (P : Int) := by omega
 have f3 : ¬ (P : Int) ≤ 0 := by omega
 have f4 : ¬ (4096 : Int) < (m : Int) := by omega
 have f5 : ¬ (4096 : Int) < (n : Int) := by omega
 have H := hdQ h;have K := hdQ k;have HN : Hid (n ≠ 0) := hn;have HM : Hid (m ≤ 4096 ∧ n ≤ 4096 ∧ y ≠ 0 ∧ (1 ≤ P ∧ P ≤ 70000)) := ⟨hm, hm2, hy, hP⟩;clear h k hn hP hm hm2 hy
 go_enter Tryz.func118, Tryz.ntmps118
 go_wp2_with fail;obtain ⟨W0, hW0⟩ := exq (((w.alloc (.cells #[.bool s, .slice p m c, .int .i64 e] 27)).alloc (.cells #[.bool t, .slice q n d, .int .i64 f] 27)).alloc (.cells #[.bool false, .slice none 0 0, .int .i64 0] 27))
 have Xa : Hid (B3q W0 (w.heap.size) (.bool s) (.slice p m c) (.int .i64 e)) := by rw [hW0]; constructor <;> go_simp
 have Xb : Hid (B3q W0 (w.heap.size + 1) (.bool t) (.slice q n d) (.int .i64 f)) := by rw [hW0]; constructor <;> go_simp
 have Xr : Hid (B3q W0 (w.heap.size + 1 + 1) (.bool false) (.slice none 0 0) (.int .i64 0)) := by rw [hW0]; constructor <;> go_simp
 have hb0 := bq3 hW0;rw [← hW0];clear hW0;have hbw := brf w;obtain ⟨gr, hgr⟩ := exq (w.heap.size + 1 + 1);have HGr : Hid (w.heap.size ≤ gr) := hgl hgr;rw [← hgr] at Xr
 try rw [← hgr]
 obtain ⟨gb, hgb⟩ := exq (w.heap.size + 1);have HGb : Hid (w.heap.size ≤ gb) := hgl hgb;rw [← hgb] at Xb
 try rw [← hgb]
 obtain ⟨ga, hga⟩ := exq w.heap.size;have HGa : Hid (w.heap.size ≤ ga) := hgl hga;rw [← hga] at Xa
 try rw [← hga]
 have HGD : Hid (ga ≠ gb ∧ ga ≠ gr ∧ gb ≠ ga ∧ gb ≠ gr ∧ gr ≠ ga ∧ gr ≠ gb) := by rw [hga, hgb, hgr]; show _ ∧ _; omega
 clear hga hgb hgr;replace hbw := bon hbw hb0;clear hb0;obtain ⟨ca0, ca1, ca2, fa0, fa1, fa2⟩ := Xa.out;have hnea : ga < W0.heap.size := blt ca0;obtain ⟨cb0, cb1, cb2, fb0, fb1, fb2⟩ := Xb.out;have hneb : gb < W0.heap.size := blt cb0;go_wp2_with fail;clear ca0 ca1 ca2 fa0 fa1 fa2 hnea cb0 cb1 cb2 fb0 fb1 fb2 hneb
 refine (docformT8 (H.out.below hbw)).mono ?_
 rintro e v1 ⟨rfl, hb1⟩;replace Xa := B3q.b Xa hb1;replace Xb := B3q.b Xb hb1;replace Xr := B3q.b Xr hb1;replace hbw := bon hbw hb1;clear hb1;obtain ⟨cb0, cb1, cb2, fb0, fb1, fb2⟩ := Xb.out;have hneb : gb < v1.heap.size := blt cb0;go_wp2_with fail;clear cb0 cb1 cb2 fb0 fb1 fb2 hneb
 refine (docformT8 (K.out.below hbw)).mono ?_
 rintro e v2 ⟨rfl, hb2⟩;replace Xa := B3q.b Xa hb2;replace Xb := B3q.b Xb hb2;replace Xr := B3q.b Xr hb2;replace hbw := bon hbw hb2;clear hb2;obtain ⟨cb0, cb1, cb2, fb0, fb1, fb2⟩ := Xb.out;have hneb : gb < v2.heap.size := blt cb0;go_wp2_with fail;clear cb0 cb1 cb2 fb0 fb1 fb2 hneb
 refine (nought).mono ?_
 rintro e v3 ⟨rfl, hb3⟩;rw [decide_eq_false HN.out];replace Xa := B3q.b Xa hb3;replace Xb := B3q.b Xb hb3;replace Xr := B3q.b Xr hb3;replace hbw := bon hbw hb3;clear hb3;obtain ⟨ca0, ca1, ca2, fa0, fa1, fa2⟩ := Xa.out;have hnea : ga < v3.heap.size := blt ca0;obtain ⟨cb0, cb1, cb2, fb0, fb1, fb2⟩ := Xb.out;have hneb : gb < v3.heap.size := blt cb0;go_wp2_with fail;clear ca0 ca1 ca2 fa0 fa1 fa2 hnea cb0 cb1 cb2 fb0 fb1 fb2 hneb f1 f2 f3 f4 f5;obtain ⟨hgd0, hgd1, hgd2, hgd3, hgd4, hgd5⟩ := HGD.out;obtain ⟨W5, hW5⟩ := exq v3.drew
 have hbd : Below v3.heap.size v3 W5 := by rw [hW5]; exact bDrew1 (Below.refl _ _)
 replace Xa := B3q.b Xa hbd;replace Xb := B3q.b Xb hbd;replace Xr := B3q.b Xr hbd;replace hbw := bon hbw hbd;clear hbd
 have HJ : Hid ((fun W' : World => W'.cell? ⟨ga, 0, none⟩ = some (.bool s) ∧ W'.cell? ⟨ga, 1, none⟩ = some (.slice p m c) ∧ W'.cell? ⟨ga, 2, none⟩ = some (.int .i64 e) ∧ W'.cell? ⟨gb, 0, none⟩ = some (.bool t) ∧ W'.cell? ⟨gb, 1, none⟩ = some (.slice q n d) ∧ W'.cell? ⟨gb, 2, none⟩ = some (.int .i64 f)) W5) := ⟨Xa.out.c0, Xa.out.c1, Xa.out.c2, Xb.out.c0, Xb.out.c1, Xb.out.c2⟩
 refine wp_region_J (fun W' => W'.cell? ⟨ga, 0, none⟩ = some (.bool s) ∧ W'.cell? ⟨ga, 1, none⟩ = some (.slice p m c) ∧ W'.cell? ⟨ga, 2, none⟩ = some (.int .i64 e) ∧ W'.cell? ⟨gb, 0, none⟩ = some (.bool t) ∧ W'.cell? ⟨gb, 1, none⟩ = some (.slice q n d) ∧ W'.cell? ⟨gb, 2, none⟩ = some (.int .i64 f)) (by kernel_rfl) ?_
 rw [← hW5];clear hW5
 refine wpJ_tq 0 rfl HJ.out ?_
 refine wpJ_tq 1 rfl HJ.out ?_
 refine wpJ_tq 3 rfl HJ.out ?_
 refine wpJ_tq 4 rfl HJ.out ?_
 go_simp
 refine wpJ_nodes5 fun WP hWP L0 a0 hL ha => ?_
 have N2_5_6_7 : ∀ (t1 : Bool) (k1 : Nat) (n1 : Nat) (t2 : Bool) (k2 : Nat) (n2 : Nat) (gx : Nat) (gy : Nat) (W' : World), (B3q W' ga (.bool s) (.slice p m c) (.int .i64 e)) ∧ (B3q W' gb (.bool t) (.slice q n d) (.int .i64 f)) ∧ (B3q W' gr (.bool false) (.slice none 0 0) (.int .i64 0)) ∧ (Below w.heap.size w W') ∧ (ZR W' t1 (some ⟨k1, 0, none⟩) n1 x) ∧ (n1 ≤ 16384) ∧ (ZR W' t2 (some ⟨k2, 0, none⟩) n2 y) ∧ (n2 ≤ 16384) ∧ (Box W' gx (.bool false) (.slice none 0 0)) ∧ (w.heap.size ≤ gx) ∧ (ga ≠ gx ∧ gb ≠ gx ∧ gr ≠ gx) ∧ (Box W' gy (.bool false) (.slice none 0 0)) ∧ (w.heap.size ≤ gy) ∧ (ga ≠ gy ∧ gb ≠ gy ∧ gr ≠ gy) ∧ (n1 = 0 ∨ k1 ≠ gx) ∧ (n1 = 0 ∨ k1 ≠ gy) ∧ (n2 = 0 ∨ k2 ≠ gx) ∧ (n2 = 0 ∨ k2 ≠ gy) ∧ (gx ≠ gy) → WP 2 ((((L0.setIfInBounds 2 true).setIfInBounds 5 true).setIfInBounds 6 true).setIfInBounds 7 true) ((((a0.put (some 48) (.agg #[.bool t1, .slice (some ⟨k1, 0, none⟩) n1 n1])).put (some 51) (.agg #[.bool t2, .slice (some ⟨k2, 0, none⟩) n2 n2])).put (some 10) (.pointer (some ⟨gx, 0, none⟩))).put (some 11) (.pointer (some ⟨gy, 0, none⟩))) W' := by
  rintro t1 k1 n1 t2 k2 n2 gx gy W' ⟨xa, xb, xr, hbw, z1, l1, z2, l2, xgx, hgx, ngx, xgy, hgy, ngy, o1gx, o1gy, o2gx, o2gy, dxy⟩;subst hWP hL ha;have Hxa := Hid.mk5 xa;have Hxb := Hid.mk5 xb;have Hxr := Hid.mk5 xr;have Hz1 := Hid.mk5 z1;have Hl1 := Hid.mk5 l1;have Hz2 := Hid.mk5 z2;have Hl2 := Hid.mk5 l2;have Hxgx := Hid.mk5 xgx;have Hhgx := Hid.mk5 hgx;have Hngx := Hid.mk5 ngx;have Hxgy := Hid.mk5 xgy;have Hhgy := Hid.mk5 hgy;have Hngy := Hid.mk5 ngy;have Ho1gx := Hid.mk5 o1gx;have Ho1gy := Hid.mk5 o1gy;have Ho2gx := Hid.mk5 o2gx;have Ho2gy := Hid.mk5 o2gy;have Hdxy := Hid.mk5 dxy;clear xa xb xr z1 l1 z2 l2 xgx hgx ngx xgy hgy ngy o1gx o1gy o2gx o2gy dxy;go_simp;have Xa := Hxa;have Xb := Hxb;have Xr := Hxr;have Xx := Hxgx;have Xy := Hxgy;clear Hxa Hxb Hxr Hxgx Hxgy;obtain ⟨x1, x2, x3⟩ := Hngx.out;obtain ⟨y1, y2, y3⟩ := Hngy.out;have x1' := Ne.symm x1;have x2' := Ne.symm x2;have x3' := Ne.symm x3
  have y1' := Ne.symm y1;have y2' := Ne.symm y2;have y3' := Ne.symm y3;have d1 := Hdxy.out;have d2 := Ne.symm d1
  have HJ : Hid ((fun W' : World => W'.cell? ⟨ga, 0, none⟩ = some (.bool s) ∧ W'.cell? ⟨ga, 1, none⟩ = some (.slice p m c) ∧ W'.cell? ⟨ga, 2, none⟩ = some (.int .i64 e) ∧ W'.cell? ⟨gb, 0, none⟩ = some (.bool t) ∧ W'.cell? ⟨gb, 1, none⟩ = some (.slice q n d) ∧ W'.cell? ⟨gb, 2, none⟩ = some (.int .i64 f)) W') := ⟨Xa.out.c0, Xa.out.c1, Xa.out.c2, Xb.out.c0, Xb.out.c1, Xb.out.c2⟩
  obtain ⟨ca0, ca1, ca2, fa0, fa1, fa2⟩ := Xa.out;have hnea : ga < W'.heap.size := blt ca0;obtain ⟨cb0, cb1, cb2, fb0, fb1, fb2⟩ := Xb.out;have hneb : gb < W'.heap.size := blt cb0;obtain ⟨cr0, cr1, cr2, fr0, fr1, fr2⟩ := Xr.out;have hner : gr < W'.heap.size := blt cr0;obtain ⟨cx0, cx1, fx0, fx1⟩ := Xx.out;have hnex := Xx.out.lt;obtain ⟨cy0, cy1, fy0, fy1⟩ := Xy.out;have hney := Xy.out.lt
  refine wpJ_on 8 rfl fun KJ hK => ?_
  go_simp
  have Ya : Hid (B3q ((W'.setCell ⟨gx, 0, none⟩ (.bool t1)).setCell ⟨gx, 1, none⟩ (.slice (some ⟨k1, 0, none⟩) n1 n1)) ga (.bool s) (.slice p m c) (.int .i64 e)) := ⟨by go_simp, by go_simp, by go_simp, by go_simp, by go_simp, by go_simp⟩
  have Yb : Hid (B3q ((W'.setCell ⟨gx, 0, none⟩ (.bool t1)).setCell ⟨gx, 1, none⟩ (.slice (some ⟨k1, 0, none⟩) n1 n1)) gb (.bool t) (.slice q n d) (.int .i64 f)) := ⟨by go_simp, by go_simp, by go_simp, by go_simp, by go_simp, by go_simp⟩
  have Yr : Hid (B3q ((W'.setCell ⟨gx, 0, none⟩ (.bool t1)).setCell ⟨gx, 1, none⟩ (.slice (some ⟨k1, 0, none⟩) n1 n1)) gr (.bool false) (.slice none 0 0) (.int .i64 0)) := ⟨by go_simp, by go_simp, by go_simp, by go_simp, by go_simp, by go_simp⟩
  have Yx : Hid (Box ((W'.setCell ⟨gx, 0, none⟩ (.bool t1)).setCell ⟨gx, 1, none⟩ (.slice (some ⟨k1, 0, none⟩) n1 n1)) gx (.bool t1) (.slice (some ⟨k1, 0, none⟩) n1 n1)) := ⟨by go_simp, by go_simp, by go_simp, by go_simp⟩
  have Yy : Hid (Box ((W'.setCell ⟨gx, 0, none⟩ (.bool t1)).setCell ⟨gx, 1, none⟩ (.slice (some ⟨k1, 0, none⟩) n1 n1)) gy (.bool false) (.slice none 0 0)) := ⟨by go_simp, by go_simp, by go_simp, by go_simp⟩
  have HJ2 : Hid ((fun W' : World => W'.cell? ⟨ga, 0, none⟩ = some (.bool s) ∧ W'.cell? ⟨ga, 1, none⟩ = some (.slice p m c) ∧ W'.cell? ⟨ga, 2, none⟩ = some (.int .i64 e) ∧ W'.cell? ⟨gb, 0, none⟩ = some (.bool t) ∧ W'.cell? ⟨gb, 1, none⟩ = some (.slice q n d) ∧ W'.cell? ⟨gb, 2, none⟩ = some (.int .i64 f)) ((W'.setCell ⟨gx, 0, none⟩ (.bool t1)).setCell ⟨gx, 1, none⟩ (.slice (some ⟨k1, 0, none⟩) n1 n1))) := ⟨Ya.out.c0, Ya.out.c1, Ya.out.c2, Yb.out.c0, Yb.out.c1, Yb.out.c2⟩
  have Hy1 : Hid (ZR ((W'.setCell ⟨gx, 0, none⟩ (.bool t1)).setCell ⟨gx, 1, none⟩ (.slice (some ⟨k1, 0, none⟩) n1 n1)) t1 (some ⟨k1, 0, none⟩) n1 x) := zr_set9 (zr_set9 Hz1.out _ _ _ Ho1gx.out) _ _ _ Ho1gx.out;have Hy2 : Hid (ZR ((W'.setCell ⟨gx, 0, none⟩ (.bool t1)).setCell ⟨gx, 1, none⟩ (.slice (some ⟨k1, 0, none⟩) n1 n1)) t2 (some ⟨k2, 0, none⟩) n2 y) := zr_set9 (zr_set9 Hz2.out _ _ _ Ho2gx.out) _ _ _ Ho2gx.out;have hbw2 : Below w.heap.size w ((W'.setCell ⟨gx, 0, none⟩ (.bool t1)).setCell ⟨gx, 1, none⟩ (.slice (some ⟨k1, 0, none⟩) n1 n1)) := bSet (bSet hbw _ _ _ Hhgx.out) _ _ _ Hhgx.out
  refine hK _ _ HJ2.out ?_
  clear hK HJ;have HJ := HJ2;clear HJ2 ca0 ca1 ca2 fa0 fa1 fa2 hnea cb0 cb1 cb2 fb0 fb1 fb2 hneb cr0 cr1 cr2 fr0 fr1 fr2 hner cx0 cx1 fx0 fx1 hnex cy0 cy1 fy0 fy1 hney Xa Xb Xr Xx Xy Hz1 Hz2 hbw;have Xa := Ya;have Xb := Yb;have Xr := Yr;have Xx := Yx;have Xy := Yy;have Hz1 := Hy1;have Hz2 := Hy2;have hbw := hbw2;clear Ya Yb Yr Yx Yy Hy1 Hy2 hbw2;generalize ((W'.setCell ⟨gx, 0, none⟩ (.bool t1)).setCell ⟨gx, 1, none⟩ (.slice (some ⟨k1, 0, none⟩) n1 n1)) = V8 at *;obtain ⟨ca0, ca1, ca2, fa0, fa1, fa2⟩ := Xa.out;have hnea : ga < V8.heap.size := blt ca0;obtain ⟨cb0, cb1, cb2, fb0, fb1, fb2⟩ := Xb.out;have hneb : gb < V8.heap.size := blt cb0;obtain ⟨cr0, cr1, cr2, fr0, fr1, fr2⟩ := Xr.out;have hner : gr < V8.heap.size := blt cr0;obtain ⟨cx0, cx1, fx0, fx1⟩ := Xx.out;have hnex := Xx.out.lt;obtain ⟨cy0, cy1, fy0, fy1⟩ := Xy.out;have hney := Xy.out.lt
  refine wpJ_on 9 rfl fun KJ hK => ?_
  go_simp
  have Ya : Hid (B3q ((V8.setCell ⟨gy, 0, none⟩ (.bool t2)).setCell ⟨gy, 1, none⟩ (.slice (some ⟨k2, 0, none⟩) n2 n2)) ga (.bool s) (.slice p m c) (.int .i64 e)) := ⟨by go_simp, by go_simp, by go_simp, by go_simp, by go_simp, by go_simp⟩
  have Yb : Hid (B3q ((V8.setCell ⟨gy, 0, none⟩ (.bool t2)).setCell ⟨gy, 1, none⟩ (.slice (some ⟨k2, 0, none⟩) n2 n2)) gb (.bool t) (.slice q n d) (.int .i64 f)) := ⟨by go_simp, by go_simp, by go_simp, by go_simp, by go_simp, by go_simp⟩
  have Yr : Hid (B3q ((V8.setCell ⟨gy, 0, none⟩ (.bool t2)).setCell ⟨gy, 1, none⟩ (.slice (some ⟨k2, 0, none⟩) n2 n2)) gr (.bool false) (.slice none 0 0) (.int .i64 0)) := ⟨by go_simp, by go_simp, by go_simp, by go_simp, by go_simp, by go_simp⟩
  have Yx : Hid (Box ((V8.setCell ⟨gy, 0, none⟩ (.bool t2)).setCell ⟨gy, 1, none⟩ (.slice (some ⟨k2, 0, none⟩) n2 n2)) gx (.bool t1) (.slice (some ⟨k1, 0, none⟩) n1 n1)) := ⟨by go_simp, by go_simp, by go_simp, by go_simp⟩
  have Yy : Hid (Box ((V8.setCell ⟨gy, 0, none⟩ (.bool t2)).setCell ⟨gy, 1, none⟩ (.slice (some ⟨k2, 0, none⟩) n2 n2)) gy (.bool t2) (.slice (some ⟨k2, 0, none⟩) n2 n2)) := ⟨by go_simp, by go_simp, by go_simp, by go_simp⟩
  have HJ2 : Hid ((fun W' : World => W'.cell? ⟨ga, 0, none⟩ = some (.bool s) ∧ W'.cell? ⟨ga, 1, none⟩ = some (.slice p m c) ∧ W'.cell? ⟨ga, 2, none⟩ = some (.int .i64 e) ∧ W'.cell? ⟨gb, 0, none⟩ = some (.bool t) ∧ W'.cell? ⟨gb, 1, none⟩ = some (.slice q n d) ∧ W'.cell? ⟨gb, 2, none⟩ = some (.int .i64 f)) ((V8.setCell ⟨gy, 0, none⟩ (.bool t2)).setCell ⟨gy, 1, none⟩ (.slice (some ⟨k2, 0, none⟩) n2 n2))) := ⟨Ya.out.c0, Ya.out.c1, Ya.out.c2, Yb.out.c0, Yb.out.c1, Yb.out.c2⟩
  have Hy1 : Hid (ZR ((V8.setCell ⟨gy, 0, none⟩ (.bool t2)).setCell ⟨gy, 1, none⟩ (.slice (some ⟨k2, 0, none⟩) n2 n2)) t1 (some ⟨k1, 0, none⟩) n1 x) := zr_set9 (zr_set9 Hz1.out _ _ _ Ho1gy.out) _ _ _ Ho1gy.out;have Hy2 : Hid (ZR ((V8.setCell ⟨gy, 0, none⟩ (.bool t2)).setCell ⟨gy, 1, none⟩ (.slice (some ⟨k2, 0, none⟩) n2 n2)) t2 (some ⟨k2, 0, none⟩) n2 y) := zr_set9 (zr_set9 Hz2.out _ _ _ Ho2gy.out) _ _ _ Ho2gy.out;have hbw2 : Below w.heap.size w ((V8.setCell ⟨gy, 0, none⟩ (.bool t2)).setCell ⟨gy, 1, none⟩ (.slice (some ⟨k2, 0, none⟩) n2 n2)) := bSet (bSet hbw _ _ _ Hhgy.out) _ _ _ Hhgy.out
  refine hK _ _ HJ2.out ?_
  clear hK HJ;have HJ := HJ2;clear HJ2 ca0 ca1 ca2 fa0 fa1 fa2 hnea cb0 cb1 cb2 fb0 fb1 fb2 hneb cr0 cr1 cr2 fr0 fr1 fr2 hner cx0 cx1 fx0 fx1 hnex cy0 cy1 fy0 fy1 hney Xa Xb Xr Xx Xy Hz1 Hz2 hbw;have Xa := Ya;have Xb := Yb;have Xr := Yr;have Xx := Yx;have Xy := Yy;have Hz1 := Hy1;have Hz2 := Hy2;have hbw := hbw2;clear Ya Yb Yr Yx Yy Hy1 Hy2 hbw2;generalize ((V8.setCell ⟨gy, 0, none⟩ (.bool t2)).setCell ⟨gy, 1, none⟩ (.slice (some ⟨k2, 0, none⟩) n2 n2)) = V9 at *
  refine wpJ_done (by kernel_rfl) ?_ _
  clear HJ;have Z1 := Hz1;have Z2 := Hz2;clear Hz1 Hz2 x1 x2 x3 y1 y2 y3 x1' x2' x3' y1' y2' y3';obtain ⟨cx0, cx1, fx0, fx1⟩ := Xx.out;have hnex := Xx.out.lt;obtain ⟨cy0, cy1, fy0, fy1⟩ := Xy.out;have hney := Xy.out.lt;go_wp2_with fail;clear cx0 cx1 fx0 fx1 hnex cy0 cy1 fy0 fy1 hney;have hbx := half_bits H.out.zn HM.out.1;have hby := half_bits K.out.zn HM.out.2.1;have hPP := HM.out.2.2.2;obtain ⟨Bx, hBx⟩ := exq (bitsN x.natAbs);obtain ⟨By, hBy⟩ := exq (bitsN y.natAbs);obtain ⟨S, hS⟩ := exq (QS x y P)
  have hS2 : S = ((P : Int) + 1 + By - Bx).toNat := by rw [hS, hBx, hBy]; rfl
  rw [← hBx] at hbx;rw [← hBy] at hby;obtain ⟨c1, c2, c3, c4, c5, c6, c7⟩ := qsw hbx hby hPP.2 hS2;have HB : Hid (bitsN x.natAbs = Bx ∧ bitsN y.natAbs = By ∧ S = QS x y P ∧ S ≤ 332145) := ⟨hBx.symm, hBy.symm, hS, qsb hby hPP.2 hS2⟩;clear hbx hby hPP hBx hBy hS hS2;obtain ⟨W6, hW6⟩ := exq V9.drew
  have hbd : Below V9.heap.size V9 W6 := by rw [hW6]; exact bDrew1 (Below.refl _ _)
  replace Xa := B3q.b Xa hbd;replace Xb := B3q.b Xb hbd;replace Xr := B3q.b Xr hbd;replace Xx := Box.b Xx hbd;replace Xy := Box.b Xy hbd;replace Z1 := ZR.b Z1 hbd;replace Z2 := ZR.b Z2 hbd;replace hbw := bon hbw hbd;clear hbd
  have HJ : Hid ((fun W' : World => W'.cell? ⟨gx, 0, none⟩ = some (.bool t1) ∧ W'.cell? ⟨gx, 1, none⟩ = some (.slice (some ⟨k1, 0, none⟩) n1 n1) ∧ W'.cell? ⟨gy, 0, none⟩ = some (.bool t2) ∧ W'.cell? ⟨gy, 1, none⟩ = some (.slice (some ⟨k2, 0, none⟩) n2 n2)) W6) := ⟨Xx.out.c0, Xx.out.c1, Xy.out.c0, Xy.out.c1⟩
  refine wp_region_J (fun W' => W'.cell? ⟨gx, 0, none⟩ = some (.bool t1) ∧ W'.cell? ⟨gx, 1, none⟩ = some (.slice (some ⟨k1, 0, none⟩) n1 n1) ∧ W'.cell? ⟨gy, 0, none⟩ = some (.bool t2) ∧ W'.cell? ⟨gy, 1, none⟩ = some (.slice (some ⟨k2, 0, none⟩) n2 n2)) (by kernel_rfl) ?_
  rw [← hW6];clear hW6
  refine wpJ_tq 0 rfl HJ.out ?_
  refine wpJ_tq 1 rfl HJ.out ?_
  refine wpJ_tq 2 rfl HJ.out ?_
  refine wpJ_tq 3 rfl HJ.out ?_
  refine wpJ_tq 6 rfl HJ.out ?_
  go_simp
  refine wpJ_tq 7 rfl HJ.out ?_
  refine wpJ_on 4 rfl fun KJ hK => ?_
  go_simp;obtain ⟨zs, hA, hN⟩ := Z2.out.ex
  refine (rbits_any hA hN (by have := Hl2.out; omega)).mono ?_
  rintro e2 v9 ⟨rfl, hw⟩;obtain rfl := hw.symm;clear hw hA hN;rw [HB.out.2.1];clear HJ
  have HJ : Hid ((fun W' : World => W'.cell? ⟨gx, 0, none⟩ = some (.bool t1) ∧ W'.cell? ⟨gx, 1, none⟩ = some (.slice (some ⟨k1, 0, none⟩) n1 n1) ∧ W'.cell? ⟨gy, 0, none⟩ = some (.bool t2) ∧ W'.cell? ⟨gy, 1, none⟩ = some (.slice (some ⟨k2, 0, none⟩) n2 n2)) W6) := ⟨Xx.out.c0, Xx.out.c1, Xy.out.c0, Xy.out.c1⟩
  refine hK _ _ HJ.out ?_
  clear hK
  refine wpJ_tq 5 rfl HJ.out ?_
  refine wpJ_on 8 rfl fun KJ hK => ?_
  go_simp;obtain ⟨zs, hA, hN⟩ := Z1.out.ex
  refine (rbits_any hA hN (by have := Hl1.out; omega)).mono ?_
  rintro e2 v9 ⟨rfl, hw⟩;obtain rfl := hw.symm;clear hw hA hN;rw [HB.out.1];clear HJ
  have HJ : Hid ((fun W' : World => W'.cell? ⟨gx, 0, none⟩ = some (.bool t1) ∧ W'.cell? ⟨gx, 1, none⟩ = some (.slice (some ⟨k1, 0, none⟩) n1 n1) ∧ W'.cell? ⟨gy, 0, none⟩ = some (.bool t2) ∧ W'.cell? ⟨gy, 1, none⟩ = some (.slice (some ⟨k2, 0, none⟩) n2 n2)) W6) := ⟨Xx.out.c0, Xx.out.c1, Xy.out.c0, Xy.out.c1⟩
  refine hK _ _ HJ.out ?_
  clear hK
  refine wpJ_tq 9 rfl HJ.out ?_
  refine wpJ_tq 10 rfl HJ.out ?_
  refine wpJ_tq 11 rfl HJ.out ?_
  refine wpJ_done (by kernel_rfl) ?_ _
  clear HJ;obtain ⟨cx0, cx1, fx0, fx1⟩ := Xx.out;have hnex := Xx.out.lt;obtain ⟨cy0, cy1, fy0, fy1⟩ := Xy.out;have hney := Xy.out.lt;go_wp2_with fail;clear cx0 cx1 fx0 fx1 hnex cy0 cy1 fy0 fy1 hney c1 c2 c3 c4 c5 c6 c7;obtain ⟨XX, hXX⟩ := exq (x * ((2 ^ S : Nat) : Int));have HXX := hdQ hXX
  have HXL : Hid (XX.natAbs < LIM) := by rw [hXX, ← pow_cast]; exact shl_lim (fun _ => by rw [HB.out.1]; exact qsc H.out.zn K.out.zn HM.out.1 HM.out.2.1 HM.out.2.2.2.2 HB.out.1 HB.out.2.1 HB.out.2.2.1)
  clear hXX;obtain ⟨W7, hW7⟩ := exq W6.drew
  have hbd : Below W6.heap.size W6 W7 := by rw [hW7]; exact bDrew1 (Below.refl _ _)
  replace Xa := B3q.b Xa hbd;replace Xb := B3q.b Xb hbd;replace Xr := B3q.b Xr hbd;replace Xx := Box.b Xx hbd;replace Xy := Box.b Xy hbd;replace Z1 := ZR.b Z1 hbd;replace Z2 := ZR.b Z2 hbd;replace hbw := bon hbw hbd;clear hbd
  have HJ : Hid ((fun W' : World => W'.cell? ⟨gx, 0, none⟩ = some (.bool t1) ∧ W'.cell? ⟨gx, 1, none⟩ = some (.slice (some ⟨k1, 0, none⟩) n1 n1) ∧ W'.cell? ⟨gy, 0, none⟩ = some (.bool t2) ∧ W'.cell? ⟨gy, 1, none⟩ = some (.slice (some ⟨k2, 0, none⟩) n2 n2)) W7) := ⟨Xx.out.c0, Xx.out.c1, Xy.out.c0, Xy.out.c1⟩
  refine wp_region_J (fun W' => W'.cell? ⟨gx, 0, none⟩ = some (.bool t1) ∧ W'.cell? ⟨gx, 1, none⟩ = some (.slice (some ⟨k1, 0, none⟩) n1 n1) ∧ W'.cell? ⟨gy, 0, none⟩ = some (.bool t2) ∧ W'.cell? ⟨gy, 1, none⟩ = some (.slice (some ⟨k2, 0, none⟩) n2 n2)) (by kernel_rfl) ?_
  rw [← hW7];clear hW7
  refine wpJ_tq 0 rfl HJ.out ?_
  refine wpJ_tq 1 rfl HJ.out ?_
  refine wpJ_tq 3 rfl HJ.out ?_
  go_simp
  refine wpJ_nodes5 fun WP hWP L0 a0 hL ha => ?_
  have N2_4_5 : ∀ (t3 : Bool) (k3 : Nat) (n3 : Nat) (t4 : Bool) (k4 : Nat) (n4 : Nat) (gq : Nat) (W' : World), (B3q W' ga (.bool s) (.slice p m c) (.int .i64 e)) ∧ (B3q W' gb (.bool t) (.slice q n d) (.int .i64 f)) ∧ (B3q W' gr (.bool false) (.slice none 0 0) (.int .i64 0)) ∧ (Box W' gx (.bool t1) (.slice (some ⟨k1, 0, none⟩) n1 n1)) ∧ (Box W' gy (.bool t2) (.slice (some ⟨k2, 0, none⟩) n2 n2)) ∧ (Below w.heap.size w W') ∧ (ZR W' t1 (some ⟨k1, 0, none⟩) n1 x) ∧ (ZR W' t2 (some ⟨k2, 0, none⟩) n2 y) ∧ (ZR W' t3 (some ⟨k3, 0, none⟩) n3 XX) ∧ (n3 ≤ 16384) ∧ (ZR W' t4 (some ⟨k4, 0, none⟩) n4 (qI false XX y)) ∧ (Box W' gq (.bool false) (.slice none 0 0)) ∧ (w.heap.size ≤ gq) ∧ (ga ≠ gq ∧ gb ≠ gq ∧ gr ≠ gq ∧ gx ≠ gq ∧ gy ≠ gq) ∧ (n4 = 0 ∨ k4 ≠ gq) ∧ (n1 = 0 ∨ k1 ≠ gq) ∧ (n2 = 0 ∨ k2 ≠ gq) → WP 1 (((L0.setIfInBounds 2 true).setIfInBounds 4 true).setIfInBounds 5 true) (((a0.put (some 65) (.agg #[.bool t3, .slice (some ⟨k3, 0, none⟩) n3 n3])).put (some 67) (.agg #[.bool t4, .slice (some ⟨k4, 0, none⟩) n4 n4])).put (some 13) (.pointer (some ⟨gq, 0, none⟩))) W' := by
   rintro t3 k3 n3 t4 k4 n4 gq W' ⟨xa, xb, xr, xx, xy, hbw, kz1, kz2, z3, l3, z4, xq, hq, nq, o4q, oz1, oz2⟩;subst hWP hL ha;have Hxa := Hid.mk5 xa;have Hxb := Hid.mk5 xb;have Hxr := Hid.mk5 xr;have Hxx := Hid.mk5 xx;have Hxy := Hid.mk5 xy;have Hkz1 := Hid.mk5 kz1;have Hkz2 := Hid.mk5 kz2;have Hz3 := Hid.mk5 z3;have Hl3 := Hid.mk5 l3;have Hz4 := Hid.mk5 z4;have Hxq := Hid.mk5 xq;have Hhq := Hid.mk5 hq;have Hnq := Hid.mk5 nq;have Ho4q := Hid.mk5 o4q;have Hoz1 := Hid.mk5 oz1;have Hoz2 := Hid.mk5 oz2;clear xa xb xr xx xy kz1 kz2 z3 l3 z4 xq hq nq o4q oz1 oz2;go_simp;have Xa := Hxa;have Xb := Hxb;have Xr := Hxr;have Xx := Hxx;have Xy := Hxy;have Xq := Hxq;clear Hxa Hxb Hxr Hxx Hxy Hxq;obtain ⟨qa, qb, qr, qx, qy⟩ := Hnq.out;have qa' := Ne.symm qa;have qb' := Ne.symm qb;have qr' := Ne.symm qr;have qx' := Ne.symm qx;have qy' := Ne.symm qy
   have HJ : Hid ((fun W' : World => W'.cell? ⟨gx, 0, none⟩ = some (.bool t1) ∧ W'.cell? ⟨gx, 1, none⟩ = some (.slice (some ⟨k1, 0, none⟩) n1 n1) ∧ W'.cell? ⟨gy, 0, none⟩ = some (.bool t2) ∧ W'.cell? ⟨gy, 1, none⟩ = some (.slice (some ⟨k2, 0, none⟩) n2 n2)) W') := ⟨Xx.out.c0, Xx.out.c1, Xy.out.c0, Xy.out.c1⟩
   obtain ⟨ca0, ca1, ca2, fa0, fa1, fa2⟩ := Xa.out;have hnea : ga < W'.heap.size := blt ca0;obtain ⟨cb0, cb1, cb2, fb0, fb1, fb2⟩ := Xb.out;have hneb : gb < W'.heap.size := blt cb0;obtain ⟨cr0, cr1, cr2, fr0, fr1, fr2⟩ := Xr.out;have hner : gr < W'.heap.size := blt cr0;obtain ⟨cx0, cx1, fx0, fx1⟩ := Xx.out;have hnex := Xx.out.lt;obtain ⟨cy0, cy1, fy0, fy1⟩ := Xy.out;have hney := Xy.out.lt;obtain ⟨cq0, cq1, fq0, fq1⟩ := Xq.out;have hneq := Xq.out.lt
   refine wpJ_on 6 rfl fun KJ hK => ?_
   go_simp
   have Ya : Hid (B3q ((W'.setCell ⟨gq, 0, none⟩ (.bool t4)).setCell ⟨gq, 1, none⟩ (.slice (some ⟨k4, 0, none⟩) n4 n4)) ga (.bool s) (.slice p m c) (.int .i64 e)) := ⟨by go_simp, by go_simp, by go_simp, by go_simp, by go_simp, by go_simp⟩
   have Yb : Hid (B3q ((W'.setCell ⟨gq, 0, none⟩ (.bool t4)).setCell ⟨gq, 1, none⟩ (.slice (some ⟨k4, 0, none⟩) n4 n4)) gb (.bool t) (.slice q n d) (.int .i64 f)) := ⟨by go_simp, by go_simp, by go_simp, by go_simp, by go_simp, by go_simp⟩
   have Yr : Hid (B3q ((W'.setCell ⟨gq, 0, none⟩ (.bool t4)).setCell ⟨gq, 1, none⟩ (.slice (some ⟨k4, 0, none⟩) n4 n4)) gr (.bool false) (.slice none 0 0) (.int .i64 0)) := ⟨by go_simp, by go_simp, by go_simp, by go_simp, by go_simp, by go_simp⟩
   have Yx : Hid (Box ((W'.setCell ⟨gq, 0, none⟩ (.bool t4)).setCell ⟨gq, 1, none⟩ (.slice (some ⟨k4, 0, none⟩) n4 n4)) gx (.bool t1) (.slice (some ⟨k1, 0, none⟩) n1 n1)) := ⟨by go_simp, by go_simp, by go_simp, by go_simp⟩
   have Yy : Hid (Box ((W'.setCell ⟨gq, 0, none⟩ (.bool t4)).setCell ⟨gq, 1, none⟩ (.slice (some ⟨k4, 0, none⟩) n4 n4)) gy (.bool t2) (.slice (some ⟨k2, 0, none⟩) n2 n2)) := ⟨by go_simp, by go_simp, by go_simp, by go_simp⟩
   have Yq : Hid (Box ((W'.setCell ⟨gq, 0, none⟩ (.bool t4)).setCell ⟨gq, 1, none⟩ (.slice (some ⟨k4, 0, none⟩) n4 n4)) gq (.bool t4) (.slice (some ⟨k4, 0, none⟩) n4 n4)) := ⟨by go_simp, by go_simp, by go_simp, by go_simp⟩
   have HJ2 : Hid ((fun W' : World => W'.cell? ⟨gx, 0, none⟩ = some (.bool t1) ∧ W'.cell? ⟨gx, 1, none⟩ = some (.slice (some ⟨k1, 0, none⟩) n1 n1) ∧ W'.cell? ⟨gy, 0, none⟩ = some (.bool t2) ∧ W'.cell? ⟨gy, 1, none⟩ = some (.slice (some ⟨k2, 0, none⟩) n2 n2)) ((W'.setCell ⟨gq, 0, none⟩ (.bool t4)).setCell ⟨gq, 1, none⟩ (.slice (some ⟨k4, 0, none⟩) n4 n4))) := ⟨Yx.out.c0, Yx.out.c1, Yy.out.c0, Yy.out.c1⟩
   have Hy4 : Hid (ZR ((W'.setCell ⟨gq, 0, none⟩ (.bool t4)).setCell ⟨gq, 1, none⟩ (.slice (some ⟨k4, 0, none⟩) n4 n4)) t4 (some ⟨k4, 0, none⟩) n4 (qI false XX y)) := zr_set9 (zr_set9 Hz4.out _ _ _ Ho4q.out) _ _ _ Ho4q.out;have Hy1 : Hid (ZR ((W'.setCell ⟨gq, 0, none⟩ (.bool t4)).setCell ⟨gq, 1, none⟩ (.slice (some ⟨k4, 0, none⟩) n4 n4)) t1 (some ⟨k1, 0, none⟩) n1 x) := zr_set9 (zr_set9 Hkz1.out _ _ _ Hoz1.out) _ _ _ Hoz1.out;have Hy2 : Hid (ZR ((W'.setCell ⟨gq, 0, none⟩ (.bool t4)).setCell ⟨gq, 1, none⟩ (.slice (some ⟨k4, 0, none⟩) n4 n4)) t2 (some ⟨k2, 0, none⟩) n2 y) := zr_set9 (zr_set9 Hkz2.out _ _ _ Hoz2.out) _ _ _ Hoz2.out;have hbw2 : Below w.heap.size w ((W'.setCell ⟨gq, 0, none⟩ (.bool t4)).setCell ⟨gq, 1, none⟩ (.slice (some ⟨k4, 0, none⟩) n4 n4)) := bSet (bSet hbw _ _ _ Hhq.out) _ _ _ Hhq.out
   refine hK _ _ HJ2.out ?_
   clear hK HJ;have HJ := HJ2;clear HJ2 ca0 ca1 ca2 fa0 fa1 fa2 hnea cb0 cb1 cb2 fb0 fb1 fb2 hneb cr0 cr1 cr2 fr0 fr1 fr2 hner cx0 cx1 fx0 fx1 hnex cy0 cy1 fy0 fy1 hney cq0 cq1 fq0 fq1 hneq Hkz1 Hkz2 Hz4 hbw Xa Xb Xr Xx Xy Xq;have Xa := Ya;have Xb := Yb;have Xr := Yr;have Xx := Yx;have Xy := Yy;have Xq := Yq;have Z1 := Hy1;have Z2 := Hy2;have Z4 := Hy4;have hbw := hbw2;have HGq := Hhq;clear Hy1 Hy2 Hy4 hbw2 Ya Yb Yr Yx Yy Yq;generalize ((W'.setCell ⟨gq, 0, none⟩ (.bool t4)).setCell ⟨gq, 1, none⟩ (.slice (some ⟨k4, 0, none⟩) n4 n4)) = V6 at *
   refine wpJ_done (by kernel_rfl) ?_ _
   clear HJ;obtain ⟨ca0, ca1, ca2, fa0, fa1, fa2⟩ := Xa.out;have hnea : ga < V6.heap.size := blt ca0;obtain ⟨cb0, cb1, cb2, fb0, fb1, fb2⟩ := Xb.out;have hneb : gb < V6.heap.size := blt cb0;obtain ⟨cr0, cr1, cr2, fr0, fr1, fr2⟩ := Xr.out;have hner : gr < V6.heap.size := blt cr0;obtain ⟨cx0, cx1, fx0, fx1⟩ := Xx.out;have hnex := Xx.out.lt;obtain ⟨cy0, cy1, fy0, fy1⟩ := Xy.out;have hney := Xy.out.lt;obtain ⟨cq0, cq1, fq0, fq1⟩ := Xq.out;have hneq := Xq.out.lt;go_wp2_with fail;clear ca0 ca1 ca2 fa0 fa1 fa2 hnea cb0 cb1 cb2 fb0 fb1 fb2 hneb cr0 cr1 cr2 fr0 fr1 fr2 hner cx0 cx1 fx0 fx1 hnex cy0 cy1 fy0 fy1 hney cq0 cq1 fq0 fq1 hneq Z4;obtain ⟨W8, hW8⟩ := exq V6.drew
   have hbd : Below V6.heap.size V6 W8 := by rw [hW8]; exact bDrew1 (Below.refl _ _)
   replace Xa := B3q.b Xa hbd;replace Xb := B3q.b Xb hbd;replace Xr := B3q.b Xr hbd;replace Xx := Box.b Xx hbd;replace Xy := Box.b Xy hbd;replace Xq := Box.b Xq hbd;replace Z1 := ZR.b Z1 hbd;replace Z2 := ZR.b Z2 hbd;replace hbw := bon hbw hbd;clear hbd
   have HJ : Hid ((fun W' : World => W'.cell? ⟨gx, 0, none⟩ = some (.bool t1) ∧ W'.cell? ⟨gx, 1, none⟩ = some (.slice (some ⟨k1, 0, none⟩) n1 n1) ∧ W'.cell? ⟨gy, 0, none⟩ = some (.bool t2) ∧ W'.cell? ⟨gy, 1, none⟩ = some (.slice (some ⟨k2, 0, none⟩) n2 n2)) W8) := ⟨Xx.out.c0, Xx.out.c1, Xy.out.c0, Xy.out.c1⟩
   refine wp_region_J (fun W' => W'.cell? ⟨gx, 0, none⟩ = some (.bool t1) ∧ W'.cell? ⟨gx, 1, none⟩ = some (.slice (some ⟨k1, 0, none⟩) n1 n1) ∧ W'.cell? ⟨gy, 0, none⟩ = some (.bool t2) ∧ W'.cell? ⟨gy, 1, none⟩ = some (.slice (some ⟨k2, 0, none⟩) n2 n2)) (by kernel_rfl) ?_
   rw [← hW8];clear hW8
   refine wpJ_tq 0 rfl HJ.out ?_
   refine wpJ_tq 1 rfl HJ.out ?_
   refine wpJ_tq 3 rfl HJ.out ?_
   refine wpJ_on 2 rfl fun KJ hK => ?_
   go_simp
   refine (rshl04 t1 Z1.out Hl1.out S (.inl (by have := HB.out.2.2.2; omega))).mono ?_
   rintro e9 v11 ⟨v, rfl, ⟨t5, k5, n5, rfl, _, hz, _⟩, hb11⟩;rw [pow_cast, ← HXX.out] at hz;replace Xa := B3q.b Xa hb11;replace Xb := B3q.b Xb hb11;replace Xr := B3q.b Xr hb11;replace Xx := Box.b Xx hb11;replace Xy := Box.b Xy hb11;replace Xq := Box.b Xq hb11;replace Z1 := ZR.b Z1 hb11;replace Z2 := ZR.b Z2 hb11;replace hbw := bon hbw hb11;clear hb11;have Z5 := hdQ hz;have HL5 : Hid (n5 ≤ 16384) := zr_lim8 Z5.out HXL.out;clear hz
   refine hK _ _ ⟨Xx.out.c0, Xx.out.c1, Xy.out.c0, Xy.out.c1⟩ ?_
   clear hK
   refine wpJ_on 4 rfl fun KJ hK => ?_
   go_simp;have HLQ : Hid (gq < v11.heap.size) := Xq.out.lt
   refine (rceildiv04 t5 t2 Z5.out Z2.out HL5.out Hl2.out HM.out.2.2.1).mono ?_
   rintro e9 v12 ⟨v, rfl, ⟨t6, k6, n6, rfl, hg, hz, _⟩, hb12⟩;have hz : ZR v12 t6 (some ⟨k6, 0, none⟩) n6 (qI true XX y) := hz;have HNQ : Hid (k6 ≠ gq) := Nat.ne_of_gt (Nat.lt_of_lt_of_le HLQ.out hg);replace Xa := B3q.b Xa hb12;replace Xb := B3q.b Xb hb12;replace Xr := B3q.b Xr hb12;replace Xx := Box.b Xx hb12;replace Xy := Box.b Xy hb12;replace Xq := Box.b Xq hb12;replace Z1 := ZR.b Z1 hb12;replace Z2 := ZR.b Z2 hb12;replace Z5 := ZR.b Z5 hb12;replace hbw := bon hbw hb12;clear hb12;have Z7 := hdQ hz;clear hz hg
   refine hK _ _ ⟨Xx.out.c0, Xx.out.c1, Xy.out.c0, Xy.out.c1⟩ ?_
   clear hK;obtain ⟨ca0, ca1, ca2, fa0, fa1, fa2⟩ := Xa.out;have hnea : ga < v12.heap.size := blt ca0;obtain ⟨cb0, cb1, cb2, fb0, fb1, fb2⟩ := Xb.out;have hneb : gb < v12.heap.size := blt cb0;obtain ⟨cr0, cr1, cr2, fr0, fr1, fr2⟩ := Xr.out;have hner : gr < v12.heap.size := blt cr0;obtain ⟨cx0, cx1, fx0, fx1⟩ := Xx.out;have hnex := Xx.out.lt;obtain ⟨cy0, cy1, fy0, fy1⟩ := Xy.out;have hney := Xy.out.lt;obtain ⟨cq0, cq1, fq0, fq1⟩ := Xq.out;have hneq := Xq.out.lt
   refine wpJ_on 5 rfl fun KJ hK => ?_
   go_simp
   have Ya : Hid (B3q ((v12.setCell ⟨gq, 0, none⟩ (.bool t6)).setCell ⟨gq, 1, none⟩ (.slice (some ⟨k6, 0, none⟩) n6 n6)) ga (.bool s) (.slice p m c) (.int .i64 e)) := ⟨by go_simp, by go_simp, by go_simp, by go_simp, by go_simp, by go_simp⟩
   have Yb : Hid (B3q ((v12.setCell ⟨gq, 0, none⟩ (.bool t6)).setCell ⟨gq, 1, none⟩ (.slice (some ⟨k6, 0, none⟩) n6 n6)) gb (.bool t) (.slice q n d) (.int .i64 f)) := ⟨by go_simp, by go_simp, by go_simp, by go_simp, by go_simp, by go_simp⟩
   have Yr : Hid (B3q ((v12.setCell ⟨gq, 0, none⟩ (.bool t6)).setCell ⟨gq, 1, none⟩ (.slice (some ⟨k6, 0, none⟩) n6 n6)) gr (.bool false) (.slice none 0 0) (.int .i64 0)) := ⟨by go_simp, by go_simp, by go_simp, by go_simp, by go_simp, by go_simp⟩
   have Yx : Hid (Box ((v12.setCell ⟨gq, 0, none⟩ (.bool t6)).setCell ⟨gq, 1, none⟩ (.slice (some ⟨k6, 0, none⟩) n6 n6)) gx (.bool t1) (.slice (some ⟨k1, 0, none⟩) n1 n1)) := ⟨by go_simp, by go_simp, by go_simp, by go_simp⟩
   have Yy : Hid (Box ((v12.setCell ⟨gq, 0, none⟩ (.bool t6)).setCell ⟨gq, 1, none⟩ (.slice (some ⟨k6, 0, none⟩) n6 n6)) gy (.bool t2) (.slice (some ⟨k2, 0, none⟩) n2 n2)) := ⟨by go_simp, by go_simp, by go_simp, by go_simp⟩
   have Yq : Hid (Box ((v12.setCell ⟨gq, 0, none⟩ (.bool t6)).setCell ⟨gq, 1, none⟩ (.slice (some ⟨k6, 0, none⟩) n6 n6)) gq (.bool t6) (.slice (some ⟨k6, 0, none⟩) n6 n6)) := ⟨by go_simp, by go_simp, by go_simp, by go_simp⟩
   have HJ2 : Hid ((fun W' : World => W'.cell? ⟨gx, 0, none⟩ = some (.bool t1) ∧ W'.cell? ⟨gx, 1, none⟩ = some (.slice (some ⟨k1, 0, none⟩) n1 n1) ∧ W'.cell? ⟨gy, 0, none⟩ = some (.bool t2) ∧ W'.cell? ⟨gy, 1, none⟩ = some (.slice (some ⟨k2, 0, none⟩) n2 n2)) ((v12.setCell ⟨gq, 0, none⟩ (.bool t6)).setCell ⟨gq, 1, none⟩ (.slice (some ⟨k6, 0, none⟩) n6 n6))) := ⟨Yx.out.c0, Yx.out.c1, Yy.out.c0, Yy.out.c1⟩
   have Hy7 : Hid (ZR ((v12.setCell ⟨gq, 0, none⟩ (.bool t6)).setCell ⟨gq, 1, none⟩ (.slice (some ⟨k6, 0, none⟩) n6 n6)) t6 (some ⟨k6, 0, none⟩) n6 (qI true XX y)) := zr_set9 (zr_set9 Z7.out _ _ _ (.inr HNQ.out)) _ _ _ (.inr HNQ.out);have hbw2 : Below w.heap.size w ((v12.setCell ⟨gq, 0, none⟩ (.bool t6)).setCell ⟨gq, 1, none⟩ (.slice (some ⟨k6, 0, none⟩) n6 n6)) := bSet (bSet hbw _ _ _ HGq.out) _ _ _ HGq.out
   refine hK _ _ HJ2.out ?_
   clear hK HJ;have HJ := HJ2;clear HJ2 ca0 ca1 ca2 fa0 fa1 fa2 hnea cb0 cb1 cb2 fb0 fb1 fb2 hneb cr0 cr1 cr2 fr0 fr1 fr2 hner cx0 cx1 fx0 fx1 hnex cy0 cy1 fy0 fy1 hney cq0 cq1 fq0 fq1 hneq Z1 Z2 Z5 Z7 hbw Xa Xb Xr Xx Xy Xq;have Xa := Ya;have Xb := Yb;have Xr := Yr;have Xx := Yx;have Xy := Yy;have Xq := Yq;have Z6 := Hy7;have hbw := hbw2;clear Hy7 hbw2 Ya Yb Yr Yx Yy Yq;generalize ((v12.setCell ⟨gq, 0, none⟩ (.bool t6)).setCell ⟨gq, 1, none⟩ (.slice (some ⟨k6, 0, none⟩) n6 n6)) = V13 at *
   refine wpJ_done (by kernel_rfl) ?_ _
   clear HJ;obtain ⟨ca0, ca1, ca2, fa0, fa1, fa2⟩ := Xa.out;have hnea : ga < V13.heap.size := blt ca0;obtain ⟨cb0, cb1, cb2, fb0, fb1, fb2⟩ := Xb.out;have hneb : gb < V13.heap.size := blt cb0;obtain ⟨cr0, cr1, cr2, fr0, fr1, fr2⟩ := Xr.out;have hner : gr < V13.heap.size := blt cr0;obtain ⟨cx0, cx1, fx0, fx1⟩ := Xx.out;have hnex := Xx.out.lt;obtain ⟨cy0, cy1, fy0, fy1⟩ := Xy.out;have hney := Xy.out.lt;obtain ⟨cq0, cq1, fq0, fq1⟩ := Xq.out;have hneq := Xq.out.lt;go_wp2_with fail;clear ca0 ca1 ca2 fa0 fa1 fa2 hnea cb0 cb1 cb2 fb0 fb1 fb2 hneb cr0 cr1 cr2 fr0 fr1 fr2 hner cx0 cx1 fx0 fx1 hnex cy0 cy1 fy0 fy1 hney cq0 cq1 fq0 fq1 hneq;have HEF : Hid ((-1048576 ≤ e ∧ e ≤ 1048576) ∧ -1048576 ≤ f ∧ f ≤ 1048576) := ⟨dn_exp7 H.out, dn_exp7 K.out⟩;rw [qsd HEF.out.1 HEF.out.2 HB.out.2.2.2];have HQL : Hid ((qI true XX y).natAbs < LIM) := Nat.lt_of_le_of_lt (qI_le _ _ HM.out.2.2.1) HXL.out
   have HQM : Hid (∀ a b c, MkR (rd true (qI true XX y) (2 ^ (bitsN (qI true XX y).natAbs - P))) (e - f - (S : Int) + ((bitsN (qI true XX y).natAbs - P : Nat) : Int)) a b c → QuoM true x e y f P a b c) := by intro a b c h; unfold QuoM QV; rw [← HB.out.2.2.1, ← HXX.out]; exact h
   have HL6 : Hid (n6 ≤ 16384) := zr_lim8 Z6.out HQL.out;have HRL : Hid (gr < V13.heap.size ∧ w.heap.size ≤ V13.heap.size) := ⟨Xr.out.lt, hbw.size⟩
   refine (rcut_u Z6.out HL6.out HQL.out (qse HEF.out.1 HEF.out.2 HB.out.2.2.2) HM.out.2.2.2.2 rfl).mono ?_
   rintro e2 v6 ⟨zo, eo, er, ⟨s6, p6, m6, c6, rfl, hq6⟩, hr6, hb6⟩;replace Xa := B3q.b Xa hb6;replace Xb := B3q.b Xb hb6;replace Xr := B3q.b Xr hb6;replace Xx := Box.b Xx hb6;replace Xy := Box.b Xy hb6;replace Xq := Box.b Xq hb6;replace Z6 := ZR.b Z6 hb6;replace hbw := bon hbw hb6;clear hb6;have Q6 := hdQ hq6;have R6 := hdQ hr6;clear hq6 hr6;obtain ⟨cr0, cr1, cr2, fr0, fr1, fr2⟩ := Xr.out;have hner : gr < v6.heap.size := blt cr0;go_wp2_with fail
   refine bodyPost_ret (v := .tuple #[DV s6 p6 m6 c6 eo, .int .i64 er]) (by rw [results_cell_tmp rfl]; go_simp) rfl ⟨zo, eo, er, ⟨s6, p6, m6, c6, rfl, Q6.out.set3 HRL.out.1 HRL.out.2 _ _ _⟩, HQM.out _ _ _ R6.out, ?_⟩
   exact bSet (bSet (bSet hbw _ _ _ HGr.out) _ _ _ HGr.out) _ _ _ HGr.out
  have N2_4 : ∀ (t3 : Bool) (k3 : Nat) (n3 : Nat) (t4 : Bool) (k4 : Nat) (n4 : Nat) (W' : World), (B3q W' ga (.bool s) (.slice p m c) (.int .i64 e)) ∧ (B3q W' gb (.bool t) (.slice q n d) (.int .i64 f)) ∧ (B3q W' gr (.bool false) (.slice none 0 0) (.int .i64 0)) ∧ (Box W' gx (.bool t1) (.slice (some ⟨k1, 0, none⟩) n1 n1)) ∧ (Box W' gy (.bool t2) (.slice (some ⟨k2, 0, none⟩) n2 n2)) ∧ (Below w.heap.size w W') ∧ (ZR W' t1 (some ⟨k1, 0, none⟩) n1 x) ∧ (ZR W' t2 (some ⟨k2, 0, none⟩) n2 y) ∧ (ZR W' t3 (some ⟨k3, 0, none⟩) n3 XX) ∧ (n3 ≤ 16384) ∧ (ZR W' t4 (some ⟨k4, 0, none⟩) n4 (qI false XX y)) → WP 2 ((L0.setIfInBounds 2 true).setIfInBounds 4 true) ((a0.put (some 65) (.agg #[.bool t3, .slice (some ⟨k3, 0, none⟩) n3 n3])).put (some 67) (.agg #[.bool t4, .slice (some ⟨k4, 0, none⟩) n4 n4])) W' := by
   rintro t3 k3 n3 t4 k4 n4 W' ⟨xa, xb, xr, xx, xy, hbw, kz1, kz2, z3, l3, z4⟩;subst hWP hL ha;have Hxa := Hid.mk5 xa;have Hxb := Hid.mk5 xb;have Hxr := Hid.mk5 xr;have Hxx := Hid.mk5 xx;have Hxy := Hid.mk5 xy;have Hkz1 := Hid.mk5 kz1;have Hkz2 := Hid.mk5 kz2;have Hz3 := Hid.mk5 z3;have Hl3 := Hid.mk5 l3;have Hz4 := Hid.mk5 z4;clear xa xb xr xx xy kz1 kz2 z3 l3 z4;go_simp
   refine wpJ_on 5 rfl fun KJ hK => ?_
   go_simp;have hb := below1 W' (.cells #[.bool false, .slice none 0 0] 56)
   refine hK _ _ ⟨(Hxx.out.below hb).c0, (Hxx.out.below hb).c1, (Hxy.out.below hb).c0, (Hxy.out.below hb).c1⟩ ?_
   exact wpJ_same5 (by kernel_rfl) (by kernel_rfl) (N2_4_5 t3 k3 n3 t4 k4 n4 W'.heap.size _ ⟨(Hxa.out.below hb), (Hxb.out.below hb), (Hxr.out.below hb), (Hxx.out.below hb), (Hxy.out.below hb), (Below.on hbw hb), (Hkz1.out.below hb), (Hkz2.out.below hb), (Hz3.out.below hb), Hl3.out, (Hz4.out.below hb), (Box.new W' _ _ _), hbw.size, ⟨Nat.ne_of_lt Hxa.out.lt, Nat.ne_of_lt Hxb.out.lt, Nat.ne_of_lt Hxr.out.lt, Nat.ne_of_lt Hxx.out.lt, Nat.ne_of_lt Hxy.out.lt⟩, ((zr_blk9 Hz4.out).imp id Nat.ne_of_lt), ((zr_blk9 Hkz1.out).imp id Nat.ne_of_lt), ((zr_blk9 Hkz2.out).imp id Nat.ne_of_lt)⟩)
  have N2_5 : ∀ (t3 : Bool) (k3 : Nat) (n3 : Nat) (gq : Nat) (W' : World), (B3q W' ga (.bool s) (.slice p m c) (.int .i64 e)) ∧ (B3q W' gb (.bool t) (.slice q n d) (.int .i64 f)) ∧ (B3q W' gr (.bool false) (.slice none 0 0) (.int .i64 0)) ∧ (Box W' gx (.bool t1) (.slice (some ⟨k1, 0, none⟩) n1 n1)) ∧ (Box W' gy (.bool t2) (.slice (some ⟨k2, 0, none⟩) n2 n2)) ∧ (Below w.heap.size w W') ∧ (ZR W' t1 (some ⟨k1, 0, none⟩) n1 x) ∧ (ZR W' t2 (some ⟨k2, 0, none⟩) n2 y) ∧ (ZR W' t3 (some ⟨k3, 0, none⟩) n3 XX) ∧ (n3 ≤ 16384) ∧ (Box W' gq (.bool false) (.slice none 0 0)) ∧ (w.heap.size ≤ gq) ∧ (ga ≠ gq ∧ gb ≠ gq ∧ gr ≠ gq ∧ gx ≠ gq ∧ gy ≠ gq) ∧ (n1 = 0 ∨ k1 ≠ gq) ∧ (n2 = 0 ∨ k2 ≠ gq) → WP 2 ((L0.setIfInBounds 2 true).setIfInBounds 5 true) ((a0.put (some 65) (.agg #[.bool t3, .slice (some ⟨k3, 0, none⟩) n3 n3])).put (some 13) (.pointer (some ⟨gq, 0, none⟩))) W' := by
   rintro t3 k3 n3 gq W' ⟨xa, xb, xr, xx, xy, hbw, kz1, kz2, z3, l3, xq, hq, nq, oz1, oz2⟩;subst hWP hL ha;have Hxa := Hid.mk5 xa;have Hxb := Hid.mk5 xb;have Hxr := Hid.mk5 xr;have Hxx := Hid.mk5 xx;have Hxy := Hid.mk5 xy;have Hkz1 := Hid.mk5 kz1;have Hkz2 := Hid.mk5 kz2;have Hz3 := Hid.mk5 z3;have Hl3 := Hid.mk5 l3;have Hxq := Hid.mk5 xq;have Hhq := Hid.mk5 hq;have Hnq := Hid.mk5 nq;have Hoz1 := Hid.mk5 oz1;have Hoz2 := Hid.mk5 oz2;clear xa xb xr xx xy kz1 kz2 z3 l3 xq hq nq oz1 oz2;go_simp
   refine wpJ_on 4 rfl fun KJ hK => ?_
   go_simp
   refine (rfloordiv04 t3 t2 Hz3.out Hkz2.out Hl3.out Hl2.out HM.out.2.2.1).mono ?_
   rintro e9 W2 ⟨v, rfl, ⟨t4, k4, n4, rfl, hg, hz, _⟩, hb⟩;have hz : ZR W2 t4 (some ⟨k4, 0, none⟩) n4 (qI false XX y) := hz
   refine hK _ _ ⟨(Hxx.out.below hb).c0, (Hxx.out.below hb).c1, (Hxy.out.below hb).c0, (Hxy.out.below hb).c1⟩ ?_
   exact wpJ_same5 (by kernel_rfl) (by kernel_rfl) (N2_4_5 t3 k3 n3 t4 k4 n4 gq W2 ⟨(Hxa.out.below hb), (Hxb.out.below hb), (Hxr.out.below hb), (Hxx.out.below hb), (Hxy.out.below hb), (Below.on hbw hb), (Hkz1.out.below hb), (Hkz2.out.below hb), (Hz3.out.below hb), Hl3.out, hz, (Hxq.out.below hb), Hhq.out, Hnq.out, (.inr (Nat.ne_of_gt (Nat.lt_of_lt_of_le Hxq.out.lt hg))), Hoz1.out, Hoz2.out⟩)
  have N2 : ∀ (t3 : Bool) (k3 : Nat) (n3 : Nat) (W' : World), (B3q W' ga (.bool s) (.slice p m c) (.int .i64 e)) ∧ (B3q W' gb (.bool t) (.slice q n d) (.int .i64 f)) ∧ (B3q W' gr (.bool false) (.slice none 0 0) (.int .i64 0)) ∧ (Box W' gx (.bool t1) (.slice (some ⟨k1, 0, none⟩) n1 n1)) ∧ (Box W' gy (.bool t2) (.slice (some ⟨k2, 0, none⟩) n2 n2)) ∧ (Below w.heap.size w W') ∧ (ZR W' t1 (some ⟨k1, 0, none⟩) n1 x) ∧ (ZR W' t2 (some ⟨k2, 0, none⟩) n2 y) ∧ (ZR W' t3 (some ⟨k3, 0, none⟩) n3 XX) ∧ (n3 ≤ 16384) → WP 3 (L0.setIfInBounds 2 true) (a0.put (some 65) (.agg #[.bool t3, .slice (some ⟨k3, 0, none⟩) n3 n3])) W' := by
   rintro t3 k3 n3 W' ⟨xa, xb, xr, xx, xy, hbw, kz1, kz2, z3, l3⟩;subst hWP hL ha;have Hxa := Hid.mk5 xa;have Hxb := Hid.mk5 xb;have Hxr := Hid.mk5 xr;have Hxx := Hid.mk5 xx;have Hxy := Hid.mk5 xy;have Hkz1 := Hid.mk5 kz1;have Hkz2 := Hid.mk5 kz2;have Hz3 := Hid.mk5 z3;have Hl3 := Hid.mk5 l3;clear xa xb xr xx xy kz1 kz2 z3 l3;go_simp
   refine wpJ_two (i := 4) (k := 5) (by kernel_rfl) rfl rfl (by kernel_rfl) (by kernel_rfl) (fun KJ hK => ?_) (fun KJ hK => ?_)
   ·go_simp
    refine (rfloordiv04 t3 t2 Hz3.out Hkz2.out Hl3.out Hl2.out HM.out.2.2.1).mono ?_
    rintro e9 W2 ⟨v, rfl, ⟨t4, k4, n4, rfl, hg, hz, _⟩, hb⟩;have hz : ZR W2 t4 (some ⟨k4, 0, none⟩) n4 (qI false XX y) := hz
    refine hK _ _ ⟨(Hxx.out.below hb).c0, (Hxx.out.below hb).c1, (Hxy.out.below hb).c0, (Hxy.out.below hb).c1⟩ ?_
    exact wpJ_same5 (by kernel_rfl) (by kernel_rfl) (N2_4 t3 k3 n3 t4 k4 n4 W2 ⟨(Hxa.out.below hb), (Hxb.out.below hb), (Hxr.out.below hb), (Hxx.out.below hb), (Hxy.out.below hb), (Below.on hbw hb), (Hkz1.out.below hb), (Hkz2.out.below hb), (Hz3.out.below hb), Hl3.out, hz⟩)
   ·go_simp
    have hb := below1 W' (.cells #[.bool false, .slice none 0 0] 56)
    refine hK _ _ ⟨(Hxx.out.below hb).c0, (Hxx.out.below hb).c1, (Hxy.out.below hb).c0, (Hxy.out.below hb).c1⟩ ?_
    exact wpJ_same5 (by kernel_rfl) (by kernel_rfl) (N2_5 t3 k3 n3 W'.heap.size _ ⟨(Hxa.out.below hb), (Hxb.out.below hb), (Hxr.out.below hb), (Hxx.out.below hb), (Hxy.out.below hb), (Below.on hbw hb), (Hkz1.out.below hb), (Hkz2.out.below hb), (Hz3.out.below hb), Hl3.out, (Box.new W' _ _ _), hbw.size, ⟨Nat.ne_of_lt Hxa.out.lt, Nat.ne_of_lt Hxb.out.lt, Nat.ne_of_lt Hxr.out.lt, Nat.ne_of_lt Hxx.out.lt, Nat.ne_of_lt Hxy.out.lt⟩, ((zr_blk9 Hkz1.out).imp id Nat.ne_of_lt), ((zr_blk9 Hkz2.out).imp id Nat.ne_of_lt)⟩)
  have N5 : ∀ (gq : Nat) (W' : World), (B3q W' ga (.bool s) (.slice p m c) (.int .i64 e)) ∧ (B3q W' gb (.bool t) (.slice q n d) (.int .i64 f)) ∧ (B3q W' gr (.bool false) (.slice none 0 0) (.int .i64 0)) ∧ (Box W' gx (.bool t1) (.slice (some ⟨k1, 0, none⟩) n1 n1)) ∧ (Box W' gy (.bool t2) (.slice (some ⟨k2, 0, none⟩) n2 n2)) ∧ (Below w.heap.size w W') ∧ (ZR W' t1 (some ⟨k1, 0, none⟩) n1 x) ∧ (ZR W' t2 (some ⟨k2, 0, none⟩) n2 y) ∧ (Box W' gq (.bool false) (.slice none 0 0)) ∧ (w.heap.size ≤ gq) ∧ (ga ≠ gq ∧ gb ≠ gq ∧ gr ≠ gq ∧ gx ≠ gq ∧ gy ≠ gq) ∧ (n1 = 0 ∨ k1 ≠ gq) ∧ (n2 = 0 ∨ k2 ≠ gq) → WP 3 (L0.setIfInBounds 5 true) (a0.put (some 13) (.pointer (some ⟨gq, 0, none⟩))) W' := by
   rintro gq W' ⟨xa, xb, xr, xx, xy, hbw, kz1, kz2, xq, hq, nq, oz1, oz2⟩;subst hWP hL ha;have Hxa := Hid.mk5 xa;have Hxb := Hid.mk5 xb;have Hxr := Hid.mk5 xr;have Hxx := Hid.mk5 xx;have Hxy := Hid.mk5 xy;have Hkz1 := Hid.mk5 kz1;have Hkz2 := Hid.mk5 kz2;have Hxq := Hid.mk5 xq;have Hhq := Hid.mk5 hq;have Hnq := Hid.mk5 nq;have Hoz1 := Hid.mk5 oz1;have Hoz2 := Hid.mk5 oz2;clear xa xb xr xx xy kz1 kz2 xq hq nq oz1 oz2;go_simp
   refine wpJ_on 2 rfl fun KJ hK => ?_
   go_simp
   refine (rshl04 t1 Hkz1.out Hl1.out S (.inl (by have := HB.out.2.2.2; omega))).mono ?_
   rintro e9 W2 ⟨v, rfl, ⟨t3, k3, n3, rfl, _, hz, _⟩, hb⟩;rw [pow_cast, ← HXX.out] at hz
   refine hK _ _ ⟨(Hxx.out.below hb).c0, (Hxx.out.below hb).c1, (Hxy.out.below hb).c0, (Hxy.out.below hb).c1⟩ ?_
   exact wpJ_same5 (by kernel_rfl) (by kernel_rfl) (N2_5 t3 k3 n3 gq W2 ⟨(Hxa.out.below hb), (Hxb.out.below hb), (Hxr.out.below hb), (Hxx.out.below hb), (Hxy.out.below hb), (Below.on hbw hb), (Hkz1.out.below hb), (Hkz2.out.below hb), hz, (zr_lim8 hz HXL.out), (Hxq.out.below hb), Hhq.out, Hnq.out, Hoz1.out, Hoz2.out⟩)
  have N_ : ∀ (W' : World), (B3q W' ga (.bool s) (.slice p m c) (.int .i64 e)) ∧ (B3q W' gb (.bool t) (.slice q n d) (.int .i64 f)) ∧ (B3q W' gr (.bool false) (.slice none 0 0) (.int .i64 0)) ∧ (Box W' gx (.bool t1) (.slice (some ⟨k1, 0, none⟩) n1 n1)) ∧ (Box W' gy (.bool t2) (.slice (some ⟨k2, 0, none⟩) n2 n2)) ∧ (Below w.heap.size w W') ∧ (ZR W' t1 (some ⟨k1, 0, none⟩) n1 x) ∧ (ZR W' t2 (some ⟨k2, 0, none⟩) n2 y) → WP 4 L0 a0 W' := by
   rintro  W' ⟨xa, xb, xr, xx, xy, hbw, kz1, kz2⟩;subst hWP hL ha;have Hxa := Hid.mk5 xa;have Hxb := Hid.mk5 xb;have Hxr := Hid.mk5 xr;have Hxx := Hid.mk5 xx;have Hxy := Hid.mk5 xy;have Hkz1 := Hid.mk5 kz1;have Hkz2 := Hid.mk5 kz2;clear xa xb xr xx xy kz1 kz2;go_simp
   refine wpJ_two (i := 2) (k := 5) (by kernel_rfl) rfl rfl (by kernel_rfl) (by kernel_rfl) (fun KJ hK => ?_) (fun KJ hK => ?_)
   ·go_simp
    refine (rshl04 t1 Hkz1.out Hl1.out S (.inl (by have := HB.out.2.2.2; omega))).mono ?_
    rintro e9 W2 ⟨v, rfl, ⟨t3, k3, n3, rfl, _, hz, _⟩, hb⟩;rw [pow_cast, ← HXX.out] at hz
    refine hK _ _ ⟨(Hxx.out.below hb).c0, (Hxx.out.below hb).c1, (Hxy.out.below hb).c0, (Hxy.out.below hb).c1⟩ ?_
    exact wpJ_same5 (by kernel_rfl) (by kernel_rfl) (N2 t3 k3 n3 W2 ⟨(Hxa.out.below hb), (Hxb.out.below hb), (Hxr.out.below hb), (Hxx.out.below hb), (Hxy.out.below hb), (Below.on hbw hb), (Hkz1.out.below hb), (Hkz2.out.below hb), hz, (zr_lim8 hz HXL.out)⟩)
   ·go_simp
    have hb := below1 W' (.cells #[.bool false, .slice none 0 0] 56)
    refine hK _ _ ⟨(Hxx.out.below hb).c0, (Hxx.out.below hb).c1, (Hxy.out.below hb).c0, (Hxy.out.below hb).c1⟩ ?_
    exact wpJ_same5 (by kernel_rfl) (by kernel_rfl) (N5 W'.heap.size _ ⟨(Hxa.out.below hb), (Hxb.out.below hb), (Hxr.out.below hb), (Hxx.out.below hb), (Hxy.out.below hb), (Below.on hbw hb), (Hkz1.out.below hb), (Hkz2.out.below hb), (Box.new W' _ _ _), hbw.size, ⟨Nat.ne_of_lt Hxa.out.lt, Nat.ne_of_lt Hxb.out.lt, Nat.ne_of_lt Hxr.out.lt, Nat.ne_of_lt Hxx.out.lt, Nat.ne_of_lt Hxy.out.lt⟩, ((zr_blk9 Hkz1.out).imp id Nat.ne_of_lt), ((zr_blk9 Hkz2.out).imp id Nat.ne_of_lt)⟩)
  exact N_ W7 ⟨Xa.out, Xb.out, Xr.out, Xx.out, Xy.out, hbw, Z1.out, Z2.out⟩
 have N2_5_6 : ∀ (t1 : Bool) (k1 : Nat) (n1 : Nat) (t2 : Bool) (k2 : Nat) (n2 : Nat) (gx : Nat) (W' : World), (B3q W' ga (.bool s) (.slice p m c) (.int .i64 e)) ∧ (B3q W' gb (.bool t) (.slice q n d) (.int .i64 f)) ∧ (B3q W' gr (.bool false) (.slice none 0 0) (.int .i64 0)) ∧ (Below w.heap.size w W') ∧ (ZR W' t1 (some ⟨k1, 0, none⟩) n1 x) ∧ (n1 ≤ 16384) ∧ (ZR W' t2 (some ⟨k2, 0, none⟩) n2 y) ∧ (n2 ≤ 16384) ∧ (Box W' gx (.bool false) (.slice none 0 0)) ∧ (w.heap.size ≤ gx) ∧ (ga ≠ gx ∧ gb ≠ gx ∧ gr ≠ gx) ∧ (n1 = 0 ∨ k1 ≠ gx) ∧ (n2 = 0 ∨ k2 ≠ gx) → WP 3 (((L0.setIfInBounds 2 true).setIfInBounds 5 true).setIfInBounds 6 true) (((a0.put (some 48) (.agg #[.bool t1, .slice (some ⟨k1, 0, none⟩) n1 n1])).put (some 51) (.agg #[.bool t2, .slice (some ⟨k2, 0, none⟩) n2 n2])).put (some 10) (.pointer (some ⟨gx, 0, none⟩))) W' := by
  rintro t1 k1 n1 t2 k2 n2 gx W' ⟨xa, xb, xr, hbw, z1, l1, z2, l2, xgx, hgx, ngx, o1gx, o2gx⟩;subst hWP hL ha;have Hxa := Hid.mk5 xa;have Hxb := Hid.mk5 xb;have Hxr := Hid.mk5 xr;have Hz1 := Hid.mk5 z1;have Hl1 := Hid.mk5 l1;have Hz2 := Hid.mk5 z2;have Hl2 := Hid.mk5 l2;have Hxgx := Hid.mk5 xgx;have Hhgx := Hid.mk5 hgx;have Hngx := Hid.mk5 ngx;have Ho1gx := Hid.mk5 o1gx;have Ho2gx := Hid.mk5 o2gx;clear xa xb xr z1 l1 z2 l2 xgx hgx ngx o1gx o2gx;go_simp
  refine wpJ_on 7 rfl fun KJ hK => ?_
  go_simp;have hb := below1 W' (.cells #[.bool false, .slice none 0 0] 56)
  refine hK _ _ ⟨(Hxa.out.below hb).c0, (Hxa.out.below hb).c1, (Hxa.out.below hb).c2, (Hxb.out.below hb).c0, (Hxb.out.below hb).c1, (Hxb.out.below hb).c2⟩ ?_
  exact wpJ_same5 (by kernel_rfl) (by kernel_rfl) (N2_5_6_7 t1 k1 n1 t2 k2 n2 gx W'.heap.size _ ⟨(Hxa.out.below hb), (Hxb.out.below hb), (Hxr.out.below hb), (Below.on hbw hb), (Hz1.out.below hb), Hl1.out, (Hz2.out.below hb), Hl2.out, (Hxgx.out.below hb), Hhgx.out, Hngx.out, (Box.new W' _ _ _), hbw.size, ⟨Nat.ne_of_lt Hxa.out.lt, Nat.ne_of_lt Hxb.out.lt, Nat.ne_of_lt Hxr.out.lt⟩, Ho1gx.out, ((zr_blk9 Hz1.out).imp id Nat.ne_of_lt), Ho2gx.out, ((zr_blk9 Hz2.out).imp id Nat.ne_of_lt), (Nat.ne_of_lt Hxgx.out.lt)⟩)
 have N2_5_7 : ∀ (t1 : Bool) (k1 : Nat) (n1 : Nat) (t2 : Bool) (k2 : Nat) (n2 : Nat) (gy : Nat) (W' : World), (B3q W' ga (.bool s) (.slice p m c) (.int .i64 e)) ∧ (B3q W' gb (.bool t) (.slice q n d) (.int .i64 f)) ∧ (B3q W' gr (.bool false) (.slice none 0 0) (.int .i64 0)) ∧ (Below w.heap.size w W') ∧ (ZR W' t1 (some ⟨k1, 0, none⟩) n1 x) ∧ (n1 ≤ 16384) ∧ (ZR W' t2 (some ⟨k2, 0, none⟩) n2 y) ∧ (n2 ≤ 16384) ∧ (Box W' gy (.bool false) (.slice none 0 0)) ∧ (w.heap.size ≤ gy) ∧ (ga ≠ gy ∧ gb ≠ gy ∧ gr ≠ gy) ∧ (n1 = 0 ∨ k1 ≠ gy) ∧ (n2 = 0 ∨ k2 ≠ gy) → WP 3 (((L0.setIfInBounds 2 true).setIfInBounds 5 true).setIfInBounds 7 true) (((a0.put (some 48) (.agg #[.bool t1, .slice (some ⟨k1, 0, none⟩) n1 n1])).put (some 51) (.agg #[.bool t2, .slice (some ⟨k2, 0, none⟩) n2 n2])).put (some 11) (.pointer (some ⟨gy, 0, none⟩))) W' := by
  rintro t1 k1 n1 t2 k2 n2 gy W' ⟨xa, xb, xr, hbw, z1, l1, z2, l2, xgy, hgy, ngy, o1gy, o2gy⟩;subst hWP hL ha;have Hxa := Hid.mk5 xa;have Hxb := Hid.mk5 xb;have Hxr := Hid.mk5 xr;have Hz1 := Hid.mk5 z1;have Hl1 := Hid.mk5 l1;have Hz2 := Hid.mk5 z2;have Hl2 := Hid.mk5 l2;have Hxgy := Hid.mk5 xgy;have Hhgy := Hid.mk5 hgy;have Hngy := Hid.mk5 ngy;have Ho1gy := Hid.mk5 o1gy;have Ho2gy := Hid.mk5 o2gy;clear xa xb xr z1 l1 z2 l2 xgy hgy ngy o1gy o2gy;go_simp
  refine wpJ_on 6 rfl fun KJ hK => ?_
  go_simp;have hb := below1 W' (.cells #[.bool false, .slice none 0 0] 56)
  refine hK _ _ ⟨(Hxa.out.below hb).c0, (Hxa.out.below hb).c1, (Hxa.out.below hb).c2, (Hxb.out.below hb).c0, (Hxb.out.below hb).c1, (Hxb.out.below hb).c2⟩ ?_
  exact wpJ_same5 (by kernel_rfl) (by kernel_rfl) (N2_5_6_7 t1 k1 n1 t2 k2 n2 W'.heap.size gy _ ⟨(Hxa.out.below hb), (Hxb.out.below hb), (Hxr.out.below hb), (Below.on hbw hb), (Hz1.out.below hb), Hl1.out, (Hz2.out.below hb), Hl2.out, (Box.new W' _ _ _), hbw.size, ⟨Nat.ne_of_lt Hxa.out.lt, Nat.ne_of_lt Hxb.out.lt, Nat.ne_of_lt Hxr.out.lt⟩, (Hxgy.out.below hb), Hhgy.out, Hngy.out, ((zr_blk9 Hz1.out).imp id Nat.ne_of_lt), Ho1gy.out, ((zr_blk9 Hz2.out).imp id Nat.ne_of_lt), Ho2gy.out, (Nat.ne_of_gt Hxgy.out.lt)⟩)
 have N2_6_7 : ∀ (t1 : Bool) (k1 : Nat) (n1 : Nat) (gx : Nat) (gy : Nat) (W' : World), (B3q W' ga (.bool s) (.slice p m c) (.int .i64 e)) ∧ (B3q W' gb (.bool t) (.slice q n d) (.int .i64 f)) ∧ (B3q W' gr (.bool false) (.slice none 0 0) (.int .i64 0)) ∧ (Below w.heap.size w W') ∧ (ZR W' t1 (some ⟨k1, 0, none⟩) n1 x) ∧ (n1 ≤ 16384) ∧ (Box W' gx (.bool false) (.slice none 0 0)) ∧ (w.heap.size ≤ gx) ∧ (ga ≠ gx ∧ gb ≠ gx ∧ gr ≠ gx) ∧ (Box W' gy (.bool false) (.slice none 0 0)) ∧ (w.heap.size ≤ gy) ∧ (ga ≠ gy ∧ gb ≠ gy ∧ gr ≠ gy) ∧ (n1 = 0 ∨ k1 ≠ gx) ∧ (n1 = 0 ∨ k1 ≠ gy) ∧ (gx ≠ gy) → WP 3 (((L0.setIfInBounds 2 true).setIfInBounds 6 true).setIfInBounds 7 true) (((a0.put (some 48) (.agg #[.bool t1, .slice (some ⟨k1, 0, none⟩) n1 n1])).put (some 10) (.pointer (some ⟨gx, 0, none⟩))).put (some 11) (.pointer (some ⟨gy, 0, none⟩))) W' := by
  rintro t1 k1 n1 gx gy W' ⟨xa, xb, xr, hbw, z1, l1, xgx, hgx, ngx, xgy, hgy, ngy, o1gx, o1gy, dxy⟩;subst hWP hL ha;have Hxa := Hid.mk5 xa;have Hxb := Hid.mk5 xb;have Hxr := Hid.mk5 xr;have Hz1 := Hid.mk5 z1;have Hl1 := Hid.mk5 l1;have Hxgx := Hid.mk5 xgx;have Hhgx := Hid.mk5 hgx;have Hngx := Hid.mk5 ngx;have Hxgy := Hid.mk5 xgy;have Hhgy := Hid.mk5 hgy;have Hngy := Hid.mk5 ngy;have Ho1gx := Hid.mk5 o1gx;have Ho1gy := Hid.mk5 o1gy;have Hdxy := Hid.mk5 dxy;clear xa xb xr z1 l1 xgx hgx ngx xgy hgy ngy o1gx o1gy dxy;go_simp
  refine wpJ_on 5 rfl fun KJ hK => ?_
  go_simp
  refine (rfrom9 (K.out.below hbw)).mono ?_
  rintro e9 W2 ⟨t2, k2, n2, rfl, hg, hz, hl, hb⟩
  refine hK _ _ ⟨(Hxa.out.below hb).c0, (Hxa.out.below hb).c1, (Hxa.out.below hb).c2, (Hxb.out.below hb).c0, (Hxb.out.below hb).c1, (Hxb.out.below hb).c2⟩ ?_
  exact wpJ_same5 (by kernel_rfl) (by kernel_rfl) (N2_5_6_7 t1 k1 n1 t2 k2 n2 gx gy W2 ⟨(Hxa.out.below hb), (Hxb.out.below hb), (Hxr.out.below hb), (Below.on hbw hb), (Hz1.out.below hb), Hl1.out, hz, hl, (Hxgx.out.below hb), Hhgx.out, Hngx.out, (Hxgy.out.below hb), Hhgy.out, Hngy.out, Ho1gx.out, Ho1gy.out, (.inr (Nat.ne_of_gt (Nat.lt_of_lt_of_le Hxgx.out.lt hg))), (.inr (Nat.ne_of_gt (Nat.lt_of_lt_of_le Hxgy.out.lt hg))), Hdxy.out⟩)
 have N2_5 : ∀ (t1 : Bool) (k1 : Nat) (n1 : Nat) (t2 : Bool) (k2 : Nat) (n2 : Nat) (W' : World), (B3q W' ga (.bool s) (.slice p m c) (.int .i64 e)) ∧ (B3q W' gb (.bool t) (.slice q n d) (.int .i64 f)) ∧ (B3q W' gr (.bool false) (.slice none 0 0) (.int .i64 0)) ∧ (Below w.heap.size w W') ∧ (ZR W' t1 (some ⟨k1, 0, none⟩) n1 x) ∧ (n1 ≤ 16384) ∧ (ZR W' t2 (some ⟨k2, 0, none⟩) n2 y) ∧ (n2 ≤ 16384) → WP 4 ((L0.setIfInBounds 2 true).setIfInBounds 5 true) ((a0.put (some 48) (.agg #[.bool t1, .slice (some ⟨k1, 0, none⟩) n1 n1])).put (some 51) (.agg #[.bool t2, .slice (some ⟨k2, 0, none⟩) n2 n2])) W' := by
  rintro t1 k1 n1 t2 k2 n2 W' ⟨xa, xb, xr, hbw, z1, l1, z2, l2⟩;subst hWP hL ha;have Hxa := Hid.mk5 xa;have Hxb := Hid.mk5 xb;have Hxr := Hid.mk5 xr;have Hz1 := Hid.mk5 z1;have Hl1 := Hid.mk5 l1;have Hz2 := Hid.mk5 z2;have Hl2 := Hid.mk5 l2;clear xa xb xr z1 l1 z2 l2;go_simp
  refine wpJ_two (i := 6) (k := 7) (by kernel_rfl) rfl rfl (by kernel_rfl) (by kernel_rfl) (fun KJ hK => ?_) (fun KJ hK => ?_)
  ·go_simp
   have hb := below1 W' (.cells #[.bool false, .slice none 0 0] 56)
   refine hK _ _ ⟨(Hxa.out.below hb).c0, (Hxa.out.below hb).c1, (Hxa.out.below hb).c2, (Hxb.out.below hb).c0, (Hxb.out.below hb).c1, (Hxb.out.below hb).c2⟩ ?_
   exact wpJ_same5 (by kernel_rfl) (by kernel_rfl) (N2_5_6 t1 k1 n1 t2 k2 n2 W'.heap.size _ ⟨(Hxa.out.below hb), (Hxb.out.below hb), (Hxr.out.below hb), (Below.on hbw hb), (Hz1.out.below hb), Hl1.out, (Hz2.out.below hb), Hl2.out, (Box.new W' _ _ _), hbw.size, ⟨Nat.ne_of_lt Hxa.out.lt, Nat.ne_of_lt Hxb.out.lt, Nat.ne_of_lt Hxr.out.lt⟩, ((zr_blk9 Hz1.out).imp id Nat.ne_of_lt), ((zr_blk9 Hz2.out).imp id Nat.ne_of_lt)⟩)
  ·go_simp
   have hb := below1 W' (.cells #[.bool false, .slice none 0 0] 56)
   refine hK _ _ ⟨(Hxa.out.below hb).c0, (Hxa.out.below hb).c1, (Hxa.out.below hb).c2, (Hxb.out.below hb).c0, (Hxb.out.below hb).c1, (Hxb.out.below hb).c2⟩ ?_
   exact wpJ_same5 (by kernel_rfl) (by kernel_rfl) (N2_5_7 t1 k1 n1 t2 k2 n2 W'.heap.size _ ⟨(Hxa.out.below hb), (Hxb.out.below hb), (Hxr.out.below hb), (Below.on hbw hb), (Hz1.out.below hb), Hl1.out, (Hz2.out.below hb), Hl2.out, (Box.new W' _ _ _), hbw.size, ⟨Nat.ne_of_lt Hxa.out.lt, Nat.ne_of_lt Hxb.out.lt, Nat.ne_of_lt Hxr.out.lt⟩, ((zr_blk9 Hz1.out).imp id Nat.ne_of_lt), ((zr_blk9 Hz2.out).imp id Nat.ne_of_lt)⟩)
 have N2_6 : ∀ (t1 : Bool) (k1 : Nat) (n1 : Nat) (gx : Nat) (W' : World), (B3q W' ga (.bool s) (.slice p m c) (.int .i64 e)) ∧ (B3q W' gb (.bool t) (.slice q n d) (.int .i64 f)) ∧ (B3q W' gr (.bool false) (.slice none 0 0) (.int .i64 0)) ∧ (Below w.heap.size w W') ∧ (ZR W' t1 (some ⟨k1, 0, none⟩) n1 x) ∧ (n1 ≤ 16384) ∧ (Box W' gx (.bool false) (.slice none 0 0)) ∧ (w.heap.size ≤ gx) ∧ (ga ≠ gx ∧ gb ≠ gx ∧ gr ≠ gx) ∧ (n1 = 0 ∨ k1 ≠ gx) → WP 4 ((L0.setIfInBounds 2 true).setIfInBounds 6 true) ((a0.put (some 48) (.agg #[.bool t1, .slice (some ⟨k1, 0, none⟩) n1 n1])).put (some 10) (.pointer (some ⟨gx, 0, none⟩))) W' := by
  rintro t1 k1 n1 gx W' ⟨xa, xb, xr, hbw, z1, l1, xgx, hgx, ngx, o1gx⟩;subst hWP hL ha;have Hxa := Hid.mk5 xa;have Hxb := Hid.mk5 xb;have Hxr := Hid.mk5 xr;have Hz1 := Hid.mk5 z1;have Hl1 := Hid.mk5 l1;have Hxgx := Hid.mk5 xgx;have Hhgx := Hid.mk5 hgx;have Hngx := Hid.mk5 ngx;have Ho1gx := Hid.mk5 o1gx;clear xa xb xr z1 l1 xgx hgx ngx o1gx;go_simp
  refine wpJ_two (i := 5) (k := 7) (by kernel_rfl) rfl rfl (by kernel_rfl) (by kernel_rfl) (fun KJ hK => ?_) (fun KJ hK => ?_)
  ·go_simp
   refine (rfrom9 (K.out.below hbw)).mono ?_
   rintro e9 W2 ⟨t2, k2, n2, rfl, hg, hz, hl, hb⟩
   refine hK _ _ ⟨(Hxa.out.below hb).c0, (Hxa.out.below hb).c1, (Hxa.out.below hb).c2, (Hxb.out.below hb).c0, (Hxb.out.below hb).c1, (Hxb.out.below hb).c2⟩ ?_
   exact wpJ_same5 (by kernel_rfl) (by kernel_rfl) (N2_5_6 t1 k1 n1 t2 k2 n2 gx W2 ⟨(Hxa.out.below hb), (Hxb.out.below hb), (Hxr.out.below hb), (Below.on hbw hb), (Hz1.out.below hb), Hl1.out, hz, hl, (Hxgx.out.below hb), Hhgx.out, Hngx.out, Ho1gx.out, (.inr (Nat.ne_of_gt (Nat.lt_of_lt_of_le Hxgx.out.lt hg)))⟩)
  ·go_simp
   have hb := below1 W' (.cells #[.bool false, .slice none 0 0] 56)
   refine hK _ _ ⟨(Hxa.out.below hb).c0, (Hxa.out.below hb).c1, (Hxa.out.below hb).c2, (Hxb.out.below hb).c0, (Hxb.out.below hb).c1, (Hxb.out.below hb).c2⟩ ?_
   exact wpJ_same5 (by kernel_rfl) (by kernel_rfl) (N2_6_7 t1 k1 n1 gx W'.heap.size _ ⟨(Hxa.out.below hb), (Hxb.out.below hb), (Hxr.out.below hb), (Below.on hbw hb), (Hz1.out.below hb), Hl1.out, (Hxgx.out.below hb), Hhgx.out, Hngx.out, (Box.new W' _ _ _), hbw.size, ⟨Nat.ne_of_lt Hxa.out.lt, Nat.ne_of_lt Hxb.out.lt, Nat.ne_of_lt Hxr.out.lt⟩, Ho1gx.out, ((zr_blk9 Hz1.out).imp id Nat.ne_of_lt), (Nat.ne_of_lt Hxgx.out.lt)⟩)
 have N2_7 : ∀ (t1 : Bool) (k1 : Nat) (n1 : Nat) (gy : Nat) (W' : World), (B3q W' ga (.bool s) (.slice p m c) (.int .i64 e)) ∧ (B3q W' gb (.bool t) (.slice q n d) (.int .i64 f)) ∧ (B3q W' gr (.bool false) (.slice none 0 0) (.int .i64 0)) ∧ (Below w.heap.size w W') ∧ (ZR W' t1 (some ⟨k1, 0, none⟩) n1 x) ∧ (n1 ≤ 16384) ∧ (Box W' gy (.bool false) (.slice none 0 0)) ∧ (w.heap.size ≤ gy) ∧ (ga ≠ gy ∧ gb ≠ gy ∧ gr ≠ gy) ∧ (n1 = 0 ∨ k1 ≠ gy) → WP 4 ((L0.setIfInBounds 2 true).setIfInBounds 7 true) ((a0.put (some 48) (.agg #[.bool t1, .slice (some ⟨k1, 0, none⟩) n1 n1])).put (some 11) (.pointer (some ⟨gy, 0, none⟩))) W' := by
  rintro t1 k1 n1 gy W' ⟨xa, xb, xr, hbw, z1, l1, xgy, hgy, ngy, o1gy⟩;subst hWP hL ha;have Hxa := Hid.mk5 xa;have Hxb := Hid.mk5 xb;have Hxr := Hid.mk5 xr;have Hz1 := Hid.mk5 z1;have Hl1 := Hid.mk5 l1;have Hxgy := Hid.mk5 xgy;have Hhgy := Hid.mk5 hgy;have Hngy := Hid.mk5 ngy;have Ho1gy := Hid.mk5 o1gy;clear xa xb xr z1 l1 xgy hgy ngy o1gy;go_simp
  refine wpJ_two (i := 5) (k := 6) (by kernel_rfl) rfl rfl (by kernel_rfl) (by kernel_rfl) (fun KJ hK => ?_) (fun KJ hK => ?_)
  ·go_simp
   refine (rfrom9 (K.out.below hbw)).mono ?_
   rintro e9 W2 ⟨t2, k2, n2, rfl, hg, hz, hl, hb⟩
   refine hK _ _ ⟨(Hxa.out.below hb).c0, (Hxa.out.below hb).c1, (Hxa.out.below hb).c2, (Hxb.out.below hb).c0, (Hxb.out.below hb).c1, (Hxb.out.below hb).c2⟩ ?_
   exact wpJ_same5 (by kernel_rfl) (by kernel_rfl) (N2_5_7 t1 k1 n1 t2 k2 n2 gy W2 ⟨(Hxa.out.below hb), (Hxb.out.below hb), (Hxr.out.below hb), (Below.on hbw hb), (Hz1.out.below hb), Hl1.out, hz, hl, (Hxgy.out.below hb), Hhgy.out, Hngy.out, Ho1gy.out, (.inr (Nat.ne_of_gt (Nat.lt_of_lt_of_le Hxgy.out.lt hg)))⟩)
  ·go_simp
   have hb := below1 W' (.cells #[.bool false, .slice none 0 0] 56)
   refine hK _ _ ⟨(Hxa.out.below hb).c0, (Hxa.out.below hb).c1, (Hxa.out.below hb).c2, (Hxb.out.below hb).c0, (Hxb.out.below hb).c1, (Hxb.out.below hb).c2⟩ ?_
   exact wpJ_same5 (by kernel_rfl) (by kernel_rfl) (N2_6_7 t1 k1 n1 W'.heap.size gy _ ⟨(Hxa.out.below hb), (Hxb.out.below hb), (Hxr.out.below hb), (Below.on hbw hb), (Hz1.out.below hb), Hl1.out, (Box.new W' _ _ _), hbw.size, ⟨Nat.ne_of_lt Hxa.out.lt, Nat.ne_of_lt Hxb.out.lt, Nat.ne_of_lt Hxr.out.lt⟩, (Hxgy.out.below hb), Hhgy.out, Hngy.out, ((zr_blk9 Hz1.out).imp id Nat.ne_of_lt), Ho1gy.out, (Nat.ne_of_gt Hxgy.out.lt)⟩)
 have N6_7 : ∀ (gx : Nat) (gy : Nat) (W' : World), (B3q W' ga (.bool s) (.slice p m c) (.int .i64 e)) ∧ (B3q W' gb (.bool t) (.slice q n d) (.int .i64 f)) ∧ (B3q W' gr (.bool false) (.slice none 0 0) (.int .i64 0)) ∧ (Below w.heap.size w W') ∧ (Box W' gx (.bool false) (.slice none 0 0)) ∧ (w.heap.size ≤ gx) ∧ (ga ≠ gx ∧ gb ≠ gx ∧ gr ≠ gx) ∧ (Box W' gy (.bool false) (.slice none 0 0)) ∧ (w.heap.size ≤ gy) ∧ (ga ≠ gy ∧ gb ≠ gy ∧ gr ≠ gy) ∧ (gx ≠ gy) → WP 4 ((L0.setIfInBounds 6 true).setIfInBounds 7 true) ((a0.put (some 10) (.pointer (some ⟨gx, 0, none⟩))).put (some 11) (.pointer (some ⟨gy, 0, none⟩))) W' := by
  rintro gx gy W' ⟨xa, xb, xr, hbw, xgx, hgx, ngx, xgy, hgy, ngy, dxy⟩;subst hWP hL ha;have Hxa := Hid.mk5 xa;have Hxb := Hid.mk5 xb;have Hxr := Hid.mk5 xr;have Hxgx := Hid.mk5 xgx;have Hhgx := Hid.mk5 hgx;have Hngx := Hid.mk5 ngx;have Hxgy := Hid.mk5 xgy;have Hhgy := Hid.mk5 hgy;have Hngy := Hid.mk5 ngy;have Hdxy := Hid.mk5 dxy;clear xa xb xr xgx hgx ngx xgy hgy ngy dxy;go_simp
  refine wpJ_on 2 rfl fun KJ hK => ?_
  go_simp
  refine (rfrom9 (H.out.below hbw)).mono ?_
  rintro e9 W2 ⟨t1, k1, n1, rfl, hg, hz, hl, hb⟩
  refine hK _ _ ⟨(Hxa.out.below hb).c0, (Hxa.out.below hb).c1, (Hxa.out.below hb).c2, (Hxb.out.below hb).c0, (Hxb.out.below hb).c1, (Hxb.out.below hb).c2⟩ ?_
  exact wpJ_same5 (by kernel_rfl) (by kernel_rfl) (N2_6_7 t1 k1 n1 gx gy W2 ⟨(Hxa.out.below hb), (Hxb.out.below hb), (Hxr.out.below hb), (Below.on hbw hb), hz, hl, (Hxgx.out.below hb), Hhgx.out, Hngx.out, (Hxgy.out.below hb), Hhgy.out, Hngy.out, (.inr (Nat.ne_of_gt (Nat.lt_of_lt_of_le Hxgx.out.lt hg))), (.inr (Nat.ne_of_gt (Nat.lt_of_lt_of_le Hxgy.out.lt hg))), Hdxy.out⟩)
 have N2 : ∀ (t1 : Bool) (k1 : Nat) (n1 : Nat) (W' : World), (B3q W' ga (.bool s) (.slice p m c) (.int .i64 e)) ∧ (B3q W' gb (.bool t) (.slice q n d) (.int .i64 f)) ∧ (B3q W' gr (.bool false) (.slice none 0 0) (.int .i64 0)) ∧ (Below w.heap.size w W') ∧ (ZR W' t1 (some ⟨k1, 0, none⟩) n1 x) ∧ (n1 ≤ 16384) → WP 5 (L0.setIfInBounds 2 true) (a0.put (some 48) (.agg #[.bool t1, .slice (some ⟨k1, 0, none⟩) n1 n1])) W' := by
  rintro t1 k1 n1 W' ⟨xa, xb, xr, hbw, z1, l1⟩;subst hWP hL ha;have Hxa := Hid.mk5 xa;have Hxb := Hid.mk5 xb;have Hxr := Hid.mk5 xr;have Hz1 := Hid.mk5 z1;have Hl1 := Hid.mk5 l1;clear xa xb xr z1 l1;go_simp
  refine wpJ_three (i := 5) (k := 6) (l := 7) (by kernel_rfl) rfl rfl rfl (by kernel_rfl) (by kernel_rfl) (by kernel_rfl) (fun KJ hK => ?_) (fun KJ hK => ?_) (fun KJ hK => ?_)
  ·go_simp
   refine (rfrom9 (K.out.below hbw)).mono ?_
   rintro e9 W2 ⟨t2, k2, n2, rfl, hg, hz, hl, hb⟩
   refine hK _ _ ⟨(Hxa.out.below hb).c0, (Hxa.out.below hb).c1, (Hxa.out.below hb).c2, (Hxb.out.below hb).c0, (Hxb.out.below hb).c1, (Hxb.out.below hb).c2⟩ ?_
   exact wpJ_same5 (by kernel_rfl) (by kernel_rfl) (N2_5 t1 k1 n1 t2 k2 n2 W2 ⟨(Hxa.out.below hb), (Hxb.out.below hb), (Hxr.out.below hb), (Below.on hbw hb), (Hz1.out.below hb), Hl1.out, hz, hl⟩)
  ·go_simp
   have hb := below1 W' (.cells #[.bool false, .slice none 0 0] 56)
   refine hK _ _ ⟨(Hxa.out.below hb).c0, (Hxa.out.below hb).c1, (Hxa.out.below hb).c2, (Hxb.out.below hb).c0, (Hxb.out.below hb).c1, (Hxb.out.below hb).c2⟩ ?_
   exact wpJ_same5 (by kernel_rfl) (by kernel_rfl) (N2_6 t1 k1 n1 W'.heap.size _ ⟨(Hxa.out.below hb), (Hxb.out.below hb), (Hxr.out.below hb), (Below.on hbw hb), (Hz1.out.below hb), Hl1.out, (Box.new W' _ _ _), hbw.size, ⟨Nat.ne_of_lt Hxa.out.lt, Nat.ne_of_lt Hxb.out.lt, Nat.ne_of_lt Hxr.out.lt⟩, ((zr_blk9 Hz1.out).imp id Nat.ne_of_lt)⟩)
  ·go_simp
   have hb := below1 W' (.cells #[.bool false, .slice none 0 0] 56)
   refine hK _ _ ⟨(Hxa.out.below hb).c0, (Hxa.out.below hb).c1, (Hxa.out.below hb).c2, (Hxb.out.below hb).c0, (Hxb.out.below hb).c1, (Hxb.out.below hb).c2⟩ ?_
   exact wpJ_same5 (by kernel_rfl) (by kernel_rfl) (N2_7 t1 k1 n1 W'.heap.size _ ⟨(Hxa.out.below hb), (Hxb.out.below hb), (Hxr.out.below hb), (Below.on hbw hb), (Hz1.out.below hb), Hl1.out, (Box.new W' _ _ _), hbw.size, ⟨Nat.ne_of_lt Hxa.out.lt, Nat.ne_of_lt Hxb.out.lt, Nat.ne_of_lt Hxr.out.lt⟩, ((zr_blk9 Hz1.out).imp id Nat.ne_of_lt)⟩)
 have N6 : ∀ (gx : Nat) (W' : World), (B3q W' ga (.bool s) (.slice p m c) (.int .i64 e)) ∧ (B3q W' gb (.bool t) (.slice q n d) (.int .i64 f)) ∧ (B3q W' gr (.bool false) (.slice none 0 0) (.int .i64 0)) ∧ (Below w.heap.size w W') ∧ (Box W' gx (.bool false) (.slice none 0 0)) ∧ (w.heap.size ≤ gx) ∧ (ga ≠ gx ∧ gb ≠ gx ∧ gr ≠ gx) → WP 5 (L0.setIfInBounds 6 true) (a0.put (some 10) (.pointer (some ⟨gx, 0, none⟩))) W' := by
  rintro gx W' ⟨xa, xb, xr, hbw, xgx, hgx, ngx⟩;subst hWP hL ha;have Hxa := Hid.mk5 xa;have Hxb := Hid.mk5 xb;have Hxr := Hid.mk5 xr;have Hxgx := Hid.mk5 xgx;have Hhgx := Hid.mk5 hgx;have Hngx := Hid.mk5 ngx;clear xa xb xr xgx hgx ngx;go_simp
  refine wpJ_two (i := 2) (k := 7) (by kernel_rfl) rfl rfl (by kernel_rfl) (by kernel_rfl) (fun KJ hK => ?_) (fun KJ hK => ?_)
  ·go_simp
   refine (rfrom9 (H.out.below hbw)).mono ?_
   rintro e9 W2 ⟨t1, k1, n1, rfl, hg, hz, hl, hb⟩
   refine hK _ _ ⟨(Hxa.out.below hb).c0, (Hxa.out.below hb).c1, (Hxa.out.below hb).c2, (Hxb.out.below hb).c0, (Hxb.out.below hb).c1, (Hxb.out.below hb).c2⟩ ?_
   exact wpJ_same5 (by kernel_rfl) (by kernel_rfl) (N2_6 t1 k1 n1 gx W2 ⟨(Hxa.out.below hb), (Hxb.out.below hb), (Hxr.out.below hb), (Below.on hbw hb), hz, hl, (Hxgx.out.below hb), Hhgx.out, Hngx.out, (.inr (Nat.ne_of_gt (Nat.lt_of_lt_of_le Hxgx.out.lt hg)))⟩)
  ·go_simp
   have hb := below1 W' (.cells #[.bool false, .slice none 0 0] 56)
   refine hK _ _ ⟨(Hxa.out.below hb).c0, (Hxa.out.below hb).c1, (Hxa.out.below hb).c2, (Hxb.out.below hb).c0, (Hxb.out.below hb).c1, (Hxb.out.below hb).c2⟩ ?_
   exact wpJ_same5 (by kernel_rfl) (by kernel_rfl) (N6_7 gx W'.heap.size _ ⟨(Hxa.out.below hb), (Hxb.out.below hb), (Hxr.out.below hb), (Below.on hbw hb), (Hxgx.out.below hb), Hhgx.out, Hngx.out, (Box.new W' _ _ _), hbw.size, ⟨Nat.ne_of_lt Hxa.out.lt, Nat.ne_of_lt Hxb.out.lt, Nat.ne_of_lt Hxr.out.lt⟩, (Nat.ne_of_lt Hxgx.out.lt)⟩)
 have N7 : ∀ (gy : Nat) (W' : World), (B3q W' ga (.bool s) (.slice p m c) (.int .i64 e)) ∧ (B3q W' gb (.bool t) (.slice q n d) (.int .i64 f)) ∧ (B3q W' gr (.bool false) (.slice none 0 0) (.int .i64 0)) ∧ (Below w.heap.size w W') ∧ (Box W' gy (.bool false) (.slice none 0 0)) ∧ (w.heap.size ≤ gy) ∧ (ga ≠ gy ∧ gb ≠ gy ∧ gr ≠ gy) → WP 5 (L0.setIfInBounds 7 true) (a0.put (some 11) (.pointer (some ⟨gy, 0, none⟩))) W' := by
  rintro gy W' ⟨xa, xb, xr, hbw, xgy, hgy, ngy⟩;subst hWP hL ha;have Hxa := Hid.mk5 xa;have Hxb := Hid.mk5 xb;have Hxr := Hid.mk5 xr;have Hxgy := Hid.mk5 xgy;have Hhgy := Hid.mk5 hgy;have Hngy := Hid.mk5 ngy;clear xa xb xr xgy hgy ngy;go_simp
  refine wpJ_two (i := 2) (k := 6) (by kernel_rfl) rfl rfl (by kernel_rfl) (by kernel_rfl) (fun KJ hK => ?_) (fun KJ hK => ?_)
  ·go_simp
   refine (rfrom9 (H.out.below hbw)).mono ?_
   rintro e9 W2 ⟨t1, k1, n1, rfl, hg, hz, hl, hb⟩
   refine hK _ _ ⟨(Hxa.out.below hb).c0, (Hxa.out.below hb).c1, (Hxa.out.below hb).c2, (Hxb.out.below hb).c0, (Hxb.out.below hb).c1, (Hxb.out.below hb).c2⟩ ?_
   exact wpJ_same5 (by kernel_rfl) (by kernel_rfl) (N2_7 t1 k1 n1 gy W2 ⟨(Hxa.out.below hb), (Hxb.out.below hb), (Hxr.out.below hb), (Below.on hbw hb), hz, hl, (Hxgy.out.below hb), Hhgy.out, Hngy.out, (.inr (Nat.ne_of_gt (Nat.lt_of_lt_of_le Hxgy.out.lt hg)))⟩)
  ·go_simp
   have hb := below1 W' (.cells #[.bool false, .slice none 0 0] 56)
   refine hK _ _ ⟨(Hxa.out.below hb).c0, (Hxa.out.below hb).c1, (Hxa.out.below hb).c2, (Hxb.out.below hb).c0, (Hxb.out.below hb).c1, (Hxb.out.below hb).c2⟩ ?_
   exact wpJ_same5 (by kernel_rfl) (by kernel_rfl) (N6_7 W'.heap.size gy _ ⟨(Hxa.out.below hb), (Hxb.out.below hb), (Hxr.out.below hb), (Below.on hbw hb), (Box.new W' _ _ _), hbw.size, ⟨Nat.ne_of_lt Hxa.out.lt, Nat.ne_of_lt Hxb.out.lt, Nat.ne_of_lt Hxr.out.lt⟩, (Hxgy.out.below hb), Hhgy.out, Hngy.out, (Nat.ne_of_gt Hxgy.out.lt)⟩)
 have N_ : ∀ (W' : World), (B3q W' ga (.bool s) (.slice p m c) (.int .i64 e)) ∧ (B3q W' gb (.bool t) (.slice q n d) (.int .i64 f)) ∧ (B3q W' gr (.bool false) (.slice none 0 0) (.int .i64 0)) ∧ (Below w.heap.size w W') → WP 6 L0 a0 W' := by
  rintro  W' ⟨xa, xb, xr, hbw⟩;subst hWP hL ha;have Hxa := Hid.mk5 xa;have Hxb := Hid.mk5 xb;have Hxr := Hid.mk5 xr;clear xa xb xr;go_simp
  refine wpJ_three (i := 2) (k := 6) (l := 7) (by kernel_rfl) rfl rfl rfl (by kernel_rfl) (by kernel_rfl) (by kernel_rfl) (fun KJ hK => ?_) (fun KJ hK => ?_) (fun KJ hK => ?_)
  ·go_simp
   refine (rfrom9 (H.out.below hbw)).mono ?_
   rintro e9 W2 ⟨t1, k1, n1, rfl, hg, hz, hl, hb⟩
   refine hK _ _ ⟨(Hxa.out.below hb).c0, (Hxa.out.below hb).c1, (Hxa.out.below hb).c2, (Hxb.out.below hb).c0, (Hxb.out.below hb).c1, (Hxb.out.below hb).c2⟩ ?_
   exact wpJ_same5 (by kernel_rfl) (by kernel_rfl) (N2 t1 k1 n1 W2 ⟨(Hxa.out.below hb), (Hxb.out.below hb), (Hxr.out.below hb), (Below.on hbw hb), hz, hl⟩)
  ·go_simp
   have hb := below1 W' (.cells #[.bool false, .slice none 0 0] 56)
   refine hK _ _ ⟨(Hxa.out.below hb).c0, (Hxa.out.below hb).c1, (Hxa.out.below hb).c2, (Hxb.out.below hb).c0, (Hxb.out.below hb).c1, (Hxb.out.below hb).c2⟩ ?_
   exact wpJ_same5 (by kernel_rfl) (by kernel_rfl) (N6 W'.heap.size _ ⟨(Hxa.out.below hb), (Hxb.out.below hb), (Hxr.out.below hb), (Below.on hbw hb), (Box.new W' _ _ _), hbw.size, ⟨Nat.ne_of_lt Hxa.out.lt, Nat.ne_of_lt Hxb.out.lt, Nat.ne_of_lt Hxr.out.lt⟩⟩)
  ·go_simp
   have hb := below1 W' (.cells #[.bool false, .slice none 0 0] 56)
   refine hK _ _ ⟨(Hxa.out.below hb).c0, (Hxa.out.below hb).c1, (Hxa.out.below hb).c2, (Hxb.out.below hb).c0, (Hxb.out.below hb).c1, (Hxb.out.below hb).c2⟩ ?_
   exact wpJ_same5 (by kernel_rfl) (by kernel_rfl) (N7 W'.heap.size _ ⟨(Hxa.out.below hb), (Hxb.out.below hb), (Hxr.out.below hb), (Below.on hbw hb), (Box.new W' _ _ _), hbw.size, ⟨Nat.ne_of_lt Hxa.out.lt, Nat.ne_of_lt Hxb.out.lt, Nat.ne_of_lt Hxr.out.lt⟩⟩)
 exact N_ W5 ⟨Xa.out, Xb.out, Xr.out, hbw⟩
theorem rquoA_u {p q : Option Addr} {m c n d : Nat} {xs ys : List Nat} {w : World} {e f P : Int} (s t : Bool) (h : At w p m c xs) (k : At w q n d ys) :
  Calls Tryz.prog 118 #[DV s p m c e, DV t q n d f, .int .i64 P, .bool true] w fun en w' => ∃ zo eo er, SaidD w.heap.size w' en zo eo er ∧ QuoA true s xs e t ys f P zo eo er ∧ Below w.heap.size w w' := by
 by_cases h1 : ¬ (1 ≤ P ∧ P ≤ 70000)
 ·have hR : QuoA true s xs e t ys f P 0 0 1 := by unfold QuoA; rw [if_pos h1]; exact ⟨rfl, rfl, rfl⟩
  by_cases h2 : P < 1
  ·exact (rquo_lu h2).mono fun en w' ⟨h3, h4⟩ => ⟨0, 0, 1, h3 ▸ SaidD.err _ _ 1, hR, h4⟩
  ·exact (rquo_gu (by omega)).mono fun en w' ⟨h3, h4⟩ => ⟨0, 0, 1, h3 ▸ SaidD.err _ _ 1, hR, h4⟩
 have h1' : 1 ≤ P ∧ P ≤ 70000 := Decidable.not_not.1 h1
 cases hf : formD s xs e
 ·exact (rquo_au h1' h hf).mono fun en w' ⟨h3, h4⟩ => ⟨0, 0, 2, h3 ▸ SaidD.err _ _ 2, by unfold QuoA; rw [if_neg h1, if_pos (.inl hf)]; exact ⟨rfl, rfl, rfl⟩, h4⟩
 have hd := formD_dn h hf
 cases hg : formD t ys f
 ·exact (rquo_bu h1' hd k hg).mono fun en w' ⟨h3, h4⟩ => ⟨0, 0, 2, h3 ▸ SaidD.err _ _ 2, by unfold QuoA; rw [if_neg h1, if_pos (.inr hg)]; exact ⟨rfl, rfl, rfl⟩, h4⟩
 have kd := formD_dn k hg
 have h2 : ¬ (formD s xs e = false ∨ formD t ys f = false) := by rw [hf, hg]; simp
 by_cases hn : n = 0
 ·have h3 : iv t (valB B64 ys) = 0 := by
   have : ys = [] := List.length_eq_zero_iff.1 (by rw [k.len]; exact hn)
   subst this
   cases t <;> rfl
  exact (rquo_zu h1' hd kd hn).mono fun en w' ⟨h5, h6⟩ => ⟨0, 0, 4, h5 ▸ SaidD.err _ _ 4, by unfold QuoA; rw [if_neg h1, if_neg h2, if_pos h3]; exact ⟨rfl, rfl, rfl⟩, h6⟩
 have h3 : iv t (valB B64 ys) ≠ 0 := fun h0 => hn (dn_m0q kd h0)
 by_cases h4 : 4096 < max xs.length ys.length
 ·have hR : QuoA true s xs e t ys f P 0 0 5 := by unfold QuoA; rw [if_neg h1, if_neg h2, if_neg h3, if_pos h4]; exact ⟨rfl, rfl, rfl⟩
  rw [h.len, k.len] at h4
  by_cases hm : 4096 < m
  ·exact (rquo_mu h1' hd kd hn hm).mono fun en w' ⟨h5, h6⟩ => ⟨0, 0, 5, h5 ▸ SaidD.err _ _ 5, hR, h6⟩
  ·exact (rquo_nu h1' hd kd hn hm (by omega)).mono fun en w' ⟨h5, h6⟩ => ⟨0, 0, 5, h5 ▸ SaidD.err _ _ 5, hR, h6⟩
 obtain ⟨N, hN⟩ : ∃ N : Nat, P = N := ⟨P.toNat, by omega⟩
 subst hN;have h5 := h4;rw [h.len, k.len] at h5
 refine (rquo_ou (by omega) hd kd h3 hn (by omega) (by omega)).mono fun en w' ⟨zo, eo, er, h7, h8, h6⟩ => ⟨zo, eo, er, h7, ?_, h6⟩
 unfold QuoA;rw [if_neg h1, if_neg h2, if_neg h3, if_neg h4]
 exact h8
theorem docquo_u {p q : Option Addr} {m c n d : Nat} {xs ys : List Nat} {w : World} {e f P : Int} (s t : Bool) (h : At w p m c xs) (k : At w q n d ys) :
  Calls Tryz.prog 83 #[DV s p m c e, DV t q n d f, .int .i64 P] w fun en w' => ∃ zo eo er, SaidD w.heap.size w' en zo eo er ∧ QuoA true s xs e t ys f P zo eo er ∧ Below w.heap.size w w' := by
 have H := hdQ h;have K := hdQ k;clear h k
 go_enter Tryz.func83, Tryz.ntmps83
 go_wp2_with fail;obtain ⟨W0, hW0⟩ := exq (((w.alloc (.cells #[.bool s, .slice p m c, .int .i64 e] 27)).alloc (.cells #[.bool t, .slice q n d, .int .i64 f] 27)).alloc (.cells #[.bool false, .slice none 0 0, .int .i64 0] 27))
 have Xa : Hid (B3q W0 (w.heap.size) (.bool s) (.slice p m c) (.int .i64 e)) := by rw [hW0]; constructor <;> go_simp
 have Xb : Hid (B3q W0 (w.heap.size + 1) (.bool t) (.slice q n d) (.int .i64 f)) := by rw [hW0]; constructor <;> go_simp
 have Xr : Hid (B3q W0 (w.heap.size + 1 + 1) (.bool false) (.slice none 0 0) (.int .i64 0)) := by rw [hW0]; constructor <;> go_simp
 have hb0 := bq3 hW0;rw [← hW0];clear hW0;have hbw := brf w;obtain ⟨gr, hgr⟩ := exq (w.heap.size + 1 + 1);have HGr : Hid (w.heap.size ≤ gr) := hgl hgr;rw [← hgr] at Xr
 try rw [← hgr]
 obtain ⟨gb, hgb⟩ := exq (w.heap.size + 1);have HGb : Hid (w.heap.size ≤ gb) := hgl hgb;rw [← hgb] at Xb
 try rw [← hgb]
 obtain ⟨ga, hga⟩ := exq w.heap.size;have HGa : Hid (w.heap.size ≤ ga) := hgl hga;rw [← hga] at Xa
 try rw [← hga]
 have HGD : Hid (ga ≠ gb ∧ ga ≠ gr ∧ gb ≠ ga ∧ gb ≠ gr ∧ gr ≠ ga ∧ gr ≠ gb) := by rw [hga, hgb, hgr]; show _ ∧ _; omega
 clear hga hgb hgr;replace hbw := bon hbw hb0;clear hb0;obtain ⟨ca0, ca1, ca2, fa0, fa1, fa2⟩ := Xa.out;have hnea : ga < W0.heap.size := blt ca0;obtain ⟨cb0, cb1, cb2, fb0, fb1, fb2⟩ := Xb.out;have hneb : gb < W0.heap.size := blt cb0;go_wp2_with fail;clear ca0 ca1 ca2 fa0 fa1 fa2 hnea cb0 cb1 cb2 fb0 fb1 fb2 hneb;have HRL : Hid (gr < W0.heap.size ∧ w.heap.size ≤ W0.heap.size) := ⟨Xr.out.lt, hbw.size⟩
 refine (rquoA_u s t (H.out.below hbw) (K.out.below hbw)).mono ?_
 rintro e2 v6 ⟨zo, eo, er, ⟨s6, p6, m6, c6, rfl, hq6⟩, hr6, hb6⟩;replace Xa := B3q.b Xa hb6;replace Xb := B3q.b Xb hb6;replace Xr := B3q.b Xr hb6;replace hbw := bon hbw hb6;clear hb6;have Q6 := hdQ hq6;have R6 := hdQ hr6;clear hq6 hr6;obtain ⟨cr0, cr1, cr2, fr0, fr1, fr2⟩ := Xr.out;have hner : gr < v6.heap.size := blt cr0;go_wp2_with fail
 refine bodyPost_ret (v := .tuple #[DV s6 p6 m6 c6 eo, .int .i64 er]) (by rw [results_cell_tmp rfl]; go_simp) rfl ⟨zo, eo, er, ⟨s6, p6, m6, c6, rfl, Q6.out.set3 HRL.out.1 HRL.out.2 _ _ _⟩, R6.out, ?_⟩
 exact bSet (bSet (bSet hbw _ _ _ HGr.out) _ _ _ HGr.out) _ _ _ HGr.out
def Play5 (k : Int) : Prop := ∀ (pa pb pm : Option Addr) (na ca nb cb nm cm : Nat) (xa xb xm : List Nat) (w : World) (ea eb nn : Int) (sa sb sm : Bool), At w pa na ca xa → At w pb nb cb xb → At w pm nm cm xm → (na ≤ 17592186044416 ∧ nb ≤ 17592186044416 ∧ nm ≤ 17592186044416 ∧ -9223372036854775808 ≤ nn ∧ nn ≤ 9223372036854775807) → Tab w →
    Calls Tryz.prog 15 #[.agg #[.int .i64 k, .bool sa, .slice pa na ca, .int .i64 ea, .bool sb, .slice pb nb cb, .int .i64 eb, .bool sm, .slice pm nm cm, .int .i64 nn]] w fun e w' => e = .returned (.bool true) ∧ Below w.heap.size w w'

theorem all5 {P : Option Addr} {N C : Nat} {its : List Op10} {w : World} {lo hi : Int} (h : Scr5 w P N C its) (hT : Tab w)
  (hp : ∀ k, lo ≤ k → k ≤ hi → Play5 k) :
  Calls Tryz.prog 8 #[.slice P N C, .int .i64 lo, .int .i64 hi] w fun e w' => e = .returned (.bool true) ∧ Below w.heap.size w w' := by
 have H := hdQ h
 have HP : Hid (∀ k, lo ≤ k → k ≤ hi → Play5 k) := hp
 have HT : Hid (Tab w) := hT;have HLN : Hid (its.length = N) := h.len;have cap := h.cap; have big := h.big;unfold maxLen at big;clear h hp hT
 go_enter Tryz.func8, Tryz.ntmps8
 go_wp2_with fail
 go_loopg [11] N (fun gg iv wr => ∃ k : Nat, k + gg = N ∧ iv = .int .i64 k ∧ Below w.heap.size w wr)
 case atStart => exact ⟨0, by omega, rfl, Below.refl _ _⟩
 case round =>
  obtain ⟨k, hkg, rfl, hbw⟩ := hrel
  cases gk with
  | zero =>
   obtain rfl : k = N := by omega
   have hnk : ¬ (k : Int) < (k : Int) := by omega
   go_wp2_with fail
   go_ret
   exact ⟨rfl, hbw⟩
  | succ gg =>
   have hki : k < its.length := by rw [HLN.out]; omega
   have HR := H.out.below hbw
   obtain ⟨g, off, rfl, hc⟩ := HR.cells.resolve_left (by omega)
   obtain ⟨e0, e1, e2, e3, e4, e5, e6, e7, e8, e9⟩ := hc k hki;have HAT : Hid (At wr its[k].pa its[k].na its[k].ca its[k].xa ∧ At wr its[k].pb its[k].nb its[k].cb its[k].xb ∧ At wr its[k].pm its[k].nm its[k].cm its[k].xm ∧ its[k].na ≤ 17592186044416 ∧ its[k].nb ≤ 17592186044416 ∧ its[k].nm ≤ 17592186044416 ∧ -9223372036854775808 ≤ its[k].nn ∧ its[k].nn ≤ 9223372036854775807) := HR.ats its[k] (List.getElem_mem hki);have HBW := hdQ hbw
   have hkk : (k : Int) < (N : Int) := by omega
   have hlt : g < wr.heap.size := World.block_lt_of_cell? wr _ e0;clear hc HR hbw;generalize its[k].k = kd at *;generalize its[k].sa = sa at *;generalize its[k].pa = pa at *;generalize its[k].na = na at *;generalize its[k].ca = ca at *;generalize its[k].xa = xa at *;generalize its[k].ea = ea at *;generalize its[k].sb = sb at *;generalize its[k].pb = pb at *;generalize its[k].nb = nb at *;generalize its[k].cb = cb at *;generalize its[k].xb = xb at *;generalize its[k].eb = eb at *;generalize its[k].sm = sm at *;generalize its[k].pm = pm at *;generalize its[k].nm = nm at *;generalize its[k].cm = cm at *;generalize its[k].xm = xm at *;generalize its[k].nn = nn at *;have hb0 : Below wr.heap.size wr (wr.alloc (.cells #[.int .i64 kd, .bool sa, .slice pa na ca, .int .i64 ea, .bool sb, .slice pb nb cb, .int .i64 eb, .bool sm, .slice pm nm cm, .int .i64 nn] 45)) := below1 wr _;have HAO : Hid (At (wr.alloc (.cells #[.int .i64 kd, .bool sa, .slice pa na ca, .int .i64 ea, .bool sb, .slice pb nb cb, .int .i64 eb, .bool sm, .slice pm nm cm, .int .i64 nn] 45)) pa na ca xa ∧ At (wr.alloc (.cells #[.int .i64 kd, .bool sa, .slice pa na ca, .int .i64 ea, .bool sb, .slice pb nb cb, .int .i64 eb, .bool sm, .slice pm nm cm, .int .i64 nn] 45)) pb nb cb xb ∧ At (wr.alloc (.cells #[.int .i64 kd, .bool sa, .slice pa na ca, .int .i64 ea, .bool sb, .slice pb nb cb, .int .i64 eb, .bool sm, .slice pm nm cm, .int .i64 nn] 45)) pm nm cm xm ∧ na ≤ 17592186044416 ∧ nb ≤ 17592186044416 ∧ nm ≤ 17592186044416 ∧ -9223372036854775808 ≤ nn ∧ nn ≤ 9223372036854775807) := ⟨HAT.out.1.below hb0, HAT.out.2.1.below hb0, HAT.out.2.2.1.below hb0, HAT.out.2.2.2⟩
   have HBO : Hid (Below w.heap.size w (wr.alloc (.cells #[.int .i64 kd, .bool sa, .slice pa na ca, .int .i64 ea, .bool sb, .slice pb nb cb, .int .i64 eb, .bool sm, .slice pm nm cm, .int .i64 nn] 45))) := Below.on HBW.out hb0;clear hb0 HAT HBW
   by_cases hlo : lo ≤ kd
   ·have hlo2 : ¬ kd < lo := by omega
    by_cases hhi : kd ≤ hi
    ·have hhi2 : ¬ hi < kd := by omega
     have HPK : Hid (Play5 kd) := HP.out kd hlo hhi;go_wp2_with fail
     refine (HPK.out pa pb pm na ca nb cb nm cm xa xb xm _ ea eb nn sa sb sm HAO.out.1 HAO.out.2.1 HAO.out.2.2.1 HAO.out.2.2.2 (HT.out.below HBO.out)).mono ?_
     rintro e wz ⟨rfl, hbq⟩;have hbz := Below.on HBO.out hbq;clear hbq e0 e1 e2 e3 e4 e5 e6 e7 e8 e9;go_wp2_with fail
     go_roundg gg
     case measure => omega
     case rel => exact ⟨k + 1, by omega, by go_num, hbz⟩
    ·have hhi2 : hi < kd := by omega
     go_wp2_with fail
     go_roundg gg
     case measure => omega
     case rel => exact ⟨k + 1, by omega, by go_num, HBO.out⟩
   ·have hlo2 : kd < lo := by omega
    go_wp2_with fail
    go_roundg gg
    case measure => omega
    case rel => exact ⟨k + 1, by omega, by go_num, HBO.out⟩
end Go.Proofs.YtmlclpjimkjjeaaGreatDoor
