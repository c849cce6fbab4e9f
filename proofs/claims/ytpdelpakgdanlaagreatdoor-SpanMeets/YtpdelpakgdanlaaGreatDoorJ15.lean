import Derived.Test.YtpdelpakgdanlaaGreatDoorJ14
import Derived.Test.YtpdelpakgdanlaaGreatDoorJ8
import Derived.Test.YtpdelpakgdanlaaGreatDoorJ9
import Derived.Deep.LoopGhost
import Derived.Test.YtpdelpakgdanlaaGreatDoorJ12
import Derived.Test.YtpdelpakgdanlaaGreatDoorJ11
import Derived.Laws.Bits64b
import Derived.Test.YtpdelpakgdanlaaGreatDoorJ10
import Derived.Test.YtpdelpakgdanlaaGreatDoorJ13
import Derived.Laws.EntriesVeiled
namespace Go.Proofs.YtpdelpakgdanlaaGreatDoor
open Go.RowKit Go.Shelf
set_option maxRecDepth 20000
set_option maxHeartbeats 0
theorem bits_d {q : Option Addr} {m c : Nat} {w : World} {z e : Int} {P K : Nat} {s : Bool} (h : DN w s q m c e z) (hP : 1 ≤ P ∧ P ≤ 70000) (hK : K = bitsN z.natAbs - P) (hT : Tab w) :
  Calls Tryz.prog 54 #[DV s q m c e, .int .i64 P] w fun en w' => MakeP w.heap.size w' en (rd false z (2 ^ K)) (e + K) ∧ Below w.heap.size w w' := by
 have H := hdQ h;have TB : Hid (Tab w) := hT;have HP : Hid ((1 ≤ P ∧ P ≤ 70000) ∧ K = bitsN z.natAbs - P) := ⟨hP, hK⟩;clear h hT hP hK
 go_enter Tryz.func54, Tryz.ntmps54
 go_wp2_with fail;obtain ⟨W0, hW0⟩ := exq ((w.alloc (.cells #[.bool s, .slice q m c, .int .i64 e] 26)).alloc (.cells #[.bool false, .slice none 0 0, .int .i64 0] 26))
 have Xd : Hid (B3q W0 (w.heap.size) (.bool s) (.slice q m c) (.int .i64 e)) := by rw [hW0]; constructor <;> go_simp
 have Xr : Hid (B3q W0 (w.heap.size + 1) (.bool false) (.slice none 0 0) (.int .i64 0)) := by rw [hW0]; constructor <;> go_simp
 have hb0 := bq2 hW0;rw [← hW0];clear hW0;have hbw := brf w;obtain ⟨gr, hgr⟩ := exq (w.heap.size + 1);have HGr : Hid (w.heap.size ≤ gr) := hgl hgr;rw [← hgr] at Xr
 try rw [← hgr]
 obtain ⟨gd, hgd⟩ := exq w.heap.size;have HGd : Hid (w.heap.size ≤ gd) := hgl hgd;rw [← hgd] at Xd
 try rw [← hgd]
 have HGD : Hid (gd ≠ gr ∧ gr ≠ gd) := by rw [hgd, hgr]; show _ ∧ _; omega
 clear hgd hgr;replace hbw := bon hbw hb0;clear hb0;obtain ⟨W1, hW1⟩ := exq W0.drew
 have hbd : Below W0.heap.size W0 W1 := by rw [hW1]; exact bDrew1 (Below.refl _ _)
 replace Xd := B3q.b Xd hbd;replace Xr := B3q.b Xr hbd;replace hbw := bon hbw hbd;clear hbd
 have HJ : Hid ((fun W' : World => W'.cell? ⟨gd, 0, none⟩ = some (.bool s) ∧ W'.cell? ⟨gd, 1, none⟩ = some (.slice q m c) ∧ W'.cell? ⟨gd, 2, none⟩ = some (.int .i64 e)) W1) := ⟨Xd.out.c0, Xd.out.c1, Xd.out.c2⟩
 refine wp_region_J (fun W' => W'.cell? ⟨gd, 0, none⟩ = some (.bool s) ∧ W'.cell? ⟨gd, 1, none⟩ = some (.slice q m c) ∧ W'.cell? ⟨gd, 2, none⟩ = some (.int .i64 e)) (by kernel_rfl) ?_
 rw [← hW1];clear hW1
 refine wpJ_tq 1 rfl HJ.out ?_
 refine wpJ_tq 2 rfl HJ.out ?_
 refine wpJ_on 0 rfl fun KJ hK => ?_
 go_simp
 refine (way_d _).mono ?_
 rintro e v1 ⟨rfl, hb1⟩;replace Xd := B3q.b Xd hb1;replace Xr := B3q.b Xr hb1;replace hbw := bon hbw hb1;clear hb1
 refine hK _ _ ⟨Xd.out.c0, Xd.out.c1, Xd.out.c2⟩ ?_
 clear hK
 refine wpJ_on 3 rfl fun KJ hK => ?_
 go_simp;have HRL : Hid (gr < v1.heap.size ∧ w.heap.size ≤ v1.heap.size) := ⟨Xr.out.lt, hbw.size⟩
 refine (tb_d (H.out.below hbw) HP.out.1 HP.out.2 (TB.out.below hbw)).mono ?_
 rintro e2 v6 ⟨hv, hb6⟩;obtain ⟨s6, p6, m6, eo, er, rfl, hmp⟩ := hv.open;clear hv;replace Xd := B3q.b Xd hb6;replace Xr := B3q.b Xr hb6;replace hbw := bon hbw hb6;clear hb6;have M6 := hdQ hmp;clear hmp HJ
 have HJ : Hid ((fun W' : World => W'.cell? ⟨gd, 0, none⟩ = some (.bool s) ∧ W'.cell? ⟨gd, 1, none⟩ = some (.slice q m c) ∧ W'.cell? ⟨gd, 2, none⟩ = some (.int .i64 e)) v6) := ⟨Xd.out.c0, Xd.out.c1, Xd.out.c2⟩
 refine hK _ _ HJ.out ?_
 clear hK
 refine wpJ_tq 4 rfl HJ.out ?_
 refine wpJ_tq 5 rfl HJ.out ?_
 obtain ⟨cr0, cr1, cr2, fr0, fr1, fr2⟩ := Xr.out;have hner : gr < v6.heap.size := blt cr0;obtain ⟨cd0, cd1, cd2, fd0, fd1, fd2⟩ := Xd.out;have hned : gd < v6.heap.size := blt cd0;obtain ⟨hgd0, hgd1⟩ := HGD.out
 refine wpJ_on 6 rfl fun KJ hK => ?_
 go_simp
 have HJ2 : Hid ((fun W' : World => W'.cell? ⟨gd, 0, none⟩ = some (.bool s) ∧ W'.cell? ⟨gd, 1, none⟩ = some (.slice q m c) ∧ W'.cell? ⟨gd, 2, none⟩ = some (.int .i64 e)) (((v6.setCell ⟨gr, 0, none⟩ (.bool s6)).setCell ⟨gr, 1, none⟩ (.slice p6 m6 m6)).setCell ⟨gr, 2, none⟩ (.int .i64 eo))) := ⟨by go_simp, by go_simp, by go_simp⟩
 refine hK _ _ HJ2.out ?_
 clear hK HJ;have HJ := HJ2;clear HJ2
 refine wpJ_tq 7 rfl HJ.out ?_
 refine wpJ_done (by kernel_rfl) ?_ _
 clear HJ;go_wp2_with fail
 refine bodyPost_ret (v := .tuple #[DV s6 p6 m6 m6 eo, .int .i64 er]) (by rw [results_cell_tmp rfl]; go_simp) rfl ⟨(M6.out.set HRL.out.1 HRL.out.2 _ _ _).close, ?_⟩
 exact bSet (bSet (bSet hbw _ _ _ HGr.out) _ _ _ HGr.out) _ _ _ HGr.out
theorem bits_u {q : Option Addr} {m c : Nat} {w : World} {z e : Int} {P K : Nat} {s : Bool} (h : DN w s q m c e z) (hP : 1 ≤ P ∧ P ≤ 70000) (hK : K = bitsN z.natAbs - P) (hT : Tab w) :
  Calls Tryz.prog 55 #[DV s q m c e, .int .i64 P] w fun en w' => MakeP w.heap.size w' en (rd true z (2 ^ K)) (e + K) ∧ Below w.heap.size w w' := by
 have H := hdQ h;have TB : Hid (Tab w) := hT;have HP : Hid ((1 ≤ P ∧ P ≤ 70000) ∧ K = bitsN z.natAbs - P) := ⟨hP, hK⟩;clear h hT hP hK
 go_enter Tryz.func55, Tryz.ntmps55
 go_wp2_with fail;obtain ⟨W0, hW0⟩ := exq ((w.alloc (.cells #[.bool s, .slice q m c, .int .i64 e] 26)).alloc (.cells #[.bool false, .slice none 0 0, .int .i64 0] 26))
 have Xd : Hid (B3q W0 (w.heap.size) (.bool s) (.slice q m c) (.int .i64 e)) := by rw [hW0]; constructor <;> go_simp
 have Xr : Hid (B3q W0 (w.heap.size + 1) (.bool false) (.slice none 0 0) (.int .i64 0)) := by rw [hW0]; constructor <;> go_simp
 have hb0 := bq2 hW0;rw [← hW0];clear hW0;have hbw := brf w;obtain ⟨gr, hgr⟩ := exq (w.heap.size + 1);have HGr : Hid (w.heap.size ≤ gr) := hgl hgr;rw [← hgr] at Xr
 try rw [← hgr]
 obtain ⟨gd, hgd⟩ := exq w.heap.size;have HGd : Hid (w.heap.size ≤ gd) := hgl hgd;rw [← hgd] at Xd
 try rw [← hgd]
 have HGD : Hid (gd ≠ gr ∧ gr ≠ gd) := by rw [hgd, hgr]; show _ ∧ _; omega
 clear hgd hgr;replace hbw := bon hbw hb0;clear hb0;obtain ⟨W1, hW1⟩ := exq W0.drew
 have hbd : Below W0.heap.size W0 W1 := by rw [hW1]; exact bDrew1 (Below.refl _ _)
 replace Xd := B3q.b Xd hbd;replace Xr := B3q.b Xr hbd;replace hbw := bon hbw hbd;clear hbd
 have HJ : Hid ((fun W' : World => W'.cell? ⟨gd, 0, none⟩ = some (.bool s) ∧ W'.cell? ⟨gd, 1, none⟩ = some (.slice q m c) ∧ W'.cell? ⟨gd, 2, none⟩ = some (.int .i64 e)) W1) := ⟨Xd.out.c0, Xd.out.c1, Xd.out.c2⟩
 refine wp_region_J (fun W' => W'.cell? ⟨gd, 0, none⟩ = some (.bool s) ∧ W'.cell? ⟨gd, 1, none⟩ = some (.slice q m c) ∧ W'.cell? ⟨gd, 2, none⟩ = some (.int .i64 e)) (by kernel_rfl) ?_
 rw [← hW1];clear hW1
 refine wpJ_tq 1 rfl HJ.out ?_
 refine wpJ_tq 2 rfl HJ.out ?_
 refine wpJ_on 0 rfl fun KJ hK => ?_
 go_simp
 refine (way_u _).mono ?_
 rintro e v1 ⟨rfl, hb1⟩;replace Xd := B3q.b Xd hb1;replace Xr := B3q.b Xr hb1;replace hbw := bon hbw hb1;clear hb1
 refine hK _ _ ⟨Xd.out.c0, Xd.out.c1, Xd.out.c2⟩ ?_
 clear hK
 refine wpJ_on 3 rfl fun KJ hK => ?_
 go_simp;have HRL : Hid (gr < v1.heap.size ∧ w.heap.size ≤ v1.heap.size) := ⟨Xr.out.lt, hbw.size⟩
 refine (tb_u (H.out.below hbw) HP.out.1 HP.out.2 (TB.out.below hbw)).mono ?_
 rintro e2 v6 ⟨hv, hb6⟩;obtain ⟨s6, p6, m6, eo, er, rfl, hmp⟩ := hv.open;clear hv;replace Xd := B3q.b Xd hb6;replace Xr := B3q.b Xr hb6;replace hbw := bon hbw hb6;clear hb6;have M6 := hdQ hmp;clear hmp HJ
 have HJ : Hid ((fun W' : World => W'.cell? ⟨gd, 0, none⟩ = some (.bool s) ∧ W'.cell? ⟨gd, 1, none⟩ = some (.slice q m c) ∧ W'.cell? ⟨gd, 2, none⟩ = some (.int .i64 e)) v6) := ⟨Xd.out.c0, Xd.out.c1, Xd.out.c2⟩
 refine hK _ _ HJ.out ?_
 clear hK
 refine wpJ_tq 4 rfl HJ.out ?_
 refine wpJ_tq 5 rfl HJ.out ?_
 obtain ⟨cr0, cr1, cr2, fr0, fr1, fr2⟩ := Xr.out;have hner : gr < v6.heap.size := blt cr0;obtain ⟨cd0, cd1, cd2, fd0, fd1, fd2⟩ := Xd.out;have hned : gd < v6.heap.size := blt cd0;obtain ⟨hgd0, hgd1⟩ := HGD.out
 refine wpJ_on 6 rfl fun KJ hK => ?_
 go_simp
 have HJ2 : Hid ((fun W' : World => W'.cell? ⟨gd, 0, none⟩ = some (.bool s) ∧ W'.cell? ⟨gd, 1, none⟩ = some (.slice q m c) ∧ W'.cell? ⟨gd, 2, none⟩ = some (.int .i64 e)) (((v6.setCell ⟨gr, 0, none⟩ (.bool s6)).setCell ⟨gr, 1, none⟩ (.slice p6 m6 m6)).setCell ⟨gr, 2, none⟩ (.int .i64 eo))) := ⟨by go_simp, by go_simp, by go_simp⟩
 refine hK _ _ HJ2.out ?_
 clear hK HJ;have HJ := HJ2;clear HJ2
 refine wpJ_tq 7 rfl HJ.out ?_
 refine wpJ_done (by kernel_rfl) ?_ _
 clear HJ;go_wp2_with fail
 refine bodyPost_ret (v := .tuple #[DV s6 p6 m6 m6 eo, .int .i64 er]) (by rw [results_cell_tmp rfl]; go_simp) rfl ⟨(M6.out.set HRL.out.1 HRL.out.2 _ _ _).close, ?_⟩
 exact bSet (bSet (bSet hbw _ _ _ HGr.out) _ _ _ HGr.out) _ _ _ HGr.out
theorem dscale {p : Option Addr} {m c : Nat} {w : World} {z e N : Int} {s : Bool} (h : DN w s p m c e z) (hz : z ≠ 0) (hN : -1048576 ≤ e + N ∧ e + N ≤ 1048576) :
  Calls Tryz.prog 67 #[DV s p m c e, .int .i64 N] w fun en w' => ∃ v, en = .returned (.tuple #[v, .int .i64 0]) ∧ AnsD w.heap.size w' v z (e + N) ∧ Below w.heap.size w w' := by
 have H := hdQ h;have HZ : Hid (z ≠ 0) := hz
 have HE : Hid ((-1048576 ≤ e ∧ e ≤ 2097152) ∧ -1048576 ≤ e + N ∧ e + N ≤ 1048576) := ⟨by rcases h.fm with ⟨h0, _⟩ | ⟨_, h5⟩; (exact absurd h0 hz); omega, hN⟩
 clear h hz hN
 go_enter Tryz.func67, Tryz.ntmps67
 go_wp2_with fail;obtain ⟨W0, hW0⟩ := exq ((w.alloc (.cells #[.bool s, .slice p m c, .int .i64 e] 26)).alloc (.cells #[.bool false, .slice none 0 0, .int .i64 0] 26))
 have Xd : Hid (B3q W0 (w.heap.size) (.bool s) (.slice p m c) (.int .i64 e)) := by rw [hW0]; constructor <;> go_simp
 have Xr : Hid (B3q W0 (w.heap.size + 1) (.bool false) (.slice none 0 0) (.int .i64 0)) := by rw [hW0]; constructor <;> go_simp
 have hb0 := bq2 hW0;rw [← hW0];clear hW0;have hbw := brf w;obtain ⟨gr, hgr⟩ := exq (w.heap.size + 1);have HGr : Hid (w.heap.size ≤ gr) := hgl hgr;rw [← hgr] at Xr
 try rw [← hgr]
 obtain ⟨gd, hgd⟩ := exq w.heap.size;have HGd : Hid (w.heap.size ≤ gd) := hgl hgd;rw [← hgd] at Xd
 try rw [← hgd]
 have HGD : Hid (gd ≠ gr ∧ gr ≠ gd) := by rw [hgd, hgr]; show _ ∧ _; omega
 clear hgd hgr;replace hbw := bon hbw hb0;clear hb0
 refine (dform_t (H.out.below hbw)).mono ?_
 rintro e v1 ⟨rfl, hb1⟩;replace Xd := B3q.b Xd hb1;replace Xr := B3q.b Xr hb1;replace hbw := bon hbw hb1;clear hb1;obtain ⟨cd0, cd1, cd2, fd0, fd1, fd2⟩ := Xd.out;have hned : gd < v1.heap.size := blt cd0;go_wp2_with fail;clear cd0 cd1 cd2 fd0 fd1 fd2 hned
 refine (zsign (H.out.zn.below hbw)).mono ?_
 rintro e v2 ⟨rfl, hb2⟩;obtain ⟨sg, hsg⟩ := exq (sgnI (z));rw [← hsg]
 have hs0 : (sg == 0) = false := by rw [hsg]; have := HZ.out; unfold sgnI; split <;> (try split) <;> simp <;> omega
 clear hsg;replace Xd := B3q.b Xd hb2;replace Xr := B3q.b Xr hb2;replace hbw := bon hbw hb2;clear hb2;obtain ⟨cd0, cd1, cd2, fd0, fd1, fd2⟩ := Xd.out;have hned : gd < v2.heap.size := blt cd0;go_wp2_with fail;clear cd0 cd1 cd2 fd0 fd1 fd2 hned hs0
 refine (moved_ok e N _ HE.out.1 HE.out.2).mono ?_
 rintro e2 v4 ⟨rfl, hw⟩;obtain rfl := hw.symm;clear hw;obtain ⟨cd0, cd1, cd2, fd0, fd1, fd2⟩ := Xd.out;have hned : gd < v2.heap.size := blt cd0;go_wp2_with fail;clear cd0 cd1 cd2 fd0 fd1 fd2 hned;have HRL : Hid (gr < v2.heap.size ∧ gd < v2.heap.size ∧ w.heap.size ≤ v2.heap.size) := ⟨Xr.out.lt, Xd.out.lt, hbw.size⟩;obtain ⟨xs, hX⟩ := (H.out.zn.below hbw).ex;have N6 : Hid (Nf B64 xs z.natAbs ∧ m ≤ 8192 ∧ s = decide (z < 0)) := ⟨hX.nf, hX.le, H.out.zn.sg⟩
 refine (dcopied s hX.at_ hX.le).mono ?_
 rintro e2 v5 ⟨p5, rfl, ho5, hb5⟩;clear hX;replace Xd := B3q.b Xd hb5;replace Xr := B3q.b Xr hb5;replace hbw := bon hbw hb5;clear hb5;have O5 := hdQ ho5;clear ho5;obtain ⟨hgd0, hgd1⟩ := HGD.out;obtain ⟨cd0, cd1, cd2, fd0, fd1, fd2⟩ := Xd.out;have hned : gd < v5.heap.size := blt cd0;obtain ⟨cr0, cr1, cr2, fr0, fr1, fr2⟩ := Xr.out;have hner : gr < v5.heap.size := blt cr0
 have q2 : (((v5.setCell ⟨gd, 0, none⟩ (.bool s)).setCell ⟨gd, 1, none⟩ (.slice p5 m m)).setCell ⟨gd, 2, none⟩ (.int .i64 e)).cell? ⟨gd, 2, none⟩ = some (.int .i64 e) := by go_simp
 have q3 : ((((v5.setCell ⟨gd, 0, none⟩ (.bool s)).setCell ⟨gd, 1, none⟩ (.slice p5 m m)).setCell ⟨gd, 2, none⟩ (.int .i64 e)).setCell ⟨gd, 2, none⟩ (.int .i64 (e + N))).cell? ⟨gd, 2, none⟩ = some (.int .i64 (e + N)) := World.cell?_setCell_same _ _ _ q2;go_wp2_with fail
 refine bodyPost_ret (v := .tuple #[DV s p5 m m (e + N), .int .i64 0]) (by rw [results_cell_tmp rfl]; go_simp) rfl ⟨_, rfl, ⟨p5, m, xs, by rw [N6.out.2.2], ?_, N6.out.1, N6.out.2.1⟩, ?_⟩
 ·exact own_set3 ((own_set3 O5.out HRL.out.2.1 (Nat.le_refl _) _ _ _).setOld _ _ _ HRL.out.2.1) HRL.out.1 HRL.out.2.2 _ _ _
 ·exact bSet (bSet (bSet (bSet (bSet (bSet (bSet hbw _ _ _ HGd.out) _ _ _ HGd.out) _ _ _ HGd.out) _ _ _ HGd.out) _ _ _ HGr.out) _ _ _ HGr.out) _ _ _ HGr.out
structure It where
 p : Option Addr
 n : Nat
 c : Nat
 xs : List Nat
 a : Nat
structure Lists (w : World) (P : Option Addr) (N C : Nat) (its : List It) : Prop where
 len : its.length = N
 cap : N ≤ C
 big : C ≤ maxLen
 cells : N = 0 ∨ ∃ g off, P = some ⟨g, off, none⟩ ∧ ∀ j (h : j < its.length), w.cell? ⟨g, off + j, none⟩ = some (.slice its[j].p its[j].n its[j].c)
 nums : ∀ t ∈ its, Num w t.p t.n t.c t.xs t.a
theorem Lists.below {w w' : World} {P : Option Addr} {N C : Nat} {its : List It} (h : Lists w P N C its) (hb : Below w.heap.size w w') : Lists w' P N C its := by
  refine ⟨h.len, h.cap, h.big, ?_, fun t ht => (h.nums t ht).below hb⟩
  rcases h.cells with h0 | ⟨g, off, rfl, hc⟩
  · exact .inl h0
  · exact .inr ⟨g, off, rfl, fun j hj => (hb.cell (p := ⟨g, off + j, none⟩) (World.block_lt_of_cell? w _ (hc j hj))).trans (hc j hj)⟩
theorem Lists.b {w w' : World} {P : Option Addr} {N C : Nat} {its : List It} (h : Hid (Lists w P N C its)) (hb : Below w.heap.size w w') : Hid (Lists w' P N C its) := Lists.below h hb
def prodI : List It → Nat
 | [] => 1
 | t :: ts => t.a * prodI ts
theorem Lists.take {w : World} {g off N C : Nat} {its : List It} (h : Lists w (some ⟨g, off, none⟩) N C its) (k : Nat) (hk : k ≤ N) : Lists w (some ⟨g, off, none⟩) k k (its.take k) := by
  have hl := h.len; have hc := h.cap; have hb := h.big
  refine ⟨by rw [List.length_take]; omega, Nat.le_refl _, by omega, ?_, fun t ht => h.nums t (List.mem_of_mem_take ht)⟩
  rcases h.cells with h0 | ⟨g', off', he, hcl⟩
  · exact .inl (by omega)
  · refine .inr ⟨g', off', he, fun j hj => ?_⟩
    have hj2 : j < its.length := by rw [List.length_take] at hj; omega
    rw [hcl j hj2]; simp
theorem Lists.drop {w : World} {g off N C : Nat} {its : List It} (h : Lists w (some ⟨g, off, none⟩) N C its) (k : Nat) (hk : k < N) : Lists w (some ⟨g, off + k, none⟩) (N - k) (C - k) (its.drop k) := by
  have hl := h.len; have hc := h.cap; have hb := h.big
  refine ⟨by rw [List.length_drop]; omega, by omega, by omega, ?_, fun t ht => h.nums t (List.mem_of_mem_drop ht)⟩
  rcases h.cells with h0 | ⟨g', off', he, hcl⟩
  · omega
  · simp only [Option.some.injEq, Addr.mk.injEq, and_true] at he
    obtain ⟨rfl, rfl⟩ := he
    refine .inr ⟨g, off + k, rfl, fun j hj => ?_⟩
    have hj2 : k + j < its.length := by rw [List.length_drop] at hj; omega
    have := hcl (k + j) hj2;rw [← Nat.add_assoc] at this;rw [this]; simp
theorem Lists.pos {w : World} {P : Option Addr} {N C : Nat} {its : List It} (_h : Lists w P N C its) (hp : ∀ t ∈ its, 0 < t.a) : 0 < prodI its := by
  clear _h
  induction its with
  | nil => simp [prodI]
  | cons t ts ih => exact Nat.mul_pos (hp t (by simp)) (ih (fun u hu => hp u (by simp [hu])))
end Go.Proofs.YtpdelpakgdanlaaGreatDoor
namespace Go.Proofs.YtpdelpakgdanlaaGreatDoor
open Go.RowKit
set_option maxRecDepth 20000
set_option maxHeartbeats 0
theorem Nf.drop {xs : List Nat} {a k : Nat} (hx : Nf B64 xs a) (hk : k ≤ xs.length) : Nf B64 (xs.drop k) (a / B64 ^ k) := by
  refine ⟨hx.dig.drop k, ?_, drop_div hx hk⟩
  intro x h
  refine hx.top x ?_
  by_cases hkl : k < xs.length
  · rw [List.getLast?_drop, if_neg (by omega)] at h; exact h
  · rw [List.drop_of_length_le (by omega)] at h; simp at h
theorem Nf.low {xs : List Nat} {a k : Nat} (hx : Nf B64 xs a) (hk : k ≤ xs.length) : Nf B64 (trimL (xs.take k)) (a % B64 ^ k) := by
  have h := Nf.trim (hx.dig.take k);rw [take_mod hx hk] at h; exact h
end Go.Proofs.YtpdelpakgdanlaaGreatDoor
namespace Go.Proofs.YtpdelpakgdanlaaGreatDoor
open Go.RowKit Go.Shelf
set_option maxRecDepth 20000
set_option maxHeartbeats 0
theorem DO.mono {B B' : Nat} {w : World} {s : Bool} {p : Option Addr} {m : Nat} {e z : Int} (h : DO B w s p m e z) (hB : B' ≤ B) : DO B' w s p m e z := by
  obtain ⟨zs, h1, h2, h3⟩ := h.own
  exact ⟨⟨zs, h1.mono hB, h2, h3⟩, h.sg, h.fm⟩
abbrev EV (s : Bool) (p : Option Addr) (m c : Nat) (e : Int) : Value := .agg #[.bool s, .slice p m c, .int .i64 e, .int .i64 0]
theorem stold {p : Option Addr} {m c : Nat} {w : World} {e : Int} {s : Bool} :
  Calls Tryz.prog 29 #[DV s p m c e, .int .i64 0] w fun en w' => en = .returned (EV s p m c e) ∧ Below w.heap.size w w' := by
 go_enter Tryz.func29, Tryz.ntmps29
 go_wp2_with fail
 refine bodyPost_ret (v := EV s p m c e) (by rw [results_cell1 rfl]; go_simp) rfl ⟨rfl, ?_⟩
 first | exact Below.on (below1 w _) (below1 _ _) | exact below2 w _ _ | exact below1 w _ | exact Below.on (below2 w _ _) (below1 _ _)
theorem sbetw {p q : Option Addr} {m c n d : Nat} {w : World} {e f : Int} {s t : Bool} :
  Calls Tryz.prog 28 #[EV s p m c e, EV t q n d f] w fun en w' => en = .returned (.tuple #[SV s p m c e t q n d f, .int .i64 0]) ∧ Below w.heap.size w w' := by
 go_enter Tryz.func28, Tryz.ntmps28
 go_wp2_with fail
 refine bodyPost_ret (v := .tuple #[SV s p m c e t q n d f, .int .i64 0]) (by rw [results_cell_tmp rfl]; go_simp) rfl ⟨rfl, ?_⟩
 first | exact below3 w _ _ _ | exact Below.on (below2 w _ _) (below1 _ _)
theorem dscale_z {p : Option Addr} {m c : Nat} {w : World} {z e N : Int} {s : Bool} (h : DN w s p m c e z) (hz : z = 0) :
  Calls Tryz.prog 67 #[DV s p m c e, .int .i64 N] w fun en w' => en = .returned (.tuple #[DV false none 0 0 0, .int .i64 0]) ∧ Below w.heap.size w w' := by
 have A := hdQ h
 have HS : Hid (sgnI z = 0) := by rw [hz]; rfl
 clear h hz
 go_enter Tryz.func67, Tryz.ntmps67
 go_wp2_with fail;obtain ⟨W0, hW0⟩ := exq ((w.alloc (.cells #[.bool s, .slice p m c, .int .i64 e] 26)).alloc (.cells #[.bool false, .slice none 0 0, .int .i64 0] 26))
 have Xd : Hid (B3q W0 (w.heap.size) (.bool s) (.slice p m c) (.int .i64 e)) := by rw [hW0]; constructor <;> go_simp
 have Xr : Hid (B3q W0 (w.heap.size + 1) (.bool false) (.slice none 0 0) (.int .i64 0)) := by rw [hW0]; constructor <;> go_simp
 have hb0 := bq2 hW0;rw [← hW0];clear hW0;have hbw := brf w;obtain ⟨gr, hgr⟩ := exq (w.heap.size + 1);have HGr : Hid (w.heap.size ≤ gr) := hgl hgr;rw [← hgr] at Xr
 try rw [← hgr]
 obtain ⟨gd, hgd⟩ := exq w.heap.size;have HGd : Hid (w.heap.size ≤ gd) := hgl hgd;rw [← hgd] at Xd
 try rw [← hgd]
 have HGD : Hid (gd ≠ gr ∧ gr ≠ gd) := by rw [hgd, hgr]; show _ ∧ _; omega
 clear hgd hgr;replace hbw := bon hbw hb0;clear hb0
 refine (dform_t (A.out.below hbw)).mono ?_
 rintro e v1 ⟨rfl, hb1⟩;replace Xd := B3q.b Xd hb1;replace Xr := B3q.b Xr hb1;replace hbw := bon hbw hb1;clear hb1;obtain ⟨cd0, cd1, cd2, fd0, fd1, fd2⟩ := Xd.out;have hned : gd < v1.heap.size := blt cd0;go_wp2_with fail;clear cd0 cd1 cd2 fd0 fd1 fd2 hned
 refine (zsign (A.out.zn.below hbw)).mono ?_
 rintro e v2 ⟨rfl, hb2⟩;rw [HS.out];replace Xd := B3q.b Xd hb2;replace Xr := B3q.b Xr hb2;replace hbw := bon hbw hb2;clear hb2;obtain ⟨cr0, cr1, cr2, fr0, fr1, fr2⟩ := Xr.out;have hner : gr < v2.heap.size := blt cr0;go_wp2_with fail
 refine bodyPost_ret (v := .tuple #[DV false none 0 0 0, .int .i64 0]) (by rw [results_cell_tmp rfl]; go_simp) rfl ⟨rfl, ?_⟩
 first | exact hbw | exact (bSet (bSet (bSet hbw _ _ _ HGr.out) _ _ _ HGr.out) _ _ _ HGr.out)
theorem DO.zero (B : Nat) (w : World) : DO B w false none 0 0 0 := ⟨⟨[], Own.empty _ _ _, Nf.nil _, by decide⟩, rfl, .inl ⟨rfl, rfl⟩⟩
theorem dscale0 {p : Option Addr} {m c : Nat} {w : World} {z e : Int} {s : Bool} (h : DN w s p m c e z) :
  Calls Tryz.prog 67 #[DV s p m c e, .int .i64 0] w fun en w' => ∃ s1 p1 m1, en = .returned (.tuple #[DV s1 p1 m1 m1 e, .int .i64 0]) ∧ DO w.heap.size w' s1 p1 m1 e z ∧ Below w.heap.size w w' := by
 by_cases hz : z = 0
 ·have he : e = 0 := by rcases h.fm with ⟨_, h2⟩ | ⟨h2, _⟩; (· exact h2); omega
  refine (dscale_z h hz).mono fun en w' ⟨h1, h2⟩ => ⟨false, none, 0, ?_, ?_, h2⟩
  ·rw [h1, he]
  ·rw [hz, he]; exact DO.zero _ _
 ·refine (dscale (N := 0) h hz (by rcases h.fm with ⟨_, h2⟩ | ⟨_, h2, h3⟩ <;> omega)).mono fun en w' ⟨v, h1, h2, h3⟩ => ?_
  rw [Int.add_zero] at h2;obtain ⟨s1, p1, m1, rfl, h4⟩ := DO.of h2 h.fm
  exact ⟨s1, p1, m1, h1, h4, h3⟩
theorem sscale {p q : Option Addr} {m c n d : Nat} {w : World} {e f : Int} {s t : Bool} {x y : Int} (h : DN w s p m c e x) (k : DN w t q n d f y) (hc : dv x e ≤ dv y f) :
  Calls Tryz.prog 40 #[SV s p m c e t q n d f, .int .i64 0] w fun en w' => ∃ s1 p1 m1 s2 p2 m2, en = .returned (.tuple #[SV s1 p1 m1 m1 e s2 p2 m2 m2 f, .int .i64 0]) ∧ DO w.heap.size w' s1 p1 m1 e x ∧ DO w.heap.size w' s2 p2 m2 f y ∧ Below w.heap.size w w' := by
 have A := hdQ h;have B := hdQ k;have HC : Hid (dv x e ≤ dv y f) := hc;clear h k hc
 go_enter Tryz.func40, Tryz.ntmps40
 go_wp2_with fail;obtain ⟨W0, hW0⟩ := exq ((w.alloc (.cells #[.bool s, .slice p m c, .int .i64 e, .bool t, .slice q n d, .int .i64 f] 28)).alloc (.cells #[.bool false, .slice none 0 0, .int .i64 0, .bool false, .slice none 0 0, .int .i64 0] 28))
 have Xs : Hid (B6q W0 (w.heap.size) (.bool s) (.slice p m c) (.int .i64 e) (.bool t) (.slice q n d) (.int .i64 f)) := by rw [hW0]; constructor <;> go_simp
 have Xr : Hid (B6q W0 (w.heap.size + 1) (.bool false) (.slice none 0 0) (.int .i64 0) (.bool false) (.slice none 0 0) (.int .i64 0)) := by rw [hW0]; constructor <;> go_simp
 have hb0 := bq2 hW0;rw [← hW0];clear hW0;have hbw := brf w;obtain ⟨gr, hgr⟩ := exq (w.heap.size + 1);have HGr : Hid (w.heap.size ≤ gr) := hgl hgr;rw [← hgr] at Xr
 try rw [← hgr]
 obtain ⟨gs, hgs⟩ := exq w.heap.size;have HGs : Hid (w.heap.size ≤ gs) := hgl hgs;rw [← hgs] at Xs
 try rw [← hgs]
 have HGD : Hid (gs ≠ gr ∧ gr ≠ gs) := by rw [hgs, hgr]; show _ ∧ _; omega
 clear hgs hgr;replace hbw := bon hbw hb0;clear hb0
 refine (sform_t (A.out.below hbw) (B.out.below hbw) HC.out).mono ?_
 rintro e v1 ⟨rfl, hb1⟩;replace Xs := B6q.b Xs hb1;replace Xr := B6q.b Xr hb1;replace hbw := bon hbw hb1;clear hb1;obtain ⟨cs0, cs1, cs2, cs3, cs4, cs5, fs0, fs1, fs2, fs3, fs4, fs5⟩ := Xs.out;have hnes : gs < v1.heap.size := blt cs0;go_wp2_with fail;clear cs0 cs1 cs2 cs3 cs4 cs5 fs0 fs1 fs2 fs3 fs4 fs5 hnes;obtain ⟨W5, hW5⟩ := exq v1.drew
 have hbd : Below v1.heap.size v1 W5 := by rw [hW5]; exact bDrew1 (Below.refl _ _)
 replace Xs := B6q.b Xs hbd;replace Xr := B6q.b Xr hbd;replace hbw := bon hbw hbd;clear hbd
 have HJ : Hid ((fun W' : World => W'.cell? ⟨gs, 0, none⟩ = some (.bool s) ∧ W'.cell? ⟨gs, 1, none⟩ = some (.slice p m c) ∧ W'.cell? ⟨gs, 2, none⟩ = some (.int .i64 e) ∧ W'.cell? ⟨gs, 3, none⟩ = some (.bool t) ∧ W'.cell? ⟨gs, 4, none⟩ = some (.slice q n d) ∧ W'.cell? ⟨gs, 5, none⟩ = some (.int .i64 f)) W5) := ⟨Xs.out.c0, Xs.out.c1, Xs.out.c2, Xs.out.c3, Xs.out.c4, Xs.out.c5⟩
 refine wp_region_J (fun W' => W'.cell? ⟨gs, 0, none⟩ = some (.bool s) ∧ W'.cell? ⟨gs, 1, none⟩ = some (.slice p m c) ∧ W'.cell? ⟨gs, 2, none⟩ = some (.int .i64 e) ∧ W'.cell? ⟨gs, 3, none⟩ = some (.bool t) ∧ W'.cell? ⟨gs, 4, none⟩ = some (.slice q n d) ∧ W'.cell? ⟨gs, 5, none⟩ = some (.int .i64 f)) (by kernel_rfl) ?_
 rw [← hW5];clear hW5
 refine wpJ_tq 0 rfl HJ.out ?_
 refine wpJ_tq 1 rfl HJ.out ?_
 refine wpJ_tq 2 rfl HJ.out ?_
 refine wpJ_tq 7 rfl HJ.out ?_
 refine wpJ_tq 8 rfl HJ.out ?_
 go_simp
 refine wpJ_tq 9 rfl HJ.out ?_
 refine wpJ_on 3 rfl fun KJ hK => ?_
 go_simp;have HWL2 : Hid (gr < W5.heap.size ∧ w.heap.size ≤ W5.heap.size) := ⟨Xr.out.lt, hbw.size⟩
 refine (dscale0 (A.out.below hbw)).mono ?_
 rintro e9 v2 ⟨s2, p2, m2, rfl, hd, hb2⟩;replace Xs := B6q.b Xs hb2;replace Xr := B6q.b Xr hb2;replace hbw := bon hbw hb2;clear hb2;have D2 := hdQ hd;clear hd HJ
 have HJ : Hid ((fun W' : World => W'.cell? ⟨gs, 0, none⟩ = some (.bool s) ∧ W'.cell? ⟨gs, 1, none⟩ = some (.slice p m c) ∧ W'.cell? ⟨gs, 2, none⟩ = some (.int .i64 e) ∧ W'.cell? ⟨gs, 3, none⟩ = some (.bool t) ∧ W'.cell? ⟨gs, 4, none⟩ = some (.slice q n d) ∧ W'.cell? ⟨gs, 5, none⟩ = some (.int .i64 f)) v2) := ⟨Xs.out.c0, Xs.out.c1, Xs.out.c2, Xs.out.c3, Xs.out.c4, Xs.out.c5⟩
 refine hK _ _ HJ.out ?_
 clear hK
 refine wpJ_tq 4 rfl HJ.out ?_
 refine wpJ_tq 5 rfl HJ.out ?_
 refine wpJ_on 6 rfl fun KJ hK => ?_
 go_simp
 refine (stold).mono ?_
 rintro e v3 ⟨rfl, hb3⟩;replace Xs := B6q.b Xs hb3;replace Xr := B6q.b Xr hb3;replace D2 := DO.b D2 hb3;replace hbw := bon hbw hb3;clear hb3
 refine hK _ _ ⟨Xs.out.c0, Xs.out.c1, Xs.out.c2, Xs.out.c3, Xs.out.c4, Xs.out.c5⟩ ?_
 clear hK
 refine wpJ_on 10 rfl fun KJ hK => ?_
 go_simp;have HWL4 : Hid (gr < v3.heap.size ∧ w.heap.size ≤ v3.heap.size) := ⟨Xr.out.lt, hbw.size⟩
 refine (dscale0 (B.out.below hbw)).mono ?_
 rintro e9 v4 ⟨s4, p4, m4, rfl, hd, hb4⟩;replace Xs := B6q.b Xs hb4;replace Xr := B6q.b Xr hb4;replace D2 := DO.b D2 hb4;replace hbw := bon hbw hb4;clear hb4;have D4 := hdQ hd;clear hd HJ
 have HJ : Hid ((fun W' : World => W'.cell? ⟨gs, 0, none⟩ = some (.bool s) ∧ W'.cell? ⟨gs, 1, none⟩ = some (.slice p m c) ∧ W'.cell? ⟨gs, 2, none⟩ = some (.int .i64 e) ∧ W'.cell? ⟨gs, 3, none⟩ = some (.bool t) ∧ W'.cell? ⟨gs, 4, none⟩ = some (.slice q n d) ∧ W'.cell? ⟨gs, 5, none⟩ = some (.int .i64 f)) v4) := ⟨Xs.out.c0, Xs.out.c1, Xs.out.c2, Xs.out.c3, Xs.out.c4, Xs.out.c5⟩
 refine hK _ _ HJ.out ?_
 clear hK
 refine wpJ_tq 11 rfl HJ.out ?_
 refine wpJ_tq 12 rfl HJ.out ?_
 refine wpJ_on 13 rfl fun KJ hK => ?_
 go_simp
 refine (stold).mono ?_
 rintro e v5 ⟨rfl, hb5⟩;replace Xs := B6q.b Xs hb5;replace Xr := B6q.b Xr hb5;replace D2 := DO.b D2 hb5;replace D4 := DO.b D4 hb5;replace hbw := bon hbw hb5;clear hb5
 refine hK _ _ ⟨Xs.out.c0, Xs.out.c1, Xs.out.c2, Xs.out.c3, Xs.out.c4, Xs.out.c5⟩ ?_
 clear hK
 refine wpJ_on 14 rfl fun KJ hK => ?_
 go_simp
 refine (sbetw).mono ?_
 rintro e v6 ⟨rfl, hb6⟩;replace Xs := B6q.b Xs hb6;replace Xr := B6q.b Xr hb6;replace D2 := DO.b D2 hb6;replace D4 := DO.b D4 hb6;replace hbw := bon hbw hb6;clear hb6 HJ
 have HJ : Hid ((fun W' : World => W'.cell? ⟨gs, 0, none⟩ = some (.bool s) ∧ W'.cell? ⟨gs, 1, none⟩ = some (.slice p m c) ∧ W'.cell? ⟨gs, 2, none⟩ = some (.int .i64 e) ∧ W'.cell? ⟨gs, 3, none⟩ = some (.bool t) ∧ W'.cell? ⟨gs, 4, none⟩ = some (.slice q n d) ∧ W'.cell? ⟨gs, 5, none⟩ = some (.int .i64 f)) v6) := ⟨Xs.out.c0, Xs.out.c1, Xs.out.c2, Xs.out.c3, Xs.out.c4, Xs.out.c5⟩
 refine hK _ _ HJ.out ?_
 clear hK
 refine wpJ_tq 15 rfl HJ.out ?_
 refine wpJ_tq 16 rfl HJ.out ?_
 obtain ⟨cr0, cr1, cr2, cr3, cr4, cr5, fr0, fr1, fr2, fr3, fr4, fr5⟩ := Xr.out;have hner : gr < v6.heap.size := blt cr0;obtain ⟨cs0, cs1, cs2, cs3, cs4, cs5, fs0, fs1, fs2, fs3, fs4, fs5⟩ := Xs.out;have hnes : gs < v6.heap.size := blt cs0;obtain ⟨hgd0, hgd1⟩ := HGD.out
 refine wpJ_on 17 rfl fun KJ hK => ?_
 go_simp
 have HJ2 : Hid ((fun W' : World => W'.cell? ⟨gs, 0, none⟩ = some (.bool s) ∧ W'.cell? ⟨gs, 1, none⟩ = some (.slice p m c) ∧ W'.cell? ⟨gs, 2, none⟩ = some (.int .i64 e) ∧ W'.cell? ⟨gs, 3, none⟩ = some (.bool t) ∧ W'.cell? ⟨gs, 4, none⟩ = some (.slice q n d) ∧ W'.cell? ⟨gs, 5, none⟩ = some (.int .i64 f)) ((((((v6.setCell ⟨gr, 0, none⟩ (.bool s2)).setCell ⟨gr, 1, none⟩ (.slice p2 m2 m2)).setCell ⟨gr, 2, none⟩ (.int .i64 e)).setCell ⟨gr, 3, none⟩ (.bool s4)).setCell ⟨gr, 4, none⟩ (.slice p4 m4 m4)).setCell ⟨gr, 5, none⟩ (.int .i64 f))) := ⟨by go_simp, by go_simp, by go_simp, by go_simp, by go_simp, by go_simp⟩
 refine hK _ _ HJ2.out ?_
 clear hK HJ;have HJ := HJ2;clear HJ2
 refine wpJ_tq 18 rfl HJ.out ?_
 refine wpJ_done (by kernel_rfl) ?_ _
 clear HJ;go_wp2_with fail
 refine bodyPost_ret (v := .tuple #[SV s2 p2 m2 m2 e s4 p4 m4 m4 f, .int .i64 0]) (by rw [results_cell_tmp rfl]; go_simp) rfl ⟨s2, p2, m2, s4, p4, m4, rfl, ?_, ?_, ?_⟩
 ·exact ((((((D2.out.set _ _ _ HWL2.out.1).set _ _ _ HWL2.out.1).set _ _ _ HWL2.out.1).set _ _ _ HWL2.out.1).set _ _ _ HWL2.out.1).set _ _ _ HWL2.out.1).mono HWL2.out.2
 ·exact ((((((D4.out.set _ _ _ HWL4.out.1).set _ _ _ HWL4.out.1).set _ _ _ HWL4.out.1).set _ _ _ HWL4.out.1).set _ _ _ HWL4.out.1).set _ _ _ HWL4.out.1).mono HWL4.out.2
 ·exact (bSet (bSet (bSet (bSet (bSet (bSet hbw _ _ _ HGr.out) _ _ _ HGr.out) _ _ _ HGr.out) _ _ _ HGr.out) _ _ _ HGr.out) _ _ _ HGr.out)
theorem smake {p q : Option Addr} {m c n d : Nat} {w : World} {e f : Int} {s t : Bool} {x y : Int} (h : DN w s p m c e x) (k : DN w t q n d f y) (hc : dv x e ≤ dv y f) :
  Calls Tryz.prog 18 #[DV s p m c e, DV t q n d f] w fun en w' => ∃ s1 p1 m1 s2 p2 m2, en = .returned (.tuple #[SV s1 p1 m1 m1 e s2 p2 m2 m2 f, .int .i64 0]) ∧ DO w.heap.size w' s1 p1 m1 e x ∧ DO w.heap.size w' s2 p2 m2 f y ∧ Below w.heap.size w w' := by
 have A := hdQ h;have B := hdQ k;have HC : Hid (dv x e ≤ dv y f) := hc;clear h k hc
 go_enter Tryz.func18, Tryz.ntmps18
 go_wp2_with fail;obtain ⟨W0, hW0⟩ := exq (((w.alloc (.cells #[.bool s, .slice p m c, .int .i64 e] 26)).alloc (.cells #[.bool t, .slice q n d, .int .i64 f] 26)).alloc (.cells #[.bool false, .slice none 0 0, .int .i64 0, .bool false, .slice none 0 0, .int .i64 0] 28))
 have Xa : Hid (B3q W0 (w.heap.size) (.bool s) (.slice p m c) (.int .i64 e)) := by rw [hW0]; constructor <;> go_simp
 have Xb : Hid (B3q W0 (w.heap.size + 1) (.bool t) (.slice q n d) (.int .i64 f)) := by rw [hW0]; constructor <;> go_simp
 have Xr : Hid (B6q W0 (w.heap.size + 1 + 1) (.bool false) (.slice none 0 0) (.int .i64 0) (.bool false) (.slice none 0 0) (.int .i64 0)) := by rw [hW0]; constructor <;> go_simp
 have hb0 := bq3 hW0;rw [← hW0];clear hW0;have hbw := brf w;obtain ⟨gr, hgr⟩ := exq (w.heap.size + 1 + 1);have HGr : Hid (w.heap.size ≤ gr) := hgl hgr;rw [← hgr] at Xr
 try rw [← hgr]
 obtain ⟨gb, hgb⟩ := exq (w.heap.size + 1);have HGb : Hid (w.heap.size ≤ gb) := hgl hgb;rw [← hgb] at Xb
 try rw [← hgb]
 obtain ⟨ga, hga⟩ := exq w.heap.size;have HGa : Hid (w.heap.size ≤ ga) := hgl hga;rw [← hga] at Xa
 try rw [← hga]
 have HGD : Hid (ga ≠ gb ∧ ga ≠ gr ∧ gb ≠ ga ∧ gb ≠ gr ∧ gr ≠ ga ∧ gr ≠ gb) := by rw [hga, hgb, hgr]; show _ ∧ _; omega
 clear hga hgb hgr;replace hbw := bon hbw hb0;clear hb0;have HWL : Hid (gr < W0.heap.size ∧ w.heap.size ≤ W0.heap.size) := ⟨Xr.out.lt, hbw.size⟩
 refine (sscale (A.out.below hbw) (B.out.below hbw) HC.out).mono ?_
 rintro e9 v1 ⟨s1, p1, m1, s2, p2, m2, rfl, hd1, hd2, hb1⟩;replace Xa := B3q.b Xa hb1;replace Xb := B3q.b Xb hb1;replace Xr := B6q.b Xr hb1;replace hbw := bon hbw hb1;clear hb1;have D1 := hdQ hd1;have D2 := hdQ hd2;clear hd1 hd2;obtain ⟨cr0, cr1, cr2, cr3, cr4, cr5, fr0, fr1, fr2, fr3, fr4, fr5⟩ := Xr.out;have hner : gr < v1.heap.size := blt cr0;go_wp2_with fail
 refine bodyPost_ret (v := .tuple #[SV s1 p1 m1 m1 e s2 p2 m2 m2 f, .int .i64 0]) (by rw [results_cell_tmp rfl]; go_simp) rfl ⟨s1, p1, m1, s2, p2, m2, rfl, ?_, ?_, ?_⟩
 ·exact ((((((D1.out.set _ _ _ HWL.out.1).set _ _ _ HWL.out.1).set _ _ _ HWL.out.1).set _ _ _ HWL.out.1).set _ _ _ HWL.out.1).set _ _ _ HWL.out.1).mono HWL.out.2
 ·exact ((((((D2.out.set _ _ _ HWL.out.1).set _ _ _ HWL.out.1).set _ _ _ HWL.out.1).set _ _ _ HWL.out.1).set _ _ _ HWL.out.1).set _ _ _ HWL.out.1).mono HWL.out.2
 ·exact (bSet (bSet (bSet (bSet (bSet (bSet hbw _ _ _ HGr.out) _ _ _ HGr.out) _ _ _ HGr.out) _ _ _ HGr.out) _ _ _ HGr.out) _ _ _ HGr.out)
structure Dq where
 s : Bool
 p : Option Addr
 m : Nat
 c : Nat
 e : Int
 z : Int
abbrev Dq.v (d : Dq) : Int := dv d.z d.e
def Dq.ok (w : World) (d : Dq) : Prop := DN w d.s d.p d.m d.c d.e d.z
structure DyL (w : World) (P : Option Addr) (N C : Nat) (l : List Dq) : Prop where
 len : l.length = N
 cap : N ≤ C
 big : C ≤ maxLen
 ats : ∀ d ∈ l, d.ok w
 cells : N = 0 ∨ ∃ g off, P = some ⟨g, off, none⟩ ∧ ∀ i (h : i < l.length), w.cell? ⟨g, off + i * 3, none⟩ = some (.bool l[i].s) ∧ w.cell? ⟨g, off + i * 3 + 1, none⟩ = some (.slice l[i].p l[i].m l[i].c) ∧ w.cell? ⟨g, off + i * 3 + 2, none⟩ = some (.int .i64 l[i].e)
theorem DyL.below {w w' : World} {P : Option Addr} {N C : Nat} {l : List Dq} (h : DyL w P N C l) (hb : Below w.heap.size w w') : DyL w' P N C l := by
  refine ⟨h.len, h.cap, h.big, fun d hd => DN.below (h.ats d hd) hb, ?_⟩
  rcases h.cells with h0 | ⟨g, off, hP, hc⟩
  · exact .inl h0
  · refine .inr ⟨g, off, hP, fun i hi => ?_⟩
    obtain ⟨h0, h1, h2⟩ := hc i hi;have hl : g < w.heap.size := World.block_lt_of_cell? w _ h0
    exact ⟨(hb.cell (p := ⟨g, off + i * 3, none⟩) hl).trans h0, (hb.cell (p := ⟨g, off + i * 3 + 1, none⟩) hl).trans h1, (hb.cell (p := ⟨g, off + i * 3 + 2, none⟩) hl).trans h2⟩
theorem DyL.b {w w' : World} {P : Option Addr} {N C : Nat} {l : List Dq} (h : Hid (DyL w P N C l)) (hb : Below w.heap.size w w') : Hid (DyL w' P N C l) := DyL.below h hb
theorem cmp_le {a b : Int} : cmpI a b ≤ 0 ↔ a ≤ b := by
  unfold cmpI
  split
  · constructor <;> intro _ <;> omega
  · split
    · constructor <;> intro _ <;> omega
    · constructor <;> intro _ <;> omega
theorem DyL.new (W : World) {d : Dq} {ty : TypeId} (h : d.ok W) : DyL (W.alloc (.cells #[.bool d.s, .slice d.p d.m d.c, .int .i64 d.e] ty)) (some ⟨W.heap.size, 0, none⟩) 1 1 [d] := by
  refine ⟨rfl, Nat.le_refl _, by unfold maxLen; decide, fun b hb => ?_, .inr ⟨_, 0, rfl, fun i hi => ?_⟩⟩
  · simp at hb; subst hb; exact DN.below h (below1 W _)
  · have h0 : i = 0 := by simp at hi; exact hi
    subst h0
    constructor <;> go_simp
def IsLst (l : List Dq) (d : Dq) : Prop := d ∈ l ∧ ∀ b ∈ l, d.v ≤ b.v
def IsGrt (l : List Dq) (d : Dq) : Prop := d ∈ l ∧ ∀ b ∈ l, b.v ≤ d.v
theorem IsLst.one (a : Dq) : IsLst [a] a := ⟨by simp, by simp⟩
theorem IsGrt.one (a : Dq) : IsGrt [a] a := ⟨by simp, by simp⟩
theorem IsLst.old {l : List Dq} {a d : Dq} (h : IsLst l d) (hn : ¬ a.v < d.v) : IsLst (l ++ [a]) d := by
  refine ⟨List.mem_append_left _ h.1, fun b hb => ?_⟩
  rcases List.mem_append.1 hb with h1 | h1
  · exact h.2 b h1
  · simp at h1; subst h1; exact Int.not_lt.1 hn
theorem IsLst.new {l : List Dq} {a d : Dq} (h : IsLst l d) (hn : a.v < d.v) : IsLst (l ++ [a]) a := by
  refine ⟨by simp, fun b hb => ?_⟩
  rcases List.mem_append.1 hb with h1 | h1
  · exact Int.le_trans (Int.le_of_lt hn) (h.2 b h1)
  · simp at h1; subst h1; exact Int.le_refl _
theorem IsGrt.old {l : List Dq} {a d : Dq} (h : IsGrt l d) (hn : ¬ d.v < a.v) : IsGrt (l ++ [a]) d := by
  refine ⟨List.mem_append_left _ h.1, fun b hb => ?_⟩
  rcases List.mem_append.1 hb with h1 | h1
  · exact h.2 b h1
  · simp at h1; subst h1; exact Int.not_lt.1 hn
theorem IsGrt.new {l : List Dq} {a d : Dq} (h : IsGrt l d) (hn : d.v < a.v) : IsGrt (l ++ [a]) a := by
  refine ⟨by simp, fun b hb => ?_⟩
  rcases List.mem_append.1 hb with h1 | h1
  · exact Int.le_trans (h.2 b h1) (Int.le_of_lt hn)
  · simp at h1; subst h1; exact Int.le_refl _
theorem IsLst.ok {l : List Dq} {d : Dq} {w : World} (h : IsLst l d) (hl : ∀ b ∈ l, b.ok w) : d.ok w := hl d h.1
theorem IsGrt.ok {l : List Dq} {d : Dq} {w : World} (h : IsGrt l d) (hl : ∀ b ∈ l, b.ok w) : d.ok w := hl d h.1
theorem ok2 {a b : Dq} {w : World} (ha : a.ok w) (hb : b.ok w) : ∀ d ∈ [a, b], d.ok w := by
  intro d hd
  simp only [List.mem_cons, List.not_mem_nil, or_false] at hd
  rcases hd with rfl | rfl
  · exact ha
  · exact hb
theorem IsLst.two {a b d : Dq} (h : IsLst [a, b] d) : d.v = min a.v b.v := by
  have h1 := h.2 a (by simp)
  have h2 := h.2 b (by simp)
  have h3 := h.1
  simp only [List.mem_cons, List.not_mem_nil, or_false] at h3
  rcases h3 with h3 | h3 <;> rw [h3] at h1 h2 ⊢ <;> omega
theorem IsGrt.two {a b d : Dq} (h : IsGrt [a, b] d) : d.v = max a.v b.v := by
  have h1 := h.2 a (by simp)
  have h2 := h.2 b (by simp)
  have h3 := h.1
  simp only [List.mem_cons, List.not_mem_nil, or_false] at h3
  rcases h3 with h3 | h3 <;> rw [h3] at h1 h2 ⊢ <;> omega
theorem satm {p q : Option Addr} {m c n d : Nat} {w : World} {e f : Int} {s t : Bool} {x y : Int} (h : DN w s p m c e x) (k : DN w t q n d f y) :
  Calls Tryz.prog 24 #[DV s p m c e, DV t q n d f] w fun en w' => en = .returned (.bool (decide (dv x e ≤ dv y f))) ∧ Below w.heap.size w w' := by
 have A := hdQ h;have B := hdQ k;clear h k
 go_enter Tryz.func24, Tryz.ntmps24
 go_wp2_with fail;obtain ⟨W0, hW0⟩ := exq ((w.alloc (.cells #[.bool s, .slice p m c, .int .i64 e] 26)).alloc (.cells #[.bool t, .slice q n d, .int .i64 f] 26))
 have Xx : Hid (B3q W0 (w.heap.size) (.bool s) (.slice p m c) (.int .i64 e)) := by rw [hW0]; constructor <;> go_simp
 have Xy : Hid (B3q W0 (w.heap.size + 1) (.bool t) (.slice q n d) (.int .i64 f)) := by rw [hW0]; constructor <;> go_simp
 have hb0 := bq2 hW0;rw [← hW0];clear hW0;have hbw := brf w;obtain ⟨gy, hgy⟩ := exq (w.heap.size + 1);have HGy : Hid (w.heap.size ≤ gy) := hgl hgy;rw [← hgy] at Xy
 try rw [← hgy]
 obtain ⟨gx, hgx⟩ := exq w.heap.size;have HGx : Hid (w.heap.size ≤ gx) := hgl hgx;rw [← hgx] at Xx
 try rw [← hgx]
 have HGD : Hid (gx ≠ gy ∧ gy ≠ gx) := by rw [hgx, hgy]; show _ ∧ _; omega
 clear hgx hgy;replace hbw := bon hbw hb0;clear hb0
 refine (dcmp (A.out.below hbw) (B.out.below hbw)).mono ?_
 rintro e v1 ⟨rfl, hb1⟩;replace Xx := B3q.b Xx hb1;replace Xy := B3q.b Xy hb1;replace hbw := bon hbw hb1;clear hb1;go_wp2_with fail
 go_ret
 exact ⟨congrArg (fun b => Ending.returned (.bool b)) (decide_eq_decide.mpr cmp_le), hbw⟩
theorem slst1 {p q : Option Addr} {m c n d : Nat} {w : World} {e f : Int} {s t : Bool} {x y : Int} (h : DN w s p m c e x) (k : DN w t q n d f y) :
  Calls Tryz.prog 43 #[DV s p m c e, DV t q n d f] w fun en w' => en = .returned (.bool (decide (dv x e < dv y f))) ∧ Below w.heap.size w w' := by
 have A := hdQ h;have B := hdQ k;clear h k
 go_enter Tryz.func43, Tryz.ntmps43
 go_wp2_with fail;obtain ⟨W0, hW0⟩ := exq ((w.alloc (.cells #[.bool s, .slice p m c, .int .i64 e] 26)).alloc (.cells #[.bool t, .slice q n d, .int .i64 f] 26))
 have Xx : Hid (B3q W0 (w.heap.size) (.bool s) (.slice p m c) (.int .i64 e)) := by rw [hW0]; constructor <;> go_simp
 have Xy : Hid (B3q W0 (w.heap.size + 1) (.bool t) (.slice q n d) (.int .i64 f)) := by rw [hW0]; constructor <;> go_simp
 have hb0 := bq2 hW0;rw [← hW0];clear hW0;have hbw := brf w;obtain ⟨gy, hgy⟩ := exq (w.heap.size + 1);have HGy : Hid (w.heap.size ≤ gy) := hgl hgy;rw [← hgy] at Xy
 try rw [← hgy]
 obtain ⟨gx, hgx⟩ := exq w.heap.size;have HGx : Hid (w.heap.size ≤ gx) := hgl hgx;rw [← hgx] at Xx
 try rw [← hgx]
 have HGD : Hid (gx ≠ gy ∧ gy ≠ gx) := by rw [hgx, hgy]; show _ ∧ _; omega
 clear hgx hgy;replace hbw := bon hbw hb0;clear hb0
 refine (satm (B.out.below hbw) (A.out.below hbw)).mono ?_
 rintro e v1 ⟨rfl, hb1⟩;replace Xx := B3q.b Xx hb1;replace Xy := B3q.b Xy hb1;replace hbw := bon hbw hb1;clear hb1;go_wp2_with fail
 go_ret
 exact ⟨congrArg (fun b => Ending.returned (.bool b)) (by rw [← decide_not]; exact decide_eq_decide.mpr Int.not_le), hbw⟩
theorem sgrt1 {p q : Option Addr} {m c n d : Nat} {w : World} {e f : Int} {s t : Bool} {x y : Int} (h : DN w s p m c e x) (k : DN w t q n d f y) :
  Calls Tryz.prog 42 #[DV s p m c e, DV t q n d f] w fun en w' => en = .returned (.bool (decide (dv y f < dv x e))) ∧ Below w.heap.size w w' := by
 have A := hdQ h;have B := hdQ k;clear h k
 go_enter Tryz.func42, Tryz.ntmps42
 go_wp2_with fail;obtain ⟨W0, hW0⟩ := exq ((w.alloc (.cells #[.bool s, .slice p m c, .int .i64 e] 26)).alloc (.cells #[.bool t, .slice q n d, .int .i64 f] 26))
 have Xx : Hid (B3q W0 (w.heap.size) (.bool s) (.slice p m c) (.int .i64 e)) := by rw [hW0]; constructor <;> go_simp
 have Xy : Hid (B3q W0 (w.heap.size + 1) (.bool t) (.slice q n d) (.int .i64 f)) := by rw [hW0]; constructor <;> go_simp
 have hb0 := bq2 hW0;rw [← hW0];clear hW0;have hbw := brf w;obtain ⟨gy, hgy⟩ := exq (w.heap.size + 1);have HGy : Hid (w.heap.size ≤ gy) := hgl hgy;rw [← hgy] at Xy
 try rw [← hgy]
 obtain ⟨gx, hgx⟩ := exq w.heap.size;have HGx : Hid (w.heap.size ≤ gx) := hgl hgx;rw [← hgx] at Xx
 try rw [← hgx]
 have HGD : Hid (gx ≠ gy ∧ gy ≠ gx) := by rw [hgx, hgy]; show _ ∧ _; omega
 clear hgx hgy;replace hbw := bon hbw hb0;clear hb0
 refine (satm (A.out.below hbw) (B.out.below hbw)).mono ?_
 rintro e v1 ⟨rfl, hb1⟩;replace Xx := B3q.b Xx hb1;replace Xy := B3q.b Xy hb1;replace hbw := bon hbw hb1;clear hb1;go_wp2_with fail
 go_ret
 exact ⟨congrArg (fun b => Ending.returned (.bool b)) (by rw [← decide_not]; exact decide_eq_decide.mpr Int.not_le), hbw⟩
theorem sfl {fst : Dq} {P : Option Addr} {N C : Nat} {l : List Dq} {w : World} (h : fst.ok w) (k : DyL w P N C l) :
  Calls Tryz.prog 41 #[.func (.func 43) #[] #[], DV fst.s fst.p fst.m fst.c fst.e, .slice P N C] w fun en w' => ∃ d, en = .returned (DV d.s d.p d.m d.c d.e) ∧ IsLst (fst :: l) d ∧ Below w.heap.size w w' := by
 have A : Hid (fst.ok w) := h;have K := hdQ k;have HLN : Hid (l.length = N) := k.len;have cap := k.cap; have big := k.big;unfold maxLen at big;clear h k
 go_enter Tryz.func41, Tryz.ntmps41
 go_wp2_with fail;obtain ⟨W0, hW0⟩ := exq ((w.alloc (.cells #[.bool fst.s, .slice fst.p fst.m fst.c, .int .i64 fst.e] 26)).alloc (.cells #[.bool false, .slice none 0 0, .int .i64 0] 26))
 have Xf : Hid (B3q W0 (w.heap.size) (.bool fst.s) (.slice fst.p fst.m fst.c) (.int .i64 fst.e)) := by rw [hW0]; constructor <;> go_simp
 have Xr : Hid (B3q W0 (w.heap.size + 1) (.bool false) (.slice none 0 0) (.int .i64 0)) := by rw [hW0]; constructor <;> go_simp
 have hb0 := bq2 hW0;rw [← hW0];clear hW0;have hbw := brf w;obtain ⟨gr, hgr⟩ := exq (w.heap.size + 1);have HGr : Hid (w.heap.size ≤ gr) := hgl hgr;rw [← hgr] at Xr
 try rw [← hgr]
 obtain ⟨gf, hgf⟩ := exq w.heap.size;have HGf : Hid (w.heap.size ≤ gf) := hgl hgf;rw [← hgf] at Xf
 try rw [← hgf]
 have HGD : Hid (gf ≠ gr ∧ gr ≠ gf) := by rw [hgf, hgr]; show _ ∧ _; omega
 clear hgf hgr;replace hbw := bon hbw hb0;clear hb0;have HDF : Hid (gf ≠ gr) := HGD.out.1
 have HRL0 : Hid (∀ d : Dq, d.ok w → True) := fun _ _ => trivial
 clear HRL0
 go_loopg [11] N (fun gg iv wr => ∃ (k : Nat) (d : Dq), k + gg = N ∧ iv = .int .i64 k ∧ IsLst (fst :: l.take k) d ∧ d.ok w ∧ B3q wr gf (.bool d.s) (.slice d.p d.m d.c) (.int .i64 d.e) ∧ B3q wr gr (.bool false) (.slice none 0 0) (.int .i64 0) ∧ Below w.heap.size w wr)
 case atStart => exact ⟨0, fst, by omega, rfl, IsLst.one fst, A.out, Xf.out, Xr.out, hbw⟩
 case round =>
  obtain ⟨k, ⟨s1, p1, m1, c1, e1, z1⟩, hkg, rfl, hmem, hok, hxf, hxr, hbr⟩ := hrel;clear Xf Xr hbw;have Xf := hdQ hxf;have Xr := hdQ hxr;have HOK := hdQ hok;have HM := hdQ hmem;have hbw := hbr;clear hxf hxr hok hmem hbr
  cases gk with
  | zero =>
   obtain rfl : k = N := by omega
   have hnk : ¬ (k : Int) < (k : Int) := by omega
   have htk : l.take k = l := List.take_of_length_le (by have := HLN.out; omega)
   obtain ⟨cf0, cf1, cf2, ff0, ff1, ff2⟩ := Xf.out;have hnef : gf < wr.heap.size := blt cf0;obtain ⟨cr0, cr1, cr2, fr0, fr1, fr2⟩ := Xr.out;have hner : gr < wr.heap.size := blt cr0;go_wp2_with fail
   refine bodyPost_ret (v := DV s1 p1 m1 c1 e1) (by rw [results_cell1 rfl]; go_simp) rfl ⟨⟨s1, p1, m1, c1, e1, z1⟩, rfl, ?_, ?_⟩
   ·have := HM.out; rw [htk] at this; exact this
   ·exact bSet (bSet (bSet hbw _ _ _ HGr.out) _ _ _ HGr.out) _ _ _ HGr.out
  | succ gg =>
   have hki : k < l.length := by have := HLN.out; omega
   have HR := K.out.below hbw
   obtain ⟨g, off, rfl, hc⟩ := HR.cells.resolve_left (by omega)
   obtain ⟨e0, e1', e2'⟩ := hc k hki;have HAT : Hid (l[k].ok w) := K.out.ats l[k] (List.getElem_mem hki);have HLK : Hid (l.take (k + 1) = l.take k ++ [l[k]]) := List.take_succ_eq_append_getElem hki
   have hkk : (k : Int) < (N : Int) := by omega
   have hlt : g < wr.heap.size := World.block_lt_of_cell? wr _ e0;clear hc HR;generalize l[k] = dk at *;obtain ⟨s2, p2, m2, c2, e2, z2⟩ := dk;have HB : Hid (DN w s2 p2 m2 c2 e2 z2) := HAT.out;clear HAT
   simp only at e0 e1' e2'
   obtain ⟨cf0, cf1, cf2, ff0, ff1, ff2⟩ := Xf.out;have hnef : gf < wr.heap.size := blt cf0;go_wp2_with fail;clear cf0 cf1 cf2 ff0 ff1 ff2 hnef e0 e1' e2';have Xo0 : Hid (B3q (wr.alloc (.cells #[.bool s2, .slice p2 m2 c2, .int .i64 e2] 26)) wr.heap.size (.bool s2) (.slice p2 m2 c2) (.int .i64 e2)) := B3q.new wr _ _ _ _;have hbn : Below wr.heap.size wr (wr.alloc (.cells #[.bool s2, .slice p2 m2 c2, .int .i64 e2] 26)) := below1 wr _;generalize wr.alloc (.cells #[.bool s2, .slice p2 m2 c2, .int .i64 e2] 26) = W1 at *;have HGo : Hid (w.heap.size ≤ wr.heap.size) := hbw.size;replace Xf := B3q.b Xf hbn;replace Xr := B3q.b Xr hbn;replace hbw := bon hbw hbn;clear hbn;generalize wr.heap.size = go at *;have Xo := Xo0;clear Xo0
   refine (slst1 (HB.out.below hbw) (HOK.out.below hbw)).mono ?_
   rintro e v3 ⟨rfl, hb3⟩;replace Xf := B3q.b Xf hb3;replace Xr := B3q.b Xr hb3;replace Xo := B3q.b Xo hb3;replace hbw := bon hbw hb3;clear hb3
   by_cases hq : dv z2 e2 < dv z1 e1
   ·have hqd : decide (dv z2 e2 < dv z1 e1) = true := decide_eq_true hq
    rw [hqd];have hne1 : gf ≠ gr := HDF.out
    have hne2 : gr ≠ gf := fun h => hne1 h.symm
    obtain ⟨co0, co1, co2, fo0, fo1, fo2⟩ := Xo.out;have hneo : go < v3.heap.size := blt co0;obtain ⟨cf0, cf1, cf2, ff0, ff1, ff2⟩ := Xf.out;have hnef : gf < v3.heap.size := blt cf0;obtain ⟨cr0, cr1, cr2, fr0, fr1, fr2⟩ := Xr.out;have hner : gr < v3.heap.size := blt cr0;go_wp2_with fail
    have X2 : Hid (B3q (((v3.setCell ⟨gf, 0, none⟩ (.bool s2)).setCell ⟨gf, 1, none⟩ (.slice p2 m2 c2)).setCell ⟨gf, 2, none⟩ (.int .i64 e2)) gf (.bool s2) (.slice p2 m2 c2) (.int .i64 e2)) := ⟨by go_simp, by go_simp, by go_simp, by go_simp, by go_simp, by go_simp⟩
    have X3 : Hid (B3q (((v3.setCell ⟨gf, 0, none⟩ (.bool s2)).setCell ⟨gf, 1, none⟩ (.slice p2 m2 c2)).setCell ⟨gf, 2, none⟩ (.int .i64 e2)) gr (.bool false) (.slice none 0 0) (.int .i64 0)) := ⟨by go_simp, by go_simp, by go_simp, by go_simp, by go_simp, by go_simp⟩
    have hb9 : Below w.heap.size w (((v3.setCell ⟨gf, 0, none⟩ (.bool s2)).setCell ⟨gf, 1, none⟩ (.slice p2 m2 c2)).setCell ⟨gf, 2, none⟩ (.int .i64 e2)) := bSet (bSet (bSet hbw _ _ _ HGf.out) _ _ _ HGf.out) _ _ _ HGf.out
    go_roundg gg
    case measure => omega
    case rel => exact ⟨k + 1, ⟨s2, p2, m2, c2, e2, z2⟩, by omega, by go_num, by rw [HLK.out]; exact HM.out.new hq, HB.out, X2.out, X3.out, hb9⟩
   ·have hqd : decide (dv z2 e2 < dv z1 e1) = false := decide_eq_false hq
    rw [hqd];go_wp2_with fail
    go_roundg gg
    case measure => omega
    case rel => exact ⟨k + 1, ⟨s1, p1, m1, c1, e1, z1⟩, by omega, by go_num, by rw [HLK.out]; exact HM.out.old (Int.not_lt.2 hq), HOK.out, Xf.out, Xr.out, hbw⟩
theorem sfg {fst : Dq} {P : Option Addr} {N C : Nat} {l : List Dq} {w : World} (h : fst.ok w) (k : DyL w P N C l) :
  Calls Tryz.prog 41 #[.func (.func 42) #[] #[], DV fst.s fst.p fst.m fst.c fst.e, .slice P N C] w fun en w' => ∃ d, en = .returned (DV d.s d.p d.m d.c d.e) ∧ IsGrt (fst :: l) d ∧ Below w.heap.size w w' := by
 have A : Hid (fst.ok w) := h;have K := hdQ k;have HLN : Hid (l.length = N) := k.len;have cap := k.cap; have big := k.big;unfold maxLen at big;clear h k
 go_enter Tryz.func41, Tryz.ntmps41
 go_wp2_with fail;obtain ⟨W0, hW0⟩ := exq ((w.alloc (.cells #[.bool fst.s, .slice fst.p fst.m fst.c, .int .i64 fst.e] 26)).alloc (.cells #[.bool false, .slice none 0 0, .int .i64 0] 26))
 have Xf : Hid (B3q W0 (w.heap.size) (.bool fst.s) (.slice fst.p fst.m fst.c) (.int .i64 fst.e)) := by rw [hW0]; constructor <;> go_simp
 have Xr : Hid (B3q W0 (w.heap.size + 1) (.bool false) (.slice none 0 0) (.int .i64 0)) := by rw [hW0]; constructor <;> go_simp
 have hb0 := bq2 hW0;rw [← hW0];clear hW0;have hbw := brf w;obtain ⟨gr, hgr⟩ := exq (w.heap.size + 1);have HGr : Hid (w.heap.size ≤ gr) := hgl hgr;rw [← hgr] at Xr
 try rw [← hgr]
 obtain ⟨gf, hgf⟩ := exq w.heap.size;have HGf : Hid (w.heap.size ≤ gf) := hgl hgf;rw [← hgf] at Xf
 try rw [← hgf]
 have HGD : Hid (gf ≠ gr ∧ gr ≠ gf) := by rw [hgf, hgr]; show _ ∧ _; omega
 clear hgf hgr;replace hbw := bon hbw hb0;clear hb0;have HDF : Hid (gf ≠ gr) := HGD.out.1
 have HRL0 : Hid (∀ d : Dq, d.ok w → True) := fun _ _ => trivial
 clear HRL0
 go_loopg [11] N (fun gg iv wr => ∃ (k : Nat) (d : Dq), k + gg = N ∧ iv = .int .i64 k ∧ IsGrt (fst :: l.take k) d ∧ d.ok w ∧ B3q wr gf (.bool d.s) (.slice d.p d.m d.c) (.int .i64 d.e) ∧ B3q wr gr (.bool false) (.slice none 0 0) (.int .i64 0) ∧ Below w.heap.size w wr)
 case atStart => exact ⟨0, fst, by omega, rfl, IsGrt.one fst, A.out, Xf.out, Xr.out, hbw⟩
 case round =>
  obtain ⟨k, ⟨s1, p1, m1, c1, e1, z1⟩, hkg, rfl, hmem, hok, hxf, hxr, hbr⟩ := hrel;clear Xf Xr hbw;have Xf := hdQ hxf;have Xr := hdQ hxr;have HOK := hdQ hok;have HM := hdQ hmem;have hbw := hbr;clear hxf hxr hok hmem hbr
  cases gk with
  | zero =>
   obtain rfl : k = N := by omega
   have hnk : ¬ (k : Int) < (k : Int) := by omega
   have htk : l.take k = l := List.take_of_length_le (by have := HLN.out; omega)
   obtain ⟨cf0, cf1, cf2, ff0, ff1, ff2⟩ := Xf.out;have hnef : gf < wr.heap.size := blt cf0;obtain ⟨cr0, cr1, cr2, fr0, fr1, fr2⟩ := Xr.out;have hner : gr < wr.heap.size := blt cr0;go_wp2_with fail
   refine bodyPost_ret (v := DV s1 p1 m1 c1 e1) (by rw [results_cell1 rfl]; go_simp) rfl ⟨⟨s1, p1, m1, c1, e1, z1⟩, rfl, ?_, ?_⟩
   ·have := HM.out; rw [htk] at this; exact this
   ·exact bSet (bSet (bSet hbw _ _ _ HGr.out) _ _ _ HGr.out) _ _ _ HGr.out
  | succ gg =>
   have hki : k < l.length := by have := HLN.out; omega
   have HR := K.out.below hbw
   obtain ⟨g, off, rfl, hc⟩ := HR.cells.resolve_left (by omega)
   obtain ⟨e0, e1', e2'⟩ := hc k hki;have HAT : Hid (l[k].ok w) := K.out.ats l[k] (List.getElem_mem hki);have HLK : Hid (l.take (k + 1) = l.take k ++ [l[k]]) := List.take_succ_eq_append_getElem hki
   have hkk : (k : Int) < (N : Int) := by omega
   have hlt : g < wr.heap.size := World.block_lt_of_cell? wr _ e0;clear hc HR;generalize l[k] = dk at *;obtain ⟨s2, p2, m2, c2, e2, z2⟩ := dk;have HB : Hid (DN w s2 p2 m2 c2 e2 z2) := HAT.out;clear HAT
   simp only at e0 e1' e2'
   obtain ⟨cf0, cf1, cf2, ff0, ff1, ff2⟩ := Xf.out;have hnef : gf < wr.heap.size := blt cf0;go_wp2_with fail;clear cf0 cf1 cf2 ff0 ff1 ff2 hnef e0 e1' e2';have Xo0 : Hid (B3q (wr.alloc (.cells #[.bool s2, .slice p2 m2 c2, .int .i64 e2] 26)) wr.heap.size (.bool s2) (.slice p2 m2 c2) (.int .i64 e2)) := B3q.new wr _ _ _ _;have hbn : Below wr.heap.size wr (wr.alloc (.cells #[.bool s2, .slice p2 m2 c2, .int .i64 e2] 26)) := below1 wr _;generalize wr.alloc (.cells #[.bool s2, .slice p2 m2 c2, .int .i64 e2] 26) = W1 at *;have HGo : Hid (w.heap.size ≤ wr.heap.size) := hbw.size;replace Xf := B3q.b Xf hbn;replace Xr := B3q.b Xr hbn;replace hbw := bon hbw hbn;clear hbn;generalize wr.heap.size = go at *;have Xo := Xo0;clear Xo0
   refine (sgrt1 (HB.out.below hbw) (HOK.out.below hbw)).mono ?_
   rintro e v3 ⟨rfl, hb3⟩;replace Xf := B3q.b Xf hb3;replace Xr := B3q.b Xr hb3;replace Xo := B3q.b Xo hb3;replace hbw := bon hbw hb3;clear hb3
   by_cases hq : dv z1 e1 < dv z2 e2
   ·have hqd : decide (dv z1 e1 < dv z2 e2) = true := decide_eq_true hq
    rw [hqd];have hne1 : gf ≠ gr := HDF.out
    have hne2 : gr ≠ gf := fun h => hne1 h.symm
    obtain ⟨co0, co1, co2, fo0, fo1, fo2⟩ := Xo.out;have hneo : go < v3.heap.size := blt co0;obtain ⟨cf0, cf1, cf2, ff0, ff1, ff2⟩ := Xf.out;have hnef : gf < v3.heap.size := blt cf0;obtain ⟨cr0, cr1, cr2, fr0, fr1, fr2⟩ := Xr.out;have hner : gr < v3.heap.size := blt cr0;go_wp2_with fail
    have X2 : Hid (B3q (((v3.setCell ⟨gf, 0, none⟩ (.bool s2)).setCell ⟨gf, 1, none⟩ (.slice p2 m2 c2)).setCell ⟨gf, 2, none⟩ (.int .i64 e2)) gf (.bool s2) (.slice p2 m2 c2) (.int .i64 e2)) := ⟨by go_simp, by go_simp, by go_simp, by go_simp, by go_simp, by go_simp⟩
    have X3 : Hid (B3q (((v3.setCell ⟨gf, 0, none⟩ (.bool s2)).setCell ⟨gf, 1, none⟩ (.slice p2 m2 c2)).setCell ⟨gf, 2, none⟩ (.int .i64 e2)) gr (.bool false) (.slice none 0 0) (.int .i64 0)) := ⟨by go_simp, by go_simp, by go_simp, by go_simp, by go_simp, by go_simp⟩
    have hb9 : Below w.heap.size w (((v3.setCell ⟨gf, 0, none⟩ (.bool s2)).setCell ⟨gf, 1, none⟩ (.slice p2 m2 c2)).setCell ⟨gf, 2, none⟩ (.int .i64 e2)) := bSet (bSet (bSet hbw _ _ _ HGf.out) _ _ _ HGf.out) _ _ _ HGf.out
    go_roundg gg
    case measure => omega
    case rel => exact ⟨k + 1, ⟨s2, p2, m2, c2, e2, z2⟩, by omega, by go_num, by rw [HLK.out]; exact HM.out.new hq, HB.out, X2.out, X3.out, hb9⟩
   ·have hqd : decide (dv z1 e1 < dv z2 e2) = false := decide_eq_false hq
    rw [hqd];go_wp2_with fail
    go_roundg gg
    case measure => omega
    case rel => exact ⟨k + 1, ⟨s1, p1, m1, c1, e1, z1⟩, by omega, by go_num, by rw [HLK.out]; exact HM.out.old (Int.not_lt.2 hq), HOK.out, Xf.out, Xr.out, hbw⟩
theorem slst {fst : Dq} {P : Option Addr} {N C : Nat} {l : List Dq} {w : World} (h : fst.ok w) (k : DyL w P N C l) :
  Calls Tryz.prog 20 #[DV fst.s fst.p fst.m fst.c fst.e, .slice P N C] w fun en w' => ∃ d, en = .returned (DV d.s d.p d.m d.c d.e) ∧ IsLst (fst :: l) d ∧ Below w.heap.size w w' := by
 have A : Hid (fst.ok w) := h;have K := hdQ k
 have hmf : ∀ (fn : Fn) (first cap : Array Value) (w : World), (Instr.makeFunc fn first cap).run Tryz.prog w = .ok (.func fn first cap) w := fun _ _ _ _ => rfl
 clear h k
 go_enter Tryz.func20, Tryz.ntmps20
 go_wp2_with fail;obtain ⟨W0, hW0⟩ := exq ((w.alloc (.cells #[.bool fst.s, .slice fst.p fst.m fst.c, .int .i64 fst.e] 26)).alloc (.cells #[.bool false, .slice none 0 0, .int .i64 0] 26))
 have Xf : Hid (B3q W0 (w.heap.size) (.bool fst.s) (.slice fst.p fst.m fst.c) (.int .i64 fst.e)) := by rw [hW0]; constructor <;> go_simp
 have Xr : Hid (B3q W0 (w.heap.size + 1) (.bool false) (.slice none 0 0) (.int .i64 0)) := by rw [hW0]; constructor <;> go_simp
 have hb0 := bq2 hW0;rw [← hW0];clear hW0;have hbw := brf w;obtain ⟨gr, hgr⟩ := exq (w.heap.size + 1);have HGr : Hid (w.heap.size ≤ gr) := hgl hgr;rw [← hgr] at Xr
 try rw [← hgr]
 obtain ⟨gf, hgf⟩ := exq w.heap.size;have HGf : Hid (w.heap.size ≤ gf) := hgl hgf;rw [← hgf] at Xf
 try rw [← hgf]
 have HGD : Hid (gf ≠ gr ∧ gr ≠ gf) := by rw [hgf, hgr]; show _ ∧ _; omega
 clear hgf hgr;replace hbw := bon hbw hb0;clear hb0
 refine (sfl (fst := fst) (DN.below A.out hbw) (K.out.below hbw)).mono ?_
 rintro e9 v1 ⟨⟨s1, p1, m1, c1, e1, z1⟩, rfl, hd, hb1⟩;replace Xf := B3q.b Xf hb1;replace Xr := B3q.b Xr hb1;replace hbw := bon hbw hb1;clear hb1;obtain ⟨cr0, cr1, cr2, fr0, fr1, fr2⟩ := Xr.out;have hner : gr < v1.heap.size := blt cr0;go_wp2_with fail
 refine bodyPost_ret (v := DV s1 p1 m1 c1 e1) (by rw [results_cell1 rfl]; go_simp) rfl ⟨⟨s1, p1, m1, c1, e1, z1⟩, rfl, hd, ?_⟩
 exact bSet (bSet (bSet hbw _ _ _ HGr.out) _ _ _ HGr.out) _ _ _ HGr.out
theorem sgrt {fst : Dq} {P : Option Addr} {N C : Nat} {l : List Dq} {w : World} (h : fst.ok w) (k : DyL w P N C l) :
  Calls Tryz.prog 19 #[DV fst.s fst.p fst.m fst.c fst.e, .slice P N C] w fun en w' => ∃ d, en = .returned (DV d.s d.p d.m d.c d.e) ∧ IsGrt (fst :: l) d ∧ Below w.heap.size w w' := by
 have A : Hid (fst.ok w) := h;have K := hdQ k
 have hmf : ∀ (fn : Fn) (first cap : Array Value) (w : World), (Instr.makeFunc fn first cap).run Tryz.prog w = .ok (.func fn first cap) w := fun _ _ _ _ => rfl
 clear h k
 go_enter Tryz.func19, Tryz.ntmps19
 go_wp2_with fail;obtain ⟨W0, hW0⟩ := exq ((w.alloc (.cells #[.bool fst.s, .slice fst.p fst.m fst.c, .int .i64 fst.e] 26)).alloc (.cells #[.bool false, .slice none 0 0, .int .i64 0] 26))
 have Xf : Hid (B3q W0 (w.heap.size) (.bool fst.s) (.slice fst.p fst.m fst.c) (.int .i64 fst.e)) := by rw [hW0]; constructor <;> go_simp
 have Xr : Hid (B3q W0 (w.heap.size + 1) (.bool false) (.slice none 0 0) (.int .i64 0)) := by rw [hW0]; constructor <;> go_simp
 have hb0 := bq2 hW0;rw [← hW0];clear hW0;have hbw := brf w;obtain ⟨gr, hgr⟩ := exq (w.heap.size + 1);have HGr : Hid (w.heap.size ≤ gr) := hgl hgr;rw [← hgr] at Xr
 try rw [← hgr]
 obtain ⟨gf, hgf⟩ := exq w.heap.size;have HGf : Hid (w.heap.size ≤ gf) := hgl hgf;rw [← hgf] at Xf
 try rw [← hgf]
 have HGD : Hid (gf ≠ gr ∧ gr ≠ gf) := by rw [hgf, hgr]; show _ ∧ _; omega
 clear hgf hgr;replace hbw := bon hbw hb0;clear hb0
 refine (sfg (fst := fst) (DN.below A.out hbw) (K.out.below hbw)).mono ?_
 rintro e9 v1 ⟨⟨s1, p1, m1, c1, e1, z1⟩, rfl, hd, hb1⟩;replace Xf := B3q.b Xf hb1;replace Xr := B3q.b Xr hb1;replace hbw := bon hbw hb1;clear hb1;obtain ⟨cr0, cr1, cr2, fr0, fr1, fr2⟩ := Xr.out;have hner : gr < v1.heap.size := blt cr0;go_wp2_with fail
 refine bodyPost_ret (v := DV s1 p1 m1 c1 e1) (by rw [results_cell1 rfl]; go_simp) rfl ⟨⟨s1, p1, m1, c1, e1, z1⟩, rfl, hd, ?_⟩
 exact bSet (bSet (bSet hbw _ _ _ HGr.out) _ _ _ HGr.out) _ _ _ HGr.out
theorem shas_t {p q : Option Addr} {m c n d : Nat} {w : World} {e f : Int} {s t : Bool} {r : Option Addr} {a b : Nat} {g z : Int} {u : Bool} {x y : Int} (h : DN w s p m c e x) (k : DN w t q n d f y) (hc : dv x e ≤ dv y f) (k3 : DN w u r a b g z) (hb : dv x e ≤ dv z g) :
  Calls Tryz.prog 9 #[SV s p m c e t q n d f, DV u r a b g] w fun en w' => en = .returned (.tuple #[.bool (decide (dv z g ≤ dv y f)), .int .i64 0]) ∧ Below w.heap.size w w' := by
 have A := hdQ h;have B := hdQ k;have HC : Hid (dv x e ≤ dv y f) := hc;clear h k hc;have D := hdQ k3;have HQ : Hid (decide (dv x e ≤ dv z g) = true) := decide_eq_true hb;clear k3 hb
 go_enter Tryz.func9, Tryz.ntmps9
 go_wp2_with fail;obtain ⟨W0, hW0⟩ := exq ((w.alloc (.cells #[.bool s, .slice p m c, .int .i64 e, .bool t, .slice q n d, .int .i64 f] 28)).alloc (.cells #[.bool u, .slice r a b, .int .i64 g] 26))
 have Xs : Hid (B6q W0 (w.heap.size) (.bool s) (.slice p m c) (.int .i64 e) (.bool t) (.slice q n d) (.int .i64 f)) := by rw [hW0]; constructor <;> go_simp
 have Xd : Hid (B3q W0 (w.heap.size + 1) (.bool u) (.slice r a b) (.int .i64 g)) := by rw [hW0]; constructor <;> go_simp
 have hb0 := bq2 hW0;rw [← hW0];clear hW0;have hbw := brf w;obtain ⟨gd, hgd⟩ := exq (w.heap.size + 1);have HGd : Hid (w.heap.size ≤ gd) := hgl hgd;rw [← hgd] at Xd
 try rw [← hgd]
 obtain ⟨gs, hgs⟩ := exq w.heap.size;have HGs : Hid (w.heap.size ≤ gs) := hgl hgs;rw [← hgs] at Xs
 try rw [← hgs]
 have HGD : Hid (gs ≠ gd ∧ gd ≠ gs) := by rw [hgs, hgd]; show _ ∧ _; omega
 clear hgs hgd;replace hbw := bon hbw hb0;clear hb0
 refine (sform_t (A.out.below hbw) (B.out.below hbw) HC.out).mono ?_
 rintro e v1 ⟨rfl, hb1⟩;replace Xs := B6q.b Xs hb1;replace Xd := B3q.b Xd hb1;replace hbw := bon hbw hb1;clear hb1;obtain ⟨cd0, cd1, cd2, fd0, fd1, fd2⟩ := Xd.out;have hned : gd < v1.heap.size := blt cd0;go_wp2_with fail;clear cd0 cd1 cd2 fd0 fd1 fd2 hned
 refine (dform_t (D.out.below hbw)).mono ?_
 rintro e v2 ⟨rfl, hb2⟩;replace Xs := B6q.b Xs hb2;replace Xd := B3q.b Xd hb2;replace hbw := bon hbw hb2;clear hb2;obtain ⟨cs0, cs1, cs2, cs3, cs4, cs5, fs0, fs1, fs2, fs3, fs4, fs5⟩ := Xs.out;have hnes : gs < v2.heap.size := blt cs0;obtain ⟨cd0, cd1, cd2, fd0, fd1, fd2⟩ := Xd.out;have hned : gd < v2.heap.size := blt cd0;go_wp2_with fail;clear cs0 cs1 cs2 cs3 cs4 cs5 fs0 fs1 fs2 fs3 fs4 fs5 hnes cd0 cd1 cd2 fd0 fd1 fd2 hned
 refine (satm (A.out.below hbw) (D.out.below hbw)).mono ?_
 rintro e v3 ⟨rfl, hb3⟩;rw [HQ.out];replace Xs := B6q.b Xs hb3;replace Xd := B3q.b Xd hb3;replace hbw := bon hbw hb3;clear hb3;obtain ⟨cs0, cs1, cs2, cs3, cs4, cs5, fs0, fs1, fs2, fs3, fs4, fs5⟩ := Xs.out;have hnes : gs < v3.heap.size := blt cs0;obtain ⟨cd0, cd1, cd2, fd0, fd1, fd2⟩ := Xd.out;have hned : gd < v3.heap.size := blt cd0;go_wp2_with fail;clear cs0 cs1 cs2 cs3 cs4 cs5 fs0 fs1 fs2 fs3 fs4 fs5 hnes cd0 cd1 cd2 fd0 fd1 fd2 hned
 refine (satm (D.out.below hbw) (B.out.below hbw)).mono ?_
 rintro e v4 ⟨rfl, hb4⟩;replace Xs := B6q.b Xs hb4;replace Xd := B3q.b Xd hb4;replace hbw := bon hbw hb4;clear hb4;go_wp2_with fail
 go_ret2
 exact ⟨rfl, hbw⟩
theorem shas_f {p q : Option Addr} {m c n d : Nat} {w : World} {e f : Int} {s t : Bool} {r : Option Addr} {a b : Nat} {g z : Int} {u : Bool} {x y : Int} (h : DN w s p m c e x) (k : DN w t q n d f y) (hc : dv x e ≤ dv y f) (k3 : DN w u r a b g z) (hb : ¬ dv x e ≤ dv z g) :
  Calls Tryz.prog 9 #[SV s p m c e t q n d f, DV u r a b g] w fun en w' => en = .returned (.tuple #[.bool false, .int .i64 0]) ∧ Below w.heap.size w w' := by
 have A := hdQ h;have B := hdQ k;have HC : Hid (dv x e ≤ dv y f) := hc;clear h k hc;have D := hdQ k3;have HQ : Hid (decide (dv x e ≤ dv z g) = false) := decide_eq_false hb;clear k3 hb
 go_enter Tryz.func9, Tryz.ntmps9
 go_wp2_with fail;obtain ⟨W0, hW0⟩ := exq ((w.alloc (.cells #[.bool s, .slice p m c, .int .i64 e, .bool t, .slice q n d, .int .i64 f] 28)).alloc (.cells #[.bool u, .slice r a b, .int .i64 g] 26))
 have Xs : Hid (B6q W0 (w.heap.size) (.bool s) (.slice p m c) (.int .i64 e) (.bool t) (.slice q n d) (.int .i64 f)) := by rw [hW0]; constructor <;> go_simp
 have Xd : Hid (B3q W0 (w.heap.size + 1) (.bool u) (.slice r a b) (.int .i64 g)) := by rw [hW0]; constructor <;> go_simp
 have hb0 := bq2 hW0;rw [← hW0];clear hW0;have hbw := brf w;obtain ⟨gd, hgd⟩ := exq (w.heap.size + 1);have HGd : Hid (w.heap.size ≤ gd) := hgl hgd;rw [← hgd] at Xd
 try rw [← hgd]
 obtain ⟨gs, hgs⟩ := exq w.heap.size;have HGs : Hid (w.heap.size ≤ gs) := hgl hgs;rw [← hgs] at Xs
 try rw [← hgs]
 have HGD : Hid (gs ≠ gd ∧ gd ≠ gs) := by rw [hgs, hgd]; show _ ∧ _; omega
 clear hgs hgd;replace hbw := bon hbw hb0;clear hb0
 refine (sform_t (A.out.below hbw) (B.out.below hbw) HC.out).mono ?_
 rintro e v1 ⟨rfl, hb1⟩;replace Xs := B6q.b Xs hb1;replace Xd := B3q.b Xd hb1;replace hbw := bon hbw hb1;clear hb1;obtain ⟨cd0, cd1, cd2, fd0, fd1, fd2⟩ := Xd.out;have hned : gd < v1.heap.size := blt cd0;go_wp2_with fail;clear cd0 cd1 cd2 fd0 fd1 fd2 hned
 refine (dform_t (D.out.below hbw)).mono ?_
 rintro e v2 ⟨rfl, hb2⟩;replace Xs := B6q.b Xs hb2;replace Xd := B3q.b Xd hb2;replace hbw := bon hbw hb2;clear hb2;obtain ⟨cs0, cs1, cs2, cs3, cs4, cs5, fs0, fs1, fs2, fs3, fs4, fs5⟩ := Xs.out;have hnes : gs < v2.heap.size := blt cs0;obtain ⟨cd0, cd1, cd2, fd0, fd1, fd2⟩ := Xd.out;have hned : gd < v2.heap.size := blt cd0;go_wp2_with fail;clear cs0 cs1 cs2 cs3 cs4 cs5 fs0 fs1 fs2 fs3 fs4 fs5 hnes cd0 cd1 cd2 fd0 fd1 fd2 hned
 refine (satm (A.out.below hbw) (D.out.below hbw)).mono ?_
 rintro e v3 ⟨rfl, hb3⟩;rw [HQ.out];replace Xs := B6q.b Xs hb3;replace Xd := B3q.b Xd hb3;replace hbw := bon hbw hb3;clear hb3;obtain ⟨cs0, cs1, cs2, cs3, cs4, cs5, fs0, fs1, fs2, fs3, fs4, fs5⟩ := Xs.out;have hnes : gs < v3.heap.size := blt cs0;obtain ⟨cd0, cd1, cd2, fd0, fd1, fd2⟩ := Xd.out;have hned : gd < v3.heap.size := blt cd0;go_wp2_with fail;clear cs0 cs1 cs2 cs3 cs4 cs5 fs0 fs1 fs2 fs3 fs4 fs5 hnes cd0 cd1 cd2 fd0 fd1 fd2 hned
 go_ret2
 exact ⟨rfl, hbw⟩
theorem shas {p q : Option Addr} {m c n d : Nat} {w : World} {e f : Int} {s t : Bool} {r : Option Addr} {a b : Nat} {g z : Int} {u : Bool} {x y : Int} (h : DN w s p m c e x) (k : DN w t q n d f y) (hc : dv x e ≤ dv y f) (k3 : DN w u r a b g z) :
  Calls Tryz.prog 9 #[SV s p m c e t q n d f, DV u r a b g] w fun en w' => en = .returned (.tuple #[.bool (decide (dv x e ≤ dv z g ∧ dv z g ≤ dv y f)), .int .i64 0]) ∧ Below w.heap.size w w' := by
 by_cases hb : dv x e ≤ dv z g
 ·refine (shas_t h k hc k3 hb).mono fun en w' ⟨h1, h2⟩ => ⟨?_, h2⟩
  rw [h1, decide_eq_decide.mpr (show (dv x e ≤ dv z g ∧ dv z g ≤ dv y f) ↔ dv z g ≤ dv y f from ⟨fun h => h.2, fun h => ⟨hb, h⟩⟩)]
 ·refine (shas_f h k hc k3 hb).mono fun en w' ⟨h1, h2⟩ => ⟨?_, h2⟩
  rw [h1, decide_eq_false (fun h => hb h.1)]
theorem wpJ_nodes5 {P : Program} {md : Region.Mode} {ops : Array Oper} {Q : Exit → Act → World → Prop} {J : World → Prop} {fuel : Nat} {listed : Array Bool} {a : Act} {w : World} (h : ∀ WP : Nat → Array Bool → Act → World → Prop, WP = wpJ P md ops Q J → ∀ L a0, L = listed → a0 = a → WP fuel L a0 w) : wpJ P md ops Q J fuel listed a w := h _ rfl _ _ rfl rfl
theorem wpJ_same5 {P : Program} {md : Region.Mode} {ops : Array Oper} {Q : Exit → Act → World → Prop} {J : World → Prop} {fuel : Nat} {L L' : Array Bool} {a a' : Act} {w : World} (h1 : L = L') (h2 : a = a') (h : wpJ P md ops Q J fuel L a w) : wpJ P md ops Q J fuel L' a' w := by
  subst h1 h2; exact h
theorem Hid.mk5 {p : Prop} (h : p) : Hid p := h
abbrev SQ (a b : Dq) : Value := SV a.s a.p a.m a.c a.e b.s b.p b.m b.c b.e
def SpA (B : Nat) (w' : World) (en : Ending) (z1 e1 z2 e2 : Int) : Prop := ∃ s1 p1 m1 s2 p2 m2, en = .returned (.tuple #[SV s1 p1 m1 m1 e1 s2 p2 m2 m2 e2, .int .i64 0]) ∧ DO B w' s1 p1 m1 e1 z1 ∧ DO B w' s2 p2 m2 e2 z2
theorem Dq.ok.below {w w' : World} {d : Dq} (h : d.ok w) (hb : Below w.heap.size w w') : d.ok w' := DN.below h hb
theorem shull {d1 d2 d3 d4 : Dq} {w : World} (h1 : d1.ok w) (h2 : d2.ok w) (h3 : d3.ok w) (h4 : d4.ok w) (hc1 : d1.v ≤ d2.v) (hc2 : d3.v ≤ d4.v) :
  Calls Tryz.prog 7 #[SQ d1 d2, SQ d3 d4] w fun en w' => ∃ z1 e1 z2 e2, SpA w.heap.size w' en z1 e1 z2 e2 ∧ dv z1 e1 = min d1.v d3.v ∧ dv z2 e2 = max d2.v d4.v ∧ Below w.heap.size w w' := by
 have A1 : Hid (d1.ok w) := h1;have A2 : Hid (d2.ok w) := h2;have A3 : Hid (d3.ok w) := h3;have A4 : Hid (d4.ok w) := h4;have HC : Hid (d1.v ≤ d2.v ∧ d3.v ≤ d4.v) := ⟨hc1, hc2⟩;clear h1 h2 h3 h4 hc1 hc2
 go_enter Tryz.func7, Tryz.ntmps7
 go_wp2_with fail;obtain ⟨W0, hW0⟩ := exq (((w.alloc (.cells #[.bool d1.s, .slice d1.p d1.m d1.c, .int .i64 d1.e, .bool d2.s, .slice d2.p d2.m d2.c, .int .i64 d2.e] 28)).alloc (.cells #[.bool d3.s, .slice d3.p d3.m d3.c, .int .i64 d3.e, .bool d4.s, .slice d4.p d4.m d4.c, .int .i64 d4.e] 28)).alloc (.cells #[.bool false, .slice none 0 0, .int .i64 0, .bool false, .slice none 0 0, .int .i64 0] 28))
 have Xa : Hid (B6q W0 (w.heap.size) (.bool d1.s) (.slice d1.p d1.m d1.c) (.int .i64 d1.e) (.bool d2.s) (.slice d2.p d2.m d2.c) (.int .i64 d2.e)) := by rw [hW0]; constructor <;> go_simp
 have Xb : Hid (B6q W0 (w.heap.size + 1) (.bool d3.s) (.slice d3.p d3.m d3.c) (.int .i64 d3.e) (.bool d4.s) (.slice d4.p d4.m d4.c) (.int .i64 d4.e)) := by rw [hW0]; constructor <;> go_simp
 have Xr : Hid (B6q W0 (w.heap.size + 1 + 1) (.bool false) (.slice none 0 0) (.int .i64 0) (.bool false) (.slice none 0 0) (.int .i64 0)) := by rw [hW0]; constructor <;> go_simp
 have hb0 := bq3 hW0;rw [← hW0];clear hW0;have hbw := brf w;obtain ⟨gr, hgr⟩ := exq (w.heap.size + 1 + 1);have HGr : Hid (w.heap.size ≤ gr) := hgl hgr;rw [← hgr] at Xr
 try rw [← hgr]
 obtain ⟨gb, hgb⟩ := exq (w.heap.size + 1);have HGb : Hid (w.heap.size ≤ gb) := hgl hgb;rw [← hgb] at Xb
 try rw [← hgb]
 obtain ⟨ga, hga⟩ := exq w.heap.size;have HGa : Hid (w.heap.size ≤ ga) := hgl hga;rw [← hga] at Xa
 try rw [← hga]
 have HGD : Hid (ga ≠ gb ∧ ga ≠ gr ∧ gb ≠ ga ∧ gb ≠ gr ∧ gr ≠ ga ∧ gr ≠ gb) := by rw [hga, hgb, hgr]; show _ ∧ _; omega
 clear hga hgb hgr;replace hbw := bon hbw hb0;clear hb0
 refine (sform_t (DN.below A1.out hbw) (DN.below A2.out hbw) HC.out.1).mono ?_
 rintro e v1 ⟨rfl, hb1⟩;replace Xa := B6q.b Xa hb1;replace Xb := B6q.b Xb hb1;replace Xr := B6q.b Xr hb1;replace hbw := bon hbw hb1;clear hb1;obtain ⟨cb0, cb1, cb2, cb3, cb4, cb5, fb0, fb1, fb2, fb3, fb4, fb5⟩ := Xb.out;have hneb : gb < v1.heap.size := blt cb0;go_wp2_with fail;clear cb0 cb1 cb2 cb3 cb4 cb5 fb0 fb1 fb2 fb3 fb4 fb5 hneb
 refine (sform_t (DN.below A3.out hbw) (DN.below A4.out hbw) HC.out.2).mono ?_
 rintro e v2 ⟨rfl, hb2⟩;replace Xa := B6q.b Xa hb2;replace Xb := B6q.b Xb hb2;replace Xr := B6q.b Xr hb2;replace hbw := bon hbw hb2;clear hb2;obtain ⟨ca0, ca1, ca2, ca3, ca4, ca5, fa0, fa1, fa2, fa3, fa4, fa5⟩ := Xa.out;have hnea : ga < v2.heap.size := blt ca0;obtain ⟨cb0, cb1, cb2, cb3, cb4, cb5, fb0, fb1, fb2, fb3, fb4, fb5⟩ := Xb.out;have hneb : gb < v2.heap.size := blt cb0;go_wp2_with fail;clear ca0 ca1 ca2 ca3 ca4 ca5 fa0 fa1 fa2 fa3 fa4 fa5 hnea cb0 cb1 cb2 cb3 cb4 cb5 fb0 fb1 fb2 fb3 fb4 fb5 hneb;obtain ⟨W5, hW5⟩ := exq v2.drew
 have hbd : Below v2.heap.size v2 W5 := by rw [hW5]; exact bDrew1 (Below.refl _ _)
 replace Xa := B6q.b Xa hbd;replace Xb := B6q.b Xb hbd;replace Xr := B6q.b Xr hbd;replace hbw := bon hbw hbd;clear hbd
 have HJ : Hid ((fun W' : World => W'.cell? ⟨ga, 0, none⟩ = some (.bool d1.s) ∧ W'.cell? ⟨ga, 1, none⟩ = some (.slice d1.p d1.m d1.c) ∧ W'.cell? ⟨ga, 2, none⟩ = some (.int .i64 d1.e) ∧ W'.cell? ⟨ga, 3, none⟩ = some (.bool d2.s) ∧ W'.cell? ⟨ga, 4, none⟩ = some (.slice d2.p d2.m d2.c) ∧ W'.cell? ⟨ga, 5, none⟩ = some (.int .i64 d2.e) ∧ W'.cell? ⟨gb, 0, none⟩ = some (.bool d3.s) ∧ W'.cell? ⟨gb, 1, none⟩ = some (.slice d3.p d3.m d3.c) ∧ W'.cell? ⟨gb, 2, none⟩ = some (.int .i64 d3.e) ∧ W'.cell? ⟨gb, 3, none⟩ = some (.bool d4.s) ∧ W'.cell? ⟨gb, 4, none⟩ = some (.slice d4.p d4.m d4.c) ∧ W'.cell? ⟨gb, 5, none⟩ = some (.int .i64 d4.e)) W5) := ⟨Xa.out.c0, Xa.out.c1, Xa.out.c2, Xa.out.c3, Xa.out.c4, Xa.out.c5, Xb.out.c0, Xb.out.c1, Xb.out.c2, Xb.out.c3, Xb.out.c4, Xb.out.c5⟩
 refine wp_region_J (fun W' => W'.cell? ⟨ga, 0, none⟩ = some (.bool d1.s) ∧ W'.cell? ⟨ga, 1, none⟩ = some (.slice d1.p d1.m d1.c) ∧ W'.cell? ⟨ga, 2, none⟩ = some (.int .i64 d1.e) ∧ W'.cell? ⟨ga, 3, none⟩ = some (.bool d2.s) ∧ W'.cell? ⟨ga, 4, none⟩ = some (.slice d2.p d2.m d2.c) ∧ W'.cell? ⟨ga, 5, none⟩ = some (.int .i64 d2.e) ∧ W'.cell? ⟨gb, 0, none⟩ = some (.bool d3.s) ∧ W'.cell? ⟨gb, 1, none⟩ = some (.slice d3.p d3.m d3.c) ∧ W'.cell? ⟨gb, 2, none⟩ = some (.int .i64 d3.e) ∧ W'.cell? ⟨gb, 3, none⟩ = some (.bool d4.s) ∧ W'.cell? ⟨gb, 4, none⟩ = some (.slice d4.p d4.m d4.c) ∧ W'.cell? ⟨gb, 5, none⟩ = some (.int .i64 d4.e)) (by kernel_rfl) ?_
 rw [← hW5];clear hW5
 refine wpJ_tq 0 rfl HJ.out ?_
 refine wpJ_tq 1 rfl HJ.out ?_
 refine wpJ_tq 2 rfl HJ.out ?_
 refine wpJ_tq 3 rfl HJ.out ?_
 go_simp
 refine wpJ_tq 6 rfl HJ.out ?_
 refine wpJ_tq 7 rfl HJ.out ?_
 refine wpJ_tq 8 rfl HJ.out ?_
 refine wpJ_tq 9 rfl HJ.out ?_
 go_simp
 obtain ⟨FQ, hFQ⟩ : ∃ F : World → Prop, Hid (∀ W', F W' ↔ (B6q W' ga (.bool d1.s) (.slice d1.p d1.m d1.c) (.int .i64 d1.e) (.bool d2.s) (.slice d2.p d2.m d2.c) (.int .i64 d2.e) ∧ B6q W' gb (.bool d3.s) (.slice d3.p d3.m d3.c) (.int .i64 d3.e) (.bool d4.s) (.slice d4.p d4.m d4.c) (.int .i64 d4.e) ∧ B6q W' gr (.bool false) (.slice none 0 0) (.int .i64 0) (.bool false) (.slice none 0 0) (.int .i64 0) ∧ Below w.heap.size w W')) := ⟨fun W' => B6q W' ga (.bool d1.s) (.slice d1.p d1.m d1.c) (.int .i64 d1.e) (.bool d2.s) (.slice d2.p d2.m d2.c) (.int .i64 d2.e) ∧ B6q W' gb (.bool d3.s) (.slice d3.p d3.m d3.c) (.int .i64 d3.e) (.bool d4.s) (.slice d4.p d4.m d4.c) (.int .i64 d4.e) ∧ B6q W' gr (.bool false) (.slice none 0 0) (.int .i64 0) (.bool false) (.slice none 0 0) (.int .i64 0) ∧ Below w.heap.size w W', fun _ => Iff.rfl⟩
 have HFB : Hid (∀ W' W2, FQ W' → Below W'.heap.size W' W2 → FQ W2) := fun W' W2 h hb => by
  have h1 := (hFQ.out W').1 h
  exact (hFQ.out W2).2 ⟨h1.1.below hb, h1.2.1.below hb, h1.2.2.1.below hb, Below.on h1.2.2.2 hb⟩
 have HFJ : Hid (∀ W', FQ W' → (fun W' : World => W'.cell? ⟨ga, 0, none⟩ = some (.bool d1.s) ∧ W'.cell? ⟨ga, 1, none⟩ = some (.slice d1.p d1.m d1.c) ∧ W'.cell? ⟨ga, 2, none⟩ = some (.int .i64 d1.e) ∧ W'.cell? ⟨ga, 3, none⟩ = some (.bool d2.s) ∧ W'.cell? ⟨ga, 4, none⟩ = some (.slice d2.p d2.m d2.c) ∧ W'.cell? ⟨ga, 5, none⟩ = some (.int .i64 d2.e) ∧ W'.cell? ⟨gb, 0, none⟩ = some (.bool d3.s) ∧ W'.cell? ⟨gb, 1, none⟩ = some (.slice d3.p d3.m d3.c) ∧ W'.cell? ⟨gb, 2, none⟩ = some (.int .i64 d3.e) ∧ W'.cell? ⟨gb, 3, none⟩ = some (.bool d4.s) ∧ W'.cell? ⟨gb, 4, none⟩ = some (.slice d4.p d4.m d4.c) ∧ W'.cell? ⟨gb, 5, none⟩ = some (.int .i64 d4.e)) W') := fun W' h => by
  have h1 := (hFQ.out W').1 h
  exact ⟨h1.1.c0, h1.1.c1, h1.1.c2, h1.1.c3, h1.1.c4, h1.1.c5, h1.2.1.c0, h1.2.1.c1, h1.2.1.c2, h1.2.1.c3, h1.2.1.c4, h1.2.1.c5⟩
 refine wpJ_nodes5 fun WP hWP L0 a0 hL ha => ?_
 have N4_10_5_11 : ∀ (k4 : Nat) (k10 : Nat) (s5 : Bool) (p5 : Option Addr) (m5 : Nat) (c5 : Nat) (e5 : Int) (z5 : Int) (s11 : Bool) (p11 : Option Addr) (m11 : Nat) (c11 : Nat) (e11 : Int) (z11 : Int) (W' : World), (FQ W') ∧ (DyL W' (some ⟨k4, 0, none⟩) 1 1 [d3]) ∧ (DyL W' (some ⟨k10, 0, none⟩) 1 1 [d4]) ∧ (IsLst [d1, d3] (⟨s5, p5, m5, c5, e5, z5⟩ : Dq)) ∧ (IsGrt [d2, d4] (⟨s11, p11, m11, c11, e11, z11⟩ : Dq)) → WP 5 ((((L0.setIfInBounds 4 true).setIfInBounds 10 true).setIfInBounds 5 true).setIfInBounds 11 true) ((((a0.put (some 19) (.slice (some ⟨k4, 0, none⟩) 1 1)).put (some 25) (.slice (some ⟨k10, 0, none⟩) 1 1)).put (some 20) (DV s5 p5 m5 c5 e5)).put (some 26) (DV s11 p11 m11 c11 e11)) W' := by
  rintro k4 k10 s5 p5 m5 c5 e5 z5 s11 p11 m11 c11 e11 z11 W' ⟨fq, l4, l10, i5, i11⟩;subst hWP hL ha;have Hl4 := Hid.mk5 l4;have Hl10 := Hid.mk5 l10;have Hi5 := Hid.mk5 i5;have Hi11 := Hid.mk5 i11;clear l4 l10 i5 i11;obtain ⟨hxa, hxb, hxr, hbw⟩ := (hFQ.out W').1 fq;have Hxa := Hid.mk5 hxa;have Hxb := Hid.mk5 hxb;have Hxr := Hid.mk5 hxr;clear hxa hxb hxr;go_simp;have Xa := Hxa;have Xb := Hxb;have Xr := Hxr;clear Hxa Hxb Hxr
  have HJ : Hid ((fun W' : World => W'.cell? ⟨ga, 0, none⟩ = some (.bool d1.s) ∧ W'.cell? ⟨ga, 1, none⟩ = some (.slice d1.p d1.m d1.c) ∧ W'.cell? ⟨ga, 2, none⟩ = some (.int .i64 d1.e) ∧ W'.cell? ⟨ga, 3, none⟩ = some (.bool d2.s) ∧ W'.cell? ⟨ga, 4, none⟩ = some (.slice d2.p d2.m d2.c) ∧ W'.cell? ⟨ga, 5, none⟩ = some (.int .i64 d2.e) ∧ W'.cell? ⟨gb, 0, none⟩ = some (.bool d3.s) ∧ W'.cell? ⟨gb, 1, none⟩ = some (.slice d3.p d3.m d3.c) ∧ W'.cell? ⟨gb, 2, none⟩ = some (.int .i64 d3.e) ∧ W'.cell? ⟨gb, 3, none⟩ = some (.bool d4.s) ∧ W'.cell? ⟨gb, 4, none⟩ = some (.slice d4.p d4.m d4.c) ∧ W'.cell? ⟨gb, 5, none⟩ = some (.int .i64 d4.e)) W') := ⟨Xa.out.c0, Xa.out.c1, Xa.out.c2, Xa.out.c3, Xa.out.c4, Xa.out.c5, Xb.out.c0, Xb.out.c1, Xb.out.c2, Xb.out.c3, Xb.out.c4, Xb.out.c5⟩
  have HWL : Hid (gr < W'.heap.size ∧ w.heap.size ≤ W'.heap.size) := ⟨Xr.out.lt, hbw.size⟩;have HOA : Hid (DN W' s5 p5 m5 c5 e5 z5) := Hi5.out.ok (ok2 (DN.below A1.out hbw) (DN.below A3.out hbw));have HOB : Hid (DN W' s11 p11 m11 c11 e11 z11) := Hi11.out.ok (ok2 (DN.below A2.out hbw) (DN.below A4.out hbw))
  refine wpJ_on 12 rfl fun KJ hK => ?_
  go_simp
  refine (smake (x := z5) (y := z11) HOA.out HOB.out (by have h1 : dv z5 e5 = min d1.v d3.v := Hi5.out.two; have h2 : dv z11 e11 = max d2.v d4.v := Hi11.out.two; have h3 := HC.out; show dv z5 e5 ≤ dv z11 e11; omega)).mono ?_
  rintro e9 v3 ⟨s1, p1, m1, s2, p2, m2, rfl, hd1, hd2, hb3⟩;replace Xa := B6q.b Xa hb3;replace Xb := B6q.b Xb hb3;replace Xr := B6q.b Xr hb3;replace hbw := bon hbw hb3;clear hb3;have D1 := hdQ hd1;have D2 := hdQ hd2;clear hd1 hd2 HJ
  have HJ : Hid ((fun W' : World => W'.cell? ⟨ga, 0, none⟩ = some (.bool d1.s) ∧ W'.cell? ⟨ga, 1, none⟩ = some (.slice d1.p d1.m d1.c) ∧ W'.cell? ⟨ga, 2, none⟩ = some (.int .i64 d1.e) ∧ W'.cell? ⟨ga, 3, none⟩ = some (.bool d2.s) ∧ W'.cell? ⟨ga, 4, none⟩ = some (.slice d2.p d2.m d2.c) ∧ W'.cell? ⟨ga, 5, none⟩ = some (.int .i64 d2.e) ∧ W'.cell? ⟨gb, 0, none⟩ = some (.bool d3.s) ∧ W'.cell? ⟨gb, 1, none⟩ = some (.slice d3.p d3.m d3.c) ∧ W'.cell? ⟨gb, 2, none⟩ = some (.int .i64 d3.e) ∧ W'.cell? ⟨gb, 3, none⟩ = some (.bool d4.s) ∧ W'.cell? ⟨gb, 4, none⟩ = some (.slice d4.p d4.m d4.c) ∧ W'.cell? ⟨gb, 5, none⟩ = some (.int .i64 d4.e)) v3) := ⟨Xa.out.c0, Xa.out.c1, Xa.out.c2, Xa.out.c3, Xa.out.c4, Xa.out.c5, Xb.out.c0, Xb.out.c1, Xb.out.c2, Xb.out.c3, Xb.out.c4, Xb.out.c5⟩
  refine hK _ _ HJ.out ?_
  clear hK
  refine wpJ_tq 13 rfl HJ.out ?_
  refine wpJ_tq 14 rfl HJ.out ?_
  obtain ⟨cr0, cr1, cr2, cr3, cr4, cr5, fr0, fr1, fr2, fr3, fr4, fr5⟩ := Xr.out;have hner : gr < v3.heap.size := blt cr0;obtain ⟨ca0, ca1, ca2, ca3, ca4, ca5, fa0, fa1, fa2, fa3, fa4, fa5⟩ := Xa.out;have hnea : ga < v3.heap.size := blt ca0;obtain ⟨cb0, cb1, cb2, cb3, cb4, cb5, fb0, fb1, fb2, fb3, fb4, fb5⟩ := Xb.out;have hneb : gb < v3.heap.size := blt cb0;obtain ⟨hgd0, hgd1, hgd2, hgd3, hgd4, hgd5⟩ := HGD.out
  refine wpJ_on 15 rfl fun KJ hK => ?_
  go_simp
  have HJ2 : Hid ((fun W' : World => W'.cell? ⟨ga, 0, none⟩ = some (.bool d1.s) ∧ W'.cell? ⟨ga, 1, none⟩ = some (.slice d1.p d1.m d1.c) ∧ W'.cell? ⟨ga, 2, none⟩ = some (.int .i64 d1.e) ∧ W'.cell? ⟨ga, 3, none⟩ = some (.bool d2.s) ∧ W'.cell? ⟨ga, 4, none⟩ = some (.slice d2.p d2.m d2.c) ∧ W'.cell? ⟨ga, 5, none⟩ = some (.int .i64 d2.e) ∧ W'.cell? ⟨gb, 0, none⟩ = some (.bool d3.s) ∧ W'.cell? ⟨gb, 1, none⟩ = some (.slice d3.p d3.m d3.c) ∧ W'.cell? ⟨gb, 2, none⟩ = some (.int .i64 d3.e) ∧ W'.cell? ⟨gb, 3, none⟩ = some (.bool d4.s) ∧ W'.cell? ⟨gb, 4, none⟩ = some (.slice d4.p d4.m d4.c) ∧ W'.cell? ⟨gb, 5, none⟩ = some (.int .i64 d4.e)) ((((((v3.setCell ⟨gr, 0, none⟩ (.bool s1)).setCell ⟨gr, 1, none⟩ (.slice p1 m1 m1)).setCell ⟨gr, 2, none⟩ (.int .i64 e5)).setCell ⟨gr, 3, none⟩ (.bool s2)).setCell ⟨gr, 4, none⟩ (.slice p2 m2 m2)).setCell ⟨gr, 5, none⟩ (.int .i64 e11))) := ⟨by go_simp, by go_simp, by go_simp, by go_simp, by go_simp, by go_simp, by go_simp, by go_simp, by go_simp, by go_simp, by go_simp, by go_simp⟩
  refine hK _ _ HJ2.out ?_
  clear hK HJ;have HJ := HJ2;clear HJ2
  refine wpJ_tq 16 rfl HJ.out ?_
  refine wpJ_done (by kernel_rfl) ?_ _
  clear HJ;go_wp2_with fail
  refine bodyPost_ret (v := .tuple #[SV s1 p1 m1 m1 e5 s2 p2 m2 m2 e11, .int .i64 0]) (by rw [results_cell_tmp rfl]; go_simp) rfl ⟨z5, e5, z11, e11, ⟨s1, p1, m1, s2, p2, m2, rfl, ?_, ?_⟩, Hi5.out.two, Hi11.out.two, ?_⟩
  ·exact ((((((D1.out.set _ _ _ HWL.out.1).set _ _ _ HWL.out.1).set _ _ _ HWL.out.1).set _ _ _ HWL.out.1).set _ _ _ HWL.out.1).set _ _ _ HWL.out.1).mono HWL.out.2
  ·exact ((((((D2.out.set _ _ _ HWL.out.1).set _ _ _ HWL.out.1).set _ _ _ HWL.out.1).set _ _ _ HWL.out.1).set _ _ _ HWL.out.1).set _ _ _ HWL.out.1).mono HWL.out.2
  ·exact (bSet (bSet (bSet (bSet (bSet (bSet hbw _ _ _ HGr.out) _ _ _ HGr.out) _ _ _ HGr.out) _ _ _ HGr.out) _ _ _ HGr.out) _ _ _ HGr.out)
 have N4_10_5 : ∀ (k4 : Nat) (k10 : Nat) (s5 : Bool) (p5 : Option Addr) (m5 : Nat) (c5 : Nat) (e5 : Int) (z5 : Int) (W' : World), (FQ W') ∧ (DyL W' (some ⟨k4, 0, none⟩) 1 1 [d3]) ∧ (DyL W' (some ⟨k10, 0, none⟩) 1 1 [d4]) ∧ (IsLst [d1, d3] (⟨s5, p5, m5, c5, e5, z5⟩ : Dq)) → WP 6 (((L0.setIfInBounds 4 true).setIfInBounds 10 true).setIfInBounds 5 true) (((a0.put (some 19) (.slice (some ⟨k4, 0, none⟩) 1 1)).put (some 25) (.slice (some ⟨k10, 0, none⟩) 1 1)).put (some 20) (DV s5 p5 m5 c5 e5)) W' := by
  rintro k4 k10 s5 p5 m5 c5 e5 z5 W' ⟨fq, l4, l10, i5⟩;subst hWP hL ha;have Hl4 := Hid.mk5 l4;have Hl10 := Hid.mk5 l10;have Hi5 := Hid.mk5 i5;clear l4 l10 i5;obtain ⟨_, _, _, hbw⟩ := (hFQ.out W').1 fq;go_simp
  refine wpJ_on 11 rfl fun KJ hK => ?_
  go_simp
  refine (sgrt (DN.below A2.out hbw) Hl10.out).mono ?_
  rintro e W2 ⟨⟨s11, p11, m11, c11, e11, z11⟩, rfl, hd, hb⟩
  refine hK _ _ (HFJ.out _ (HFB.out _ _ fq hb)) ?_
  exact wpJ_same5 (by kernel_rfl) (by kernel_rfl) (N4_10_5_11 k4 k10 s5 p5 m5 c5 e5 z5 s11 p11 m11 c11 e11 z11 W2 ⟨(HFB.out _ _ fq hb), (Hl4.out.below hb), (Hl10.out.below hb), Hi5.out, hd⟩)
 have N4_10 : ∀ (k4 : Nat) (k10 : Nat) (W' : World), (FQ W') ∧ (DyL W' (some ⟨k4, 0, none⟩) 1 1 [d3]) ∧ (DyL W' (some ⟨k10, 0, none⟩) 1 1 [d4]) → WP 7 ((L0.setIfInBounds 4 true).setIfInBounds 10 true) ((a0.put (some 19) (.slice (some ⟨k4, 0, none⟩) 1 1)).put (some 25) (.slice (some ⟨k10, 0, none⟩) 1 1)) W' := by
  rintro k4 k10 W' ⟨fq, l4, l10⟩;subst hWP hL ha;have Hl4 := Hid.mk5 l4;have Hl10 := Hid.mk5 l10;clear l4 l10;obtain ⟨_, _, _, hbw⟩ := (hFQ.out W').1 fq;go_simp
  refine wpJ_on 5 rfl fun KJ hK => ?_
  go_simp
  refine (slst (DN.below A1.out hbw) Hl4.out).mono ?_
  rintro e W2 ⟨⟨s5, p5, m5, c5, e5, z5⟩, rfl, hd, hb⟩
  refine hK _ _ (HFJ.out _ (HFB.out _ _ fq hb)) ?_
  exact wpJ_same5 (by kernel_rfl) (by kernel_rfl) (N4_10_5 k4 k10 s5 p5 m5 c5 e5 z5 W2 ⟨(HFB.out _ _ fq hb), (Hl4.out.below hb), (Hl10.out.below hb), hd⟩)
 have N4_5 : ∀ (k4 : Nat) (s5 : Bool) (p5 : Option Addr) (m5 : Nat) (c5 : Nat) (e5 : Int) (z5 : Int) (W' : World), (FQ W') ∧ (DyL W' (some ⟨k4, 0, none⟩) 1 1 [d3]) ∧ (IsLst [d1, d3] (⟨s5, p5, m5, c5, e5, z5⟩ : Dq)) → WP 7 ((L0.setIfInBounds 4 true).setIfInBounds 5 true) ((a0.put (some 19) (.slice (some ⟨k4, 0, none⟩) 1 1)).put (some 20) (DV s5 p5 m5 c5 e5)) W' := by
  rintro k4 s5 p5 m5 c5 e5 z5 W' ⟨fq, l4, i5⟩;subst hWP hL ha;have Hl4 := Hid.mk5 l4;have Hi5 := Hid.mk5 i5;clear l4 i5;obtain ⟨_, _, _, hbw⟩ := (hFQ.out W').1 fq;go_simp
  refine wpJ_on 10 rfl fun KJ hK => ?_
  go_simp;have hb := below1 W' (.cells #[.bool d4.s, .slice d4.p d4.m d4.c, .int .i64 d4.e] 26)
  refine hK _ _ (HFJ.out _ (HFB.out _ _ fq hb)) ?_
  exact wpJ_same5 (by kernel_rfl) (by kernel_rfl) (N4_10_5 k4 W'.heap.size s5 p5 m5 c5 e5 z5 _ ⟨(HFB.out _ _ fq hb), (Hl4.out.below hb), (DyL.new W' (DN.below A4.out hbw)), Hi5.out⟩)
 have N4 : ∀ (k4 : Nat) (W' : World), (FQ W') ∧ (DyL W' (some ⟨k4, 0, none⟩) 1 1 [d3]) → WP 8 (L0.setIfInBounds 4 true) (a0.put (some 19) (.slice (some ⟨k4, 0, none⟩) 1 1)) W' := by
  rintro k4 W' ⟨fq, l4⟩;subst hWP hL ha;have Hl4 := Hid.mk5 l4;clear l4;obtain ⟨_, _, _, hbw⟩ := (hFQ.out W').1 fq;go_simp
  refine wpJ_two (i := 5) (k := 10) (by kernel_rfl) rfl rfl (by kernel_rfl) (by kernel_rfl) (fun KJ hK => ?_) (fun KJ hK => ?_)
  ·go_simp
   refine (slst (DN.below A1.out hbw) Hl4.out).mono ?_
   rintro e W2 ⟨⟨s5, p5, m5, c5, e5, z5⟩, rfl, hd, hb⟩
   refine hK _ _ (HFJ.out _ (HFB.out _ _ fq hb)) ?_
   exact wpJ_same5 (by kernel_rfl) (by kernel_rfl) (N4_5 k4 s5 p5 m5 c5 e5 z5 W2 ⟨(HFB.out _ _ fq hb), (Hl4.out.below hb), hd⟩)
  ·go_simp
   have hb := below1 W' (.cells #[.bool d4.s, .slice d4.p d4.m d4.c, .int .i64 d4.e] 26)
   refine hK _ _ (HFJ.out _ (HFB.out _ _ fq hb)) ?_
   exact wpJ_same5 (by kernel_rfl) (by kernel_rfl) (N4_10 k4 W'.heap.size _ ⟨(HFB.out _ _ fq hb), (Hl4.out.below hb), (DyL.new W' (DN.below A4.out hbw))⟩)
 have N10 : ∀ (k10 : Nat) (W' : World), (FQ W') ∧ (DyL W' (some ⟨k10, 0, none⟩) 1 1 [d4]) → WP 8 (L0.setIfInBounds 10 true) (a0.put (some 25) (.slice (some ⟨k10, 0, none⟩) 1 1)) W' := by
  rintro k10 W' ⟨fq, l10⟩;subst hWP hL ha;have Hl10 := Hid.mk5 l10;clear l10;obtain ⟨_, _, _, hbw⟩ := (hFQ.out W').1 fq;go_simp
  refine wpJ_on 4 rfl fun KJ hK => ?_
  go_simp;have hb := below1 W' (.cells #[.bool d3.s, .slice d3.p d3.m d3.c, .int .i64 d3.e] 26)
  refine hK _ _ (HFJ.out _ (HFB.out _ _ fq hb)) ?_
  exact wpJ_same5 (by kernel_rfl) (by kernel_rfl) (N4_10 W'.heap.size k10 _ ⟨(HFB.out _ _ fq hb), (DyL.new W' (DN.below A3.out hbw)), (Hl10.out.below hb)⟩)
 have N_ : ∀ (W' : World), (FQ W') → WP 9 L0 a0 W' := by
  rintro  W' fq;subst hWP hL ha;obtain ⟨_, _, _, hbw⟩ := (hFQ.out W').1 fq;go_simp
  refine wpJ_two (i := 4) (k := 10) (by kernel_rfl) rfl rfl (by kernel_rfl) (by kernel_rfl) (fun KJ hK => ?_) (fun KJ hK => ?_)
  ·go_simp
   have hb := below1 W' (.cells #[.bool d3.s, .slice d3.p d3.m d3.c, .int .i64 d3.e] 26)
   refine hK _ _ (HFJ.out _ (HFB.out _ _ fq hb)) ?_
   exact wpJ_same5 (by kernel_rfl) (by kernel_rfl) (N4 W'.heap.size _ ⟨(HFB.out _ _ fq hb), (DyL.new W' (DN.below A3.out hbw))⟩)
  ·go_simp
   have hb := below1 W' (.cells #[.bool d4.s, .slice d4.p d4.m d4.c, .int .i64 d4.e] 26)
   refine hK _ _ (HFJ.out _ (HFB.out _ _ fq hb)) ?_
   exact wpJ_same5 (by kernel_rfl) (by kernel_rfl) (N10 W'.heap.size _ ⟨(HFB.out _ _ fq hb), (DyL.new W' (DN.below A4.out hbw))⟩)
 exact N_ W5 ((hFQ.out _).2 ⟨Xa.out, Xb.out, Xr.out, hbw⟩)
def MkR (z e zo eo er : Int) : Prop := (z = 0 ∧ zo = 0 ∧ eo = 0 ∧ er = 0) ∨
  (z ≠ 0 ∧ ∃ k : Nat, TzIs z.natAbs k ∧ ((-1048576 ≤ e + k ∧ e + k ≤ 1048576 ∧ zo * ((2 ^ k : Nat) : Int) = z ∧ eo = e + k ∧ er = 0) ∨ (¬ (-1048576 ≤ e + k ∧ e + k ≤ 1048576) ∧ zo = 0 ∧ eo = 0 ∧ er = 5)))
theorem MkR.zero (e : Int) : MkR 0 e 0 0 0 := .inl ⟨rfl, rfl, rfl, rfl⟩
theorem TzIs.zero_of_odd {v : Nat} (h : v % 2 = 1) : TzIs v 0 := ⟨by simp [Nat.mod_one], by simpa using h⟩
theorem MkR.odd {z e : Int} (hz : z % 2 = 1) (he : -1048576 ≤ e ∧ e ≤ 1048576) : MkR z e z e 0 :=
 .inr ⟨by omega, 0, TzIs.zero_of_odd (by omega), .inl ⟨by omega, by omega, by simp, by omega, rfl⟩⟩
theorem MkR.big {z e : Int} (hz : z % 2 = 1) (he : ¬ (-1048576 ≤ e ∧ e ≤ 1048576)) : MkR z e 0 0 5 :=
 .inr ⟨by omega, 0, TzIs.zero_of_odd (by omega), .inr ⟨by omega, rfl, rfl, rfl⟩⟩
theorem MkR.fm {z e zo eo er : Int} (h : MkR z e zo eo er) : DFm zo eo := by
  rcases h with ⟨_, rfl, rfl, _⟩ | ⟨h0, K, hK, ⟨h1, h2, h3, rfl, _⟩ | ⟨_, rfl, rfl, _⟩⟩
  · exact .inl ⟨rfl, rfl⟩
  · refine .inr ⟨?_, h1, h2⟩
    have h4 : zo.natAbs * 2 ^ K = z.natAbs := by
      have := congrArg Int.natAbs h3;rw [Int.natAbs_mul] at this
      simpa using this
    have h5 := hK.2;rw [← h4, Nat.mul_div_cancel _ (Nat.two_pow_pos K)] at h5
    omega
  · exact .inl ⟨rfl, rfl⟩
structure DQ (B : Nat) (w : World) (s : Bool) (p : Option Addr) (m c : Nat) (e z : Int) : Prop where
 dn : DN w s p m c e z
 nw : m = 0 ∨ ∃ g, p = some ⟨g, 0, none⟩ ∧ B ≤ g
theorem DQ.below {B : Nat} {w w' : World} {s : Bool} {p : Option Addr} {m c : Nat} {e z : Int} (h : DQ B w s p m c e z) (hb : Below w.heap.size w w') : DQ B w' s p m c e z := ⟨h.dn.below hb, h.nw⟩
theorem DQ.b {B : Nat} {w w' : World} {s : Bool} {p : Option Addr} {m c : Nat} {e z : Int} (h : Hid (DQ B w s p m c e z)) (hb : Below w.heap.size w w') : Hid (DQ B w' s p m c e z) := DQ.below h hb
theorem DQ.mono {B B' : Nat} {w : World} {s : Bool} {p : Option Addr} {m c : Nat} {e z : Int} (h : DQ B w s p m c e z) (hB : B' ≤ B) : DQ B' w s p m c e z := ⟨h.dn, h.nw.imp id fun ⟨g, h1, h2⟩ => ⟨g, h1, Nat.le_trans hB h2⟩⟩
theorem DN.setOff {w : World} {s : Bool} {p : Option Addr} {m c g o : Nat} {e z : Int} {v : Value} (h : DN w s p m c e z) (hf : m = 0 ∨ ∃ g', p = some ⟨g', 0, none⟩ ∧ g' ≠ g) : DN (w.setCell ⟨g, o, none⟩ v) s p m c e z := by
  obtain ⟨xs, hX⟩ := h.zn.ex
  refine ⟨⟨⟨xs, ?_, hX.nf, hX.le⟩, h.zn.sg⟩, h.fm⟩
  rcases hf with rfl | ⟨g', rfl, hg⟩
  · obtain rfl : xs = [] := List.eq_nil_of_length_eq_zero hX.at_.len
    exact At.empty _ _ _ hX.at_.big
  · exact hX.at_.setOther _ _ _ hg
theorem DQ.set {B : Nat} {w : World} {s : Bool} {p : Option Addr} {m c : Nat} {e z : Int} (h : DQ B w s p m c e z) (g o : Nat) (v : Value) (hg : g < B) : DQ B (w.setCell ⟨g, o, none⟩ v) s p m c e z :=
 ⟨h.dn.setOff (h.nw.imp id fun ⟨g', h1, h2⟩ => ⟨g', h1, by omega⟩), h.nw⟩
theorem DQ.zero (B : Nat) (w : World) : DQ B w false none 0 0 0 0 :=
 ⟨⟨⟨⟨[], At.empty _ _ _ (by decide), Nf.nil _, by omega⟩, rfl⟩, .inl ⟨rfl, rfl⟩⟩, .inl rfl⟩
theorem AnsD.dq {B : Nat} {w' : World} {v : Value} {z e : Int} (h : AnsD B w' v z e) (hf : DFm z e) : ∃ s p m, v = DV s p m m e ∧ DQ B w' s p m m e z := by
  obtain ⟨p, m, zs, rfl, ho, hn, hm⟩ := h
  exact ⟨_, p, m, rfl, ⟨⟨⟨zs, Num.of ho hn hm⟩, rfl⟩, hf⟩, ho.mem.imp id fun ⟨g, e, hg, _⟩ => ⟨g, e, hg⟩⟩
def SaidD (B : Nat) (w' : World) (en : Ending) (z e er : Int) : Prop := ∃ s p m c, en = .returned (.tuple #[DV s p m c e, .int .i64 er]) ∧ DQ B w' s p m c e z
theorem SaidD.err (B : Nat) (w' : World) (er : Int) : SaidD B w' (.returned (.tuple #[DV false none 0 0 0, .int .i64 er])) 0 0 er := ⟨_, _, _, _, rfl, DQ.zero _ _⟩
theorem SaidD.ans {B : Nat} {w' : World} {v : Value} {z e : Int} (h : AnsD B w' v z e) (hf : DFm z e) : SaidD B w' (.returned (.tuple #[v, .int .i64 0])) z e 0 := by
  obtain ⟨s, p, m, rfl, hd⟩ := h.dq hf
  exact ⟨s, p, m, m, rfl, hd⟩
theorem TzO.is {z : Int} {k : Nat} (hz : z ≠ 0) (h : TzO z.natAbs k) : TzIs z.natAbs k := by
  rcases h with ⟨h0, _⟩ | ⟨_, h1, h2⟩
  · omega
  · exact ⟨h1, h2⟩
theorem MakeP.mk {B : Nat} {w' : World} {en : Ending} {z e : Int} (h : MakeP B w' en z e) (he : -4194304 ≤ e) : ∃ zo eo er, SaidD B w' en zo eo er ∧ MkR z e zo eo er := by
  by_cases hz : z = 0
  · subst hz
    obtain ⟨v, rfl, hv⟩ := h.form (.inl ⟨rfl, rfl⟩) (by rw [dv_zero, dv_zero])
    exact ⟨0, 0, 0, SaidD.ans hv (.inl ⟨rfl, rfl⟩), MkR.zero e⟩
  · obtain ⟨k, hk⟩ := TzO.ex z.natAbs
    have hki := hk.is hz;obtain ⟨h1, h2, _⟩ := tz_split hz hk;generalize fl (decide (z < 0)) z.natAbs (2 ^ k) = o at *
    by_cases hr : -1048576 ≤ e + k ∧ e + k ≤ 1048576
    · have hf : DFm o (e + k) := .inr ⟨h1, hr⟩
      obtain ⟨v, rfl, hv⟩ := h.form hf (by rw [dv_up k he, h2])
      exact ⟨o, e + k, 0, SaidD.ans hv hf, .inr ⟨hz, k, hki, .inl ⟨hr.1, hr.2, h2, rfl, rfl⟩⟩⟩
    · rcases h with ⟨v, zo, eo, _, _, h5, h6⟩ | ⟨rfl, _⟩
      · exact absurd h6 (make_no hz hk he (by omega) zo eo h5)
      · exact ⟨0, 0, 5, SaidD.err _ _ _, .inr ⟨hz, k, hki, .inr ⟨hr, rfl, rfl, rfl⟩⟩⟩
theorem dmulA_l {p q : Option Addr} {m c n d : Nat} {w : World} {x y e f : Int} {s t : Bool} (h : DN w s p m c e x) (k : DN w t q n d f y) (hl : LIM ≤ (x * y).natAbs) :
  Calls Tryz.prog 57 #[DV s p m c e, DV t q n d f] w fun en w' => en = .returned (.tuple #[DV false none 0 0 0, .int .i64 5]) ∧ Below w.heap.size w w' := by
 have H := hdQ h;have K := hdQ k;have HL := hdQ hl;clear h k hl
 go_enter Tryz.func57, Tryz.ntmps57
 go_wp2_with fail;obtain ⟨W0, hW0⟩ := exq (((w.alloc (.cells #[.bool s, .slice p m c, .int .i64 e] 26)).alloc (.cells #[.bool t, .slice q n d, .int .i64 f] 26)).alloc (.cells #[.bool false, .slice none 0 0, .int .i64 0] 26))
 have Xa : Hid (B3q W0 (w.heap.size) (.bool s) (.slice p m c) (.int .i64 e)) := by rw [hW0]; constructor <;> go_simp
 have Xb : Hid (B3q W0 (w.heap.size + 1) (.bool t) (.slice q n d) (.int .i64 f)) := by rw [hW0]; constructor <;> go_simp
 have Xr : Hid (B3q W0 (w.heap.size + 1 + 1) (.bool false) (.slice none 0 0) (.int .i64 0)) := by rw [hW0]; constructor <;> go_simp
 have hb0 := bq3 hW0;rw [← hW0];clear hW0;have hbw := brf w;obtain ⟨gr, hgr⟩ := exq (w.heap.size + 1 + 1);have HGr : Hid (w.heap.size ≤ gr) := hgl hgr;rw [← hgr] at Xr
 try rw [← hgr]
 obtain ⟨gb, hgb⟩ := exq (w.heap.size + 1);have HGb : Hid (w.heap.size ≤ gb) := hgl hgb;rw [← hgb] at Xb
 try rw [← hgb]
 obtain ⟨ga, hga⟩ := exq w.heap.size;have HGa : Hid (w.heap.size ≤ ga) := hgl hga;rw [← hga] at Xa
 try rw [← hga]
 have HGD : Hid (ga ≠ gb ∧ ga ≠ gr ∧ gb ≠ ga ∧ gb ≠ gr ∧ gr ≠ ga ∧ gr ≠ gb) := by rw [hga, hgb, hgr]; show _ ∧ _; omega
 clear hga hgb hgr;replace hbw := bon hbw hb0;clear hb0
 refine (dform_t (H.out.below hbw)).mono ?_
 rintro e v1 ⟨rfl, hb1⟩;replace Xa := B3q.b Xa hb1;replace Xb := B3q.b Xb hb1;replace Xr := B3q.b Xr hb1;replace hbw := bon hbw hb1;clear hb1;obtain ⟨cb0, cb1, cb2, fb0, fb1, fb2⟩ := Xb.out;have hneb : gb < v1.heap.size := blt cb0;go_wp2_with fail;clear cb0 cb1 cb2 fb0 fb1 fb2 hneb
 refine (dform_t (K.out.below hbw)).mono ?_
 rintro e v2 ⟨rfl, hb2⟩;replace Xa := B3q.b Xa hb2;replace Xb := B3q.b Xb hb2;replace Xr := B3q.b Xr hb2;replace hbw := bon hbw hb2;clear hb2;obtain ⟨ca0, ca1, ca2, fa0, fa1, fa2⟩ := Xa.out;have hnea : ga < v2.heap.size := blt ca0;obtain ⟨cb0, cb1, cb2, fb0, fb1, fb2⟩ := Xb.out;have hneb : gb < v2.heap.size := blt cb0;go_wp2_with fail;clear ca0 ca1 ca2 fa0 fa1 fa2 hnea cb0 cb1 cb2 fb0 fb1 fb2 hneb
 refine (zmul (H.out.zn.below hbw) (K.out.zn.below hbw)).mono ?_
 rintro e2 v5 ⟨ha, hb5⟩;have ha := ha.no HL.out;subst ha;replace Xa := B3q.b Xa hb5;replace Xb := B3q.b Xb hb5;replace Xr := B3q.b Xr hb5;replace hbw := bon hbw hb5;clear hb5;obtain ⟨cr0, cr1, cr2, fr0, fr1, fr2⟩ := Xr.out;have hner : gr < v5.heap.size := blt cr0;go_wp2_with fail
 refine bodyPost_ret (v := .tuple #[DV false none 0 0 0, .int .i64 5]) (by rw [results_cell_tmp rfl]; go_simp) rfl ⟨rfl, ?_⟩
 first | exact hbw | exact bSet (bSet (bSet hbw _ _ _ HGr.out) _ _ _ HGr.out) _ _ _ HGr.out | exact Below.on (bSet (bSet (bSet hbw _ _ _ HGr.out) _ _ _ HGr.out) _ _ _ HGr.out) (below1 _ _)
theorem dmulA_m {p q : Option Addr} {m c n d : Nat} {w : World} {x y e f : Int} {s t : Bool} (h : DN w s p m c e x) (k : DN w t q n d f y) (hl : (x * y).natAbs < LIM) (he : -2097152 ≤ e + f ∧ e + f ≤ 2097152) (hT : Tab w) :
  Calls Tryz.prog 57 #[DV s p m c e, DV t q n d f] w fun en w' => MakeP w.heap.size w' en (x * y) (e + f) ∧ Below w.heap.size w w' := by
 have H := hdQ h;have K := hdQ k;have HL : Hid ((x * y).natAbs < LIM ∧ -2097152 ≤ e + f ∧ e + f ≤ 2097152) := ⟨hl, he⟩;have TB : Hid (Tab w) := hT
 have f1 : wrap64 (e + f) = e + f := by simp only [wrap64]; omega
 have f2 : IntKind.i64.wrap (e + f) = e + f := by simp [IntKind.wrap, IntKind.signed, IntKind.bits]; omega
 have F1 : Hid (wrap64 (e + f) = e + f ∧ IntKind.i64.wrap (e + f) = e + f) := ⟨f1, f2⟩;clear h k hl he hT f1 f2
 go_enter Tryz.func57, Tryz.ntmps57
 go_wp2_with fail;obtain ⟨W0, hW0⟩ := exq (((w.alloc (.cells #[.bool s, .slice p m c, .int .i64 e] 26)).alloc (.cells #[.bool t, .slice q n d, .int .i64 f] 26)).alloc (.cells #[.bool false, .slice none 0 0, .int .i64 0] 26))
 have Xa : Hid (B3q W0 (w.heap.size) (.bool s) (.slice p m c) (.int .i64 e)) := by rw [hW0]; constructor <;> go_simp
 have Xb : Hid (B3q W0 (w.heap.size + 1) (.bool t) (.slice q n d) (.int .i64 f)) := by rw [hW0]; constructor <;> go_simp
 have Xr : Hid (B3q W0 (w.heap.size + 1 + 1) (.bool false) (.slice none 0 0) (.int .i64 0)) := by rw [hW0]; constructor <;> go_simp
 have hb0 := bq3 hW0;rw [← hW0];clear hW0;have hbw := brf w;obtain ⟨gr, hgr⟩ := exq (w.heap.size + 1 + 1);have HGr : Hid (w.heap.size ≤ gr) := hgl hgr;rw [← hgr] at Xr
 try rw [← hgr]
 obtain ⟨gb, hgb⟩ := exq (w.heap.size + 1);have HGb : Hid (w.heap.size ≤ gb) := hgl hgb;rw [← hgb] at Xb
 try rw [← hgb]
 obtain ⟨ga, hga⟩ := exq w.heap.size;have HGa : Hid (w.heap.size ≤ ga) := hgl hga;rw [← hga] at Xa
 try rw [← hga]
 have HGD : Hid (ga ≠ gb ∧ ga ≠ gr ∧ gb ≠ ga ∧ gb ≠ gr ∧ gr ≠ ga ∧ gr ≠ gb) := by rw [hga, hgb, hgr]; show _ ∧ _; omega
 clear hga hgb hgr;replace hbw := bon hbw hb0;clear hb0
 refine (dform_t (H.out.below hbw)).mono ?_
 rintro e v1 ⟨rfl, hb1⟩;replace Xa := B3q.b Xa hb1;replace Xb := B3q.b Xb hb1;replace Xr := B3q.b Xr hb1;replace hbw := bon hbw hb1;clear hb1;obtain ⟨cb0, cb1, cb2, fb0, fb1, fb2⟩ := Xb.out;have hneb : gb < v1.heap.size := blt cb0;go_wp2_with fail;clear cb0 cb1 cb2 fb0 fb1 fb2 hneb
 refine (dform_t (K.out.below hbw)).mono ?_
 rintro e v2 ⟨rfl, hb2⟩;replace Xa := B3q.b Xa hb2;replace Xb := B3q.b Xb hb2;replace Xr := B3q.b Xr hb2;replace hbw := bon hbw hb2;clear hb2;obtain ⟨ca0, ca1, ca2, fa0, fa1, fa2⟩ := Xa.out;have hnea : ga < v2.heap.size := blt ca0;obtain ⟨cb0, cb1, cb2, fb0, fb1, fb2⟩ := Xb.out;have hneb : gb < v2.heap.size := blt cb0;go_wp2_with fail;clear ca0 ca1 ca2 fa0 fa1 fa2 hnea cb0 cb1 cb2 fb0 fb1 fb2 hneb
 refine (zmul (H.out.zn.below hbw) (K.out.zn.below hbw)).mono ?_
 rintro e2 v5 ⟨ha, hb5⟩;obtain ⟨s5, p5, m5, rfl, hz⟩ := ha.got HL.out.1;clear ha;replace Xa := B3q.b Xa hb5;replace Xb := B3q.b Xb hb5;replace Xr := B3q.b Xr hb5;replace hbw := bon hbw hb5;clear hb5;have Z5 := hdQ hz;clear hz;have f1 := F1.out.1;have f2 := F1.out.2;obtain ⟨ca0, ca1, ca2, fa0, fa1, fa2⟩ := Xa.out;have hnea : ga < v5.heap.size := blt ca0;obtain ⟨cb0, cb1, cb2, fb0, fb1, fb2⟩ := Xb.out;have hneb : gb < v5.heap.size := blt cb0;go_wp2_with fail;clear ca0 ca1 ca2 fa0 fa1 fa2 hnea cb0 cb1 cb2 fb0 fb1 fb2 hneb f1 f2;have Xq0 : Hid (Box (v5.alloc (.cells #[.bool s5, .slice p5 m5 m5] 24)) v5.heap.size (.bool s5) (.slice p5 m5 m5)) := Box.new v5 _ _ _;have hbn : Below v5.heap.size v5 (v5.alloc (.cells #[.bool s5, .slice p5 m5 m5] 24)) := below1 v5 _;generalize v5.alloc (.cells #[.bool s5, .slice p5 m5 m5] 24) = Wq at *;have HGq : Hid (w.heap.size ≤ v5.heap.size) := hbw.size;replace Xa := B3q.b Xa hbn
 replace Xb := B3q.b Xb hbn;replace Xr := B3q.b Xr hbn;replace Z5 := ZN.b Z5 hbn;replace hbw := bon hbw hbn;clear hbn;generalize v5.heap.size = gq at *;have Xq := Xq0;clear Xq0;have HRL : Hid (gr < Wq.heap.size ∧ w.heap.size ≤ Wq.heap.size) := ⟨Xr.out.lt, hbw.size⟩
 refine (makep Z5.out (by have := HL.out; omega) (TB.out.below hbw)).mono ?_
 rintro e2 v6 ⟨hv, hb6⟩;obtain ⟨s6, p6, m6, eo, er, rfl, hmp⟩ := hv.open;clear hv;replace Xa := B3q.b Xa hb6;replace Xb := B3q.b Xb hb6;replace Xr := B3q.b Xr hb6;replace Xq := Box.b Xq hb6;replace Z5 := ZN.b Z5 hb6;replace hbw := bon hbw hb6;clear hb6;have M6 := hdQ hmp;clear hmp;obtain ⟨cr0, cr1, cr2, fr0, fr1, fr2⟩ := Xr.out;have hner : gr < v6.heap.size := blt cr0;go_wp2_with fail
 refine bodyPost_ret (v := .tuple #[DV s6 p6 m6 m6 eo, .int .i64 er]) (by rw [results_cell_tmp rfl]; go_simp) rfl ⟨(M6.out.set HRL.out.1 HRL.out.2 _ _ _).close, ?_⟩
 exact bSet (bSet (bSet hbw _ _ _ HGr.out) _ _ _ HGr.out) _ _ _ HGr.out
theorem dn_exp {w : World} {s : Bool} {p : Option Addr} {m c : Nat} {e z : Int} (h : DN w s p m c e z) : -1048576 ≤ e ∧ e ≤ 1048576 := by
  rcases h.fm with ⟨_, rfl⟩ | ⟨_, h⟩
  · exact ⟨by decide, by decide⟩
  · exact h
end Go.Proofs.YtpdelpakgdanlaaGreatDoor
