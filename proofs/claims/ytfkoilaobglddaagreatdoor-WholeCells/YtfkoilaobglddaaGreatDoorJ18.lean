import Derived.Test.YtfkoilaobglddaaGreatDoorBs4
import Derived.Laws.EntriesVeiled
import Derived.Test.YtfkoilaobglddaaGreatDoorJ16
import Derived.Test.YtfkoilaobglddaaGreatDoorJ15
import Derived.Test.YtfkoilaobglddaaGreatDoorJ8
import Derived.Test.YtfkoilaobglddaaGreatDoorJ10
import Derived.Deep.LoopGhost
import Derived.Test.YtfkoilaobglddaaGreatDoorJ14
import Derived.Test.YtfkoilaobglddaaGreatDoorJ13
import Derived.Laws.Bits64b
import Derived.BigQuiet
namespace Go.Proofs.YtfkoilaobglddaaGreatDoor
open Go.RowKit Go.Shelf

structure B6q (W : World) (g : Nat) (v0 v1 v2 v3 v4 v5 : Value) : Prop where
  c0 : W.cell? ⟨g, 0, none⟩ = some v0
  c1 : W.cell? ⟨g, 1, none⟩ = some v1
  c2 : W.cell? ⟨g, 2, none⟩ = some v2
  c3 : W.cell? ⟨g, 3, none⟩ = some v3
  c4 : W.cell? ⟨g, 4, none⟩ = some v4
  c5 : W.cell? ⟨g, 5, none⟩ = some v5
  f0 : W.frozen? ⟨g, 0, none⟩ = false
  f1 : W.frozen? ⟨g, 1, none⟩ = false
  f2 : W.frozen? ⟨g, 2, none⟩ = false
  f3 : W.frozen? ⟨g, 3, none⟩ = false
  f4 : W.frozen? ⟨g, 4, none⟩ = false
  f5 : W.frozen? ⟨g, 5, none⟩ = false
theorem B6q.below {W W' : World} {g : Nat} {v0 v1 v2 v3 v4 v5 : Value} (h : B6q W g v0 v1 v2 v3 v4 v5) (hb : Below W.heap.size W W') : B6q W' g v0 v1 v2 v3 v4 v5 := by
  have hl : g < W.heap.size := World.block_lt_of_cell? W _ h.c0
  exact ⟨(hb.cell (p := ⟨g, 0, none⟩) hl).trans h.c0, (hb.cell (p := ⟨g, 1, none⟩) hl).trans h.c1, (hb.cell (p := ⟨g, 2, none⟩) hl).trans h.c2, (hb.cell (p := ⟨g, 3, none⟩) hl).trans h.c3, (hb.cell (p := ⟨g, 4, none⟩) hl).trans h.c4, (hb.cell (p := ⟨g, 5, none⟩) hl).trans h.c5, (hb.frozen (p := ⟨g, 0, none⟩) hl).trans h.f0, (hb.frozen (p := ⟨g, 1, none⟩) hl).trans h.f1, (hb.frozen (p := ⟨g, 2, none⟩) hl).trans h.f2, (hb.frozen (p := ⟨g, 3, none⟩) hl).trans h.f3, (hb.frozen (p := ⟨g, 4, none⟩) hl).trans h.f4, (hb.frozen (p := ⟨g, 5, none⟩) hl).trans h.f5⟩
theorem B6q.new (w : World) (ty : TypeId) (v0 v1 v2 v3 v4 v5 : Value) : B6q (w.alloc (.cells #[v0, v1, v2, v3, v4, v5] ty)) w.heap.size v0 v1 v2 v3 v4 v5 :=
  ⟨by go_simp, by go_simp, by go_simp, by go_simp, by go_simp, by go_simp, by go_simp, by go_simp, by go_simp, by go_simp, by go_simp, by go_simp⟩
theorem B6q.lt {W : World} {g : Nat} {v0 v1 v2 v3 v4 v5 : Value} (h : B6q W g v0 v1 v2 v3 v4 v5) : g < W.heap.size := World.block_lt_of_cell? W _ h.c0
theorem B6q.drew {W : World} {g : Nat} {v0 v1 v2 v3 v4 v5 : Value} (h : B6q W g v0 v1 v2 v3 v4 v5) : B6q W.drew g v0 v1 v2 v3 v4 v5 := ⟨h.c0, h.c1, h.c2, h.c3, h.c4, h.c5, h.f0, h.f1, h.f2, h.f3, h.f4, h.f5⟩
end Go.Proofs.YtfkoilaobglddaaGreatDoor

namespace Go.Proofs.YtfkoilaobglddaaGreatDoor
open Go.RowKit Go.Shelf

end Go.Proofs.YtfkoilaobglddaaGreatDoor

namespace Go.Proofs.YtfkoilaobglddaaGreatDoor
open Go.RowKit Go.Shelf

set_option maxRecDepth 20000 in
set_option maxHeartbeats 8000000 in
theorem nought_t {p : Option Addr} {c : Nat} {w : World} {e : Int} {s : Bool} :
    Calls Tryz.prog 11 #[DV s p 0 c e] w fun en w' => en = .returned (.bool true) ∧ Below w.heap.size w w' := by
  go_enter Tryz.func11, Tryz.ntmps11
  go_wp2_with fail
  go_ret
  exact ⟨rfl, below1 w _⟩
theorem nought {p : Option Addr} {m c : Nat} {w : World} {e : Int} {s : Bool} :
    Calls Tryz.prog 11 #[DV s p m c e] w fun en w' => en = .returned (.bool (decide (m = 0))) ∧ Below w.heap.size w w' := by
  rcases Nat.eq_zero_or_pos m with h | h
  · subst h; exact nought_t
  · rw [decide_eq_false (by omega)]; exact nought5 h
set_option maxRecDepth 20000 in
set_option maxHeartbeats 8000000 in
theorem dof1 {w : World} (hT : Tab w) :
    Calls Tryz.prog 25 #[.int .i64 1] w fun en w' => ∃ s p m, en = .returned (DV s p m m 0) ∧ DN w' s p m m 0 1 ∧ Below w.heap.size w w' := by
  have TB : Hid (Tab w) := hT
  clear hT
  go_enter Tryz.func25, Tryz.ntmps25
  go_wp2_with fail
  obtain ⟨W0, hW0⟩ : ∃ W0, W0 = (w.alloc (.cells #[.bool false, .slice none 0 0, .int .i64 0] 26)) := ⟨_, rfl⟩
  have Xr : Hid (B3q W0 (w.heap.size) (.bool false) (.slice none 0 0) (.int .i64 0)) := by rw [hW0]; exact ⟨by go_simp, by go_simp, by go_simp, by go_simp, by go_simp, by go_simp⟩
  have hb0 : Below w.heap.size w W0 := by rw [hW0]; exact below1 w _
  rw [← hW0]
  clear hW0
  have hbw : Below w.heap.size w w := Below.refl _ _
  obtain ⟨gr, hgr⟩ : ∃ g, g = w.heap.size := ⟨_, rfl⟩
  have HGr : Hid (w.heap.size ≤ gr) := by rw [hgr]; show _ ≤ _; omega
  rw [← hgr] at Xr
  try rw [← hgr]
  clear hgr
  replace hbw := Below.on hbw hb0
  clear hb0
  have HRL : Hid (gr < W0.heap.size ∧ w.heap.size ≤ W0.heap.size) := ⟨Xr.out.lt, hbw.size⟩
  refine (zof 1 _ (by decide) (by decide)).mono ?_
  rintro e2 v1 ⟨s1, p1, m1, rfl, hz1, hb1⟩
  have HB1 : Hid (W0.heap.size ≤ v1.heap.size) := hb1.size
  replace Xr : Hid _ := Xr.out.below hb1
  replace hbw := Below.on hbw hb1
  clear hb1
  have Z1 : Hid (ZN v1 s1 p1 m1 m1 1) := hz1
  clear hz1
  go_wp2_with fail
  refine (make_any Z1.out (by decide) (TB.out.below hbw)).mono ?_
  rintro e2 v6 ⟨v, zo, eo, rfl, hv, hfm, hdv, _, _, hb6⟩
  have h9 : zo = 1 ∧ eo = 0 := dv_inj hfm (.inr ⟨by decide, by decide, by decide⟩) hdv
  obtain ⟨rfl, rfl⟩ := h9
  obtain ⟨p6, m6, z6, rfl, ho6, hn6, hm6⟩ := hv
  replace Xr : Hid _ := Xr.out.below hb6
  replace Z1 : Hid _ := Z1.out.below hb6
  replace hbw := Below.on hbw hb6
  clear hb6
  have O6 : Hid (Own v1.heap.size v6 p6 m6 z6) := ho6
  have N6 : Hid (Nf B64 z6 (1 : Int).natAbs ∧ m6 ≤ 8192) := ⟨hn6, hm6⟩
  clear ho6 hn6 hm6 hfm hdv
  obtain ⟨cr0, cr1, cr2, fr0, fr1, fr2⟩ := Xr.out
  have hner : gr < v6.heap.size := World.block_lt_of_cell? v6 _ cr0
  go_wp2_with fail
  refine bodyPost_ret (v := DV false p6 m6 m6 0) (by rw [results_cell1 rfl]; go_simp) rfl ⟨false, p6, m6, rfl, ⟨⟨⟨z6, Num.of ((own_set3 O6.out (Nat.lt_of_lt_of_le HRL.out.1 HB1.out) (Nat.le_refl _) _ _ _).below (below1 _ _)) N6.out.1 N6.out.2⟩, rfl⟩, .inr ⟨by decide, by decide, by decide⟩⟩, ?_⟩
  exact Below.on (bSet (bSet (bSet hbw _ _ _ HGr.out) _ _ _ HGr.out) _ _ _ HGr.out) (below1 _ _)
end Go.Proofs.YtfkoilaobglddaaGreatDoor

namespace Go.Proofs.YtfkoilaobglddaaGreatDoor
open Go.RowKit Go.Shelf

theorem dv_lt {x y : Int} (e : Int) (h : x < y) : dv x e < dv y e := by
  have h1 : (0 : Int) < ((2 ^ (e + 4194304).toNat : Nat) : Int) := by have := Nat.pow_pos (n := (e + 4194304).toNat) (show 0 < 2 by omega); omega
  exact Int.mul_lt_mul_of_pos_right h h1
end Go.Proofs.YtfkoilaobglddaaGreatDoor

namespace Go.Proofs.YtfkoilaobglddaaGreatDoor
open Go.RowKit Go.Shelf

set_option maxRecDepth 20000 in
set_option maxHeartbeats 8000000 in
theorem dscale {p : Option Addr} {m c : Nat} {w : World} {z e N : Int} {s : Bool} (h : DN w s p m c e z) (hz : z ≠ 0) (hN : -1048576 ≤ e + N ∧ e + N ≤ 1048576) :
    Calls Tryz.prog 152 #[DV s p m c e, .int .i64 N] w fun en w' => ∃ v, en = .returned (.tuple #[v, .int .i64 0]) ∧ AnsD w.heap.size w' v z (e + N) ∧ Below w.heap.size w w' := by
  have H : Hid (DN w s p m c e z) := h
  have HZ : Hid (z ≠ 0) := hz
  have HE : Hid ((-1048576 ≤ e ∧ e ≤ 2097152) ∧ -1048576 ≤ e + N ∧ e + N ≤ 1048576) := ⟨by rcases h.fm with ⟨h0, _⟩ | ⟨_, h5⟩; (exact absurd h0 hz); omega, hN⟩
  clear h hz hN
  go_enter Tryz.func152, Tryz.ntmps152
  go_wp2_with fail
  obtain ⟨W0, hW0⟩ : ∃ W0, W0 = ((w.alloc (.cells #[.bool s, .slice p m c, .int .i64 e] 26)).alloc (.cells #[.bool false, .slice none 0 0, .int .i64 0] 26)) := ⟨_, rfl⟩
  have Xd : Hid (B3q W0 (w.heap.size) (.bool s) (.slice p m c) (.int .i64 e)) := by rw [hW0]; exact ⟨by go_simp, by go_simp, by go_simp, by go_simp, by go_simp, by go_simp⟩
  have Xr : Hid (B3q W0 (w.heap.size + 1) (.bool false) (.slice none 0 0) (.int .i64 0)) := by rw [hW0]; exact ⟨by go_simp, by go_simp, by go_simp, by go_simp, by go_simp, by go_simp⟩
  have hb0 : Below w.heap.size w W0 := by rw [hW0]; exact below2 w _ _
  rw [← hW0]
  clear hW0
  have hbw : Below w.heap.size w w := Below.refl _ _
  obtain ⟨gr, hgr⟩ : ∃ g, g = w.heap.size + 1 := ⟨_, rfl⟩
  have HGr : Hid (w.heap.size ≤ gr) := by rw [hgr]; show _ ≤ _; omega
  rw [← hgr] at Xr
  try rw [← hgr]
  obtain ⟨gd, hgd⟩ : ∃ g, g = w.heap.size := ⟨_, rfl⟩
  have HGd : Hid (w.heap.size ≤ gd) := by rw [hgd]; show _ ≤ _; omega
  rw [← hgd] at Xd
  try rw [← hgd]
  have HGD : Hid (gd ≠ gr ∧ gr ≠ gd) := by rw [hgd, hgr]; exact ⟨by omega, by omega⟩
  clear hgd hgr
  replace hbw := Below.on hbw hb0
  clear hb0
  refine (dform_t (H.out.below hbw)).mono ?_
  rintro e v1 ⟨rfl, hb1⟩
  replace Xd : Hid _ := Xd.out.below hb1
  replace Xr : Hid _ := Xr.out.below hb1
  replace hbw := Below.on hbw hb1
  clear hb1
  obtain ⟨cd0, cd1, cd2, fd0, fd1, fd2⟩ := Xd.out
  have hned : gd < v1.heap.size := World.block_lt_of_cell? v1 _ cd0
  go_wp2_with fail
  clear cd0 cd1 cd2 fd0 fd1 fd2 hned
  refine (zsign (H.out.zn.below hbw)).mono ?_
  rintro e v2 ⟨rfl, hb2⟩
  obtain ⟨sg, hsg⟩ : ∃ sg, sg = sgnI (z) := ⟨_, rfl⟩
  rw [← hsg]
  have hs0 : (sg == 0) = false := by rw [hsg]; have := HZ.out; unfold sgnI; split <;> (try split) <;> simp <;> omega
  clear hsg
  replace Xd : Hid _ := Xd.out.below hb2
  replace Xr : Hid _ := Xr.out.below hb2
  replace hbw := Below.on hbw hb2
  clear hb2
  obtain ⟨cd0, cd1, cd2, fd0, fd1, fd2⟩ := Xd.out
  have hned : gd < v2.heap.size := World.block_lt_of_cell? v2 _ cd0
  go_wp2_with fail
  clear cd0 cd1 cd2 fd0 fd1 fd2 hned
  clear hs0
  refine (moved_ok e N _ HE.out.1 HE.out.2).mono ?_
  rintro e2 v4 ⟨rfl, hw⟩
  obtain rfl := hw.symm
  clear hw
  obtain ⟨cd0, cd1, cd2, fd0, fd1, fd2⟩ := Xd.out
  have hned : gd < v2.heap.size := World.block_lt_of_cell? v2 _ cd0
  go_wp2_with fail
  clear cd0 cd1 cd2 fd0 fd1 fd2 hned
  have HRL : Hid (gr < v2.heap.size ∧ gd < v2.heap.size ∧ w.heap.size ≤ v2.heap.size) := ⟨Xr.out.lt, Xd.out.lt, hbw.size⟩
  obtain ⟨xs, hX⟩ := (H.out.zn.below hbw).ex
  have N6 : Hid (Nf B64 xs z.natAbs ∧ m ≤ 8192 ∧ s = decide (z < 0)) := ⟨hX.nf, hX.le, H.out.zn.sg⟩
  refine (dcopied s hX.at_ hX.le).mono ?_
  rintro e2 v5 ⟨p5, rfl, ho5, hb5⟩
  clear hX
  replace Xd : Hid _ := Xd.out.below hb5
  replace Xr : Hid _ := Xr.out.below hb5
  replace hbw := Below.on hbw hb5
  clear hb5
  have O5 : Hid (Own v2.heap.size v5 p5 m xs) := ho5
  clear ho5
  obtain ⟨hgd0, hgd1⟩ := HGD.out
  obtain ⟨cd0, cd1, cd2, fd0, fd1, fd2⟩ := Xd.out
  have hned : gd < v5.heap.size := World.block_lt_of_cell? v5 _ cd0
  obtain ⟨cr0, cr1, cr2, fr0, fr1, fr2⟩ := Xr.out
  have hner : gr < v5.heap.size := World.block_lt_of_cell? v5 _ cr0
  have q2 : (((v5.setCell ⟨gd, 0, none⟩ (.bool s)).setCell ⟨gd, 1, none⟩ (.slice p5 m m)).setCell ⟨gd, 2, none⟩ (.int .i64 e)).cell? ⟨gd, 2, none⟩ = some (.int .i64 e) := by go_simp
  have q3 : ((((v5.setCell ⟨gd, 0, none⟩ (.bool s)).setCell ⟨gd, 1, none⟩ (.slice p5 m m)).setCell ⟨gd, 2, none⟩ (.int .i64 e)).setCell ⟨gd, 2, none⟩ (.int .i64 (e + N))).cell? ⟨gd, 2, none⟩ = some (.int .i64 (e + N)) := World.cell?_setCell_same _ _ _ q2
  go_wp2_with fail
  refine bodyPost_ret (v := .tuple #[DV s p5 m m (e + N), .int .i64 0]) (by rw [results_cell_tmp rfl]; go_simp) rfl ⟨_, rfl, ⟨p5, m, xs, by rw [N6.out.2.2], ?_, N6.out.1, N6.out.2.1⟩, ?_⟩
  · exact own_set3 ((own_set3 O5.out HRL.out.2.1 (Nat.le_refl _) _ _ _).setOld _ _ _ HRL.out.2.1) HRL.out.1 HRL.out.2.2 _ _ _
  · exact bSet (bSet (bSet (bSet (bSet (bSet (bSet hbw _ _ _ HGd.out) _ _ _ HGd.out) _ _ _ HGd.out) _ _ _ HGd.out) _ _ _ HGr.out) _ _ _ HGr.out) _ _ _ HGr.out
end Go.Proofs.YtfkoilaobglddaaGreatDoor

namespace Go.Proofs.YtfkoilaobglddaaGreatDoor
open Go.RowKit Go.Shelf

structure It where
  p : Option Addr
  n : Nat
  c : Nat
  xs : List Nat
  a : Nat
structure Lists (w : World) (P : Option Addr) (N C : Nat) (its : List It) : Prop where
  len : its.length = N
  cap : N ≤ C
  big : C ≤ maxLen
  cells : N = 0 ∨ ∃ g off, P = some ⟨g, off, none⟩ ∧ ∀ j (h : j < its.length), w.cell? ⟨g, off + j, none⟩ = some (.slice its[j].p its[j].n its[j].c)
  nums : ∀ t ∈ its, Num w t.p t.n t.c t.xs t.a
theorem Lists.below {w w' : World} {P : Option Addr} {N C : Nat} {its : List It} (h : Lists w P N C its) (hb : Below w.heap.size w w') : Lists w' P N C its := by
  refine ⟨h.len, h.cap, h.big, ?_, fun t ht => (h.nums t ht).below hb⟩
  rcases h.cells with h0 | ⟨g, off, rfl, hc⟩
  · exact .inl h0
  · exact .inr ⟨g, off, rfl, fun j hj => (hb.cell (p := ⟨g, off + j, none⟩) (World.block_lt_of_cell? w _ (hc j hj))).trans (hc j hj)⟩
def prodI : List It → Nat
  | [] => 1
  | t :: ts => t.a * prodI ts
theorem Lists.take {w : World} {g off N C : Nat} {its : List It} (h : Lists w (some ⟨g, off, none⟩) N C its) (k : Nat) (hk : k ≤ N) : Lists w (some ⟨g, off, none⟩) k k (its.take k) := by
  have hl := h.len; have hc := h.cap; have hb := h.big
  refine ⟨by rw [List.length_take]; omega, Nat.le_refl _, by omega, ?_, fun t ht => h.nums t (List.mem_of_mem_take ht)⟩
  rcases h.cells with h0 | ⟨g', off', he, hcl⟩
  · exact .inl (by omega)
  · refine .inr ⟨g', off', he, fun j hj => ?_⟩
    have hj2 : j < its.length := by rw [List.length_take] at hj; omega
    rw [hcl j hj2]; simp
theorem Lists.drop {w : World} {g off N C : Nat} {its : List It} (h : Lists w (some ⟨g, off, none⟩) N C its) (k : Nat) (hk : k < N) : Lists w (some ⟨g, off + k, none⟩) (N - k) (C - k) (its.drop k) := by
  have hl := h.len; have hc := h.cap; have hb := h.big
  refine ⟨by rw [List.length_drop]; omega, by omega, by omega, ?_, fun t ht => h.nums t (List.mem_of_mem_drop ht)⟩
  rcases h.cells with h0 | ⟨g', off', he, hcl⟩
  · omega
  · simp only [Option.some.injEq, Addr.mk.injEq, and_true] at he
    obtain ⟨rfl, rfl⟩ := he
    refine .inr ⟨g, off + k, rfl, fun j hj => ?_⟩
    have hj2 : k + j < its.length := by rw [List.length_drop] at hj; omega
    have := hcl (k + j) hj2
    rw [← Nat.add_assoc] at this
    rw [this]; simp
theorem Lists.pos {w : World} {P : Option Addr} {N C : Nat} {its : List It} (_h : Lists w P N C its) (hp : ∀ t ∈ its, 0 < t.a) : 0 < prodI its := by
  clear _h
  induction its with
  | nil => simp [prodI]
  | cons t ts ih => exact Nat.mul_pos (hp t (by simp)) (ih (fun u hu => hp u (by simp [hu])))

end Go.Proofs.YtfkoilaobglddaaGreatDoor

namespace Go.Proofs.YtfkoilaobglddaaGreatDoor
open Go.RowKit

end Go.Proofs.YtfkoilaobglddaaGreatDoor

namespace Go.Proofs.YtfkoilaobglddaaGreatDoor
open Go.RowKit

end Go.Proofs.YtfkoilaobglddaaGreatDoor

namespace Go.Proofs.YtfkoilaobglddaaGreatDoor
open Go.RowKit

theorem Nf.drop {xs : List Nat} {a k : Nat} (hx : Nf B64 xs a) (hk : k ≤ xs.length) : Nf B64 (xs.drop k) (a / B64 ^ k) := by
  refine ⟨hx.dig.drop k, ?_, drop_div hx hk⟩
  intro x h
  refine hx.top x ?_
  by_cases hkl : k < xs.length
  · rw [List.getLast?_drop, if_neg (by omega)] at h; exact h
  · rw [List.drop_of_length_le (by omega)] at h; simp at h
theorem Nf.low {xs : List Nat} {a k : Nat} (hx : Nf B64 xs a) (hk : k ≤ xs.length) : Nf B64 (trimL (xs.take k)) (a % B64 ^ k) := by
  have h := Nf.trim (hx.dig.take k)
  rw [take_mod hx hk] at h; exact h

end Go.Proofs.YtfkoilaobglddaaGreatDoor

namespace Go.Proofs.YtfkoilaobglddaaGreatDoor
open Go.RowKit

end Go.Proofs.YtfkoilaobglddaaGreatDoor

namespace Go.Proofs.YtfkoilaobglddaaGreatDoor
open Go.RowKit

end Go.Proofs.YtfkoilaobglddaaGreatDoor

namespace Go.Proofs.YtfkoilaobglddaaGreatDoor
open Go.RowKit

end Go.Proofs.YtfkoilaobglddaaGreatDoor

namespace Go.Proofs.YtfkoilaobglddaaGreatDoor
open Go.RowKit

end Go.Proofs.YtfkoilaobglddaaGreatDoor

namespace Go.Proofs.YtfkoilaobglddaaGreatDoor
open Go.RowKit Go.Shelf

theorem tsame_any {p q : Option Addr} {n m c d : Nat} {xs ys : List Nat} {w : World} (h : At w p n c xs) (k : At w q m d ys) :
    Calls Tryz.prog 116 #[.slice p n c, .slice q m d] w fun e w' => e = .returned (.bool (decide (xs = ys))) ∧ ∃ r, w' = w.drewN r := by
  have hl := h.len; have hcap := h.cap; have hbig := h.big
  have kl := k.len; have kcap := k.cap; have kbig := k.big
  unfold maxLen at hbig kbig
  by_cases hne : n = m
  · subst hne
    have hnn : ((n : Int) != (n : Int)) = false := by simp
    obtain ⟨b, hb⟩ : ∃ b, b = decide (xs = ys) := ⟨_, rfl⟩
    rw [← hb]
    by_cases h0 : n = 0
    · subst h0
      have hx : xs = [] := List.eq_nil_of_length_eq_zero hl
      have hy : ys = [] := List.eq_nil_of_length_eq_zero kl
      have hb' : b = true := by rw [hx, hy] at hb; simpa using hb
      have HB : Hid (b = true) := hb'
      clear hb hb' hl kl hx hy
      go_enter Tryz.func116, Tryz.ntmps116
      go_wp2
      go_loop [5] (fun i => i = .int .i64 0) (fun _ => 0)
      case atStart => rfl
      case round =>
        subst hrel
        go_wp2
        go_ret
        exact ⟨ret_bool HB.out.symm, 0, rfl⟩
    · obtain ⟨g, off, rfl, hc⟩ := h.cells.resolve_left h0
      obtain ⟨g2, off2, rfl, hc2⟩ := k.cells.resolve_left h0
      have HB : Hid (b = decide (xs = ys)) := hb
      clear hb
      go_enter Tryz.func116, Tryz.ntmps116
      go_wp2
      go_loopw [5] (fun i wr => ∃ k r : Nat, k ≤ n ∧ i = .int .i64 k ∧ wr = w.drewN r ∧ ∀ j, j < k → xs.getD j 0 = ys.getD j 0) (fun i _ => n - (intOf i).toNat)
      case atStart => exact ⟨0, 0, Nat.zero_le _, rfl, rfl, fun j hj => by omega⟩
      case round =>
        obtain ⟨k, r, hk, rfl, rfl, hz⟩ := hrel
        have HZ : Hid (∀ j, j < k → xs.getD j 0 = ys.getD j 0) := hz
        clear hz
        by_cases hlt : k < n
        · obtain ⟨x, hx⟩ : ∃ x, x = xs.getD k 0 := ⟨_, rfl⟩
          obtain ⟨y, hy⟩ : ∃ y, y = ys.getD k 0 := ⟨_, rfl⟩
          have hcx : w.cell? ⟨g, off + k, none⟩ = some (U x) := by rw [hx]; exact hc _ (by omega)
          have hcy : w.cell? ⟨g2, off2 + k, none⟩ = some (U y) := by rw [hy]; exact hc2 _ (by omega)
          have HX : Hid (x = xs.getD k 0) := hx
          have HY : Hid (y = ys.getD k 0) := hy
          clear hx hy hc hc2
          go_wp2
          go_quiet (fail)
          go_wp2
          · have h0 : ((x : Int) != (y : Int)) = true := by assumption
            go_ret
            exact ⟨ret_bool (by rw [HB.out, same_not xs ys k x y HX.out HY.out h0]), r + nq, by simp⟩
          · have h0 : ((x : Int) != (y : Int)) = false := by assumption
            go_roundw
            case rel => exact ⟨k + 1, r + nq, by omega, by go_num, by simp, fun j hj => if e : j = k then by rw [e, ← HX.out, ← HY.out]; simp at h0; omega else HZ.out j (by omega)⟩
            case measure => simp [intOf]; omega
        · have hkn : k = n := by omega
          subst hkn
          have hy := same_yes xs ys _ hl kl HZ.out
          have HY : Hid (decide (xs = ys) = true) := hy
          clear hy
          go_wp2
          go_ret
          exact ⟨ret_bool (by rw [HB.out, HY.out]), r, rfl⟩
  · have hnn : ((n : Int) != (m : Int)) = true := by simp; omega
    have hf : decide (xs = ys) = false := by rw [decide_eq_false_iff_not]; intro e; subst e; omega
    rw [hf]
    clear hf
    go_enter Tryz.func116, Tryz.ntmps116
    go_wp2
    go_ret
    exact ⟨rfl, 0, rfl⟩
end Go.Proofs.YtfkoilaobglddaaGreatDoor

namespace Go.Proofs.YtfkoilaobglddaaGreatDoor
open Go.RowKit Go.Shelf

theorem DO.mono {B B' : Nat} {w : World} {s : Bool} {p : Option Addr} {m : Nat} {e z : Int} (h : DO B w s p m e z) (hB : B' ≤ B) : DO B' w s p m e z := by
  obtain ⟨zs, h1, h2, h3⟩ := h.own
  exact ⟨⟨zs, h1.mono hB, h2, h3⟩, h.sg, h.fm⟩
abbrev EV (s : Bool) (p : Option Addr) (m c : Nat) (e : Int) : Value := .agg #[.bool s, .slice p m c, .int .i64 e, .int .i64 0]
set_option maxRecDepth 20000 in
set_option maxHeartbeats 8000000 in
theorem sform_t {p q : Option Addr} {m c n d : Nat} {w : World} {e f : Int} {s t : Bool} {x y : Int} (h : DN w s p m c e x) (k : DN w t q n d f y) (hc : dv x e ≤ dv y f) :
    Calls Tryz.prog 149 #[SV s p m c e t q n d f] w fun en w' => en = .returned (.bool true) ∧ Below w.heap.size w w' := by
  have A : Hid (DN w s p m c e x) := h
  have B : Hid (DN w t q n d f y) := k
  obtain ⟨cc, hcc⟩ : ∃ cc, cc = cmpI (dv x e) (dv y f) := ⟨_, rfl⟩
  have HCC : Hid (cmpI (dv x e) (dv y f) = cc) := hcc.symm
  have k1 : decide (cc ≤ 0) = true := by rw [hcc]; unfold cmpI; by_cases a : dv x e < dv y f; (· rw [if_pos a]; rfl); rw [if_neg a, if_pos (by omega)]; rfl
  clear h k hc hcc
  go_enter Tryz.func149, Tryz.ntmps149
  go_wp2_with fail
  obtain ⟨W0, hW0⟩ : ∃ W0, W0 = (w.alloc (.cells #[.bool s, .slice p m c, .int .i64 e, .bool t, .slice q n d, .int .i64 f] 47)) := ⟨_, rfl⟩
  have Xs : Hid (B6q W0 (w.heap.size) (.bool s) (.slice p m c) (.int .i64 e) (.bool t) (.slice q n d) (.int .i64 f)) := by rw [hW0]; exact ⟨by go_simp, by go_simp, by go_simp, by go_simp, by go_simp, by go_simp, by go_simp, by go_simp, by go_simp, by go_simp, by go_simp, by go_simp⟩
  have hb0 : Below w.heap.size w W0 := by rw [hW0]; exact below1 w _
  rw [← hW0]
  clear hW0
  have hbw : Below w.heap.size w w := Below.refl _ _
  obtain ⟨gs, hgs⟩ : ∃ g, g = w.heap.size := ⟨_, rfl⟩
  have HGs : Hid (w.heap.size ≤ gs) := by rw [hgs]; show _ ≤ _; omega
  rw [← hgs] at Xs
  try rw [← hgs]
  clear hgs
  replace hbw := Below.on hbw hb0
  clear hb0
  refine (dcmp (A.out.below hbw) (B.out.below hbw)).mono ?_
  rintro e v1 ⟨rfl, hb1⟩
  rw [HCC.out]
  replace Xs : Hid _ := Xs.out.below hb1
  replace hbw := Below.on hbw hb1
  clear hb1
  go_wp2_with fail
  go_ret
  exact ⟨rfl, hbw⟩
set_option maxRecDepth 20000 in
set_option maxHeartbeats 8000000 in
theorem stold {p : Option Addr} {m c : Nat} {w : World} {e : Int} {s : Bool} :
    Calls Tryz.prog 151 #[DV s p m c e, .int .i64 0] w fun en w' => en = .returned (EV s p m c e) ∧ Below w.heap.size w w' := by
  go_enter Tryz.func151, Tryz.ntmps151
  go_wp2_with fail
  refine bodyPost_ret (v := EV s p m c e) (by rw [results_cell1 rfl]; go_simp) rfl ⟨rfl, ?_⟩
  first | exact Below.on (below1 w _) (below1 _ _) | exact below2 w _ _ | exact below1 w _ | exact Below.on (below2 w _ _) (below1 _ _)
set_option maxRecDepth 20000 in
set_option maxHeartbeats 8000000 in
theorem sbetw {p q : Option Addr} {m c n d : Nat} {w : World} {e f : Int} {s t : Bool} :
    Calls Tryz.prog 150 #[EV s p m c e, EV t q n d f] w fun en w' => en = .returned (.tuple #[SV s p m c e t q n d f, .int .i64 0]) ∧ Below w.heap.size w w' := by
  go_enter Tryz.func150, Tryz.ntmps150
  go_wp2_with fail
  refine bodyPost_ret (v := .tuple #[SV s p m c e t q n d f, .int .i64 0]) (by rw [results_cell_tmp rfl]; go_simp) rfl ⟨rfl, ?_⟩
  first | exact below3 w _ _ _ | exact Below.on (below2 w _ _) (below1 _ _)
set_option maxRecDepth 20000 in
set_option maxHeartbeats 8000000 in
theorem sscale {p q : Option Addr} {m c n d : Nat} {w : World} {e f : Int} {s t : Bool} {x y : Int} (h : DN w s p m c e x) (k : DN w t q n d f y) (hx : x ≠ 0) (hy : y ≠ 0) (hc : dv x e ≤ dv y f) :
    Calls Tryz.prog 111 #[SV s p m c e t q n d f, .int .i64 0] w fun en w' => ∃ s1 p1 m1 s2 p2 m2, en = .returned (.tuple #[SV s1 p1 m1 m1 e s2 p2 m2 m2 f, .int .i64 0]) ∧ Below w.heap.size w w' := by
  have A : Hid (DN w s p m c e x) := h
  have B : Hid (DN w t q n d f y) := k
  have HC : Hid (dv x e ≤ dv y f ∧ x ≠ 0 ∧ y ≠ 0) := ⟨hc, hx, hy⟩
  have HE : Hid ((-1048576 ≤ e + 0 ∧ e + 0 ≤ 1048576) ∧ -1048576 ≤ f + 0 ∧ f + 0 ≤ 1048576) := by
    refine ⟨?_, ?_⟩
    · rcases h.fm with ⟨_, h2⟩ | ⟨_, h2, h3⟩ <;> omega
    · rcases k.fm with ⟨_, h2⟩ | ⟨_, h2, h3⟩ <;> omega
  clear h k hc hx hy
  go_enter Tryz.func111, Tryz.ntmps111
  go_wp2_with fail
  obtain ⟨W0, hW0⟩ : ∃ W0, W0 = ((w.alloc (.cells #[.bool s, .slice p m c, .int .i64 e, .bool t, .slice q n d, .int .i64 f] 47)).alloc (.cells #[.bool false, .slice none 0 0, .int .i64 0, .bool false, .slice none 0 0, .int .i64 0] 47)) := ⟨_, rfl⟩
  have Xs : Hid (B6q W0 (w.heap.size) (.bool s) (.slice p m c) (.int .i64 e) (.bool t) (.slice q n d) (.int .i64 f)) := by rw [hW0]; exact ⟨by go_simp, by go_simp, by go_simp, by go_simp, by go_simp, by go_simp, by go_simp, by go_simp, by go_simp, by go_simp, by go_simp, by go_simp⟩
  have Xr : Hid (B6q W0 (w.heap.size + 1) (.bool false) (.slice none 0 0) (.int .i64 0) (.bool false) (.slice none 0 0) (.int .i64 0)) := by rw [hW0]; exact ⟨by go_simp, by go_simp, by go_simp, by go_simp, by go_simp, by go_simp, by go_simp, by go_simp, by go_simp, by go_simp, by go_simp, by go_simp⟩
  have hb0 : Below w.heap.size w W0 := by rw [hW0]; exact below2 w _ _
  rw [← hW0]
  clear hW0
  have hbw : Below w.heap.size w w := Below.refl _ _
  obtain ⟨gr, hgr⟩ : ∃ g, g = w.heap.size + 1 := ⟨_, rfl⟩
  have HGr : Hid (w.heap.size ≤ gr) := by rw [hgr]; show _ ≤ _; omega
  rw [← hgr] at Xr
  try rw [← hgr]
  obtain ⟨gs, hgs⟩ : ∃ g, g = w.heap.size := ⟨_, rfl⟩
  have HGs : Hid (w.heap.size ≤ gs) := by rw [hgs]; show _ ≤ _; omega
  rw [← hgs] at Xs
  try rw [← hgs]
  have HGD : Hid (gs ≠ gr ∧ gr ≠ gs) := by rw [hgs, hgr]; exact ⟨by omega, by omega⟩
  clear hgs hgr
  replace hbw := Below.on hbw hb0
  clear hb0
  refine (sform_t (A.out.below hbw) (B.out.below hbw) HC.out.1).mono ?_
  rintro e v1 ⟨rfl, hb1⟩
  replace Xs : Hid _ := Xs.out.below hb1
  replace Xr : Hid _ := Xr.out.below hb1
  replace hbw := Below.on hbw hb1
  clear hb1
  obtain ⟨cs0, cs1, cs2, cs3, cs4, cs5, fs0, fs1, fs2, fs3, fs4, fs5⟩ := Xs.out
  have hnes : gs < v1.heap.size := World.block_lt_of_cell? v1 _ cs0
  go_wp2_with fail
  clear cs0 cs1 cs2 cs3 cs4 cs5 fs0 fs1 fs2 fs3 fs4 fs5 hnes
  obtain ⟨W5, hW5⟩ : ∃ W1, W1 = v1.drew := ⟨_, rfl⟩
  have hbd : Below v1.heap.size v1 W5 := by rw [hW5]; exact bDrew1 (Below.refl _ _)
  replace Xs : Hid _ := Xs.out.below hbd
  replace Xr : Hid _ := Xr.out.below hbd
  replace hbw := Below.on hbw hbd
  clear hbd
  have HJ : Hid ((fun W' : World => W'.cell? ⟨gs, 0, none⟩ = some (.bool s) ∧ W'.cell? ⟨gs, 1, none⟩ = some (.slice p m c) ∧ W'.cell? ⟨gs, 2, none⟩ = some (.int .i64 e) ∧ W'.cell? ⟨gs, 3, none⟩ = some (.bool t) ∧ W'.cell? ⟨gs, 4, none⟩ = some (.slice q n d) ∧ W'.cell? ⟨gs, 5, none⟩ = some (.int .i64 f)) W5) := ⟨Xs.out.c0, Xs.out.c1, Xs.out.c2, Xs.out.c3, Xs.out.c4, Xs.out.c5⟩
  refine wp_region_J (fun W' => W'.cell? ⟨gs, 0, none⟩ = some (.bool s) ∧ W'.cell? ⟨gs, 1, none⟩ = some (.slice p m c) ∧ W'.cell? ⟨gs, 2, none⟩ = some (.int .i64 e) ∧ W'.cell? ⟨gs, 3, none⟩ = some (.bool t) ∧ W'.cell? ⟨gs, 4, none⟩ = some (.slice q n d) ∧ W'.cell? ⟨gs, 5, none⟩ = some (.int .i64 f)) (by kernel_rfl) ?_
  rw [← hW5]
  clear hW5
  refine wpJ_take (i := 0) (v := ?v1x0) rfl (by kernel_rfl) (by kernel_rfl) (by kernel_rfl) (fun _ _ _ h => h) (by kernel_rfl) ?hy1x0 HJ.out ?rest1x0
  case hy1x0 => (intro W' hJ; obtain ⟨j0, j1, j2, j3, j4, j5⟩ := hJ; go_simp; first | done | with_reducible rfl)
  refine wpJ_take (i := 1) (v := ?v2x1) rfl (by kernel_rfl) (by kernel_rfl) (by kernel_rfl) (fun _ _ _ h => h) (by kernel_rfl) ?hy2x1 HJ.out ?rest2x1
  case hy2x1 => (intro W' hJ; obtain ⟨j0, j1, j2, j3, j4, j5⟩ := hJ; go_simp; first | done | with_reducible rfl)
  refine wpJ_take (i := 2) (v := ?v3x2) rfl (by kernel_rfl) (by kernel_rfl) (by kernel_rfl) (fun _ _ _ h => h) (by kernel_rfl) ?hy3x2 HJ.out ?rest3x2
  case hy3x2 => (intro W' hJ; obtain ⟨j0, j1, j2, j3, j4, j5⟩ := hJ; go_simp; first | done | with_reducible rfl)
  refine wpJ_take (i := 7) (v := ?v4x7) rfl (by kernel_rfl) (by kernel_rfl) (by kernel_rfl) (fun _ _ _ h => h) (by kernel_rfl) ?hy4x7 HJ.out ?rest4x7
  case hy4x7 => (intro W' hJ; obtain ⟨j0, j1, j2, j3, j4, j5⟩ := hJ; go_simp; first | done | with_reducible rfl)
  refine wpJ_take (i := 8) (v := ?v5x8) rfl (by kernel_rfl) (by kernel_rfl) (by kernel_rfl) (fun _ _ _ h => h) (by kernel_rfl) ?hy5x8 HJ.out ?rest5x8
  case hy5x8 => (intro W' hJ; obtain ⟨j0, j1, j2, j3, j4, j5⟩ := hJ; go_simp; first | done | with_reducible rfl)
  go_simp
  refine wpJ_take (i := 9) (v := ?v6x9) rfl (by kernel_rfl) (by kernel_rfl) (by kernel_rfl) (fun _ _ _ h => h) (by kernel_rfl) ?hy6x9 HJ.out ?rest6x9
  case hy6x9 => (intro W' hJ; obtain ⟨j0, j1, j2, j3, j4, j5⟩ := hJ; go_simp; first | done | with_reducible rfl)
  refine wpJ_one (i := 3) (by kernel_rfl) rfl (by kernel_rfl) (fun KJ hK => ?_)
  go_simp
  refine (dscale (A.out.below hbw) HC.out.2.1 HE.out.1).mono ?_
  rintro e9 v2 ⟨v, rfl, hv, hb2⟩
  obtain ⟨p2, m2, z2, rfl, ho, hn, hm⟩ := hv
  clear ho hn hm
  rw [Int.add_zero]
  generalize decide (x < 0) = s2
  replace Xs : Hid _ := Xs.out.below hb2
  replace Xr : Hid _ := Xr.out.below hb2
  replace hbw := Below.on hbw hb2
  clear hb2
  clear HJ
  have HJ : Hid ((fun W' : World => W'.cell? ⟨gs, 0, none⟩ = some (.bool s) ∧ W'.cell? ⟨gs, 1, none⟩ = some (.slice p m c) ∧ W'.cell? ⟨gs, 2, none⟩ = some (.int .i64 e) ∧ W'.cell? ⟨gs, 3, none⟩ = some (.bool t) ∧ W'.cell? ⟨gs, 4, none⟩ = some (.slice q n d) ∧ W'.cell? ⟨gs, 5, none⟩ = some (.int .i64 f)) v2) := ⟨Xs.out.c0, Xs.out.c1, Xs.out.c2, Xs.out.c3, Xs.out.c4, Xs.out.c5⟩
  refine hK _ _ HJ.out ?_
  clear hK
  refine wpJ_take (i := 4) (v := ?v7x4) rfl (by kernel_rfl) (by kernel_rfl) (by kernel_rfl) (fun _ _ _ h => h) (by kernel_rfl) ?hy7x4 HJ.out ?rest7x4
  case hy7x4 => (intro W' hJ; obtain ⟨j0, j1, j2, j3, j4, j5⟩ := hJ; go_simp; first | done | with_reducible rfl)
  refine wpJ_take (i := 5) (v := ?v8x5) rfl (by kernel_rfl) (by kernel_rfl) (by kernel_rfl) (fun _ _ _ h => h) (by kernel_rfl) ?hy8x5 HJ.out ?rest8x5
  case hy8x5 => (intro W' hJ; obtain ⟨j0, j1, j2, j3, j4, j5⟩ := hJ; go_simp; first | done | with_reducible rfl)
  refine wpJ_one (i := 6) (by kernel_rfl) rfl (by kernel_rfl) (fun KJ hK => ?_)
  go_simp
  refine (stold).mono ?_
  rintro e v3 ⟨rfl, hb3⟩
  replace Xs : Hid _ := Xs.out.below hb3
  replace Xr : Hid _ := Xr.out.below hb3
  replace hbw := Below.on hbw hb3
  clear hb3
  refine hK _ _ ⟨Xs.out.c0, Xs.out.c1, Xs.out.c2, Xs.out.c3, Xs.out.c4, Xs.out.c5⟩ ?_
  clear hK
  refine wpJ_one (i := 10) (by kernel_rfl) rfl (by kernel_rfl) (fun KJ hK => ?_)
  go_simp
  refine (dscale (B.out.below hbw) HC.out.2.2 HE.out.2).mono ?_
  rintro e9 v4 ⟨v, rfl, hv, hb4⟩
  obtain ⟨p4, m4, z4, rfl, ho, hn, hm⟩ := hv
  clear ho hn hm
  rw [Int.add_zero]
  generalize decide (y < 0) = s4
  replace Xs : Hid _ := Xs.out.below hb4
  replace Xr : Hid _ := Xr.out.below hb4
  replace hbw := Below.on hbw hb4
  clear hb4
  clear HJ
  have HJ : Hid ((fun W' : World => W'.cell? ⟨gs, 0, none⟩ = some (.bool s) ∧ W'.cell? ⟨gs, 1, none⟩ = some (.slice p m c) ∧ W'.cell? ⟨gs, 2, none⟩ = some (.int .i64 e) ∧ W'.cell? ⟨gs, 3, none⟩ = some (.bool t) ∧ W'.cell? ⟨gs, 4, none⟩ = some (.slice q n d) ∧ W'.cell? ⟨gs, 5, none⟩ = some (.int .i64 f)) v4) := ⟨Xs.out.c0, Xs.out.c1, Xs.out.c2, Xs.out.c3, Xs.out.c4, Xs.out.c5⟩
  refine hK _ _ HJ.out ?_
  clear hK
  refine wpJ_take (i := 11) (v := ?v9x11) rfl (by kernel_rfl) (by kernel_rfl) (by kernel_rfl) (fun _ _ _ h => h) (by kernel_rfl) ?hy9x11 HJ.out ?rest9x11
  case hy9x11 => (intro W' hJ; obtain ⟨j0, j1, j2, j3, j4, j5⟩ := hJ; go_simp; first | done | with_reducible rfl)
  refine wpJ_take (i := 12) (v := ?v10x12) rfl (by kernel_rfl) (by kernel_rfl) (by kernel_rfl) (fun _ _ _ h => h) (by kernel_rfl) ?hy10x12 HJ.out ?rest10x12
  case hy10x12 => (intro W' hJ; obtain ⟨j0, j1, j2, j3, j4, j5⟩ := hJ; go_simp; first | done | with_reducible rfl)
  refine wpJ_one (i := 13) (by kernel_rfl) rfl (by kernel_rfl) (fun KJ hK => ?_)
  go_simp
  refine (stold).mono ?_
  rintro e v5 ⟨rfl, hb5⟩
  replace Xs : Hid _ := Xs.out.below hb5
  replace Xr : Hid _ := Xr.out.below hb5
  replace hbw := Below.on hbw hb5
  clear hb5
  refine hK _ _ ⟨Xs.out.c0, Xs.out.c1, Xs.out.c2, Xs.out.c3, Xs.out.c4, Xs.out.c5⟩ ?_
  clear hK
  refine wpJ_one (i := 14) (by kernel_rfl) rfl (by kernel_rfl) (fun KJ hK => ?_)
  go_simp
  refine (sbetw).mono ?_
  rintro e v6 ⟨rfl, hb6⟩
  replace Xs : Hid _ := Xs.out.below hb6
  replace Xr : Hid _ := Xr.out.below hb6
  replace hbw := Below.on hbw hb6
  clear hb6
  clear HJ
  have HJ : Hid ((fun W' : World => W'.cell? ⟨gs, 0, none⟩ = some (.bool s) ∧ W'.cell? ⟨gs, 1, none⟩ = some (.slice p m c) ∧ W'.cell? ⟨gs, 2, none⟩ = some (.int .i64 e) ∧ W'.cell? ⟨gs, 3, none⟩ = some (.bool t) ∧ W'.cell? ⟨gs, 4, none⟩ = some (.slice q n d) ∧ W'.cell? ⟨gs, 5, none⟩ = some (.int .i64 f)) v6) := ⟨Xs.out.c0, Xs.out.c1, Xs.out.c2, Xs.out.c3, Xs.out.c4, Xs.out.c5⟩
  refine hK _ _ HJ.out ?_
  clear hK
  refine wpJ_take (i := 15) (v := ?v11x15) rfl (by kernel_rfl) (by kernel_rfl) (by kernel_rfl) (fun _ _ _ h => h) (by kernel_rfl) ?hy11x15 HJ.out ?rest11x15
  case hy11x15 => (intro W' hJ; obtain ⟨j0, j1, j2, j3, j4, j5⟩ := hJ; go_simp; first | done | with_reducible rfl)
  refine wpJ_take (i := 16) (v := ?v12x16) rfl (by kernel_rfl) (by kernel_rfl) (by kernel_rfl) (fun _ _ _ h => h) (by kernel_rfl) ?hy12x16 HJ.out ?rest12x16
  case hy12x16 => (intro W' hJ; obtain ⟨j0, j1, j2, j3, j4, j5⟩ := hJ; go_simp; first | done | with_reducible rfl)
  obtain ⟨cr0, cr1, cr2, cr3, cr4, cr5, fr0, fr1, fr2, fr3, fr4, fr5⟩ := Xr.out
  have hner : gr < v6.heap.size := World.block_lt_of_cell? v6 _ cr0
  obtain ⟨cs0, cs1, cs2, cs3, cs4, cs5, fs0, fs1, fs2, fs3, fs4, fs5⟩ := Xs.out
  have hnes : gs < v6.heap.size := World.block_lt_of_cell? v6 _ cs0
  obtain ⟨hgd0, hgd1⟩ := HGD.out
  refine wpJ_one (i := 17) (by kernel_rfl) rfl (by kernel_rfl) (fun KJ hK => ?_)
  go_simp
  have HJ2 : Hid ((fun W' : World => W'.cell? ⟨gs, 0, none⟩ = some (.bool s) ∧ W'.cell? ⟨gs, 1, none⟩ = some (.slice p m c) ∧ W'.cell? ⟨gs, 2, none⟩ = some (.int .i64 e) ∧ W'.cell? ⟨gs, 3, none⟩ = some (.bool t) ∧ W'.cell? ⟨gs, 4, none⟩ = some (.slice q n d) ∧ W'.cell? ⟨gs, 5, none⟩ = some (.int .i64 f)) ((((((v6.setCell ⟨gr, 0, none⟩ (.bool s2)).setCell ⟨gr, 1, none⟩ (.slice p2 m2 m2)).setCell ⟨gr, 2, none⟩ (.int .i64 e)).setCell ⟨gr, 3, none⟩ (.bool s4)).setCell ⟨gr, 4, none⟩ (.slice p4 m4 m4)).setCell ⟨gr, 5, none⟩ (.int .i64 f))) := ⟨by go_simp, by go_simp, by go_simp, by go_simp, by go_simp, by go_simp⟩
  refine hK _ _ HJ2.out ?_
  clear hK HJ
  have HJ := HJ2
  clear HJ2
  refine wpJ_take (i := 18) (v := ?v13x18) rfl (by kernel_rfl) (by kernel_rfl) (by kernel_rfl) (fun _ _ _ h => h) (by kernel_rfl) ?hy13x18 HJ.out ?rest13x18
  case hy13x18 => (intro W' hJ; obtain ⟨j0, j1, j2, j3, j4, j5⟩ := hJ; go_simp; first | done | with_reducible rfl)
  refine wpJ_done (by kernel_rfl) ?_ _
  clear HJ
  go_wp2_with fail
  refine bodyPost_ret (v := .tuple #[SV s2 p2 m2 m2 e s4 p4 m4 m4 f, .int .i64 0]) (by rw [results_cell_tmp rfl]; go_simp) rfl ⟨s2, p2, m2, s4, p4, m4, rfl, ?_⟩
  exact (bSet (bSet (bSet (bSet (bSet (bSet hbw _ _ _ HGr.out) _ _ _ HGr.out) _ _ _ HGr.out) _ _ _ HGr.out) _ _ _ HGr.out) _ _ _ HGr.out)
set_option maxRecDepth 20000 in
set_option maxHeartbeats 8000000 in
theorem smake {p q : Option Addr} {m c n d : Nat} {w : World} {e f : Int} {s t : Bool} {x y : Int} (h : DN w s p m c e x) (k : DN w t q n d f y) (hx : x ≠ 0) (hy : y ≠ 0) (hc : dv x e ≤ dv y f) :
    Calls Tryz.prog 60 #[DV s p m c e, DV t q n d f] w fun en w' => ∃ s1 p1 m1 s2 p2 m2, en = .returned (.tuple #[SV s1 p1 m1 m1 e s2 p2 m2 m2 f, .int .i64 0]) ∧ Below w.heap.size w w' := by
  have A : Hid (DN w s p m c e x) := h
  have B : Hid (DN w t q n d f y) := k
  have HC : Hid (dv x e ≤ dv y f ∧ x ≠ 0 ∧ y ≠ 0) := ⟨hc, hx, hy⟩
  have HE : Hid ((-1048576 ≤ e + 0 ∧ e + 0 ≤ 1048576) ∧ -1048576 ≤ f + 0 ∧ f + 0 ≤ 1048576) := by
    refine ⟨?_, ?_⟩
    · rcases h.fm with ⟨_, h2⟩ | ⟨_, h2, h3⟩ <;> omega
    · rcases k.fm with ⟨_, h2⟩ | ⟨_, h2, h3⟩ <;> omega
  clear h k hc hx hy
  go_enter Tryz.func60, Tryz.ntmps60
  go_wp2_with fail
  obtain ⟨W0, hW0⟩ : ∃ W0, W0 = (((w.alloc (.cells #[.bool s, .slice p m c, .int .i64 e] 26)).alloc (.cells #[.bool t, .slice q n d, .int .i64 f] 26)).alloc (.cells #[.bool false, .slice none 0 0, .int .i64 0, .bool false, .slice none 0 0, .int .i64 0] 47)) := ⟨_, rfl⟩
  have Xa : Hid (B3q W0 (w.heap.size) (.bool s) (.slice p m c) (.int .i64 e)) := by rw [hW0]; exact ⟨by go_simp, by go_simp, by go_simp, by go_simp, by go_simp, by go_simp⟩
  have Xb : Hid (B3q W0 (w.heap.size + 1) (.bool t) (.slice q n d) (.int .i64 f)) := by rw [hW0]; exact ⟨by go_simp, by go_simp, by go_simp, by go_simp, by go_simp, by go_simp⟩
  have Xr : Hid (B6q W0 (w.heap.size + 1 + 1) (.bool false) (.slice none 0 0) (.int .i64 0) (.bool false) (.slice none 0 0) (.int .i64 0)) := by rw [hW0]; exact ⟨by go_simp, by go_simp, by go_simp, by go_simp, by go_simp, by go_simp, by go_simp, by go_simp, by go_simp, by go_simp, by go_simp, by go_simp⟩
  have hb0 : Below w.heap.size w W0 := by rw [hW0]; exact below3 w _ _ _
  rw [← hW0]
  clear hW0
  have hbw : Below w.heap.size w w := Below.refl _ _
  obtain ⟨gr, hgr⟩ : ∃ g, g = w.heap.size + 1 + 1 := ⟨_, rfl⟩
  have HGr : Hid (w.heap.size ≤ gr) := by rw [hgr]; show _ ≤ _; omega
  rw [← hgr] at Xr
  try rw [← hgr]
  obtain ⟨gb, hgb⟩ : ∃ g, g = w.heap.size + 1 := ⟨_, rfl⟩
  have HGb : Hid (w.heap.size ≤ gb) := by rw [hgb]; show _ ≤ _; omega
  rw [← hgb] at Xb
  try rw [← hgb]
  obtain ⟨ga, hga⟩ : ∃ g, g = w.heap.size := ⟨_, rfl⟩
  have HGa : Hid (w.heap.size ≤ ga) := by rw [hga]; show _ ≤ _; omega
  rw [← hga] at Xa
  try rw [← hga]
  have HGD : Hid (ga ≠ gb ∧ ga ≠ gr ∧ gb ≠ ga ∧ gb ≠ gr ∧ gr ≠ ga ∧ gr ≠ gb) := by rw [hga, hgb, hgr]; exact ⟨by omega, by omega, by omega, by omega, by omega, by omega⟩
  clear hga hgb hgr
  replace hbw := Below.on hbw hb0
  clear hb0
  clear HE
  refine (sscale (A.out.below hbw) (B.out.below hbw) HC.out.2.1 HC.out.2.2 HC.out.1).mono ?_
  rintro e9 v1 ⟨s1, p1, m1, s2, p2, m2, rfl, hb1⟩
  replace Xa : Hid _ := Xa.out.below hb1
  replace Xb : Hid _ := Xb.out.below hb1
  replace Xr : Hid _ := Xr.out.below hb1
  replace hbw := Below.on hbw hb1
  clear hb1
  obtain ⟨cr0, cr1, cr2, cr3, cr4, cr5, fr0, fr1, fr2, fr3, fr4, fr5⟩ := Xr.out
  have hner : gr < v1.heap.size := World.block_lt_of_cell? v1 _ cr0
  go_wp2_with fail
  refine bodyPost_ret (v := .tuple #[SV s1 p1 m1 m1 e s2 p2 m2 m2 f, .int .i64 0]) (by rw [results_cell_tmp rfl]; go_simp) rfl ⟨s1, p1, m1, s2, p2, m2, rfl, ?_⟩
  exact (bSet (bSet (bSet (bSet (bSet (bSet hbw _ _ _ HGr.out) _ _ _ HGr.out) _ _ _ HGr.out) _ _ _ HGr.out) _ _ _ HGr.out) _ _ _ HGr.out)
set_option maxRecDepth 20000 in
set_option maxHeartbeats 8000000 in
theorem stake {p : Option Addr} {m c : Nat} {w : World} {e : Int} {s : Bool} {a : Option Addr} :
    Calls Tryz.prog 61 #[.pointer a, DV s p m c e, .int .i64 0] w fun en w' => en = .returned (DV s p m c e) ∧ Below w.heap.size w w' := by
  go_enter Tryz.func61, Tryz.ntmps61
  go_wp2_with fail
  refine bodyPost_ret (v := DV s p m c e) (by rw [results_cell1 rfl]; go_simp) rfl ⟨rfl, ?_⟩
  first | exact below2 w _ _ | exact below1 w _
set_option maxRecDepth 20000 in
set_option maxHeartbeats 8000000 in
theorem scmp {p q : Option Addr} {m c n d : Nat} {w : World} {e f : Int} {s t : Bool} {a : Option Addr} {x y : Int} (h : DN w s p m c e x) (k : DN w t q n d f y) :
    Calls Tryz.prog 59 #[.pointer a, DV s p m c e, DV t q n d f] w fun en w' => en = .returned (.int .i64 (cmpI (dv x e) (dv y f))) ∧ Below w.heap.size w w' := by
  have A : Hid (DN w s p m c e x) := h
  have B : Hid (DN w t q n d f y) := k
  clear h k
  go_enter Tryz.func59, Tryz.ntmps59
  go_wp2_with fail
  obtain ⟨W0, hW0⟩ : ∃ W0, W0 = ((w.alloc (.cells #[.bool s, .slice p m c, .int .i64 e] 26)).alloc (.cells #[.bool t, .slice q n d, .int .i64 f] 26)) := ⟨_, rfl⟩
  have Xx : Hid (B3q W0 (w.heap.size) (.bool s) (.slice p m c) (.int .i64 e)) := by rw [hW0]; exact ⟨by go_simp, by go_simp, by go_simp, by go_simp, by go_simp, by go_simp⟩
  have Xy : Hid (B3q W0 (w.heap.size + 1) (.bool t) (.slice q n d) (.int .i64 f)) := by rw [hW0]; exact ⟨by go_simp, by go_simp, by go_simp, by go_simp, by go_simp, by go_simp⟩
  have hb0 : Below w.heap.size w W0 := by rw [hW0]; exact below2 w _ _
  rw [← hW0]
  clear hW0
  have hbw : Below w.heap.size w w := Below.refl _ _
  obtain ⟨gy, hgy⟩ : ∃ g, g = w.heap.size + 1 := ⟨_, rfl⟩
  have HGy : Hid (w.heap.size ≤ gy) := by rw [hgy]; show _ ≤ _; omega
  rw [← hgy] at Xy
  try rw [← hgy]
  obtain ⟨gx, hgx⟩ : ∃ g, g = w.heap.size := ⟨_, rfl⟩
  have HGx : Hid (w.heap.size ≤ gx) := by rw [hgx]; show _ ≤ _; omega
  rw [← hgx] at Xx
  try rw [← hgx]
  have HGD : Hid (gx ≠ gy ∧ gy ≠ gx) := by rw [hgx, hgy]; exact ⟨by omega, by omega⟩
  clear hgx hgy
  replace hbw := Below.on hbw hb0
  clear hb0
  refine (dcmp (A.out.below hbw) (B.out.below hbw)).mono ?_
  rintro e v1 ⟨rfl, hb1⟩
  replace Xx : Hid _ := Xx.out.below hb1
  replace Xy : Hid _ := Xy.out.below hb1
  replace hbw := Below.on hbw hb1
  clear hb1
  go_wp2_with fail
  go_ret
  exact ⟨rfl, hbw⟩
set_option maxRecDepth 20000 in
set_option maxHeartbeats 8000000 in
theorem sadd {p q : Option Addr} {m c n d : Nat} {w : World} {e f : Int} {s t : Bool} {a : Option Addr} {x y : Int} (h : DN w s p m c e x) (k : DN w t q n d f y) {K E : Nat} (bx : DB x e K E) (by_ : DB y f K E) (hK : K + 2 * E + 1 ≤ 524288) (hT : Tab w) :
    Calls Tryz.prog 62 #[.pointer a, DV s p m c e, DV t q n d f] w fun en w' => ∃ zo eo s1 p1 m1, en = .returned (DV s1 p1 m1 m1 eo) ∧ DO w.heap.size w' s1 p1 m1 eo zo ∧ DB zo eo (K + 2 * E + 1) (K + 3 * E + 1) ∧ dv zo eo = dv x e + dv y f ∧ Below w.heap.size w w' := by
  have A : Hid (DN w s p m c e x) := h
  have B : Hid (DN w t q n d f y) := k
  have BX : Hid (DB x e K E) := bx
  have BY : Hid (DB y f K E) := by_
  have HK : Hid (K + 2 * E + 1 ≤ 524288) := hK
  have TB : Hid (Tab w) := hT
  clear h k bx by_ hK hT
  go_enter Tryz.func62, Tryz.ntmps62
  go_wp2_with fail
  obtain ⟨W0, hW0⟩ : ∃ W0, W0 = (((w.alloc (.cells #[.bool s, .slice p m c, .int .i64 e] 26)).alloc (.cells #[.bool t, .slice q n d, .int .i64 f] 26)).alloc (.cells #[.bool false, .slice none 0 0, .int .i64 0] 26)) := ⟨_, rfl⟩
  have Xx : Hid (B3q W0 (w.heap.size) (.bool s) (.slice p m c) (.int .i64 e)) := by rw [hW0]; exact ⟨by go_simp, by go_simp, by go_simp, by go_simp, by go_simp, by go_simp⟩
  have Xy : Hid (B3q W0 (w.heap.size + 1) (.bool t) (.slice q n d) (.int .i64 f)) := by rw [hW0]; exact ⟨by go_simp, by go_simp, by go_simp, by go_simp, by go_simp, by go_simp⟩
  have Xr : Hid (B3q W0 (w.heap.size + 1 + 1) (.bool false) (.slice none 0 0) (.int .i64 0)) := by rw [hW0]; exact ⟨by go_simp, by go_simp, by go_simp, by go_simp, by go_simp, by go_simp⟩
  have hb0 : Below w.heap.size w W0 := by rw [hW0]; exact below3 w _ _ _
  rw [← hW0]
  clear hW0
  have hbw : Below w.heap.size w w := Below.refl _ _
  obtain ⟨gr, hgr⟩ : ∃ g, g = w.heap.size + 1 + 1 := ⟨_, rfl⟩
  have HGr : Hid (w.heap.size ≤ gr) := by rw [hgr]; show _ ≤ _; omega
  rw [← hgr] at Xr
  try rw [← hgr]
  obtain ⟨gy, hgy⟩ : ∃ g, g = w.heap.size + 1 := ⟨_, rfl⟩
  have HGy : Hid (w.heap.size ≤ gy) := by rw [hgy]; show _ ≤ _; omega
  rw [← hgy] at Xy
  try rw [← hgy]
  obtain ⟨gx, hgx⟩ : ∃ g, g = w.heap.size := ⟨_, rfl⟩
  have HGx : Hid (w.heap.size ≤ gx) := by rw [hgx]; show _ ≤ _; omega
  rw [← hgx] at Xx
  try rw [← hgx]
  have HGD : Hid (gx ≠ gy ∧ gx ≠ gr ∧ gy ≠ gx ∧ gy ≠ gr ∧ gr ≠ gx ∧ gr ≠ gy) := by rw [hgx, hgy, hgr]; exact ⟨by omega, by omega, by omega, by omega, by omega, by omega⟩
  clear hgx hgy hgr
  replace hbw := Below.on hbw hb0
  clear hb0
  have HRL : Hid (gr < W0.heap.size ∧ w.heap.size ≤ W0.heap.size) := ⟨Xr.out.lt, hbw.size⟩
  refine (dadd_b (A.out.below hbw) (B.out.below hbw) BX.out BY.out HK.out (TB.out.below hbw)).mono ?_
  rintro e9 v1 ⟨v, zo, eo, rfl, hv, hdb, hdv, hb1⟩
  obtain ⟨s1, p1, m1, rfl, hd1⟩ := DO.of hv hdb.fm
  have HRES : Hid (DB zo eo (K + 2 * E + 1) (K + 3 * E + 1) ∧ dv zo eo = dv x e + dv y f) := ⟨hdb, hdv⟩
  clear hv hdb hdv
  replace Xx : Hid _ := Xx.out.below hb1
  replace Xy : Hid _ := Xy.out.below hb1
  replace Xr : Hid _ := Xr.out.below hb1
  replace hbw := Below.on hbw hb1
  clear hb1
  have D1 : Hid (DO W0.heap.size v1 s1 p1 m1 eo zo) := hd1
  clear hd1
  go_wp2_with fail
  refine (stake).mono ?_
  rintro e v2 ⟨rfl, hb2⟩
  replace Xx : Hid _ := Xx.out.below hb2
  replace Xy : Hid _ := Xy.out.below hb2
  replace Xr : Hid _ := Xr.out.below hb2
  replace D1 : Hid (DO W0.heap.size v2 s1 p1 m1 eo zo) := D1.out.below hb2
  replace hbw := Below.on hbw hb2
  clear hb2
  obtain ⟨cr0, cr1, cr2, fr0, fr1, fr2⟩ := Xr.out
  have hner : gr < v2.heap.size := World.block_lt_of_cell? v2 _ cr0
  go_wp2_with fail
  refine bodyPost_ret (v := DV s1 p1 m1 m1 eo) (by rw [results_cell1 rfl]; go_simp) rfl ⟨zo, eo, s1, p1, m1, rfl, ?_, HRES.out.1, HRES.out.2, ?_⟩
  · exact ((((D1.out.set _ _ _ HRL.out.1).set _ _ _ HRL.out.1).set _ _ _ HRL.out.1).mono HRL.out.2)
  · exact (bSet (bSet (bSet hbw _ _ _ HGr.out) _ _ _ HGr.out) _ _ _ HGr.out)
set_option maxRecDepth 20000 in
set_option maxHeartbeats 8000000 in
theorem ssub {p q : Option Addr} {m c n d : Nat} {w : World} {e f : Int} {s t : Bool} {a : Option Addr} {x y : Int} (h : DN w s p m c e x) (k : DN w t q n d f y) {K E : Nat} (bx : DB x e K E) (by_ : DB y f K E) (hK : K + 2 * E + 1 ≤ 524288) (hT : Tab w) :
    Calls Tryz.prog 64 #[.pointer a, DV s p m c e, DV t q n d f] w fun en w' => ∃ zo eo s1 p1 m1, en = .returned (DV s1 p1 m1 m1 eo) ∧ DO w.heap.size w' s1 p1 m1 eo zo ∧ DB zo eo (K + 2 * E + 1) (K + 3 * E + 1) ∧ dv zo eo = dv x e - dv y f ∧ Below w.heap.size w w' := by
  have A : Hid (DN w s p m c e x) := h
  have B : Hid (DN w t q n d f y) := k
  have BX : Hid (DB x e K E) := bx
  have BY : Hid (DB y f K E) := by_
  have HK : Hid (K + 2 * E + 1 ≤ 524288) := hK
  have TB : Hid (Tab w) := hT
  clear h k bx by_ hK hT
  go_enter Tryz.func64, Tryz.ntmps64
  go_wp2_with fail
  obtain ⟨W0, hW0⟩ : ∃ W0, W0 = (((w.alloc (.cells #[.bool s, .slice p m c, .int .i64 e] 26)).alloc (.cells #[.bool t, .slice q n d, .int .i64 f] 26)).alloc (.cells #[.bool false, .slice none 0 0, .int .i64 0] 26)) := ⟨_, rfl⟩
  have Xx : Hid (B3q W0 (w.heap.size) (.bool s) (.slice p m c) (.int .i64 e)) := by rw [hW0]; exact ⟨by go_simp, by go_simp, by go_simp, by go_simp, by go_simp, by go_simp⟩
  have Xy : Hid (B3q W0 (w.heap.size + 1) (.bool t) (.slice q n d) (.int .i64 f)) := by rw [hW0]; exact ⟨by go_simp, by go_simp, by go_simp, by go_simp, by go_simp, by go_simp⟩
  have Xr : Hid (B3q W0 (w.heap.size + 1 + 1) (.bool false) (.slice none 0 0) (.int .i64 0)) := by rw [hW0]; exact ⟨by go_simp, by go_simp, by go_simp, by go_simp, by go_simp, by go_simp⟩
  have hb0 : Below w.heap.size w W0 := by rw [hW0]; exact below3 w _ _ _
  rw [← hW0]
  clear hW0
  have hbw : Below w.heap.size w w := Below.refl _ _
  obtain ⟨gr, hgr⟩ : ∃ g, g = w.heap.size + 1 + 1 := ⟨_, rfl⟩
  have HGr : Hid (w.heap.size ≤ gr) := by rw [hgr]; show _ ≤ _; omega
  rw [← hgr] at Xr
  try rw [← hgr]
  obtain ⟨gy, hgy⟩ : ∃ g, g = w.heap.size + 1 := ⟨_, rfl⟩
  have HGy : Hid (w.heap.size ≤ gy) := by rw [hgy]; show _ ≤ _; omega
  rw [← hgy] at Xy
  try rw [← hgy]
  obtain ⟨gx, hgx⟩ : ∃ g, g = w.heap.size := ⟨_, rfl⟩
  have HGx : Hid (w.heap.size ≤ gx) := by rw [hgx]; show _ ≤ _; omega
  rw [← hgx] at Xx
  try rw [← hgx]
  have HGD : Hid (gx ≠ gy ∧ gx ≠ gr ∧ gy ≠ gx ∧ gy ≠ gr ∧ gr ≠ gx ∧ gr ≠ gy) := by rw [hgx, hgy, hgr]; exact ⟨by omega, by omega, by omega, by omega, by omega, by omega⟩
  clear hgx hgy hgr
  replace hbw := Below.on hbw hb0
  clear hb0
  have HRL : Hid (gr < W0.heap.size ∧ w.heap.size ≤ W0.heap.size) := ⟨Xr.out.lt, hbw.size⟩
  refine (dsub_b (A.out.below hbw) (B.out.below hbw) BX.out BY.out HK.out (TB.out.below hbw)).mono ?_
  rintro e9 v1 ⟨v, zo, eo, rfl, hv, hdb, hdv, hb1⟩
  obtain ⟨s1, p1, m1, rfl, hd1⟩ := DO.of hv hdb.fm
  have HRES : Hid (DB zo eo (K + 2 * E + 1) (K + 3 * E + 1) ∧ dv zo eo = dv x e - dv y f) := ⟨hdb, hdv⟩
  clear hv hdb hdv
  replace Xx : Hid _ := Xx.out.below hb1
  replace Xy : Hid _ := Xy.out.below hb1
  replace Xr : Hid _ := Xr.out.below hb1
  replace hbw := Below.on hbw hb1
  clear hb1
  have D1 : Hid (DO W0.heap.size v1 s1 p1 m1 eo zo) := hd1
  clear hd1
  go_wp2_with fail
  refine (stake).mono ?_
  rintro e v2 ⟨rfl, hb2⟩
  replace Xx : Hid _ := Xx.out.below hb2
  replace Xy : Hid _ := Xy.out.below hb2
  replace Xr : Hid _ := Xr.out.below hb2
  replace D1 : Hid (DO W0.heap.size v2 s1 p1 m1 eo zo) := D1.out.below hb2
  replace hbw := Below.on hbw hb2
  clear hb2
  obtain ⟨cr0, cr1, cr2, fr0, fr1, fr2⟩ := Xr.out
  have hner : gr < v2.heap.size := World.block_lt_of_cell? v2 _ cr0
  go_wp2_with fail
  refine bodyPost_ret (v := DV s1 p1 m1 m1 eo) (by rw [results_cell1 rfl]; go_simp) rfl ⟨zo, eo, s1, p1, m1, rfl, ?_, HRES.out.1, HRES.out.2, ?_⟩
  · exact ((((D1.out.set _ _ _ HRL.out.1).set _ _ _ HRL.out.1).set _ _ _ HRL.out.1).mono HRL.out.2)
  · exact (bSet (bSet (bSet hbw _ _ _ HGr.out) _ _ _ HGr.out) _ _ _ HGr.out)
set_option maxRecDepth 20000 in
set_option maxHeartbeats 8000000 in
theorem smul {p q : Option Addr} {m c n d : Nat} {w : World} {e f : Int} {s t : Bool} {a : Option Addr} {x y : Int} (h : DN w s p m c e x) (k : DN w t q n d f y) {K E K' E' : Nat} (bx : DB x e K E) (by_ : DB y f K' E') (hK : K + K' ≤ 524288) (hE : E + E' ≤ 524288) (hT : Tab w) :
    Calls Tryz.prog 63 #[.pointer a, DV s p m c e, DV t q n d f] w fun en w' => ∃ zo eo s1 p1 m1, en = .returned (DV s1 p1 m1 m1 eo) ∧ DO w.heap.size w' s1 p1 m1 eo zo ∧ DB zo eo (K + K') (E + E' + K + K') ∧ dv zo eo = dv (x * y) (e + f) ∧ Below w.heap.size w w' := by
  have A : Hid (DN w s p m c e x) := h
  have B : Hid (DN w t q n d f y) := k
  have BX : Hid (DB x e K E) := bx
  have BY : Hid (DB y f K' E') := by_
  have HK : Hid (K + K' ≤ 524288) := hK
  have HE : Hid (E + E' ≤ 524288) := hE
  have TB : Hid (Tab w) := hT
  clear h k bx by_ hK hT hE
  go_enter Tryz.func63, Tryz.ntmps63
  go_wp2_with fail
  obtain ⟨W0, hW0⟩ : ∃ W0, W0 = (((w.alloc (.cells #[.bool s, .slice p m c, .int .i64 e] 26)).alloc (.cells #[.bool t, .slice q n d, .int .i64 f] 26)).alloc (.cells #[.bool false, .slice none 0 0, .int .i64 0] 26)) := ⟨_, rfl⟩
  have Xx : Hid (B3q W0 (w.heap.size) (.bool s) (.slice p m c) (.int .i64 e)) := by rw [hW0]; exact ⟨by go_simp, by go_simp, by go_simp, by go_simp, by go_simp, by go_simp⟩
  have Xy : Hid (B3q W0 (w.heap.size + 1) (.bool t) (.slice q n d) (.int .i64 f)) := by rw [hW0]; exact ⟨by go_simp, by go_simp, by go_simp, by go_simp, by go_simp, by go_simp⟩
  have Xr : Hid (B3q W0 (w.heap.size + 1 + 1) (.bool false) (.slice none 0 0) (.int .i64 0)) := by rw [hW0]; exact ⟨by go_simp, by go_simp, by go_simp, by go_simp, by go_simp, by go_simp⟩
  have hb0 : Below w.heap.size w W0 := by rw [hW0]; exact below3 w _ _ _
  rw [← hW0]
  clear hW0
  have hbw : Below w.heap.size w w := Below.refl _ _
  obtain ⟨gr, hgr⟩ : ∃ g, g = w.heap.size + 1 + 1 := ⟨_, rfl⟩
  have HGr : Hid (w.heap.size ≤ gr) := by rw [hgr]; show _ ≤ _; omega
  rw [← hgr] at Xr
  try rw [← hgr]
  obtain ⟨gy, hgy⟩ : ∃ g, g = w.heap.size + 1 := ⟨_, rfl⟩
  have HGy : Hid (w.heap.size ≤ gy) := by rw [hgy]; show _ ≤ _; omega
  rw [← hgy] at Xy
  try rw [← hgy]
  obtain ⟨gx, hgx⟩ : ∃ g, g = w.heap.size := ⟨_, rfl⟩
  have HGx : Hid (w.heap.size ≤ gx) := by rw [hgx]; show _ ≤ _; omega
  rw [← hgx] at Xx
  try rw [← hgx]
  have HGD : Hid (gx ≠ gy ∧ gx ≠ gr ∧ gy ≠ gx ∧ gy ≠ gr ∧ gr ≠ gx ∧ gr ≠ gy) := by rw [hgx, hgy, hgr]; exact ⟨by omega, by omega, by omega, by omega, by omega, by omega⟩
  clear hgx hgy hgr
  replace hbw := Below.on hbw hb0
  clear hb0
  have HRL : Hid (gr < W0.heap.size ∧ w.heap.size ≤ W0.heap.size) := ⟨Xr.out.lt, hbw.size⟩
  refine (dmul_b (A.out.below hbw) (B.out.below hbw) BX.out BY.out HK.out HE.out (TB.out.below hbw)).mono ?_
  rintro e9 v1 ⟨v, zo, eo, rfl, hv, hdb, hdv, hb1⟩
  obtain ⟨s1, p1, m1, rfl, hd1⟩ := DO.of hv hdb.fm
  have HRES : Hid (DB zo eo (K + K') (E + E' + K + K') ∧ dv zo eo = dv (x * y) (e + f)) := ⟨hdb, hdv⟩
  clear hv hdb hdv
  replace Xx : Hid _ := Xx.out.below hb1
  replace Xy : Hid _ := Xy.out.below hb1
  replace Xr : Hid _ := Xr.out.below hb1
  replace hbw := Below.on hbw hb1
  clear hb1
  have D1 : Hid (DO W0.heap.size v1 s1 p1 m1 eo zo) := hd1
  clear hd1
  go_wp2_with fail
  refine (stake).mono ?_
  rintro e v2 ⟨rfl, hb2⟩
  replace Xx : Hid _ := Xx.out.below hb2
  replace Xy : Hid _ := Xy.out.below hb2
  replace Xr : Hid _ := Xr.out.below hb2
  replace D1 : Hid (DO W0.heap.size v2 s1 p1 m1 eo zo) := D1.out.below hb2
  replace hbw := Below.on hbw hb2
  clear hb2
  obtain ⟨cr0, cr1, cr2, fr0, fr1, fr2⟩ := Xr.out
  have hner : gr < v2.heap.size := World.block_lt_of_cell? v2 _ cr0
  go_wp2_with fail
  refine bodyPost_ret (v := DV s1 p1 m1 m1 eo) (by rw [results_cell1 rfl]; go_simp) rfl ⟨zo, eo, s1, p1, m1, rfl, ?_, HRES.out.1, HRES.out.2, ?_⟩
  · exact ((((D1.out.set _ _ _ HRL.out.1).set _ _ _ HRL.out.1).set _ _ _ HRL.out.1).mono HRL.out.2)
  · exact (bSet (bSet (bSet hbw _ _ _ HGr.out) _ _ _ HGr.out) _ _ _ HGr.out)
end Go.Proofs.YtfkoilaobglddaaGreatDoor

namespace Go.Proofs.YtfkoilaobglddaaGreatDoor
open Go.RowKit Go.Shelf

set_option maxRecDepth 20000 in
set_option maxHeartbeats 8000000 in
theorem tint_s {p q : Option Addr} {m c n d : Nat} {w : World} {s t : Bool} (hs : s ≠ t) :
    Calls Tryz.prog 67 #[ZV s p m c, ZV t q n d] w fun en w' => en = .returned (.bool false) ∧ Below w.heap.size w w' := by
  have h1 : (s == t) = false := by simp [hs]
  have h2 : (t == s) = false := by simp; exact fun h => hs h.symm
  clear hs
  go_enter Tryz.func67, Tryz.ntmps67
  go_wp2_with fail
  go_ret
  first | exact ⟨rfl, below2 w _ _⟩ | exact ⟨rfl, bDrewN (below2 w _ _) _⟩
set_option maxRecDepth 20000 in
set_option maxHeartbeats 8000000 in
theorem tint_e {p q : Option Addr} {m c n d : Nat} {w : World} {x y : Int} {s t : Bool} (h : ZN w s p m c x) (k : ZN w t q n d y) (hs : s = t) :
    Calls Tryz.prog 67 #[ZV s p m c, ZV t q n d] w fun en w' => en = .returned (.bool (decide (x = y))) ∧ Below w.heap.size w w' := by
  subst hs
  have A : Hid (ZN w s p m c x) := h
  have B : Hid (ZN w s q n d y) := k
  clear h k
  go_enter Tryz.func67, Tryz.ntmps67
  go_wp2_with fail
  obtain ⟨W0, hW0⟩ : ∃ W0, W0 = ((w.alloc (.cells #[.bool s, .slice p m c] 24)).alloc (.cells #[.bool s, .slice q n d] 24)) := ⟨_, rfl⟩
  have Xa : Hid (Box W0 (w.heap.size) (.bool s) (.slice p m c)) := by rw [hW0]; exact ⟨by go_simp, by go_simp, by go_simp, by go_simp⟩
  have Xb : Hid (Box W0 (w.heap.size + 1) (.bool s) (.slice q n d)) := by rw [hW0]; exact ⟨by go_simp, by go_simp, by go_simp, by go_simp⟩
  have hb0 : Below w.heap.size w W0 := by rw [hW0]; exact below2 w _ _
  rw [← hW0]
  clear hW0
  have hbw : Below w.heap.size w w := Below.refl _ _
  obtain ⟨gb, hgb⟩ : ∃ g, g = w.heap.size + 1 := ⟨_, rfl⟩
  have HGb : Hid (w.heap.size ≤ gb) := by rw [hgb]; show _ ≤ _; omega
  rw [← hgb] at Xb
  try rw [← hgb]
  obtain ⟨ga, hga⟩ : ∃ g, g = w.heap.size := ⟨_, rfl⟩
  have HGa : Hid (w.heap.size ≤ ga) := by rw [hga]; show _ ≤ _; omega
  rw [← hga] at Xa
  try rw [← hga]
  have HGD : Hid (ga ≠ gb ∧ gb ≠ ga) := by rw [hga, hgb]; exact ⟨by omega, by omega⟩
  clear hga hgb
  replace hbw := Below.on hbw hb0
  clear hb0
  obtain ⟨xs, hX⟩ := (A.out.below hbw).ex
  obtain ⟨ys, hY⟩ := (B.out.below hbw).ex
  refine (tsame_any hX.at_ hY.at_).mono ?_
  rintro e9 v1 ⟨rfl, r, rfl⟩
  rw [show decide (xs = ys) = decide (x = y) from decide_eq_decide.2 ⟨fun h => by
      have h1 := hX.nf.ext hY.nf h
      have h2 := A.out.iv; have h3 := B.out.iv
      rw [← h2, ← h3, h1], fun h => by
      subst h
      exact hX.nf.inj B64_one hY.nf⟩]
  clear hX hY
  have hbr := bDrewN (Below.refl W0.heap.size W0) r
  generalize W0.drewN r = v1 at *
  replace Xa : Hid _ := Xa.out.below hbr
  replace Xb : Hid _ := Xb.out.below hbr
  replace hbw := Below.on hbw hbr
  clear hbr
  go_wp2_with fail
  go_ret
  exact ⟨rfl, hbw⟩
theorem tint {p q : Option Addr} {m c n d : Nat} {w : World} {x y : Int} {s t : Bool} (h : ZN w s p m c x) (k : ZN w t q n d y) :
    Calls Tryz.prog 67 #[ZV s p m c, ZV t q n d] w fun en w' => en = .returned (.bool (decide (x = y))) ∧ Below w.heap.size w w' := by
  by_cases hs : s = t
  · exact tint_e h k hs
  · have : ¬ x = y := fun hxy => hs (by rw [h.sg, k.sg, hxy])
    rw [decide_eq_false this]
    exact tint_s hs
set_option maxRecDepth 20000 in
set_option maxHeartbeats 8000000 in
theorem tdy_n {p q : Option Addr} {m c n d : Nat} {w : World} {e f : Int} {s t : Bool} (he : e ≠ f) :
    Calls Tryz.prog 29 #[DV s p m c e, DV t q n d f] w fun en w' => en = .returned (.bool false) ∧ Below w.heap.size w w' := by
  have h1 : (e == f) = false := by simp [he]
  clear he
  go_enter Tryz.func29, Tryz.ntmps29
  go_wp2_with fail
  go_ret
  first | exact ⟨rfl, below2 w _ _⟩ | exact ⟨rfl, bDrewN (below2 w _ _) _⟩
set_option maxRecDepth 20000 in
set_option maxHeartbeats 8000000 in
theorem tdy_e {p q : Option Addr} {m c n d : Nat} {w : World} {e f : Int} {s t : Bool} {x y : Int} (h : DN w s p m c e x) (k : DN w t q n d f y) (he : e = f) :
    Calls Tryz.prog 29 #[DV s p m c e, DV t q n d f] w fun en w' => en = .returned (.bool (decide (x = y))) ∧ Below w.heap.size w w' := by
  subst he
  have A : Hid (DN w s p m c e x) := h
  have B : Hid (DN w t q n d e y) := k
  clear h k
  go_enter Tryz.func29, Tryz.ntmps29
  go_wp2_with fail
  obtain ⟨W0, hW0⟩ : ∃ W0, W0 = ((w.alloc (.cells #[.bool s, .slice p m c, .int .i64 e] 26)).alloc (.cells #[.bool t, .slice q n d, .int .i64 e] 26)) := ⟨_, rfl⟩
  have Xa : Hid (B3q W0 (w.heap.size) (.bool s) (.slice p m c) (.int .i64 e)) := by rw [hW0]; exact ⟨by go_simp, by go_simp, by go_simp, by go_simp, by go_simp, by go_simp⟩
  have Xb : Hid (B3q W0 (w.heap.size + 1) (.bool t) (.slice q n d) (.int .i64 e)) := by rw [hW0]; exact ⟨by go_simp, by go_simp, by go_simp, by go_simp, by go_simp, by go_simp⟩
  have hb0 : Below w.heap.size w W0 := by rw [hW0]; exact below2 w _ _
  rw [← hW0]
  clear hW0
  have hbw : Below w.heap.size w w := Below.refl _ _
  obtain ⟨gb, hgb⟩ : ∃ g, g = w.heap.size + 1 := ⟨_, rfl⟩
  have HGb : Hid (w.heap.size ≤ gb) := by rw [hgb]; show _ ≤ _; omega
  rw [← hgb] at Xb
  try rw [← hgb]
  obtain ⟨ga, hga⟩ : ∃ g, g = w.heap.size := ⟨_, rfl⟩
  have HGa : Hid (w.heap.size ≤ ga) := by rw [hga]; show _ ≤ _; omega
  rw [← hga] at Xa
  try rw [← hga]
  have HGD : Hid (ga ≠ gb ∧ gb ≠ ga) := by rw [hga, hgb]; exact ⟨by omega, by omega⟩
  clear hga hgb
  replace hbw := Below.on hbw hb0
  clear hb0
  refine (tint (A.out.zn.below hbw) (B.out.zn.below hbw)).mono ?_
  rintro e v1 ⟨rfl, hb1⟩
  replace Xa : Hid _ := Xa.out.below hb1
  replace Xb : Hid _ := Xb.out.below hb1
  replace hbw := Below.on hbw hb1
  clear hb1
  go_wp2_with fail
  go_ret
  exact ⟨rfl, hbw⟩
theorem tdy {p q : Option Addr} {m c n d : Nat} {w : World} {x y e f : Int} {s t : Bool} (h : DN w s p m c e x) (k : DN w t q n d f y) :
    Calls Tryz.prog 29 #[DV s p m c e, DV t q n d f] w fun en w' => en = .returned (.bool (decide (dv x e = dv y f))) ∧ Below w.heap.size w w' := by
  by_cases he : e = f
  · have : decide (dv x e = dv y f) = decide (x = y) := decide_eq_decide.2 ⟨fun hd => (dv_inj h.fm k.fm hd).1, fun hd => by rw [hd, he]⟩
    rw [this]
    exact tdy_e h k he
  · have : ¬ dv x e = dv y f := fun hd => he (dv_inj h.fm k.fm hd).2
    rw [decide_eq_false this]
    exact tdy_n he
set_option maxRecDepth 20000 in
set_option maxHeartbeats 8000000 in
theorem tfmt_32 (w : World) :
    Calls Tryz.prog 23 #[.bool true] w fun en w' => en = .returned (.int .i64 32) ∧ Below w.heap.size w w' := by
  go_enter Tryz.func23, Tryz.ntmps23
  go_wp2_with fail
  go_ret
  exact ⟨rfl, Below.refl _ _⟩
set_option maxRecDepth 20000 in
set_option maxHeartbeats 8000000 in
theorem tfmt_64 (w : World) :
    Calls Tryz.prog 23 #[.bool false] w fun en w' => en = .returned (.int .i64 64) ∧ Below w.heap.size w w' := by
  go_enter Tryz.func23, Tryz.ntmps23
  go_wp2_with fail
  go_ret
  exact ⟨rfl, Below.refl _ _⟩
set_option maxRecDepth 20000 in
set_option maxHeartbeats 8000000 in
theorem tpat_64 (b : Nat) (w : World) :
    Calls Tryz.prog 24 #[.int .i64 64, U b] w fun en w' => en = .returned (U b) ∧ Below w.heap.size w w' := by
  go_enter Tryz.func24, Tryz.ntmps24
  go_wp2_with fail
  go_ret
  exact ⟨rfl, Below.refl _ _⟩
set_option maxRecDepth 20000 in
set_option maxHeartbeats 8000000 in
theorem tpat_32 (b : Nat) (hb : b < B64) (w : World) :
    Calls Tryz.prog 24 #[.int .i64 32, U b] w fun en w' => en = .returned (U (b % 4294967296)) ∧ Below w.heap.size w w' := by
  have h1 : bits BinOp.and IntKind.u64 (b : Int) 4294967295 = ((b % 4294967296 : Nat) : Int) := by
    have := bits_and_u64_nat b 4294967295 (by rw [B64_eq] at hb; omega) (by decide)
    rw [show ((4294967295 : Nat) : Int) = 4294967295 from rfl] at this
    rw [this, show b &&& 4294967295 = b % 2 ^ 32 from Nat.and_two_pow_sub_one_eq_mod b 32]
  clear hb
  go_enter Tryz.func24, Tryz.ntmps24
  go_wp2_with fail
  go_ret
  exact ⟨rfl, Below.refl _ _⟩
end Go.Proofs.YtfkoilaobglddaaGreatDoor

namespace Go.Proofs.YtfkoilaobglddaaGreatDoor
open Go.RowKit Go.Shelf

theorem dv_part {z e q g i : Int} (he : -2097152 ≤ e) (hg : -2097152 ≤ g) (hq : dv q g = dv i (-8)) : 256 * dv (z * q) (e + g) = i * dv z e := by
  have h1 := dv_mul (z := z) (c := q) he hg
  have h2 : dv i 0 = dv (i * 256) (-8) := by
    have := dv_up (x := i) (e := -8) 8 (by decide)
    rw [show (-8 : Int) + ((8 : Nat) : Int) = 0 from rfl] at this
    rw [this]
    rfl
  have h3 : dv (i * 256) (-8) = 256 * dv i (-8) := by unfold dv; rw [Int.mul_comm i, Int.mul_assoc]
  have h4 : dv i 0 = i * ((2 ^ 4194304 : Nat) : Int) := by unfold dv; rw [show ((0 : Int) + 4194304).toNat = 4194304 from rfl]
  have hT := pow_pos_int 4194304
  rw [hq] at h1
  generalize ((2 ^ 4194304 : Nat) : Int) = T at *
  have h5 : 256 * dv i (-8) = i * T := by rw [← h3, ← h2, h4]
  refine Int.eq_of_mul_eq_mul_right hT ?_
  rw [Int.mul_assoc, h1, Int.mul_left_comm, h5, ← Int.mul_assoc, Int.mul_comm (dv z e)]
theorem results_cc {fn : Func} {p u : Tmp} {ty ty2 : TypeId} (h : fn.results = #[.cell p ty, .cell u ty2]) (tmps : Array Value) (P : Program) (w : World) :
    (results fn tmps).run P w = ((asAddr (tmps.getD p undef)).run P w).andThen fun a w₁ => ((loadVar ty a).run P w₁).andThen fun v w₂ => ((asAddr (tmps.getD u undef)).run P w₂).andThen fun b w₃ => ((loadVar ty2 b).run P w₃).andThen fun v2 w₄ => .ok (.tuple #[v, v2]) w₄ := by
  simp only [results, h]
  simp [Sem.run_bind, Result.andThen]
theorem part_ex {i : Nat} (hi : i < 256) : ∃ zp ep, DB zp ep 8 8 ∧ dv zp ep = dv (i : Int) (-8) := by
  by_cases h0 : i = 0
  · subst h0
    exact ⟨0, 0, ⟨.inl ⟨rfl, rfl⟩, by decide, by decide, by decide⟩, by rw [show ((0 : Nat) : Int) = 0 from rfl, dv_zero, dv_zero]⟩
  · obtain ⟨zo, eo, g1, g2, _, g4, g5, g6⟩ := form_ex (z := (i : Int)) (e := -8) (L := 8) (by omega) (by decide) (by rw [Int.natAbs_natCast]; omega) (by decide)
    refine ⟨zo, eo, ⟨g1, ?_, by omega, by omega⟩, g2⟩
    rw [Int.natAbs_natCast] at g4
    exact Nat.lt_of_le_of_lt g4 (by omega)
theorem part_in {D : Int} {i : Nat} (hD : 0 < D) (h0 : 0 < i) (hi : i < 255) : 0 < (i : Int) * D ∧ (i : Int) * D < 256 * D :=
  ⟨Int.mul_pos (by omega) hD, Int.mul_lt_mul_of_pos_right (by omega) hD⟩
set_option maxRecDepth 20000 in
set_option maxHeartbeats 8000000 in
theorem sbet_e {p q : Option Addr} {m c n d : Nat} {w : World} {e f : Int} {s t : Bool} {a : Option Addr} {x y : Int} (h : DN w s p m c e x) (k : DN w t q n d f y) (bx : DB x e 56 1100) (by_ : DB y f 56 1100) (hx : x ≠ 0) (hy : y ≠ 0) (hc : dv x e < dv y f) (i : Nat) (hi : i < 256) (hT : Tab w) (hi5 : i = 255) :
    Calls Tryz.prog 27 #[.pointer a, DV s p m c e, DV t q n d f, .int .u8 i] w fun en w' => ∃ s1 p1 m1 s2 p2 m2, en = .returned (.tuple #[SV s1 p1 m1 m1 e s2 p2 m2 m2 f, DV t q n d f]) ∧ Below w.heap.size w w' := by
  have A : Hid (DN w s p m c e x) := h
  have B : Hid (DN w t q n d f y) := k
  have BX : Hid (DB x e 56 1100) := bx
  have BY : Hid (DB y f 56 1100) := by_
  have HC : Hid (dv x e < dv y f ∧ x ≠ 0 ∧ y ≠ 0) := ⟨hc, hx, hy⟩
  have TB : Hid (Tab w) := hT
  obtain ⟨zp, ep, hdb, hdp⟩ := part_ex hi
  have HP : Hid (DB zp ep 8 8 ∧ dv zp ep = dv (i : Int) (-8)) := ⟨hdb, hdp⟩
  have HI : Hid (-9223372036854775808 ≤ (i : Int) ∧ (i : Int) ≤ 9223372036854775807) := by show _ ∧ _; omega
  have w1 : IntKind.i64.wrap (i : Int) = (i : Int) := by simp [IntKind.wrap, IntKind.signed, IntKind.bits]; omega
  have w2 : wrap64 (i : Int) = (i : Int) := by simp only [wrap64]; omega
  have q1 : ((i : Int) == 255) = true := by simp; omega
  clear h k bx by_ hx hy hc hi hT hdb hdp hi5
  go_enter Tryz.func27, Tryz.ntmps27
  go_wp2_with fail
  obtain ⟨W0, hW0⟩ : ∃ W0, W0 = ((((w.alloc (.cells #[.bool s, .slice p m c, .int .i64 e] 26)).alloc (.cells #[.bool t, .slice q n d, .int .i64 f] 26)).alloc (.cells #[.bool false, .slice none 0 0, .int .i64 0, .bool false, .slice none 0 0, .int .i64 0] 47)).alloc (.cells #[.bool false, .slice none 0 0, .int .i64 0] 26)) := ⟨_, rfl⟩
  have Xx : Hid (B3q W0 (w.heap.size) (.bool s) (.slice p m c) (.int .i64 e)) := by rw [hW0]; exact ⟨by go_simp, by go_simp, by go_simp, by go_simp, by go_simp, by go_simp⟩
  have Xy : Hid (B3q W0 (w.heap.size + 1) (.bool t) (.slice q n d) (.int .i64 f)) := by rw [hW0]; exact ⟨by go_simp, by go_simp, by go_simp, by go_simp, by go_simp, by go_simp⟩
  have Xr : Hid (B6q W0 (w.heap.size + 1 + 1) (.bool false) (.slice none 0 0) (.int .i64 0) (.bool false) (.slice none 0 0) (.int .i64 0)) := by rw [hW0]; exact ⟨by go_simp, by go_simp, by go_simp, by go_simp, by go_simp, by go_simp, by go_simp, by go_simp, by go_simp, by go_simp, by go_simp, by go_simp⟩
  have Xu : Hid (B3q W0 (w.heap.size + 1 + 1 + 1) (.bool false) (.slice none 0 0) (.int .i64 0)) := by rw [hW0]; exact ⟨by go_simp, by go_simp, by go_simp, by go_simp, by go_simp, by go_simp⟩
  have hb0 : Below w.heap.size w W0 := by rw [hW0]; exact below4 w _ _ _ _
  rw [← hW0]
  clear hW0
  have hbw : Below w.heap.size w w := Below.refl _ _
  obtain ⟨gu, hgu⟩ : ∃ g, g = w.heap.size + 1 + 1 + 1 := ⟨_, rfl⟩
  have HGu : Hid (w.heap.size ≤ gu) := by rw [hgu]; show _ ≤ _; omega
  rw [← hgu] at Xu
  try rw [← hgu]
  obtain ⟨gr, hgr⟩ : ∃ g, g = w.heap.size + 1 + 1 := ⟨_, rfl⟩
  have HGr : Hid (w.heap.size ≤ gr) := by rw [hgr]; show _ ≤ _; omega
  rw [← hgr] at Xr
  try rw [← hgr]
  obtain ⟨gy, hgy⟩ : ∃ g, g = w.heap.size + 1 := ⟨_, rfl⟩
  have HGy : Hid (w.heap.size ≤ gy) := by rw [hgy]; show _ ≤ _; omega
  rw [← hgy] at Xy
  try rw [← hgy]
  obtain ⟨gx, hgx⟩ : ∃ g, g = w.heap.size := ⟨_, rfl⟩
  have HGx : Hid (w.heap.size ≤ gx) := by rw [hgx]; show _ ≤ _; omega
  rw [← hgx] at Xx
  try rw [← hgx]
  have HGD : Hid (gx ≠ gy ∧ gx ≠ gr ∧ gx ≠ gu ∧ gy ≠ gx ∧ gy ≠ gr ∧ gy ≠ gu ∧ gr ≠ gx ∧ gr ≠ gy ∧ gr ≠ gu ∧ gu ≠ gx ∧ gu ≠ gy ∧ gu ≠ gr) := by rw [hgx, hgy, hgr, hgu]; exact ⟨by omega, by omega, by omega, by omega, by omega, by omega, by omega, by omega, by omega, by omega, by omega, by omega⟩
  clear hgx hgy hgr hgu
  replace hbw := Below.on hbw hb0
  clear hb0
  refine (scmp (A.out.below hbw) (B.out.below hbw)).mono ?_
  rintro e v1 ⟨rfl, hb1⟩
  rw [cmp_l HC.out.1]
  replace Xx : Hid _ := Xx.out.below hb1
  replace Xy : Hid _ := Xy.out.below hb1
  replace Xr : Hid _ := Xr.out.below hb1
  replace Xu : Hid _ := Xu.out.below hb1
  replace hbw := Below.on hbw hb1
  clear hb1
  obtain ⟨cx0, cx1, cx2, fx0, fx1, fx2⟩ := Xx.out
  have hnex : gx < v1.heap.size := World.block_lt_of_cell? v1 _ cx0
  obtain ⟨cy0, cy1, cy2, fy0, fy1, fy2⟩ := Xy.out
  have hney : gy < v1.heap.size := World.block_lt_of_cell? v1 _ cy0
  go_wp2_with fail
  clear cx0 cx1 cx2 fx0 fx1 fx2 hnex
  clear cy0 cy1 cy2 fy0 fy1 fy2 hney
  refine (smake (A.out.below hbw) (B.out.below hbw) HC.out.2.1 HC.out.2.2 (Int.le_of_lt HC.out.1)).mono ?_
  rintro e9 v2 ⟨s2, p2, m2, s3, p3, m3, rfl, hb2⟩
  replace Xx : Hid _ := Xx.out.below hb2
  replace Xy : Hid _ := Xy.out.below hb2
  replace Xr : Hid _ := Xr.out.below hb2
  replace Xu : Hid _ := Xu.out.below hb2
  replace hbw := Below.on hbw hb2
  clear hb2
  go_wp2_with fail
  have HDS : Hid (gr ≠ v2.heap.size ∧ gu ≠ v2.heap.size) := ⟨Nat.ne_of_lt Xr.out.lt, Nat.ne_of_lt Xu.out.lt⟩
  have Xsp0 : Hid (B6q (v2.alloc (.cells #[.bool s2, .slice p2 m2 m2, .int .i64 e, .bool s3, .slice p3 m3 m3, .int .i64 f] 47)) v2.heap.size (.bool s2) (.slice p2 m2 m2) (.int .i64 e) (.bool s3) (.slice p3 m3 m3) (.int .i64 f)) := B6q.new v2 _ _ _ _ _ _ _
  have hbn : Below v2.heap.size v2 (v2.alloc (.cells #[.bool s2, .slice p2 m2 m2, .int .i64 e, .bool s3, .slice p3 m3 m3, .int .i64 f] 47)) := below1 v2 _
  generalize v2.alloc (.cells #[.bool s2, .slice p2 m2 m2, .int .i64 e, .bool s3, .slice p3 m3 m3, .int .i64 f] 47) = Ws at *
  have HGsp : Hid (w.heap.size ≤ v2.heap.size) := hbw.size
  replace Xx : Hid _ := Xx.out.below hbn
  replace Xy : Hid _ := Xy.out.below hbn
  replace Xr : Hid _ := Xr.out.below hbn
  replace Xu : Hid _ := Xu.out.below hbn
  replace hbw := Below.on hbw hbn
  clear hbn
  generalize v2.heap.size = gsp at *
  have Xsp := Xsp0
  clear Xsp0
  refine (zof (i : Int) _ HI.out.1 HI.out.2).mono ?_
  rintro e9 v4 ⟨s4, p4, m4, rfl, hz, hb4⟩
  replace Xx : Hid _ := Xx.out.below hb4
  replace Xy : Hid _ := Xy.out.below hb4
  replace Xr : Hid _ := Xr.out.below hb4
  replace Xu : Hid _ := Xu.out.below hb4
  replace Xsp : Hid _ := Xsp.out.below hb4
  replace hbw := Below.on hbw hb4
  clear hb4
  have Z4 : Hid (ZN v4 s4 p4 m4 m4 (i : Int)) := hz
  clear hz
  go_wp2_with fail
  refine (makep Z4.out (by decide) (TB.out.below hbw)).mono ?_
  rintro e9 v5 ⟨hv, hb5⟩
  obtain ⟨v, rfl, hv2⟩ := hv.form HP.out.1.fm HP.out.2
  obtain ⟨s5, p5, m5, rfl, hd5⟩ := hv2.dn HP.out.1.fm
  clear hv hv2
  replace Xx : Hid _ := Xx.out.below hb5
  replace Xy : Hid _ := Xy.out.below hb5
  replace Xr : Hid _ := Xr.out.below hb5
  replace Xu : Hid _ := Xu.out.below hb5
  replace Xsp : Hid _ := Xsp.out.below hb5
  replace Z4 : Hid _ := Z4.out.below hb5
  replace hbw := Below.on hbw hb5
  clear hb5
  have D5 : Hid (DN v5 s5 p5 m5 m5 ep zp) := hd5
  clear hd5
  clear Z4
  go_wp2_with fail
  refine (stake).mono ?_
  rintro e v6 ⟨rfl, hb6⟩
  replace Xx : Hid _ := Xx.out.below hb6
  replace Xy : Hid _ := Xy.out.below hb6
  replace Xr : Hid _ := Xr.out.below hb6
  replace Xu : Hid _ := Xu.out.below hb6
  replace Xsp : Hid _ := Xsp.out.below hb6
  replace D5 : Hid _ := D5.out.below hb6
  replace hbw := Below.on hbw hb6
  clear hb6
  go_wp2_with fail
  have Xpt0 : Hid (B3q (v6.alloc (.cells #[.bool s5, .slice p5 m5 m5, .int .i64 ep] 26)) v6.heap.size (.bool s5) (.slice p5 m5 m5) (.int .i64 ep)) := B3q.new v6 _ _ _ _
  have hbn : Below v6.heap.size v6 (v6.alloc (.cells #[.bool s5, .slice p5 m5 m5, .int .i64 ep] 26)) := below1 v6 _
  generalize v6.alloc (.cells #[.bool s5, .slice p5 m5 m5, .int .i64 ep] 26) = Wp at *
  have HGpt : Hid (w.heap.size ≤ v6.heap.size) := hbw.size
  replace Xx : Hid _ := Xx.out.below hbn
  replace Xy : Hid _ := Xy.out.below hbn
  replace Xr : Hid _ := Xr.out.below hbn
  replace Xu : Hid _ := Xu.out.below hbn
  replace Xsp : Hid _ := Xsp.out.below hbn
  replace D5 : Hid _ := D5.out.below hbn
  replace hbw := Below.on hbw hbn
  clear hbn
  generalize v6.heap.size = gpt at *
  have Xpt := Xpt0
  clear Xpt0
  obtain ⟨W7, hW7⟩ : ∃ W1, W1 = Wp.drew := ⟨_, rfl⟩
  have hbd : Below Wp.heap.size Wp W7 := by rw [hW7]; exact bDrew1 (Below.refl _ _)
  replace Xx : Hid _ := Xx.out.below hbd
  replace Xy : Hid _ := Xy.out.below hbd
  replace Xr : Hid _ := Xr.out.below hbd
  replace Xu : Hid _ := Xu.out.below hbd
  replace Xsp : Hid _ := Xsp.out.below hbd
  replace Xpt : Hid _ := Xpt.out.below hbd
  replace D5 : Hid _ := D5.out.below hbd
  replace hbw := Below.on hbw hbd
  clear hbd
  have HJ : Hid ((fun W' : World => W'.cell? ⟨gsp, 0, none⟩ = some (.bool s2) ∧ W'.cell? ⟨gsp, 1, none⟩ = some (.slice p2 m2 m2) ∧ W'.cell? ⟨gsp, 2, none⟩ = some (.int .i64 e) ∧ W'.cell? ⟨gsp, 3, none⟩ = some (.bool s3) ∧ W'.cell? ⟨gsp, 4, none⟩ = some (.slice p3 m3 m3) ∧ W'.cell? ⟨gsp, 5, none⟩ = some (.int .i64 f) ∧ W'.cell? ⟨gy, 0, none⟩ = some (.bool t) ∧ W'.cell? ⟨gy, 1, none⟩ = some (.slice q n d) ∧ W'.cell? ⟨gy, 2, none⟩ = some (.int .i64 f)) W7) := ⟨Xsp.out.c0, Xsp.out.c1, Xsp.out.c2, Xsp.out.c3, Xsp.out.c4, Xsp.out.c5, Xy.out.c0, Xy.out.c1, Xy.out.c2⟩
  refine wp_region_J (fun W' => W'.cell? ⟨gsp, 0, none⟩ = some (.bool s2) ∧ W'.cell? ⟨gsp, 1, none⟩ = some (.slice p2 m2 m2) ∧ W'.cell? ⟨gsp, 2, none⟩ = some (.int .i64 e) ∧ W'.cell? ⟨gsp, 3, none⟩ = some (.bool s3) ∧ W'.cell? ⟨gsp, 4, none⟩ = some (.slice p3 m3 m3) ∧ W'.cell? ⟨gsp, 5, none⟩ = some (.int .i64 f) ∧ W'.cell? ⟨gy, 0, none⟩ = some (.bool t) ∧ W'.cell? ⟨gy, 1, none⟩ = some (.slice q n d) ∧ W'.cell? ⟨gy, 2, none⟩ = some (.int .i64 f)) (by kernel_rfl) ?_
  rw [← hW7]
  clear hW7
  refine wpJ_take (i := 0) (v := ?v1x0) rfl (by kernel_rfl) (by kernel_rfl) (by kernel_rfl) (fun _ _ _ h => h) (by kernel_rfl) ?hy1x0 HJ.out ?rest1x0
  case hy1x0 => (intro W' hJ; obtain ⟨j0, j1, j2, j3, j4, j5, j6, j7, j8⟩ := hJ; go_simp; first | done | with_reducible rfl)
  refine wpJ_take (i := 1) (v := ?v2x1) rfl (by kernel_rfl) (by kernel_rfl) (by kernel_rfl) (fun _ _ _ h => h) (by kernel_rfl) ?hy2x1 HJ.out ?rest2x1
  case hy2x1 => (intro W' hJ; obtain ⟨j0, j1, j2, j3, j4, j5, j6, j7, j8⟩ := hJ; go_simp; first | done | with_reducible rfl)
  obtain ⟨csp0, csp1, csp2, csp3, csp4, csp5, fsp0, fsp1, fsp2, fsp3, fsp4, fsp5⟩ := Xsp.out
  have hnesp : gsp < W7.heap.size := World.block_lt_of_cell? W7 _ csp0
  obtain ⟨cr0, cr1, cr2, cr3, cr4, cr5, fr0, fr1, fr2, fr3, fr4, fr5⟩ := Xr.out
  have hner : gr < W7.heap.size := World.block_lt_of_cell? W7 _ cr0
  obtain ⟨cu0, cu1, cu2, fu0, fu1, fu2⟩ := Xu.out
  have hneu : gu < W7.heap.size := World.block_lt_of_cell? W7 _ cu0
  obtain ⟨cy0, cy1, cy2, fy0, fy1, fy2⟩ := Xy.out
  have hney : gy < W7.heap.size := World.block_lt_of_cell? W7 _ cy0
  obtain ⟨d1, d2, d3, d4, d5, d6, d7, d8, d9, d10, d11, d12⟩ := HGD.out
  have k1 := HDS.out.1
  have k2 := HDS.out.2
  have k3 : gsp ≠ gr := fun h => k1 h.symm
  have k4 : gsp ≠ gu := fun h => k2 h.symm
  refine wpJ_one (i := 2) (by kernel_rfl) rfl (by kernel_rfl) (fun KJ hK => ?_)
  go_simp
  have HJ2 : Hid ((fun W' : World => W'.cell? ⟨gsp, 0, none⟩ = some (.bool s2) ∧ W'.cell? ⟨gsp, 1, none⟩ = some (.slice p2 m2 m2) ∧ W'.cell? ⟨gsp, 2, none⟩ = some (.int .i64 e) ∧ W'.cell? ⟨gsp, 3, none⟩ = some (.bool s3) ∧ W'.cell? ⟨gsp, 4, none⟩ = some (.slice p3 m3 m3) ∧ W'.cell? ⟨gsp, 5, none⟩ = some (.int .i64 f) ∧ W'.cell? ⟨gy, 0, none⟩ = some (.bool t) ∧ W'.cell? ⟨gy, 1, none⟩ = some (.slice q n d) ∧ W'.cell? ⟨gy, 2, none⟩ = some (.int .i64 f)) ((((((W7.setCell ⟨gr, 0, none⟩ (.bool s2)).setCell ⟨gr, 1, none⟩ (.slice p2 m2 m2)).setCell ⟨gr, 2, none⟩ (.int .i64 e)).setCell ⟨gr, 3, none⟩ (.bool s3)).setCell ⟨gr, 4, none⟩ (.slice p3 m3 m3)).setCell ⟨gr, 5, none⟩ (.int .i64 f))) := ⟨by go_simp, by go_simp, by go_simp, by go_simp, by go_simp, by go_simp, by go_simp, by go_simp, by go_simp⟩
  refine hK _ _ HJ2.out ?_
  clear hK HJ
  refine wpJ_one (i := 3) (by kernel_rfl) rfl (by kernel_rfl) (fun KJ hK => ?_)
  go_simp
  have HJ : Hid ((fun W' : World => W'.cell? ⟨gsp, 0, none⟩ = some (.bool s2) ∧ W'.cell? ⟨gsp, 1, none⟩ = some (.slice p2 m2 m2) ∧ W'.cell? ⟨gsp, 2, none⟩ = some (.int .i64 e) ∧ W'.cell? ⟨gsp, 3, none⟩ = some (.bool s3) ∧ W'.cell? ⟨gsp, 4, none⟩ = some (.slice p3 m3 m3) ∧ W'.cell? ⟨gsp, 5, none⟩ = some (.int .i64 f) ∧ W'.cell? ⟨gy, 0, none⟩ = some (.bool t) ∧ W'.cell? ⟨gy, 1, none⟩ = some (.slice q n d) ∧ W'.cell? ⟨gy, 2, none⟩ = some (.int .i64 f)) (((((((((W7.setCell ⟨gr, 0, none⟩ (.bool s2)).setCell ⟨gr, 1, none⟩ (.slice p2 m2 m2)).setCell ⟨gr, 2, none⟩ (.int .i64 e)).setCell ⟨gr, 3, none⟩ (.bool s3)).setCell ⟨gr, 4, none⟩ (.slice p3 m3 m3)).setCell ⟨gr, 5, none⟩ (.int .i64 f)).setCell ⟨gu, 0, none⟩ (.bool t)).setCell ⟨gu, 1, none⟩ (.slice q n d)).setCell ⟨gu, 2, none⟩ (.int .i64 f))) := ⟨by go_simp, by go_simp, by go_simp, by go_simp, by go_simp, by go_simp, by go_simp, by go_simp, by go_simp⟩
  refine hK _ _ HJ.out ?_
  clear hK HJ2
  refine wpJ_done (by kernel_rfl) ?_ _
  clear HJ
  go_wp2_with fail
  refine bodyPost_ret (v := .tuple #[SV s2 p2 m2 m2 e s3 p3 m3 m3 f, DV t q n d f]) (by rw [results_cc rfl]; go_simp) rfl ⟨s2, p2, m2, s3, p3, m3, rfl, ?_⟩
  exact (bSet (bSet (bSet (bSet (bSet (bSet (bSet (bSet (bSet hbw _ _ _ HGr.out) _ _ _ HGr.out) _ _ _ HGr.out) _ _ _ HGr.out) _ _ _ HGr.out) _ _ _ HGr.out) _ _ _ HGu.out) _ _ _ HGu.out) _ _ _ HGu.out)
set_option maxRecDepth 20000 in
set_option maxHeartbeats 8000000 in
theorem sbet_n {p q : Option Addr} {m c n d : Nat} {w : World} {e f : Int} {s t : Bool} {a : Option Addr} {x y : Int} (h : DN w s p m c e x) (k : DN w t q n d f y) (bx : DB x e 56 1100) (by_ : DB y f 56 1100) (hx : x ≠ 0) (hy : y ≠ 0) (hc : dv x e < dv y f) (i : Nat) (hi : i < 256) (hT : Tab w) (hi5 : i ≠ 255) :
    Calls Tryz.prog 27 #[.pointer a, DV s p m c e, DV t q n d f, .int .u8 i] w fun en w' => ∃ s1 p1 m1 s2 p2 m2 s3 p3 m3 zu eu, en = .returned (.tuple #[SV s1 p1 m1 m1 e s2 p2 m2 m2 f, DV s3 p3 m3 m3 eu]) ∧ DN w' s3 p3 m3 m3 eu zu ∧ 256 * dv zu eu = 256 * dv x e + (i : Int) * (dv y f - dv x e) ∧ Below w.heap.size w w' := by
  have A : Hid (DN w s p m c e x) := h
  have B : Hid (DN w t q n d f y) := k
  have BX : Hid (DB x e 56 1100) := bx
  have BY : Hid (DB y f 56 1100) := by_
  have HC : Hid (dv x e < dv y f ∧ x ≠ 0 ∧ y ≠ 0) := ⟨hc, hx, hy⟩
  have TB : Hid (Tab w) := hT
  obtain ⟨zp, ep, hdb, hdp⟩ := part_ex hi
  have HP : Hid (DB zp ep 8 8 ∧ dv zp ep = dv (i : Int) (-8)) := ⟨hdb, hdp⟩
  have HI : Hid (-9223372036854775808 ≤ (i : Int) ∧ (i : Int) ≤ 9223372036854775807) := by show _ ∧ _; omega
  have w1 : IntKind.i64.wrap (i : Int) = (i : Int) := by simp [IntKind.wrap, IntKind.signed, IntKind.bits]; omega
  have w2 : wrap64 (i : Int) = (i : Int) := by simp only [wrap64]; omega
  have q1 : ((i : Int) == 255) = false := by simp; omega
  clear h k bx by_ hx hy hc hi hT hdb hdp hi5
  go_enter Tryz.func27, Tryz.ntmps27
  go_wp2_with fail
  obtain ⟨W0, hW0⟩ : ∃ W0, W0 = ((((w.alloc (.cells #[.bool s, .slice p m c, .int .i64 e] 26)).alloc (.cells #[.bool t, .slice q n d, .int .i64 f] 26)).alloc (.cells #[.bool false, .slice none 0 0, .int .i64 0, .bool false, .slice none 0 0, .int .i64 0] 47)).alloc (.cells #[.bool false, .slice none 0 0, .int .i64 0] 26)) := ⟨_, rfl⟩
  have Xx : Hid (B3q W0 (w.heap.size) (.bool s) (.slice p m c) (.int .i64 e)) := by rw [hW0]; exact ⟨by go_simp, by go_simp, by go_simp, by go_simp, by go_simp, by go_simp⟩
  have Xy : Hid (B3q W0 (w.heap.size + 1) (.bool t) (.slice q n d) (.int .i64 f)) := by rw [hW0]; exact ⟨by go_simp, by go_simp, by go_simp, by go_simp, by go_simp, by go_simp⟩
  have Xr : Hid (B6q W0 (w.heap.size + 1 + 1) (.bool false) (.slice none 0 0) (.int .i64 0) (.bool false) (.slice none 0 0) (.int .i64 0)) := by rw [hW0]; exact ⟨by go_simp, by go_simp, by go_simp, by go_simp, by go_simp, by go_simp, by go_simp, by go_simp, by go_simp, by go_simp, by go_simp, by go_simp⟩
  have Xu : Hid (B3q W0 (w.heap.size + 1 + 1 + 1) (.bool false) (.slice none 0 0) (.int .i64 0)) := by rw [hW0]; exact ⟨by go_simp, by go_simp, by go_simp, by go_simp, by go_simp, by go_simp⟩
  have hb0 : Below w.heap.size w W0 := by rw [hW0]; exact below4 w _ _ _ _
  rw [← hW0]
  clear hW0
  have hbw : Below w.heap.size w w := Below.refl _ _
  obtain ⟨gu, hgu⟩ : ∃ g, g = w.heap.size + 1 + 1 + 1 := ⟨_, rfl⟩
  have HGu : Hid (w.heap.size ≤ gu) := by rw [hgu]; show _ ≤ _; omega
  rw [← hgu] at Xu
  try rw [← hgu]
  obtain ⟨gr, hgr⟩ : ∃ g, g = w.heap.size + 1 + 1 := ⟨_, rfl⟩
  have HGr : Hid (w.heap.size ≤ gr) := by rw [hgr]; show _ ≤ _; omega
  rw [← hgr] at Xr
  try rw [← hgr]
  obtain ⟨gy, hgy⟩ : ∃ g, g = w.heap.size + 1 := ⟨_, rfl⟩
  have HGy : Hid (w.heap.size ≤ gy) := by rw [hgy]; show _ ≤ _; omega
  rw [← hgy] at Xy
  try rw [← hgy]
  obtain ⟨gx, hgx⟩ : ∃ g, g = w.heap.size := ⟨_, rfl⟩
  have HGx : Hid (w.heap.size ≤ gx) := by rw [hgx]; show _ ≤ _; omega
  rw [← hgx] at Xx
  try rw [← hgx]
  have HGD : Hid (gx ≠ gy ∧ gx ≠ gr ∧ gx ≠ gu ∧ gy ≠ gx ∧ gy ≠ gr ∧ gy ≠ gu ∧ gr ≠ gx ∧ gr ≠ gy ∧ gr ≠ gu ∧ gu ≠ gx ∧ gu ≠ gy ∧ gu ≠ gr) := by rw [hgx, hgy, hgr, hgu]; exact ⟨by omega, by omega, by omega, by omega, by omega, by omega, by omega, by omega, by omega, by omega, by omega, by omega⟩
  clear hgx hgy hgr hgu
  replace hbw := Below.on hbw hb0
  clear hb0
  refine (scmp (A.out.below hbw) (B.out.below hbw)).mono ?_
  rintro e v1 ⟨rfl, hb1⟩
  rw [cmp_l HC.out.1]
  replace Xx : Hid _ := Xx.out.below hb1
  replace Xy : Hid _ := Xy.out.below hb1
  replace Xr : Hid _ := Xr.out.below hb1
  replace Xu : Hid _ := Xu.out.below hb1
  replace hbw := Below.on hbw hb1
  clear hb1
  obtain ⟨cx0, cx1, cx2, fx0, fx1, fx2⟩ := Xx.out
  have hnex : gx < v1.heap.size := World.block_lt_of_cell? v1 _ cx0
  obtain ⟨cy0, cy1, cy2, fy0, fy1, fy2⟩ := Xy.out
  have hney : gy < v1.heap.size := World.block_lt_of_cell? v1 _ cy0
  go_wp2_with fail
  clear cx0 cx1 cx2 fx0 fx1 fx2 hnex
  clear cy0 cy1 cy2 fy0 fy1 fy2 hney
  refine (smake (A.out.below hbw) (B.out.below hbw) HC.out.2.1 HC.out.2.2 (Int.le_of_lt HC.out.1)).mono ?_
  rintro e9 v2 ⟨s2, p2, m2, s3, p3, m3, rfl, hb2⟩
  replace Xx : Hid _ := Xx.out.below hb2
  replace Xy : Hid _ := Xy.out.below hb2
  replace Xr : Hid _ := Xr.out.below hb2
  replace Xu : Hid _ := Xu.out.below hb2
  replace hbw := Below.on hbw hb2
  clear hb2
  go_wp2_with fail
  have HDS : Hid (gr ≠ v2.heap.size ∧ gu ≠ v2.heap.size) := ⟨Nat.ne_of_lt Xr.out.lt, Nat.ne_of_lt Xu.out.lt⟩
  have Xsp0 : Hid (B6q (v2.alloc (.cells #[.bool s2, .slice p2 m2 m2, .int .i64 e, .bool s3, .slice p3 m3 m3, .int .i64 f] 47)) v2.heap.size (.bool s2) (.slice p2 m2 m2) (.int .i64 e) (.bool s3) (.slice p3 m3 m3) (.int .i64 f)) := B6q.new v2 _ _ _ _ _ _ _
  have hbn : Below v2.heap.size v2 (v2.alloc (.cells #[.bool s2, .slice p2 m2 m2, .int .i64 e, .bool s3, .slice p3 m3 m3, .int .i64 f] 47)) := below1 v2 _
  generalize v2.alloc (.cells #[.bool s2, .slice p2 m2 m2, .int .i64 e, .bool s3, .slice p3 m3 m3, .int .i64 f] 47) = Ws at *
  have HGsp : Hid (w.heap.size ≤ v2.heap.size) := hbw.size
  replace Xx : Hid _ := Xx.out.below hbn
  replace Xy : Hid _ := Xy.out.below hbn
  replace Xr : Hid _ := Xr.out.below hbn
  replace Xu : Hid _ := Xu.out.below hbn
  replace hbw := Below.on hbw hbn
  clear hbn
  generalize v2.heap.size = gsp at *
  have Xsp := Xsp0
  clear Xsp0
  refine (zof (i : Int) _ HI.out.1 HI.out.2).mono ?_
  rintro e9 v4 ⟨s4, p4, m4, rfl, hz, hb4⟩
  replace Xx : Hid _ := Xx.out.below hb4
  replace Xy : Hid _ := Xy.out.below hb4
  replace Xr : Hid _ := Xr.out.below hb4
  replace Xu : Hid _ := Xu.out.below hb4
  replace Xsp : Hid _ := Xsp.out.below hb4
  replace hbw := Below.on hbw hb4
  clear hb4
  have Z4 : Hid (ZN v4 s4 p4 m4 m4 (i : Int)) := hz
  clear hz
  go_wp2_with fail
  refine (makep Z4.out (by decide) (TB.out.below hbw)).mono ?_
  rintro e9 v5 ⟨hv, hb5⟩
  obtain ⟨v, rfl, hv2⟩ := hv.form HP.out.1.fm HP.out.2
  obtain ⟨s5, p5, m5, rfl, hd5⟩ := hv2.dn HP.out.1.fm
  clear hv hv2
  replace Xx : Hid _ := Xx.out.below hb5
  replace Xy : Hid _ := Xy.out.below hb5
  replace Xr : Hid _ := Xr.out.below hb5
  replace Xu : Hid _ := Xu.out.below hb5
  replace Xsp : Hid _ := Xsp.out.below hb5
  replace Z4 : Hid _ := Z4.out.below hb5
  replace hbw := Below.on hbw hb5
  clear hb5
  have D5 : Hid (DN v5 s5 p5 m5 m5 ep zp) := hd5
  clear hd5
  clear Z4
  go_wp2_with fail
  refine (stake).mono ?_
  rintro e v6 ⟨rfl, hb6⟩
  replace Xx : Hid _ := Xx.out.below hb6
  replace Xy : Hid _ := Xy.out.below hb6
  replace Xr : Hid _ := Xr.out.below hb6
  replace Xu : Hid _ := Xu.out.below hb6
  replace Xsp : Hid _ := Xsp.out.below hb6
  replace D5 : Hid _ := D5.out.below hb6
  replace hbw := Below.on hbw hb6
  clear hb6
  go_wp2_with fail
  have HDP : Hid (gr ≠ v6.heap.size ∧ gu ≠ v6.heap.size) := ⟨Nat.ne_of_lt Xr.out.lt, Nat.ne_of_lt Xu.out.lt⟩
  have Xpt0 : Hid (B3q (v6.alloc (.cells #[.bool s5, .slice p5 m5 m5, .int .i64 ep] 26)) v6.heap.size (.bool s5) (.slice p5 m5 m5) (.int .i64 ep)) := B3q.new v6 _ _ _ _
  have hbn : Below v6.heap.size v6 (v6.alloc (.cells #[.bool s5, .slice p5 m5 m5, .int .i64 ep] 26)) := below1 v6 _
  generalize v6.alloc (.cells #[.bool s5, .slice p5 m5 m5, .int .i64 ep] 26) = Wp at *
  have HGpt : Hid (w.heap.size ≤ v6.heap.size) := hbw.size
  replace Xx : Hid _ := Xx.out.below hbn
  replace Xy : Hid _ := Xy.out.below hbn
  replace Xr : Hid _ := Xr.out.below hbn
  replace Xu : Hid _ := Xu.out.below hbn
  replace Xsp : Hid _ := Xsp.out.below hbn
  replace D5 : Hid _ := D5.out.below hbn
  replace hbw := Below.on hbw hbn
  clear hbn
  generalize v6.heap.size = gpt at *
  have Xpt := Xpt0
  clear Xpt0
  obtain ⟨W7, hW7⟩ : ∃ W1, W1 = Wp.drew := ⟨_, rfl⟩
  have hbd : Below Wp.heap.size Wp W7 := by rw [hW7]; exact bDrew1 (Below.refl _ _)
  replace Xx : Hid _ := Xx.out.below hbd
  replace Xy : Hid _ := Xy.out.below hbd
  replace Xr : Hid _ := Xr.out.below hbd
  replace Xu : Hid _ := Xu.out.below hbd
  replace Xsp : Hid _ := Xsp.out.below hbd
  replace Xpt : Hid _ := Xpt.out.below hbd
  replace D5 : Hid _ := D5.out.below hbd
  replace hbw := Below.on hbw hbd
  clear hbd
  have HJ : Hid ((fun W' : World => W'.cell? ⟨gsp, 0, none⟩ = some (.bool s2) ∧ W'.cell? ⟨gsp, 1, none⟩ = some (.slice p2 m2 m2) ∧ W'.cell? ⟨gsp, 2, none⟩ = some (.int .i64 e) ∧ W'.cell? ⟨gsp, 3, none⟩ = some (.bool s3) ∧ W'.cell? ⟨gsp, 4, none⟩ = some (.slice p3 m3 m3) ∧ W'.cell? ⟨gsp, 5, none⟩ = some (.int .i64 f) ∧ W'.cell? ⟨gx, 0, none⟩ = some (.bool s) ∧ W'.cell? ⟨gx, 1, none⟩ = some (.slice p m c) ∧ W'.cell? ⟨gx, 2, none⟩ = some (.int .i64 e) ∧ W'.cell? ⟨gy, 0, none⟩ = some (.bool t) ∧ W'.cell? ⟨gy, 1, none⟩ = some (.slice q n d) ∧ W'.cell? ⟨gy, 2, none⟩ = some (.int .i64 f) ∧ W'.cell? ⟨gpt, 0, none⟩ = some (.bool s5) ∧ W'.cell? ⟨gpt, 1, none⟩ = some (.slice p5 m5 m5) ∧ W'.cell? ⟨gpt, 2, none⟩ = some (.int .i64 ep)) W7) := ⟨Xsp.out.c0, Xsp.out.c1, Xsp.out.c2, Xsp.out.c3, Xsp.out.c4, Xsp.out.c5, Xx.out.c0, Xx.out.c1, Xx.out.c2, Xy.out.c0, Xy.out.c1, Xy.out.c2, Xpt.out.c0, Xpt.out.c1, Xpt.out.c2⟩
  refine wp_region_J (fun W' => W'.cell? ⟨gsp, 0, none⟩ = some (.bool s2) ∧ W'.cell? ⟨gsp, 1, none⟩ = some (.slice p2 m2 m2) ∧ W'.cell? ⟨gsp, 2, none⟩ = some (.int .i64 e) ∧ W'.cell? ⟨gsp, 3, none⟩ = some (.bool s3) ∧ W'.cell? ⟨gsp, 4, none⟩ = some (.slice p3 m3 m3) ∧ W'.cell? ⟨gsp, 5, none⟩ = some (.int .i64 f) ∧ W'.cell? ⟨gx, 0, none⟩ = some (.bool s) ∧ W'.cell? ⟨gx, 1, none⟩ = some (.slice p m c) ∧ W'.cell? ⟨gx, 2, none⟩ = some (.int .i64 e) ∧ W'.cell? ⟨gy, 0, none⟩ = some (.bool t) ∧ W'.cell? ⟨gy, 1, none⟩ = some (.slice q n d) ∧ W'.cell? ⟨gy, 2, none⟩ = some (.int .i64 f) ∧ W'.cell? ⟨gpt, 0, none⟩ = some (.bool s5) ∧ W'.cell? ⟨gpt, 1, none⟩ = some (.slice p5 m5 m5) ∧ W'.cell? ⟨gpt, 2, none⟩ = some (.int .i64 ep)) (by kernel_rfl) ?_
  rw [← hW7]
  clear hW7
  refine wpJ_take (i := 0) (v := ?v3x0) rfl (by kernel_rfl) (by kernel_rfl) (by kernel_rfl) (fun _ _ _ h => h) (by kernel_rfl) ?hy3x0 HJ.out ?rest3x0
  case hy3x0 => (intro W' hJ; obtain ⟨j0, j1, j2, j3, j4, j5, j6, j7, j8, j9, j10, j11, j12, j13, j14⟩ := hJ; go_simp; first | done | with_reducible rfl)
  refine wpJ_take (i := 1) (v := ?v4x1) rfl (by kernel_rfl) (by kernel_rfl) (by kernel_rfl) (fun _ _ _ h => h) (by kernel_rfl) ?hy4x1 HJ.out ?rest4x1
  case hy4x1 => (intro W' hJ; obtain ⟨j0, j1, j2, j3, j4, j5, j6, j7, j8, j9, j10, j11, j12, j13, j14⟩ := hJ; go_simp; first | done | with_reducible rfl)
  refine wpJ_take (i := 2) (v := ?v5x2) rfl (by kernel_rfl) (by kernel_rfl) (by kernel_rfl) (fun _ _ _ h => h) (by kernel_rfl) ?hy5x2 HJ.out ?rest5x2
  case hy5x2 => (intro W' hJ; obtain ⟨j0, j1, j2, j3, j4, j5, j6, j7, j8, j9, j10, j11, j12, j13, j14⟩ := hJ; go_simp; first | done | with_reducible rfl)
  refine wpJ_take (i := 3) (v := ?v6x3) rfl (by kernel_rfl) (by kernel_rfl) (by kernel_rfl) (fun _ _ _ h => h) (by kernel_rfl) ?hy6x3 HJ.out ?rest6x3
  case hy6x3 => (intro W' hJ; obtain ⟨j0, j1, j2, j3, j4, j5, j6, j7, j8, j9, j10, j11, j12, j13, j14⟩ := hJ; go_simp; first | done | with_reducible rfl)
  refine wpJ_take (i := 4) (v := ?v7x4) rfl (by kernel_rfl) (by kernel_rfl) (by kernel_rfl) (fun _ _ _ h => h) (by kernel_rfl) ?hy7x4 HJ.out ?rest7x4
  case hy7x4 => (intro W' hJ; obtain ⟨j0, j1, j2, j3, j4, j5, j6, j7, j8, j9, j10, j11, j12, j13, j14⟩ := hJ; go_simp; first | done | with_reducible rfl)
  go_simp
  refine wpJ_take (i := 5) (v := ?v8x5) rfl (by kernel_rfl) (by kernel_rfl) (by kernel_rfl) (fun _ _ _ h => h) (by kernel_rfl) ?hy8x5 HJ.out ?rest8x5
  case hy8x5 => (intro W' hJ; obtain ⟨j0, j1, j2, j3, j4, j5, j6, j7, j8, j9, j10, j11, j12, j13, j14⟩ := hJ; go_simp; first | done | with_reducible rfl)
  refine wpJ_take (i := 6) (v := ?v9x6) rfl (by kernel_rfl) (by kernel_rfl) (by kernel_rfl) (fun _ _ _ h => h) (by kernel_rfl) ?hy9x6 HJ.out ?rest9x6
  case hy9x6 => (intro W' hJ; obtain ⟨j0, j1, j2, j3, j4, j5, j6, j7, j8, j9, j10, j11, j12, j13, j14⟩ := hJ; go_simp; first | done | with_reducible rfl)
  refine wpJ_take (i := 8) (v := ?v10x8) rfl (by kernel_rfl) (by kernel_rfl) (by kernel_rfl) (fun _ _ _ h => h) (by kernel_rfl) ?hy10x8 HJ.out ?rest10x8
  case hy10x8 => (intro W' hJ; obtain ⟨j0, j1, j2, j3, j4, j5, j6, j7, j8, j9, j10, j11, j12, j13, j14⟩ := hJ; go_simp; first | done | with_reducible rfl)
  refine wpJ_one (i := 7) (by kernel_rfl) rfl (by kernel_rfl) (fun KJ hK => ?_)
  go_simp
  have HWL8 : Hid (gr < W7.heap.size ∧ gu < W7.heap.size) := ⟨Xr.out.lt, Xu.out.lt⟩
  refine (ssub (B.out.below hbw) (A.out.below hbw) BY.out BX.out (by decide) (TB.out.below hbw)).mono ?_
  rintro e9 v8 ⟨zo8, eo8, s8, p8, m8, rfl, hd, hdb, hdv, hb8⟩
  have HB8 : Hid (DB zo8 eo8 2257 3357 ∧ dv zo8 eo8 = dv y f - dv x e) := ⟨hdb, hdv⟩
  clear hdb hdv
  replace Xx : Hid _ := Xx.out.below hb8
  replace Xy : Hid _ := Xy.out.below hb8
  replace Xr : Hid _ := Xr.out.below hb8
  replace Xu : Hid _ := Xu.out.below hb8
  replace Xsp : Hid _ := Xsp.out.below hb8
  replace Xpt : Hid _ := Xpt.out.below hb8
  replace D5 : Hid _ := D5.out.below hb8
  replace hbw := Below.on hbw hb8
  clear hb8
  have D8 : Hid (DO W7.heap.size v8 s8 p8 m8 eo8 zo8) := hd
  clear hd
  refine hK _ _ ⟨Xsp.out.c0, Xsp.out.c1, Xsp.out.c2, Xsp.out.c3, Xsp.out.c4, Xsp.out.c5, Xx.out.c0, Xx.out.c1, Xx.out.c2, Xy.out.c0, Xy.out.c1, Xy.out.c2, Xpt.out.c0, Xpt.out.c1, Xpt.out.c2⟩ ?_
  clear hK
  refine wpJ_one (i := 9) (by kernel_rfl) rfl (by kernel_rfl) (fun KJ hK => ?_)
  go_simp
  have HWL9 : Hid (gr < v8.heap.size ∧ gu < v8.heap.size) := ⟨Xr.out.lt, Xu.out.lt⟩
  refine (smul D8.out.dn D5.out HB8.out.1 HP.out.1 (by decide) (by decide) (TB.out.below hbw)).mono ?_
  rintro e9 v9 ⟨zo9, eo9, s9, p9, m9, rfl, hd, hdb, hdv, hb9⟩
  have HB9 : Hid (DB zo9 eo9 2265 5630 ∧ dv zo9 eo9 = dv (zo8 * zp) (eo8 + ep)) := ⟨hdb, hdv⟩
  clear hdb hdv
  replace Xx : Hid _ := Xx.out.below hb9
  replace Xy : Hid _ := Xy.out.below hb9
  replace Xr : Hid _ := Xr.out.below hb9
  replace Xu : Hid _ := Xu.out.below hb9
  replace Xsp : Hid _ := Xsp.out.below hb9
  replace Xpt : Hid _ := Xpt.out.below hb9
  replace D5 : Hid _ := D5.out.below hb9
  replace D8 : Hid (DO W7.heap.size v9 s8 p8 m8 eo8 zo8) := D8.out.below hb9
  replace hbw := Below.on hbw hb9
  clear hb9
  have D9 : Hid (DO v8.heap.size v9 s9 p9 m9 eo9 zo9) := hd
  clear hd
  refine hK _ _ ⟨Xsp.out.c0, Xsp.out.c1, Xsp.out.c2, Xsp.out.c3, Xsp.out.c4, Xsp.out.c5, Xx.out.c0, Xx.out.c1, Xx.out.c2, Xy.out.c0, Xy.out.c1, Xy.out.c2, Xpt.out.c0, Xpt.out.c1, Xpt.out.c2⟩ ?_
  clear hK
  refine wpJ_one (i := 10) (by kernel_rfl) rfl (by kernel_rfl) (fun KJ hK => ?_)
  go_simp
  have HWL10 : Hid (gr < v9.heap.size ∧ gu < v9.heap.size) := ⟨Xr.out.lt, Xu.out.lt⟩
  refine (sadd (A.out.below hbw) D9.out.dn (BX.out.mono (by decide) (by decide)) HB9.out.1 (by decide) (TB.out.below hbw)).mono ?_
  rintro e9 v10 ⟨zo10, eo10, s10, p10, m10, rfl, hd, hdb, hdv, hb10⟩
  have HB10 : Hid (DB zo10 eo10 13526 19156 ∧ dv zo10 eo10 = dv x e + dv zo9 eo9) := ⟨hdb, hdv⟩
  clear hdb hdv
  replace Xx : Hid _ := Xx.out.below hb10
  replace Xy : Hid _ := Xy.out.below hb10
  replace Xr : Hid _ := Xr.out.below hb10
  replace Xu : Hid _ := Xu.out.below hb10
  replace Xsp : Hid _ := Xsp.out.below hb10
  replace Xpt : Hid _ := Xpt.out.below hb10
  replace D5 : Hid _ := D5.out.below hb10
  replace D8 : Hid (DO W7.heap.size v10 s8 p8 m8 eo8 zo8) := D8.out.below hb10
  replace D9 : Hid (DO v8.heap.size v10 s9 p9 m9 eo9 zo9) := D9.out.below hb10
  replace hbw := Below.on hbw hb10
  clear hb10
  have D10 : Hid (DO v9.heap.size v10 s10 p10 m10 eo10 zo10) := hd
  clear hd
  refine hK _ _ ⟨Xsp.out.c0, Xsp.out.c1, Xsp.out.c2, Xsp.out.c3, Xsp.out.c4, Xsp.out.c5, Xx.out.c0, Xx.out.c1, Xx.out.c2, Xy.out.c0, Xy.out.c1, Xy.out.c2, Xpt.out.c0, Xpt.out.c1, Xpt.out.c2⟩ ?_
  clear hK
  obtain ⟨csp0, csp1, csp2, csp3, csp4, csp5, fsp0, fsp1, fsp2, fsp3, fsp4, fsp5⟩ := Xsp.out
  have hnesp : gsp < v10.heap.size := World.block_lt_of_cell? v10 _ csp0
  obtain ⟨cr0, cr1, cr2, cr3, cr4, cr5, fr0, fr1, fr2, fr3, fr4, fr5⟩ := Xr.out
  have hner : gr < v10.heap.size := World.block_lt_of_cell? v10 _ cr0
  obtain ⟨cu0, cu1, cu2, fu0, fu1, fu2⟩ := Xu.out
  have hneu : gu < v10.heap.size := World.block_lt_of_cell? v10 _ cu0
  obtain ⟨cx0, cx1, cx2, fx0, fx1, fx2⟩ := Xx.out
  have hnex : gx < v10.heap.size := World.block_lt_of_cell? v10 _ cx0
  obtain ⟨cy0, cy1, cy2, fy0, fy1, fy2⟩ := Xy.out
  have hney : gy < v10.heap.size := World.block_lt_of_cell? v10 _ cy0
  obtain ⟨cpt0, cpt1, cpt2, fpt0, fpt1, fpt2⟩ := Xpt.out
  have hnept : gpt < v10.heap.size := World.block_lt_of_cell? v10 _ cpt0
  obtain ⟨d1, d2, d3, d4, d5, d6, d7, d8, d9, d10, d11, d12⟩ := HGD.out
  have k1 := HDS.out.1
  have k2 := HDS.out.2
  have k3 : gsp ≠ gr := fun h => k1 h.symm
  have k4 : gsp ≠ gu := fun h => k2 h.symm
  have k5 := HDP.out.1
  have k6 := HDP.out.2
  have k7 : gpt ≠ gr := fun h => k5 h.symm
  have k8 : gpt ≠ gu := fun h => k6 h.symm
  refine wpJ_one (i := 11) (by kernel_rfl) rfl (by kernel_rfl) (fun KJ hK => ?_)
  go_simp
  have HJ2 : Hid ((fun W' : World => W'.cell? ⟨gsp, 0, none⟩ = some (.bool s2) ∧ W'.cell? ⟨gsp, 1, none⟩ = some (.slice p2 m2 m2) ∧ W'.cell? ⟨gsp, 2, none⟩ = some (.int .i64 e) ∧ W'.cell? ⟨gsp, 3, none⟩ = some (.bool s3) ∧ W'.cell? ⟨gsp, 4, none⟩ = some (.slice p3 m3 m3) ∧ W'.cell? ⟨gsp, 5, none⟩ = some (.int .i64 f) ∧ W'.cell? ⟨gx, 0, none⟩ = some (.bool s) ∧ W'.cell? ⟨gx, 1, none⟩ = some (.slice p m c) ∧ W'.cell? ⟨gx, 2, none⟩ = some (.int .i64 e) ∧ W'.cell? ⟨gy, 0, none⟩ = some (.bool t) ∧ W'.cell? ⟨gy, 1, none⟩ = some (.slice q n d) ∧ W'.cell? ⟨gy, 2, none⟩ = some (.int .i64 f) ∧ W'.cell? ⟨gpt, 0, none⟩ = some (.bool s5) ∧ W'.cell? ⟨gpt, 1, none⟩ = some (.slice p5 m5 m5) ∧ W'.cell? ⟨gpt, 2, none⟩ = some (.int .i64 ep)) ((((((v10.setCell ⟨gr, 0, none⟩ (.bool s2)).setCell ⟨gr, 1, none⟩ (.slice p2 m2 m2)).setCell ⟨gr, 2, none⟩ (.int .i64 e)).setCell ⟨gr, 3, none⟩ (.bool s3)).setCell ⟨gr, 4, none⟩ (.slice p3 m3 m3)).setCell ⟨gr, 5, none⟩ (.int .i64 f))) := ⟨by go_simp, by go_simp, by go_simp, by go_simp, by go_simp, by go_simp, by go_simp, by go_simp, by go_simp, by go_simp, by go_simp, by go_simp, by go_simp, by go_simp, by go_simp⟩
  refine hK _ _ HJ2.out ?_
  clear hK HJ
  refine wpJ_one (i := 12) (by kernel_rfl) rfl (by kernel_rfl) (fun KJ hK => ?_)
  go_simp
  have HJ : Hid ((fun W' : World => W'.cell? ⟨gsp, 0, none⟩ = some (.bool s2) ∧ W'.cell? ⟨gsp, 1, none⟩ = some (.slice p2 m2 m2) ∧ W'.cell? ⟨gsp, 2, none⟩ = some (.int .i64 e) ∧ W'.cell? ⟨gsp, 3, none⟩ = some (.bool s3) ∧ W'.cell? ⟨gsp, 4, none⟩ = some (.slice p3 m3 m3) ∧ W'.cell? ⟨gsp, 5, none⟩ = some (.int .i64 f) ∧ W'.cell? ⟨gx, 0, none⟩ = some (.bool s) ∧ W'.cell? ⟨gx, 1, none⟩ = some (.slice p m c) ∧ W'.cell? ⟨gx, 2, none⟩ = some (.int .i64 e) ∧ W'.cell? ⟨gy, 0, none⟩ = some (.bool t) ∧ W'.cell? ⟨gy, 1, none⟩ = some (.slice q n d) ∧ W'.cell? ⟨gy, 2, none⟩ = some (.int .i64 f) ∧ W'.cell? ⟨gpt, 0, none⟩ = some (.bool s5) ∧ W'.cell? ⟨gpt, 1, none⟩ = some (.slice p5 m5 m5) ∧ W'.cell? ⟨gpt, 2, none⟩ = some (.int .i64 ep)) (((((((((v10.setCell ⟨gr, 0, none⟩ (.bool s2)).setCell ⟨gr, 1, none⟩ (.slice p2 m2 m2)).setCell ⟨gr, 2, none⟩ (.int .i64 e)).setCell ⟨gr, 3, none⟩ (.bool s3)).setCell ⟨gr, 4, none⟩ (.slice p3 m3 m3)).setCell ⟨gr, 5, none⟩ (.int .i64 f)).setCell ⟨gu, 0, none⟩ (.bool s10)).setCell ⟨gu, 1, none⟩ (.slice p10 m10 m10)).setCell ⟨gu, 2, none⟩ (.int .i64 eo10))) := ⟨by go_simp, by go_simp, by go_simp, by go_simp, by go_simp, by go_simp, by go_simp, by go_simp, by go_simp, by go_simp, by go_simp, by go_simp, by go_simp, by go_simp, by go_simp⟩
  refine hK _ _ HJ.out ?_
  clear hK HJ2
  refine wpJ_done (by kernel_rfl) ?_ _
  clear HJ
  go_wp2_with fail
  refine bodyPost_ret (v := .tuple #[SV s2 p2 m2 m2 e s3 p3 m3 m3 f, DV s10 p10 m10 m10 eo10]) (by rw [results_cc rfl]; go_simp) rfl ⟨s2, p2, m2, s3, p3, m3, s10, p10, m10, zo10, eo10, rfl, ?_, ?_, ?_⟩
  · exact (((((((((D10.out.set _ _ _ HWL10.out.1).set _ _ _ HWL10.out.1).set _ _ _ HWL10.out.1).set _ _ _ HWL10.out.1).set _ _ _ HWL10.out.1).set _ _ _ HWL10.out.1).set _ _ _ HWL10.out.2).set _ _ _ HWL10.out.2).set _ _ _ HWL10.out.2).dn
  · have h1 := dv_part (z := zo8) (e := eo8) (q := zp) (g := ep) (i := (i : Int)) (by have := HB8.out.1.lo; omega) (by have := HP.out.1.lo; omega) HP.out.2
    rw [← HB9.out.2, HB8.out.2] at h1
    rw [HB10.out.2]
    omega
  · exact (bSet (bSet (bSet (bSet (bSet (bSet (bSet (bSet (bSet hbw _ _ _ HGr.out) _ _ _ HGr.out) _ _ _ HGr.out) _ _ _ HGr.out) _ _ _ HGr.out) _ _ _ HGr.out) _ _ _ HGu.out) _ _ _ HGu.out) _ _ _ HGu.out)
end Go.Proofs.YtfkoilaobglddaaGreatDoor

namespace Go.Proofs.YtfkoilaobglddaaGreatDoor
open Go.RowKit Go.Shelf

set_option maxRecDepth 20000 in
set_option maxHeartbeats 4000000 in
theorem beyond_64 (w : World) : Calls Tryz.prog 80 #[WV 64 53 (-1074)] w fun e w' => e = .returned (.int .i64 1024) ∧ Below w.heap.size w w' := by
  go_enter Tryz.func80, Tryz.ntmps80
  go_wp2_with fail
  have X0 : B3 (w.alloc (.cells #[.int .i64 64, .int .i64 53, .int .i64 (-1074)] 66)) w.heap.size (.int .i64 64) (.int .i64 53) (.int .i64 (-1074)) := B3.new ..
  have hb0 : Below w.heap.size w (w.alloc (.cells #[.int .i64 64, .int .i64 53, .int .i64 (-1074)] 66)) := bwAlloc w _
  generalize w.alloc (.cells #[.int .i64 64, .int .i64 53, .int .i64 (-1074)] 66) = W at *
  obtain ⟨g, hg⟩ : ∃ g, g = w.heap.size := ⟨_, rfl⟩
  rw [← hg] at X0 ⊢
  clear hg
  have XB : Hid (B3 W.drew g (.int .i64 64) (.int .i64 53) (.int .i64 (-1074))) := X0.drew
  have HBW : Hid (Below w.heap.size w W.drew) := bwDrew hb0
  have XW : Hid (B3 W g (.int .i64 64) (.int .i64 53) (.int .i64 (-1074))) := X0
  have HB0 : Hid (Below w.heap.size w W) := hb0
  clear X0 hb0
  refine wp_region_J (fun W' => B3 W' g (.int .i64 64) (.int .i64 53) (.int .i64 (-1074))) (by kernel_rfl) ?_
  refine wpJ_take (i := 0) (v := ?v1x0) rfl (by kernel_rfl) (by kernel_rfl) (by kernel_rfl) (fun _ _ _ h => h) (by rfl) ?hy1x0 XB.out ?rest1x0
  case hy1x0 => (intro W' hJ; obtain ⟨c0, c1, c2, c3, c4, c5⟩ := hJ; go_simp; first | done | with_reducible rfl)
  refine wpJ_take (i := 2) (v := ?v2x2) rfl (by kernel_rfl) (by kernel_rfl) (by kernel_rfl) (fun _ _ _ h => h) (by rfl) ?hy2x2 XB.out ?rest2x2
  case hy2x2 => (intro W' hJ; obtain ⟨c0, c1, c2, c3, c4, c5⟩ := hJ; go_simp; first | done | with_reducible rfl)
  refine wpJ_one (i := 1) (by kernel_rfl) rfl (by rfl) (fun K hK => ?_)
  go_simp
  refine (infinity_64 _).mono ?_
  rintro e w1 ⟨rfl, hb1⟩
  have Xw1 : Hid (B3 w1 g (.int .i64 64) (.int .i64 53) (.int .i64 (-1074))) := XB.out.below hb1
  have HBw1 : Hid (Below w.heap.size w w1) := bwOn HBW.out hb1
  clear hb1
  refine hK _ _ Xw1.out ?_
  clear hK
  refine wpJ_one (i := 3) (by kernel_rfl) rfl (by rfl) (fun K hK => ?_)
  go_simp
  refine (stored_64 _).mono ?_
  rintro e w2 ⟨rfl, hb2⟩
  have Xw2 : Hid (B3 w2 g (.int .i64 64) (.int .i64 53) (.int .i64 (-1074))) := Xw1.out.below hb2
  have HBw2 : Hid (Below w.heap.size w w2) := bwOn HBw1.out hb2
  clear hb2
  refine hK _ _ Xw2.out ?_
  clear hK
  refine wpJ_take (i := 4) (v := ?v3x4) rfl (by kernel_rfl) (by kernel_rfl) (by kernel_rfl) (fun _ _ _ h => h) (by rfl) ?hy3x4 Xw2.out ?rest3x4
  case hy3x4 => (intro W' hJ; obtain ⟨c0, c1, c2, c3, c4, c5⟩ := hJ; go_simp; first | done | with_reducible rfl)
  refine wpJ_take (i := 5) (v := ?v4x5) rfl (by kernel_rfl) (by kernel_rfl) (by kernel_rfl) (fun _ _ _ h => h) (by rfl) ?hy4x5 Xw2.out ?rest4x5
  case hy4x5 => (intro W' hJ; obtain ⟨c0, c1, c2, c3, c4, c5⟩ := hJ; go_simp; first | done | with_reducible rfl)
  refine wpJ_take (i := 6) (v := ?v5x6) rfl (by kernel_rfl) (by kernel_rfl) (by kernel_rfl) (fun _ _ _ h => h) (by rfl) ?hy5x6 Xw2.out ?rest5x6
  case hy5x6 => (intro W' hJ; obtain ⟨c0, c1, c2, c3, c4, c5⟩ := hJ; go_simp; first | done | with_reducible rfl)
  refine wpJ_done (by kernel_rfl) ?_ _
  clear XB HBW XW HB0 Xw1 HBw1
  have XB : Hid (B3 w2.drew g (.int .i64 64) (.int .i64 53) (.int .i64 (-1074))) := Xw2.out.drew
  have HBW : Hid (Below w.heap.size w w2.drew) := bwDrew HBw2.out
  have hwr : IntKind.i64.wrap 2047 = 2047 := by decide
  go_wp2_with fail
  refine wp_region_J (fun W' => B3 W' g (.int .i64 64) (.int .i64 53) (.int .i64 (-1074))) (by kernel_rfl) ?_
  refine wpJ_take (i := 0) (v := ?v6x0) rfl (by kernel_rfl) (by kernel_rfl) (by kernel_rfl) (fun _ _ _ h => h) (by rfl) ?hy6x0 XB.out ?rest6x0
  case hy6x0 => (intro W' hJ; obtain ⟨c0, c1, c2, c3, c4, c5⟩ := hJ; go_simp; first | done | with_reducible rfl)
  refine wpJ_take (i := 1) (v := ?v7x1) rfl (by kernel_rfl) (by kernel_rfl) (by kernel_rfl) (fun _ _ _ h => h) (by rfl) ?hy7x1 XB.out ?rest7x1
  case hy7x1 => (intro W' hJ; obtain ⟨c0, c1, c2, c3, c4, c5⟩ := hJ; go_simp; first | done | with_reducible rfl)
  refine wpJ_take (i := 2) (v := ?v8x2) rfl (by kernel_rfl) (by kernel_rfl) (by kernel_rfl) (fun _ _ _ h => h) (by rfl) ?hy8x2 XB.out ?rest8x2
  case hy8x2 => (intro W' hJ; obtain ⟨c0, c1, c2, c3, c4, c5⟩ := hJ; go_simp; first | done | with_reducible rfl)
  refine wpJ_take (i := 3) (v := ?v9x3) rfl (by kernel_rfl) (by kernel_rfl) (by kernel_rfl) (fun _ _ _ h => h) (by rfl) ?hy9x3 XB.out ?rest9x3
  case hy9x3 => (intro W' hJ; obtain ⟨c0, c1, c2, c3, c4, c5⟩ := hJ; go_simp; first | done | with_reducible rfl)
  refine wpJ_take (i := 4) (v := ?v10x4) rfl (by kernel_rfl) (by kernel_rfl) (by kernel_rfl) (fun _ _ _ h => h) (by rfl) ?hy10x4 XB.out ?rest10x4
  case hy10x4 => (intro W' hJ; obtain ⟨c0, c1, c2, c3, c4, c5⟩ := hJ; go_simp; first | done | with_reducible rfl)
  refine wpJ_take (i := 5) (v := ?v11x5) rfl (by kernel_rfl) (by kernel_rfl) (by kernel_rfl) (fun _ _ _ h => h) (by rfl) ?hy11x5 XB.out ?rest11x5
  case hy11x5 => (intro W' hJ; obtain ⟨c0, c1, c2, c3, c4, c5⟩ := hJ; go_simp; first | done | with_reducible rfl)
  refine wpJ_one (i := 6) (by kernel_rfl) rfl (by rfl) (fun K hK => ?_)
  go_simp
  refine (stored_64 _).mono ?_
  rintro e w3 ⟨rfl, hb3⟩
  have Xw3 : Hid (B3 w3 g (.int .i64 64) (.int .i64 53) (.int .i64 (-1074))) := XB.out.below hb3
  have HBw3 : Hid (Below w.heap.size w w3) := bwOn HBW.out hb3
  clear hb3
  refine hK _ _ Xw3.out ?_
  clear hK
  refine wpJ_take (i := 7) (v := ?v12x7) rfl (by kernel_rfl) (by kernel_rfl) (by kernel_rfl) (fun _ _ _ h => h) (by rfl) ?hy12x7 Xw3.out ?rest12x7
  case hy12x7 => (intro W' hJ; obtain ⟨c0, c1, c2, c3, c4, c5⟩ := hJ; go_simp; first | done | with_reducible rfl)
  refine wpJ_take (i := 8) (v := ?v13x8) rfl (by kernel_rfl) (by kernel_rfl) (by kernel_rfl) (fun _ _ _ h => h) (by rfl) ?hy13x8 Xw3.out ?rest13x8
  case hy13x8 => (intro W' hJ; obtain ⟨c0, c1, c2, c3, c4, c5⟩ := hJ; go_simp; first | done | with_reducible rfl)
  refine wpJ_done (by kernel_rfl) ?_ _
  go_wp2_with fail
  go_ret
  exact ⟨rfl, HBw3.out⟩
set_option maxRecDepth 20000 in
set_option maxHeartbeats 4000000 in
theorem size_64 (man q : Nat) (u : Int) (hu : u = (q : Int) - 1074) (hq : q < 2048) (hm : man ≤ 9007199254740992) (w : World) : Calls Tryz.prog 84 #[WV 64 53 (-1074), U man, .int .i64 u] w fun e w' => e = .returned (U (q * 4503599627370496 + man)) ∧ Below w.heap.size w w' := by
  obtain ⟨r, hr⟩ : ∃ r, r = q * 4503599627370496 + man := ⟨_, rfl⟩
  obtain ⟨y, hy⟩ : ∃ y, y = q * 4503599627370496 := ⟨_, rfl⟩
  rw [← hr]
  have e1 : IntKind.i64.wrap (u - -1074) = (q : Int) := by simp [IntKind.wrap, IntKind.signed, IntKind.bits]; omega
  have e1' : IntKind.i64.wrap (u + 1074) = (q : Int) := by simp [IntKind.wrap, IntKind.signed, IntKind.bits]; omega
  have e2 : IntKind.u64.wrap (q : Int) = (q : Int) := by rw [IntKind.wrap_u64]; omega
  have e3 : IntKind.u64.wrap ((q : Int) * 4503599627370496) = (y : Int) := by rw [IntKind.wrap_u64]; omega
  have e4 : IntKind.u64.wrap ((y : Int) + (man : Int)) = (r : Int) := by rw [IntKind.wrap_u64]; omega
  clear hr hy hq hm hu
  go_enter Tryz.func84, Tryz.ntmps84
  go_wp2_with fail
  have X0 : B3 (w.alloc (.cells #[.int .i64 64, .int .i64 53, .int .i64 (-1074)] 66)) w.heap.size (.int .i64 64) (.int .i64 53) (.int .i64 (-1074)) := B3.new ..
  have hb0 : Below w.heap.size w (w.alloc (.cells #[.int .i64 64, .int .i64 53, .int .i64 (-1074)] 66)) := bwAlloc w _
  generalize w.alloc (.cells #[.int .i64 64, .int .i64 53, .int .i64 (-1074)] 66) = W at *
  obtain ⟨g, hg⟩ : ∃ g, g = w.heap.size := ⟨_, rfl⟩
  rw [← hg] at X0 ⊢
  clear hg
  have XB : Hid (B3 W.drew g (.int .i64 64) (.int .i64 53) (.int .i64 (-1074))) := X0.drew
  have HBW : Hid (Below w.heap.size w W.drew) := bwDrew hb0
  have XW : Hid (B3 W g (.int .i64 64) (.int .i64 53) (.int .i64 (-1074))) := X0
  have HB0 : Hid (Below w.heap.size w W) := hb0
  clear X0 hb0
  refine wp_region_J (fun W' => B3 W' g (.int .i64 64) (.int .i64 53) (.int .i64 (-1074))) (by kernel_rfl) ?_
  refine wpJ_take (i := 0) (v := ?v21x0) rfl (by kernel_rfl) (by kernel_rfl) (by kernel_rfl) (fun _ _ _ h => h) (by rfl) ?hy21x0 XB.out ?rest21x0
  case hy21x0 => (intro W' hJ; obtain ⟨c0, c1, c2, c3, c4, c5⟩ := hJ; go_simp; first | done | with_reducible rfl)
  refine wpJ_take (i := 1) (v := ?v22x1) rfl (by kernel_rfl) (by kernel_rfl) (by kernel_rfl) (fun _ _ _ h => h) (by rfl) ?hy22x1 XB.out ?rest22x1
  case hy22x1 => (intro W' hJ; obtain ⟨c0, c1, c2, c3, c4, c5⟩ := hJ; go_simp; first | done | with_reducible rfl)
  refine wpJ_take (i := 2) (v := ?v23x2) rfl (by kernel_rfl) (by kernel_rfl) (by kernel_rfl) (fun _ _ _ h => h) (by rfl) ?hy23x2 XB.out ?rest23x2
  case hy23x2 => (intro W' hJ; obtain ⟨c0, c1, c2, c3, c4, c5⟩ := hJ; go_simp; first | done | with_reducible rfl)
  refine wpJ_take (i := 3) (v := ?v24x3) rfl (by kernel_rfl) (by kernel_rfl) (by kernel_rfl) (fun _ _ _ h => h) (by rfl) ?hy24x3 XB.out ?rest24x3
  case hy24x3 => (intro W' hJ; obtain ⟨c0, c1, c2, c3, c4, c5⟩ := hJ; go_simp; first | done | with_reducible rfl)
  refine wpJ_take (i := 4) (v := ?v25x4) rfl (by kernel_rfl) (by kernel_rfl) (by kernel_rfl) (fun _ _ _ h => h) (by rfl) ?hy25x4 XB.out ?rest25x4
  case hy25x4 => (intro W' hJ; obtain ⟨c0, c1, c2, c3, c4, c5⟩ := hJ; go_simp; first | done | with_reducible rfl)
  refine wpJ_take (i := 5) (v := ?v26x5) rfl (by kernel_rfl) (by kernel_rfl) (by kernel_rfl) (fun _ _ _ h => h) (by rfl) ?hy26x5 XB.out ?rest26x5
  case hy26x5 => (intro W' hJ; obtain ⟨c0, c1, c2, c3, c4, c5⟩ := hJ; go_simp; first | done | with_reducible rfl)
  refine wpJ_take (i := 8) (v := ?v27x8) rfl (by kernel_rfl) (by kernel_rfl) (by kernel_rfl) (fun _ _ _ h => h) (by rfl) ?hy27x8 XB.out ?rest27x8
  case hy27x8 => (intro W' hJ; obtain ⟨c0, c1, c2, c3, c4, c5⟩ := hJ; go_simp; first | done | with_reducible rfl)
  refine wpJ_one (i := 6) (by kernel_rfl) rfl (by rfl) (fun K hK => ?_)
  go_simp
  refine (stored_64 _).mono ?_
  rintro e w2 ⟨rfl, hb2⟩
  have Xw2 : Hid (B3 w2 g (.int .i64 64) (.int .i64 53) (.int .i64 (-1074))) := XB.out.below hb2
  have HBw2 : Hid (Below w.heap.size w w2) := bwOn HBW.out hb2
  clear hb2
  refine hK _ _ Xw2.out ?_
  clear hK
  refine wpJ_take (i := 7) (v := ?v28x7) rfl (by kernel_rfl) (by kernel_rfl) (by kernel_rfl) (fun _ _ _ h => h) (by rfl) ?hy28x7 Xw2.out ?rest28x7
  case hy28x7 => (intro W' hJ; obtain ⟨c0, c1, c2, c3, c4, c5⟩ := hJ; go_simp; first | done | with_reducible rfl)
  refine wpJ_take (i := 9) (v := ?v29x9) rfl (by kernel_rfl) (by kernel_rfl) (by kernel_rfl) (fun _ _ _ h => h) (by rfl) ?hy29x9 Xw2.out ?rest29x9
  case hy29x9 => (intro W' hJ; obtain ⟨c0, c1, c2, c3, c4, c5⟩ := hJ; go_simp; first | done | with_reducible rfl)
  refine wpJ_take (i := 10) (v := ?v30x10) rfl (by kernel_rfl) (by kernel_rfl) (by kernel_rfl) (fun _ _ _ h => h) (by rfl) ?hy30x10 Xw2.out ?rest30x10
  case hy30x10 => (intro W' hJ; obtain ⟨c0, c1, c2, c3, c4, c5⟩ := hJ; go_simp; first | done | with_reducible rfl)
  refine wpJ_done (by kernel_rfl) ?_ _
  clear XB HBW XW HB0
  go_wp2_with fail
  go_ret
  exact ⟨rfl, HBw2.out⟩
set_option maxRecDepth 20000 in
set_option maxHeartbeats 4000000 in
theorem parts_32 (s q m : Nat) (hq : q = s / 8388608 - 1) (hm : m = s - q * 8388608) (hs : s < 2147483648) (w : World) : Calls Tryz.prog 115 #[WV 32 24 (-149), U s] w fun e w' => e = .returned (.tuple #[U m, .int .i64 (-149 + (q : Int))]) ∧ Below w.heap.size w w' := by
  obtain ⟨r, hr⟩ : ∃ r : Int, r = -149 + (q : Int) := ⟨_, rfl⟩
  obtain ⟨y, hy⟩ : ∃ y, y = q * 8388608 := ⟨_, rfl⟩
  rw [← hr]
  have e0 : max ((s : Int) / 8388608 - 1) 0 = (q : Int) := by omega
  have e1 : IntKind.u64.wrap (q : Int) = (q : Int) := by rw [IntKind.wrap_u64]; omega
  have e2 : IntKind.u64.wrap ((q : Int) * 8388608) = (y : Int) := by rw [IntKind.wrap_u64]; omega
  have e3 : IntKind.u64.wrap ((s : Int) - (y : Int)) = (m : Int) := by rw [IntKind.wrap_u64]; omega
  have e4 : IntKind.i64.wrap (-149 + (q : Int)) = r := by rw [hr]; simp [IntKind.wrap, IntKind.signed, IntKind.bits]; omega
  have HS : Hid (s < 2147483648) := hs
  have hs31 : (s : Int) < 2147483648 := by omega
  clear hr hy hq hm hs
  go_enter Tryz.func115, Tryz.ntmps115
  go_wp2_with fail
  have X0 : B3 (w.alloc (.cells #[.int .i64 32, .int .i64 24, .int .i64 (-149)] 66)) w.heap.size (.int .i64 32) (.int .i64 24) (.int .i64 (-149)) := B3.new ..
  have hb0 : Below w.heap.size w (w.alloc (.cells #[.int .i64 32, .int .i64 24, .int .i64 (-149)] 66)) := bwAlloc w _
  generalize w.alloc (.cells #[.int .i64 32, .int .i64 24, .int .i64 (-149)] 66) = W at *
  obtain ⟨g, hg⟩ : ∃ g, g = w.heap.size := ⟨_, rfl⟩
  rw [← hg] at X0 ⊢
  clear hg
  have XB : Hid (B3 W.drew g (.int .i64 32) (.int .i64 24) (.int .i64 (-149))) := X0.drew
  have HBW : Hid (Below w.heap.size w W.drew) := bwDrew hb0
  have XW : Hid (B3 W g (.int .i64 32) (.int .i64 24) (.int .i64 (-149))) := X0
  have HB0 : Hid (Below w.heap.size w W) := hb0
  clear X0 hb0
  refine (stored_32 _).mono ?_
  rintro e w1 ⟨rfl, hb1⟩
  have Xw1 : Hid (B3 w1 g (.int .i64 32) (.int .i64 24) (.int .i64 (-149))) := XW.out.below hb1
  have HBw1 : Hid (Below w.heap.size w w1) := bwOn HB0.out hb1
  clear hb1
  have c6 := Xw1.out
  obtain ⟨c0, c1, c2, c3, c4, c5⟩ := c6
  go_wp2_with fail
  clear c0 c1 c2 c3 c4 c5 XB HBW XW HB0
  have XB : Hid (B3 w1.drew g (.int .i64 32) (.int .i64 24) (.int .i64 (-149))) := Xw1.out.drew
  have HBW : Hid (Below w.heap.size w w1.drew) := bwDrew HBw1.out
  refine wp_region_J (fun W' => B3 W' g (.int .i64 32) (.int .i64 24) (.int .i64 (-149))) (by kernel_rfl) ?_
  refine wpJ_take (i := 0) (v := ?v31x0) rfl (by kernel_rfl) (by kernel_rfl) (by kernel_rfl) (fun _ _ _ h => h) (by rfl) ?hy31x0 XB.out ?rest31x0
  case hy31x0 => (intro W' hJ; obtain ⟨c0, c1, c2, c3, c4, c5⟩ := hJ; go_simp; first | done | with_reducible rfl)
  refine wpJ_take (i := 1) (v := ?v32x1) rfl (by kernel_rfl) (by kernel_rfl) (by kernel_rfl) (fun _ _ _ h => h) (by rfl) ?hy32x1 XB.out ?rest32x1
  case hy32x1 => (intro W' hJ; obtain ⟨c0, c1, c2, c3, c4, c5⟩ := hJ; go_simp; first | done | with_reducible rfl)
  refine wpJ_take (i := 2) (v := ?v33x2) rfl (by kernel_rfl) (by kernel_rfl) (by kernel_rfl) (fun _ _ _ h => h) (by rfl) ?hy33x2 XB.out ?rest33x2
  case hy33x2 => (intro W' hJ; obtain ⟨c0, c1, c2, c3, c4, c5⟩ := hJ; go_simp; first | done | with_reducible rfl)
  refine wpJ_take (i := 3) (v := ?v34x3) rfl (by kernel_rfl) (by kernel_rfl) (by kernel_rfl) (fun _ _ _ h => h) (by rfl) ?hy34x3 XB.out ?rest34x3
  case hy34x3 => (intro W' hJ; obtain ⟨c0, c1, c2, c3, c4, c5⟩ := hJ; go_simp; first | done | with_reducible rfl)
  refine wpJ_take (i := 7) (v := ?v35x7) rfl (by kernel_rfl) (by kernel_rfl) (by kernel_rfl) (fun _ _ _ h => h) (by rfl) ?hy35x7 XB.out ?rest35x7
  case hy35x7 => (intro W' hJ; obtain ⟨c0, c1, c2, c3, c4, c5⟩ := hJ; go_simp; first | done | with_reducible rfl)
  refine wpJ_take (i := 8) (v := ?v36x8) rfl (by kernel_rfl) (by kernel_rfl) (by kernel_rfl) (fun _ _ _ h => h) (by rfl) ?hy36x8 XB.out ?rest36x8
  case hy36x8 => (intro W' hJ; obtain ⟨c0, c1, c2, c3, c4, c5⟩ := hJ; go_simp; first | done | with_reducible rfl)
  refine wpJ_take (i := 9) (v := ?v37x9) rfl (by kernel_rfl) (by kernel_rfl) (by kernel_rfl) (fun _ _ _ h => h) (by rfl) ?hy37x9 XB.out ?rest37x9
  case hy37x9 => (intro W' hJ; obtain ⟨c0, c1, c2, c3, c4, c5⟩ := hJ; go_simp; first | done | with_reducible rfl)
  refine wpJ_take (i := 10) (v := ?v38x10) rfl (by kernel_rfl) (by kernel_rfl) (by kernel_rfl) (fun _ _ _ h => h) (by rfl) ?hy38x10 XB.out ?rest38x10
  case hy38x10 => (intro W' hJ; obtain ⟨c0, c1, c2, c3, c4, c5⟩ := hJ; go_simp; first | done | with_reducible rfl)
  refine wpJ_one (i := 4) (by kernel_rfl) rfl (by rfl) (fun K hK => ?_)
  go_simp
  refine (stored_32 _).mono ?_
  rintro e w2 ⟨rfl, hb2⟩
  have Xw2 : Hid (B3 w2 g (.int .i64 32) (.int .i64 24) (.int .i64 (-149))) := XB.out.below hb2
  have HBw2 : Hid (Below w.heap.size w w2) := bwOn HBW.out hb2
  clear hb2
  refine hK _ _ Xw2.out ?_
  clear hK
  refine wpJ_take (i := 5) (v := ?v39x5) rfl (by kernel_rfl) (by kernel_rfl) (by kernel_rfl) (fun _ _ _ h => h) (by rfl) ?hy39x5 Xw2.out ?rest39x5
  case hy39x5 => (intro W' hJ; obtain ⟨c0, c1, c2, c3, c4, c5⟩ := hJ; go_simp; first | done | with_reducible rfl)
  refine wpJ_take (i := 6) (v := ?v40x6) rfl (by kernel_rfl) (by kernel_rfl) (by kernel_rfl) (fun _ _ _ h => h) (by rfl) ?hy40x6 Xw2.out ?rest40x6
  case hy40x6 => (intro W' hJ; obtain ⟨c0, c1, c2, c3, c4, c5⟩ := hJ; go_simp; first | done | with_reducible rfl)
  refine wpJ_take (i := 11) (v := ?v41x11) rfl (by kernel_rfl) (by kernel_rfl) (by kernel_rfl) (fun _ _ _ h => h) (by rfl) ?hy41x11 Xw2.out ?rest41x11
  case hy41x11 => (intro W' hJ; obtain ⟨c0, c1, c2, c3, c4, c5⟩ := hJ; go_simp; first | done | with_reducible rfl)
  refine wpJ_take (i := 12) (v := ?v42x12) rfl (by kernel_rfl) (by kernel_rfl) (by kernel_rfl) (fun _ _ _ h => h) (by rfl) ?hy42x12 Xw2.out ?rest42x12
  case hy42x12 => (intro W' hJ; obtain ⟨c0, c1, c2, c3, c4, c5⟩ := hJ; go_simp; first | done | with_reducible rfl)
  refine wpJ_done (by kernel_rfl) ?_ _
  go_wp2_with fail
  go_ret2
  exact ⟨rfl, HBw2.out⟩
end Go.Proofs.YtfkoilaobglddaaGreatDoor

