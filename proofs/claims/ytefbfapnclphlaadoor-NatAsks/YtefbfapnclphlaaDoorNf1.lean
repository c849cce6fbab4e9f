import Derived.Test.YtefbfapnclphlaaDoorLits
import Derived.Test.YtefbfapnclphlaaDoorMm0
import Derived.Test.YtefbfapnclphlaaDoorCmp32
import Derived.Laws.ResultCell
import Derived.Deep.RegionWith
import Derived.Deep.DeepCutAuto
import Derived.Deep.LoopGhost
namespace Go.Proofs.YtefbfapnclphlaaDoor
open Go.RowKit Go.Shelf

/-- A struct of five cells of one's own, where it lies in memory. -/
structure B5 (W : World) (g : Nat) (v0 v1 v2 v3 v4 : Value) : Prop where
  c0 : W.cell? ⟨g, 0, none⟩ = some v0
  c1 : W.cell? ⟨g, 1, none⟩ = some v1
  c2 : W.cell? ⟨g, 2, none⟩ = some v2
  c3 : W.cell? ⟨g, 3, none⟩ = some v3
  c4 : W.cell? ⟨g, 4, none⟩ = some v4
  f0 : W.frozen? ⟨g, 0, none⟩ = false
  f1 : W.frozen? ⟨g, 1, none⟩ = false
  f2 : W.frozen? ⟨g, 2, none⟩ = false
  f3 : W.frozen? ⟨g, 3, none⟩ = false
  f4 : W.frozen? ⟨g, 4, none⟩ = false
theorem B5.below {W W' : World} {g : Nat} {v0 v1 v2 v3 v4 : Value} (h : B5 W g v0 v1 v2 v3 v4) (hb : Below W.heap.size W W') : B5 W' g v0 v1 v2 v3 v4 := by
  have hl : g < W.heap.size := World.block_lt_of_cell? W _ h.c0
  exact ⟨(hb.cell (p := ⟨g, 0, none⟩) hl).trans h.c0, (hb.cell (p := ⟨g, 1, none⟩) hl).trans h.c1, (hb.cell (p := ⟨g, 2, none⟩) hl).trans h.c2, (hb.cell (p := ⟨g, 3, none⟩) hl).trans h.c3, (hb.cell (p := ⟨g, 4, none⟩) hl).trans h.c4,
    (hb.frozen (p := ⟨g, 0, none⟩) hl).trans h.f0, (hb.frozen (p := ⟨g, 1, none⟩) hl).trans h.f1, (hb.frozen (p := ⟨g, 2, none⟩) hl).trans h.f2, (hb.frozen (p := ⟨g, 3, none⟩) hl).trans h.f3, (hb.frozen (p := ⟨g, 4, none⟩) hl).trans h.f4⟩
theorem B5.new (w : World) (ty : TypeId) (v0 v1 v2 v3 v4 : Value) : B5 (w.alloc (.cells #[v0, v1, v2, v3, v4] ty)) w.heap.size v0 v1 v2 v3 v4 :=
  ⟨by go_simp, by go_simp, by go_simp, by go_simp, by go_simp, by go_simp, by go_simp, by go_simp, by go_simp, by go_simp⟩
theorem bDrew2 {B : Nat} {a w : World} (h : Below B a w) : Below B a w.drew := ⟨h.os, h.tape, h.output, h.size, h.block⟩
theorem DocIs.inj {v : Nat} {us us' : List Nat} {f f' : Int} (h : DocIs v us f) (k : DocIs v us' f') : us = us' ∧ f = f' := by
  rcases h with ⟨h1, h2, rfl⟩ | ⟨h1, rfl, rfl⟩ <;> rcases k with ⟨k1, k2, rfl⟩ | ⟨k1, rfl, rfl⟩
  · exact ⟨h2.inj B64_one k2, rfl⟩
  · omega
  · omega
  · exact ⟨rfl, rfl⟩
theorem DocIs.er {v : Nat} {us : List Nat} {f : Int} (h : DocIs v us f) : f = 0 ∨ f = 5 := by
  rcases h with ⟨_, _, rfl⟩ | ⟨_, _, rfl⟩ <;> simp
/-- The program's Norm as the document's. -/
theorem normP {p : Option Addr} {n c : Nat} {xs : List Nat} {w : World} (h : At w p n c xs) :
    Calls Tryd.prog 37 #[.slice p n c] w fun e w' => ∃ p' m' us f, e = .returned (.tuple #[.slice p' m' m', .int .i64 f]) ∧ At w' p' m' m' us ∧ DocIs (valB B64 xs) us f ∧ Below w.heap.size w w' := by
  refine (norm_any h).mono ?_
  rintro e w' ⟨ha, hb⟩
  rcases ha with ⟨hl, p1, m1, zs, rfl, ho, hn, hm⟩ | ⟨hl, rfl⟩
  · exact ⟨p1, m1, zs, 0, rfl, ho.at_ hm, .inl ⟨hl, hn, rfl⟩, hb⟩
  · exact ⟨none, 0, [], 5, rfl, At.empty _ none 0 (by decide), .inr ⟨hl, rfl, rfl⟩, hb⟩

set_option maxRecDepth 20000 in
set_option maxHeartbeats 1000000 in
theorem told1 {p q : Option Addr} {n m c d : Nat} {xs : List Nat} {w : World} (er : Int) (he : er = 0 ∨ er = 1 ∨ er = 2 ∨ er = 3 ∨ er = 4 ∨ er = 5) (h : At w p n c xs) (k : At w q m d xs) :
    Calls Tryd.prog 12 #[.slice p n c, .int .i64 er, .slice q m d, .int .i64 er] w fun e w' => e = .returned (.bool true) ∧ Below w.heap.size w w' := by
  rcases he with rfl | rfl | rfl | rfl | rfl | rfl
  all_goals
    (go_enter Tryd.func12, Tryd.ntmps12
     go_wp2_with fail
     refine (same_t h k).mono ?_
     rintro e w1 ⟨rfl, hb⟩
     go_wp2_with fail
     go_ret
     exact ⟨rfl, hb⟩)

set_option maxRecDepth 20000 in
set_option maxHeartbeats 1000000 in
theorem docnormD {p : Option Addr} {n c : Nat} {xs : List Nat} {w : World} (h : At w p n c xs) (hn : n ≤ 17592186044416) :
    Calls Tryd.prog 44 #[.slice p n c] w fun e w' => ∃ p' m' N' us f, e = .returned (.tuple #[.slice p' m' N', .int .i64 f]) ∧ At w' p' m' N' us ∧ DocIs (valB B64 xs) us f ∧ Below w.heap.size w w' := by
  have HA : Hid (At w p n c xs) := h
  clear h
  go_enter Tryd.func44, Tryd.ntmps44
  go_wp2_with fail
  refine (from_any HA.out hn).mono ?_
  rintro e w1 ⟨g1, z1, rfl, hg1, hk1, hn1, hl1, hb1⟩
  have A1 : Hid (At32 w1 (some ⟨g1, 0, none⟩) z1.length z1.length z1) := hk1.at_ hn1.dig rfl (by unfold maxLen; omega)
  have N1 : Hid (Nf B32 z1 (valB B64 xs)) := hn1
  obtain ⟨l1, hl1e⟩ : ∃ l1, l1 = z1.length := ⟨_, rfl⟩
  rw [← hl1e] at A1 hl1 ⊢
  clear hk1 hn1 hg1 hl1e
  go_wp2_with fail
  refine (rtold_any A1.out N1.out (by omega)).mono ?_
  rintro e w2 ⟨p2, m2, N2, us, f2, rfl, hA2, hD2, hb2⟩
  have HA2 : Hid (At w2 p2 m2 N2 us) := hA2
  have HD2 : Hid (DocIs (valB B64 xs) us f2) := hD2
  have hbw := Below.on hb1 hb2
  clear hA2 hD2 hb1 hb2
  go_wp2_with fail
  go_ret2
  exact ⟨p2, m2, N2, us, f2, rfl, HA2.out, HD2.out, hbw⟩

theorem lit_at32 (w : World) (x y : Nat) (hx : x < B32) (hy : y < B32) : At32 (w.alloc (.cells #[V x, V y] 85)) (some ⟨w.heap.size, 0, none⟩) 2 2 [x, y] := by
  refine ⟨rfl, Nat.le_refl _, by decide, ?_, .inr ⟨w.heap.size, 0, rfl, ?_⟩⟩
  · intro z hz
    simp at hz
    rcases hz with rfl | rfl <;> assumption
  · intro j hj
    match j, hj with
    | 0, _ => exact World.cell?_alloc_new ..
    | 1, _ => exact World.cell?_alloc_new ..
end Go.Proofs.YtefbfapnclphlaaDoor
