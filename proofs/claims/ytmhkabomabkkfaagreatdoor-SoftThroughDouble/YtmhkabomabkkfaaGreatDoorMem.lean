import Derived.WalkKit
import Derived.Deep.Draws
import Derived.Test.YtmhkabomabkkfaaGreatDoorVal
namespace Go.Proofs.YtmhkabomabkkfaaGreatDoor
open Go.RowKit
def B64 : Nat := 18446744073709551616
theorem B64_eq : B64 = 18446744073709551616 := rfl
theorem B64_pos : 0 < B64 := by decide
theorem B64_one : 1 < B64 := by decide
theorem B64_two : 2 ≤ B64 := by decide

abbrev U (n : Nat) : Value := .int .u64 (n : Int)

structure At (w : World) (p : Option Addr) (n c : Nat) (xs : List Nat) : Prop where
  len : xs.length = n
  cap : n ≤ c
  big : c ≤ maxLen
  dig : Dig B64 xs
  cells : n = 0 ∨ ∃ g off, p = some ⟨g, off, none⟩ ∧ ∀ j, j < n → w.cell? ⟨g, off + j, none⟩ = some (U (xs.getD j 0))

structure Wr (g off n : Nat) (w w' : World) : Prop where
  os : w'.os = w.os
  tape : w'.tape = w.tape
  output : w'.output = w.output
  size : w'.heap.size = w.heap.size
  block : ∀ k, k ≠ g → w'.heap[k]? = w.heap[k]?
  row : ∀ cur t fr, w.heap[g]? = some (.cells cur t fr) → ∃ cur', w'.heap[g]? = some (.cells cur' t fr) ∧ cur'.size = cur.size ∧ ∀ j, (j < off ∨ off + n ≤ j) → cur'[j]? = cur[j]?
  other : (∀ cur t fr, w.heap[g]? ≠ some (.cells cur t fr)) → w'.heap[g]? = w.heap[g]?

theorem Wr.refl (g off n : Nat) (w : World) : Wr g off n w w := ⟨rfl, rfl, rfl, rfl, fun _ _ => rfl, fun cur _ _ h => ⟨cur, h, rfl, fun _ _ => rfl⟩, fun _ => rfl⟩
theorem Wr.trans {g off n : Nat} {a b c : World} (h : Wr g off n a b) (k : Wr g off n b c) : Wr g off n a c := by
  refine ⟨k.os.trans h.os, k.tape.trans h.tape, k.output.trans h.output, k.size.trans h.size, fun i hi => (k.block i hi).trans (h.block i hi), fun cur t fr hg => ?_, fun hn => ?_⟩
  · obtain ⟨c1, g1, s1, e1⟩ := h.row cur t fr hg
    obtain ⟨c2, g2, s2, e2⟩ := k.row c1 t fr g1
    exact ⟨c2, g2, s2.trans s1, fun j hj => (e2 j hj).trans (e1 j hj)⟩
  · have e1 := h.other hn
    rw [← e1]; exact k.other (by rw [e1]; exact hn)
theorem Wr.mono {g off n off' n' : Nat} {w w' : World} (h : Wr g off n w w') (h1 : off' ≤ off) (h2 : off + n ≤ off' + n') : Wr g off' n' w w' := by
  refine ⟨h.os, h.tape, h.output, h.size, h.block, fun cur t fr hg => ?_, h.other⟩
  obtain ⟨c1, g1, s1, e1⟩ := h.row cur t fr hg
  exact ⟨c1, g1, s1, fun j hj => e1 j (by omega)⟩
theorem Wr.drew {g off n : Nat} {w w' : World} (h : Wr g off n w w') : Wr g off n w w'.drew := ⟨h.os, h.tape, h.output, h.size, h.block, h.row, h.other⟩
theorem Wr.drewN {g off n : Nat} {w w' : World} (h : Wr g off n w w') (q : Nat) : Wr g off n w (w'.drewN q) := ⟨h.os, h.tape, h.output, h.size, h.block, h.row, h.other⟩
theorem Wr.setCell {g off n : Nat} {w w' : World} (h : Wr g off n w w') (o : Nat) (ho : off ≤ o ∧ o < off + n) (u : Value) : Wr g off n w (w'.setCell ⟨g, o, none⟩ u) := by
  refine h.trans ⟨rfl, rfl, rfl, by simp [World.setCell], fun k hk => Below.heap_setCell _ _ _ _ hk, fun cur t fr hg => ?_, fun hn => ?_⟩
  · refine ⟨cur.setIfInBounds o u, by simp [World.setCell, Array.getElem?_modify, hg], by simp, fun j hj => ?_⟩
    rw [Array.getElem?_setIfInBounds, if_neg (by omega)]
  · simp only [World.setCell, Array.getElem?_modify, if_true]
    cases hg : w'.heap[g]? with
    | none => rfl
    | some ob =>
      cases ob with
      | cells cur t fr => exact absurd hg (hn cur t fr)
      | _ => rfl
theorem Wr.cell {g off n : Nat} {w w' : World} (h : Wr g off n w w') (b o : Nat) (hd : b ≠ g ∨ o < off ∨ off + n ≤ o) : w'.cell? ⟨b, o, none⟩ = w.cell? ⟨b, o, none⟩ := by
  by_cases hb : b = g
  · subst hb
    by_cases hc : ∃ cur t fr, w.heap[b]? = some (.cells cur t fr)
    · obtain ⟨cur, t, fr, hg⟩ := hc
      obtain ⟨c1, g1, s1, e1⟩ := h.row cur t fr hg
      simp only [World.cell?, hg, g1]
      simp [e1 o (by omega)]
    · exact World.cell?_of_block (h.other (fun cur t fr e => hc ⟨cur, t, fr, e⟩))
  · exact World.cell?_of_block (h.block b hb)
theorem Wr.frozen {g off n : Nat} {w w' : World} (h : Wr g off n w w') (a : Addr) : w'.frozen? a = w.frozen? a := by
  by_cases hb : a.block = g
  · by_cases hc : ∃ cur t fr, w.heap[g]? = some (.cells cur t fr)
    · obtain ⟨cur, t, fr, hg⟩ := hc
      obtain ⟨c1, g1, s1, e1⟩ := h.row cur t fr hg
      simp only [World.frozen?, hb, hg, g1]
    · exact World.frozen?_of_block (by rw [hb]; exact h.other (fun cur t fr e => hc ⟨cur, t, fr, e⟩))
  · exact World.frozen?_of_block (h.block a.block hb)
theorem Wr.below {g off n B : Nat} {w w' : World} (h : Wr g off n w w') (hB : B ≤ g) : Below B w w' :=
  ⟨h.os, h.tape, h.output, by rw [h.size]; exact Nat.le_refl _, fun k hk => h.block k (by omega)⟩

structure Row (w : World) (g off n : Nat) (xs : List Nat) : Prop where
  len : xs.length = n
  dig : Dig B64 xs
  cell : ∀ j, j < n → w.cell? ⟨g, off + j, none⟩ = some (U (xs.getD j 0))
  frozen : ∀ j, j < n → w.frozen? ⟨g, off + j, none⟩ = false

theorem Row.at_ {w : World} {g off n c : Nat} {xs : List Nat} (h : Row w g off n xs) (hc : n ≤ c) (hb : c ≤ maxLen) : At w (some ⟨g, off, none⟩) n c xs :=
  ⟨h.len, hc, hb, h.dig, .inr ⟨g, off, rfl, h.cell⟩⟩
theorem getD_set (xs : List Nat) (k y j : Nat) (hk : k < xs.length) : (xs.set k y).getD j 0 = if j = k then y else xs.getD j 0 := by
  rw [List.getD_eq_getElem?_getD, List.getD_eq_getElem?_getD, List.getElem?_set]
  by_cases h : k = j
  · subst h; simp [hk]
  · simp [h, Ne.symm h]
theorem Row.set {w : World} {g off n : Nat} {xs : List Nat} (h : Row w g off n xs) (k y : Nat) (hk : k < n) (hy : y < B64) : Row (w.setCell ⟨g, off + k, none⟩ (U y)) g off n (xs.set k y) := by
  refine ⟨by rw [List.length_set]; exact h.len, h.dig.set k hy, fun j hj => ?_, fun j hj => by rw [World.frozen?_setCell]; exact h.frozen j hj⟩
  rw [getD_set xs k y j (by rw [h.len]; exact hk)]
  by_cases e : j = k
  · subst e; rw [if_pos rfl]; exact World.cell?_setCell_same _ _ _ (h.cell j hj)
  · rw [if_neg e]
    exact (World.cell?_setCell_other _ _ _ _ (by intro e2; apply e; have := congrArg Addr.off e2; simp at this; omega)).trans (h.cell j hj)
theorem Row.drewN {w : World} {g off n : Nat} {xs : List Nat} (h : Row w g off n xs) (q : Nat) : Row (w.drewN q) g off n xs := ⟨h.len, h.dig, h.cell, h.frozen⟩
theorem Row.drew {w : World} {g off n : Nat} {xs : List Nat} (h : Row w g off n xs) : Row w.drew g off n xs := ⟨h.len, h.dig, h.cell, h.frozen⟩
theorem Row.below {w w' : World} {g off n B : Nat} {xs : List Nat} (h : Row w g off n xs) (hb : Below B w w') (hg : g < B) : Row w' g off n xs :=
  ⟨h.len, h.dig, fun j hj => (hb.cell (p := ⟨g, off + j, none⟩) hg).trans (h.cell j hj), fun j hj => (hb.frozen (p := ⟨g, off + j, none⟩) hg).trans (h.frozen j hj)⟩
theorem At.below {w w' : World} {p : Option Addr} {n c : Nat} {xs : List Nat} (h : At w p n c xs) (hb : Below w.heap.size w w') : At w' p n c xs := by
  refine ⟨h.len, h.cap, h.big, h.dig, ?_⟩
  rcases h.cells with h0 | ⟨g, off, rfl, hc⟩
  · exact .inl h0
  · exact .inr ⟨g, off, rfl, fun j hj => (hb.cell (p := ⟨g, off + j, none⟩) (World.block_lt_of_cell? w _ (hc j hj))).trans (hc j hj)⟩
theorem At.drewN {w : World} {p : Option Addr} {n c : Nat} {xs : List Nat} (h : At w p n c xs) (q : Nat) : At (w.drewN q) p n c xs := ⟨h.len, h.cap, h.big, h.dig, h.cells⟩
theorem At.alloc {w : World} {p : Option Addr} {n c : Nat} {xs : List Nat} (h : At w p n c xs) (o : Obj) : At (w.alloc o) p n c xs :=
  h.below ((Below.refl _ _).alloc (Nat.le_refl _) o)
theorem At.take {w : World} {p : Option Addr} {n c : Nat} {xs : List Nat} (h : At w p n c xs) (m : Nat) (hm : m ≤ n) (c' : Nat) (hc : m ≤ c') (hb : c' ≤ maxLen) : At w p m c' (xs.take m) := by
  refine ⟨by rw [List.length_take, h.len]; omega, hc, hb, h.dig.take m, ?_⟩
  rcases h.cells with h0 | ⟨g, off, rfl, hcl⟩
  · exact .inl (by omega)
  · refine .inr ⟨g, off, rfl, fun j hj => ?_⟩
    have e : (xs.take m).getD j 0 = xs.getD j 0 := by rw [List.getD_eq_getElem?_getD, List.getD_eq_getElem?_getD, List.getElem?_take, if_pos hj]
    rw [e]; exact hcl j (by omega)
theorem At.fresh {w : World} {p : Option Addr} {n c : Nat} {xs : List Nat} (h : At w p n c xs) {g : Nat} (hg : w.heap.size ≤ g) (g2 off2 : Nat) (hn : 0 < n) (hp : p = some ⟨g2, off2, none⟩) : g2 ≠ g := by
  rcases h.cells with h0 | ⟨g3, off3, hp3, hc⟩
  · omega
  · rw [hp] at hp3
    simp only [Option.some.injEq, Addr.mk.injEq, and_true] at hp3
    have := World.block_lt_of_cell? w _ (hc 0 hn)
    simp at this
    omega
theorem At.empty (w : World) (p : Option Addr) (c : Nat) (hb : c ≤ maxLen) : At w p 0 c [] := ⟨rfl, Nat.zero_le _, hb, Dig.nil _, .inl rfl⟩
theorem ret_bool {a b : Bool} (h : a = b) : Ending.returned (.bool a) = .returned (.bool b) := by rw [h]
theorem ret_int {k : IntKind} {a b : Int} (h : a = b) : Ending.returned (.int k a) = .returned (.int k b) := by rw [h]
end Go.Proofs.YtmhkabomabkkfaaGreatDoor
