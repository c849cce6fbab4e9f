import Derived.Test.YtdkbfffpnpjpiaaAddMul
import Derived.Lib.SliceRun
import Derived.Sort.Row
namespace Go.Proofs.Ytdkbfffpnpjpiaa
open Go.RowKit

/-- Of what was there, only cells in S have turned (new blocks may have come). -/
structure Chg (S : Nat → Nat → Prop) (w w' : World) : Prop where
  os : w'.os = w.os
  tape : w'.tape = w.tape
  output : w'.output = w.output
  size : w.heap.size ≤ w'.heap.size
  row : ∀ k cur t fr, w.heap[k]? = some (.cells cur t fr) → ∃ cur', w'.heap[k]? = some (.cells cur' t fr) ∧ cur'.size = cur.size ∧ ∀ j, ¬ S k j → cur'[j]? = cur[j]?
  other : ∀ k, k < w.heap.size → (∀ cur t fr, w.heap[k]? ≠ some (.cells cur t fr)) → w'.heap[k]? = w.heap[k]?

/-- The cells from (g, off) on, n of them. -/
def Rg (g off n : Nat) : Nat → Nat → Prop := fun b o => b = g ∧ off ≤ o ∧ o < off + n
/-- Two such ranges have no cell in common. -/
def Dj (g off n g' off' n' : Nat) : Prop := g ≠ g' ∨ off + n ≤ off' ∨ off' + n' ≤ off
theorem Dj.symm {g off n g' off' n' : Nat} (h : Dj g off n g' off' n') : Dj g' off' n' g off n := by unfold Dj at *; omega
theorem Dj.sub {g off n g' off' n' o m : Nat} (h : Dj g off n g' off' n') (h1 : off ≤ o) (h2 : o + m ≤ off + n) : Dj g o m g' off' n' := by unfold Dj at *; omega
theorem Dj.not {g off n g' off' n' j : Nat} (h : Dj g off n g' off' n') (hj : j < n) : ¬ Rg g' off' n' g (off + j) := by unfold Dj Rg at *; omega

theorem Chg.refl (S : Nat → Nat → Prop) (w : World) : Chg S w w := ⟨rfl, rfl, rfl, Nat.le_refl _, fun _ cur _ _ h => ⟨cur, h, rfl, fun _ _ => rfl⟩, fun _ _ _ => rfl⟩
theorem Chg.mono {S S' : Nat → Nat → Prop} {w w' : World} (h : Chg S w w') (hS : ∀ b o, S b o → S' b o) : Chg S' w w' := by
  refine ⟨h.os, h.tape, h.output, h.size, fun k cur t fr hk => ?_, h.other⟩
  obtain ⟨c, h1, h2, h3⟩ := h.row k cur t fr hk
  exact ⟨c, h1, h2, fun j hj => h3 j (fun hs => hj (hS k j hs))⟩
theorem Chg.trans {S : Nat → Nat → Prop} {a b c : World} (h : Chg S a b) (k : Chg S b c) : Chg S a c := by
  refine ⟨k.os.trans h.os, k.tape.trans h.tape, k.output.trans h.output, Nat.le_trans h.size k.size, fun i cur t fr hi => ?_, fun i hi hn => ?_⟩
  · obtain ⟨c1, g1, s1, e1⟩ := h.row i cur t fr hi
    obtain ⟨c2, g2, s2, e2⟩ := k.row i c1 t fr g1
    exact ⟨c2, g2, s2.trans s1, fun j hj => (e2 j hj).trans (e1 j hj)⟩
  · have e1 := h.other i hi hn
    rw [← e1]
    exact k.other i (Nat.lt_of_lt_of_le hi h.size) (by rw [e1]; exact hn)
theorem Wr.chg {g off n : Nat} {w w' : World} (h : Wr g off n w w') : Chg (Rg g off n) w w' := by
  refine ⟨h.os, h.tape, h.output, by rw [h.size]; exact Nat.le_refl _, fun k cur t fr hk => ?_, fun k _ hn => ?_⟩
  · by_cases e : k = g
    · subst e
      obtain ⟨c, h1, h2, h3⟩ := h.row cur t fr hk
      exact ⟨c, h1, h2, fun j hj => h3 j (by unfold Rg at hj; omega)⟩
    · exact ⟨cur, by rw [h.block k e]; exact hk, rfl, fun _ _ => rfl⟩
  · by_cases e : k = g
    · subst e; exact h.other hn
    · exact h.block k e
theorem Chg.drewN {S : Nat → Nat → Prop} {w w' : World} (h : Chg S w w') (q : Nat) : Chg S w (w'.drewN q) := ⟨h.os, h.tape, h.output, h.size, h.row, h.other⟩
theorem Chg.drew {S : Nat → Nat → Prop} {w w' : World} (h : Chg S w w') : Chg S w w'.drew := ⟨h.os, h.tape, h.output, h.size, h.row, h.other⟩
theorem Chg.cell {S : Nat → Nat → Prop} {w w' : World} (h : Chg S w w') {b o : Nat} {v : Value} (hn : ¬ S b o) (hc : w.cell? ⟨b, o, none⟩ = some v) : w'.cell? ⟨b, o, none⟩ = some v := by
  obtain ⟨c, e, fr, hb, hv⟩ := Sort.cells_of_cell? hc
  obtain ⟨c', h1, _, h3⟩ := h.row b c e fr hb
  rw [cell_of_row w' b o c' e fr h1, h3 o hn]; exact hv
theorem Chg.frozen {S : Nat → Nat → Prop} {w w' : World} (h : Chg S w w') {b o : Nat} {v : Value} (hc : w.cell? ⟨b, o, none⟩ = some v) : w'.frozen? ⟨b, o, none⟩ = w.frozen? ⟨b, o, none⟩ := by
  obtain ⟨c, e, fr, hb, hv⟩ := Sort.cells_of_cell? hc
  obtain ⟨c', h1, _, h3⟩ := h.row b c e fr hb
  simp [World.frozen?, hb, h1]
theorem Chg.below {S : Nat → Nat → Prop} {w w' : World} (h : Chg S w w') {B : Nat} (hS : ∀ b o, S b o → B ≤ b) (hB : B ≤ w.heap.size) : Below B w w' := by
  refine ⟨h.os, h.tape, h.output, h.size, fun k hk => ?_⟩
  by_cases hc : ∃ cur t fr, w.heap[k]? = some (.cells cur t fr)
  · obtain ⟨cur, t, fr, hcur⟩ := hc
    obtain ⟨c', h1, h2, h3⟩ := h.row k cur t fr hcur
    have e : c' = cur := by
      apply Array.ext_getElem?
      intro j
      exact h3 j (fun hs => by have := hS k j hs; omega)
    rw [h1, hcur, e]
  · exact h.other k (by omega) (fun cur t fr e => hc ⟨cur, t, fr, e⟩)
theorem Below.chg {w w' : World} (h : Below w.heap.size w w') (S : Nat → Nat → Prop) : Chg S w w' := by
  refine ⟨h.os, h.tape, h.output, h.size, fun k cur t fr hk => ?_, fun k hk _ => h.block k hk⟩
  have hlt : k < w.heap.size := (Array.getElem?_eq_some_iff.1 hk).1
  exact ⟨cur, by rw [h.block k hlt]; exact hk, rfl, fun _ _ => rfl⟩

/-- A row of words that can be read. -/
structure Rd (w : World) (g off n : Nat) (xs : List Nat) : Prop where
  len : xs.length = n
  dig : Dig B64 xs
  cell : ∀ j, j < n → w.cell? ⟨g, off + j, none⟩ = some (U (xs.getD j 0))
theorem Row.rd {w : World} {g off n : Nat} {xs : List Nat} (h : Row w g off n xs) : Rd w g off n xs := ⟨h.len, h.dig, h.cell⟩
theorem Rd.at_ {w : World} {g off n c : Nat} {xs : List Nat} (h : Rd w g off n xs) (hc : n ≤ c) (hb : c ≤ maxLen) : At w (some ⟨g, off, none⟩) n c xs := ⟨h.len, hc, hb, h.dig, .inr ⟨g, off, rfl, h.cell⟩⟩
theorem Rd.chg {w w' : World} {S : Nat → Nat → Prop} {g off n : Nat} {xs : List Nat} (h : Rd w g off n xs) (hc : Chg S w w') (hd : ∀ j, j < n → ¬ S g (off + j)) : Rd w' g off n xs :=
  ⟨h.len, h.dig, fun j hj => hc.cell (hd j hj) (h.cell j hj)⟩
theorem Row.chg {w w' : World} {S : Nat → Nat → Prop} {g off n : Nat} {xs : List Nat} (h : Row w g off n xs) (hc : Chg S w w') (hd : ∀ j, j < n → ¬ S g (off + j)) : Row w' g off n xs :=
  ⟨h.len, h.dig, fun j hj => hc.cell (hd j hj) (h.cell j hj), fun j hj => by rw [hc.frozen (h.cell j hj)]; exact h.frozen j hj⟩
/-- Whatever has been written, a row of one's own holds words (if it is known cell by cell). -/
theorem Row.sub {w : World} {g off n : Nat} {xs : List Nat} (h : Row w g off n xs) (k m : Nat) (hkm : k + m ≤ n) : Row w g (off + k) m ((xs.drop k).take m) := by
  have hl := h.len
  refine ⟨by simp; omega, (h.dig.drop k).take m, fun j hj => ?_, fun j hj => by rw [Nat.add_assoc]; exact h.frozen (k + j) (by omega)⟩
  have e : ((xs.drop k).take m).getD j 0 = xs.getD (k + j) 0 := by rw [List.getD_eq_getElem?_getD, List.getD_eq_getElem?_getD, List.getElem?_take, if_pos hj, List.getElem?_drop]
  rw [e, Nat.add_assoc]; exact h.cell (k + j) (by omega)
theorem Rd.sub {w : World} {g off n : Nat} {xs : List Nat} (h : Rd w g off n xs) (k m : Nat) (hkm : k + m ≤ n) : Rd w g (off + k) m ((xs.drop k).take m) := by
  have hl := h.len
  refine ⟨by simp; omega, (h.dig.drop k).take m, fun j hj => ?_⟩
  have e : ((xs.drop k).take m).getD j 0 = xs.getD (k + j) 0 := by rw [List.getD_eq_getElem?_getD, List.getD_eq_getElem?_getD, List.getElem?_take, if_pos hj, List.getElem?_drop]
  rw [e, Nat.add_assoc]; exact h.cell (k + j) (by omega)
/-- Two rows side by side are one. -/
theorem Row.join {w : World} {g off n m : Nat} {xs ys : List Nat} (h : Row w g off n xs) (k : Row w g (off + n) m ys) : Row w g off (n + m) (xs ++ ys) := by
  have hl := h.len
  have kl := k.len
  refine ⟨by simp; omega, h.dig.append k.dig, fun j hj => ?_, fun j hj => ?_⟩
  · by_cases e : j < n
    · rw [List.getD_eq_getElem?_getD, List.getElem?_append_left (by omega), ← List.getD_eq_getElem?_getD]; exact h.cell j e
    · rw [List.getD_eq_getElem?_getD, List.getElem?_append_right (by omega), ← List.getD_eq_getElem?_getD, hl]
      have := k.cell (j - n) (by omega)
      rw [Nat.add_assoc, show n + (j - n) = j by omega] at this; exact this
  · by_cases e : j < n
    · exact h.frozen j e
    · have := k.frozen (j - n) (by omega)
      rw [Nat.add_assoc, show n + (j - n) = j by omega] at this; exact this
/-- A row of one's own behind a change of which nothing is known but that words were laid there: its cells are there still. -/
theorem Wr.setCells {g : Nat} : ∀ (vs : List Value) (off : Nat) (w : World), Wr g off vs.length w (w.setCells g off vs)
  | [], off, w => Wr.refl _ _ _ _
  | v :: r, off, w => by
    have h1 : Wr g off (r.length + 1) w (w.setCell ⟨g, off, none⟩ v) := (Wr.refl g off (r.length + 1) w).setCell off ⟨by omega, by omega⟩ v
    have h2 := Wr.setCells (g := g) r (off + 1) (w.setCell ⟨g, off, none⟩ v)
    exact h1.trans (h2.mono (by omega) (by omega))
theorem Row.cleared {w : World} {g off n : Nat} {xs : List Nat} (h : Row w g off n xs) : Row (w.setCells g off (List.replicate n (U 0))) g off n (List.replicate n 0) := by
  refine ⟨by simp, Dig.replicate _ _ B64_pos, fun j hj => ?_, fun j hj => by rw [World.frozen?_setCells]; exact h.frozen j hj⟩
  have h1 := World.cell?_setCells_in g (List.replicate n (U 0)) off w (fun i hi => by rw [h.cell i (by simpa using hi)]; rfl) j (by simpa using hj)
  rw [h1]
  simp [hj]
/-- 'clear' of a row. -/
theorem run_clear {w : World} {g off n c : Nat} {xs : List Nat} (h : Row w g off n xs) (hn : 0 < n) (ty : TypeId) :
    (Builtin.clear_ #[23] ty #[.slice (some ⟨g, off, none⟩) n c]).run Try.prog w = .ok (.tuple #[]) (w.setCells g off (List.replicate n (U 0))) :=
  Lib.run_clear_slice w 23 27 ty (.int .u64 0) Try.underlying23 Try.zeroValue27 rfl rfl g off n c hn (fun j hj => by rw [h.cell j hj]; rfl) (fun j hj => h.frozen j hj)
end Go.Proofs.Ytdkbfffpnpjpiaa
