import Derived.Test.YtfmbifocgljieaaGreatDoorJ8
import Derived.Shelf.Bits.Mul64
import Derived.Lib.SliceRun
import Derived.Sort.Row
import Derived.Deep.RegionWith
import Derived.Deep.DeepCutAuto
import Derived.Deep.LoopGhost
import Derived.Test.YtfmbifocgljieaaGreatDoorMem
import Derived.Laws.Bits64b
import Derived.Deep.RegionLaw
import Derived.Shelf.Spec.TrailingZeros
namespace Go.Proofs.YtfmbifocgljieaaGreatDoor
open Go.RowKit Go.Shelf
set_option maxRecDepth 20000
set_option maxHeartbeats 0
theorem Row.snoc {w : World} {g off m : Nat} {zs : List Nat} (h : Row w g off m zs) {y : Nat} (hc : w.cell? ⟨g, off + m, none⟩ = some (U y)) (hf : w.frozen? ⟨g, off + m, none⟩ = false) (hy : y < B64) : Row w g off (m + 1) (zs ++ [y]) := by
  have hl := h.len
  refine ⟨by simp; omega, h.dig.append (dig1 hy), fun j hj => ?_, fun j hj => ?_⟩
  · by_cases e : j = m
    · subst e
      rw [List.getD_eq_getElem?_getD, List.getElem?_append_right (by omega)]
      simpa [hl] using hc
    · rw [List.getD_eq_getElem?_getD, List.getElem?_append_left (by omega), ← List.getD_eq_getElem?_getD]
      exact h.cell j (by omega)
  · by_cases e : j = m
    · subst e; exact hf
    · exact h.frozen j (by omega)

structure MulRel (w : World) (g off m : Nat) (zs ys : List Nat) (v k cy : Nat) (dk : List Nat) (wr : World) : Prop where
  wrs : Wr g off m w wr
  row : Row wr g off m dk
  hi : dk.drop k = zs.drop k
  car : cy < B64
  sum : valB B64 (dk.take k) + B64 ^ k * cy = valB B64 (zs.take k) + valB B64 (ys.take k) * v

theorem MulRel.step {w : World} {g off m : Nat} {zs ys : List Nat} {v k cy : Nat} {dk : List Nat} {wr : World} (h : MulRel w g off m zs ys v k cy dk wr) (hk : k < m)
    {x z l d : Nat} (hz : z = dk.getD k 0) (hx : x = ys.getD k 0) (hs : x * v + z + cy = l + B64 * d) (hl : l < B64) (hd : d < B64) :
    MulRel w g off m zs ys v (k + 1) d (dk.set k l) (wr.setCell ⟨g, off + k, none⟩ (U l)) := by
  have hlen := h.row.len
  refine ⟨h.wrs.setCell (off + k) ⟨by omega, by omega⟩ _, h.row.set k l hk hl, ?_, hd, ?_⟩
  · rw [drop_set_lt]; exact drop_succ_of_drop h.hi
  · have hzz : z = zs.getD k 0 := hz.trans (getD_of_drop h.hi)
    rw [take_set_succ dk k l (by omega), valB_snoc, List.length_take, hlen, Nat.min_eq_left (by omega), valB_take_any _ zs k, valB_take_any _ ys k, ← hzz, ← hx, Nat.pow_succ, Nat.add_mul]
    have e1 := h.sum
    have e2 : B64 ^ k * (x * v + z + cy) = B64 ^ k * (l + B64 * d) := by rw [hs]
    rw [Nat.mul_add, Nat.mul_add, Nat.mul_add, ← Nat.mul_assoc] at e2
    have e3 : B64 ^ k * x * v = B64 ^ k * (x * v) := Nat.mul_assoc _ _ _
    have e4 : B64 ^ k * B64 * d = B64 ^ k * (B64 * d) := Nat.mul_assoc _ _ _
    rw [e3, e4]
    rw [← Nat.mul_assoc] at e2
    generalize B64 ^ k * x * v = X0 at *
    generalize B64 ^ k * (x * v) = X1 at *
    generalize B64 ^ k * B64 * d = X2 at *
    generalize B64 ^ k * (B64 * d) = X3 at *
    generalize B64 ^ k * z = X4 at *
    generalize B64 ^ k * cy = X5 at *
    generalize B64 ^ k * l = X6 at *
    omega
end Go.Proofs.YtfmbifocgljieaaGreatDoor
namespace Go.Proofs.YtfmbifocgljieaaGreatDoor
open Go.RowKit
set_option maxRecDepth 20000
set_option maxHeartbeats 0
structure Chg (S : Nat → Nat → Prop) (w w' : World) : Prop where
  os : w'.os = w.os
  tape : w'.tape = w.tape
  output : w'.output = w.output
  size : w.heap.size ≤ w'.heap.size
  row : ∀ k cur t fr, w.heap[k]? = some (.cells cur t fr) → ∃ cur', w'.heap[k]? = some (.cells cur' t fr) ∧ cur'.size = cur.size ∧ ∀ j, ¬ S k j → cur'[j]? = cur[j]?
  other : ∀ k, k < w.heap.size → (∀ cur t fr, w.heap[k]? ≠ some (.cells cur t fr)) → w'.heap[k]? = w.heap[k]?

def Rg (g off n : Nat) : Nat → Nat → Prop := fun b o => b = g ∧ off ≤ o ∧ o < off + n
def Dj (g off n g' off' n' : Nat) : Prop := g ≠ g' ∨ off + n ≤ off' ∨ off' + n' ≤ off
theorem Dj.symm {g off n g' off' n' : Nat} (h : Dj g off n g' off' n') : Dj g' off' n' g off n := by unfold Dj at *; omega
theorem Dj.sub {g off n g' off' n' o m : Nat} (h : Dj g off n g' off' n') (h1 : off ≤ o) (h2 : o + m ≤ off + n) : Dj g o m g' off' n' := by unfold Dj at *; omega
theorem Dj.not {g off n g' off' n' j : Nat} (h : Dj g off n g' off' n') (hj : j < n) : ¬ Rg g' off' n' g (off + j) := by unfold Dj Rg at *; omega

theorem Chg.refl (S : Nat → Nat → Prop) (w : World) : Chg S w w := ⟨rfl, rfl, rfl, Nat.le_refl _, fun _ cur _ _ h => ⟨cur, h, rfl, fun _ _ => rfl⟩, fun _ _ _ => rfl⟩
theorem Chg.mono {S S' : Nat → Nat → Prop} {w w' : World} (h : Chg S w w') (hS : ∀ b o, S b o → S' b o) : Chg S' w w' := by
  refine ⟨h.os, h.tape, h.output, h.size, fun k cur t fr hk => ?_, h.other⟩
  obtain ⟨c, h1, h2, h3⟩ := h.row k cur t fr hk
  exact ⟨c, h1, h2, fun j hj => h3 j (fun hs => hj (hS k j hs))⟩
theorem Chg.trans {S : Nat → Nat → Prop} {a b c : World} (h : Chg S a b) (k : Chg S b c) : Chg S a c := by
  refine ⟨k.os.trans h.os, k.tape.trans h.tape, k.output.trans h.output, Nat.le_trans h.size k.size, fun i cur t fr hi => ?_, fun i hi hn => ?_⟩
  · obtain ⟨c1, g1, s1, e1⟩ := h.row i cur t fr hi
    obtain ⟨c2, g2, s2, e2⟩ := k.row i c1 t fr g1
    exact ⟨c2, g2, s2.trans s1, fun j hj => (e2 j hj).trans (e1 j hj)⟩
  · have e1 := h.other i hi hn
    rw [← e1]
    exact k.other i (Nat.lt_of_lt_of_le hi h.size) (by rw [e1]; exact hn)
theorem Wr.chg {g off n : Nat} {w w' : World} (h : Wr g off n w w') : Chg (Rg g off n) w w' := by
  refine ⟨h.os, h.tape, h.output, by rw [h.size]; exact Nat.le_refl _, fun k cur t fr hk => ?_, fun k _ hn => ?_⟩
  · by_cases e : k = g
    · subst e
      obtain ⟨c, h1, h2, h3⟩ := h.row cur t fr hk
      exact ⟨c, h1, h2, fun j hj => h3 j (by unfold Rg at hj; omega)⟩
    · exact ⟨cur, by rw [h.block k e]; exact hk, rfl, fun _ _ => rfl⟩
  · by_cases e : k = g
    · subst e; exact h.other hn
    · exact h.block k e
theorem Chg.drewN {S : Nat → Nat → Prop} {w w' : World} (h : Chg S w w') (q : Nat) : Chg S w (w'.drewN q) := ⟨h.os, h.tape, h.output, h.size, h.row, h.other⟩
theorem Chg.drew {S : Nat → Nat → Prop} {w w' : World} (h : Chg S w w') : Chg S w w'.drew := ⟨h.os, h.tape, h.output, h.size, h.row, h.other⟩
theorem Chg.cell {S : Nat → Nat → Prop} {w w' : World} (h : Chg S w w') {b o : Nat} {v : Value} (hn : ¬ S b o) (hc : w.cell? ⟨b, o, none⟩ = some v) : w'.cell? ⟨b, o, none⟩ = some v := by
  obtain ⟨c, e, fr, hb, hv⟩ := Sort.cells_of_cell? hc
  obtain ⟨c', h1, _, h3⟩ := h.row b c e fr hb
  rw [cell_of_row w' b o c' e fr h1, h3 o hn]; exact hv
theorem Chg.frozen {S : Nat → Nat → Prop} {w w' : World} (h : Chg S w w') {b o : Nat} {v : Value} (hc : w.cell? ⟨b, o, none⟩ = some v) : w'.frozen? ⟨b, o, none⟩ = w.frozen? ⟨b, o, none⟩ := by
  obtain ⟨c, e, fr, hb, hv⟩ := Sort.cells_of_cell? hc
  obtain ⟨c', h1, _, h3⟩ := h.row b c e fr hb
  simp [World.frozen?, hb, h1]
theorem Chg.below {S : Nat → Nat → Prop} {w w' : World} (h : Chg S w w') {B : Nat} (hS : ∀ b o, S b o → B ≤ b) (hB : B ≤ w.heap.size) : Below B w w' := by
  refine ⟨h.os, h.tape, h.output, h.size, fun k hk => ?_⟩
  by_cases hc : ∃ cur t fr, w.heap[k]? = some (.cells cur t fr)
  · obtain ⟨cur, t, fr, hcur⟩ := hc
    obtain ⟨c', h1, h2, h3⟩ := h.row k cur t fr hcur
    have e : c' = cur := by
      apply Array.ext_getElem?
      intro j
      exact h3 j (fun hs => by have := hS k j hs; omega)
    rw [h1, hcur, e]
  · exact h.other k (by omega) (fun cur t fr e => hc ⟨cur, t, fr, e⟩)
theorem Below.chg {w w' : World} (h : Below w.heap.size w w') (S : Nat → Nat → Prop) : Chg S w w' := by
  refine ⟨h.os, h.tape, h.output, h.size, fun k cur t fr hk => ?_, fun k hk _ => h.block k hk⟩
  have hlt : k < w.heap.size := (Array.getElem?_eq_some_iff.1 hk).1
  exact ⟨cur, by rw [h.block k hlt]; exact hk, rfl, fun _ _ => rfl⟩

structure Rd (w : World) (g off n : Nat) (xs : List Nat) : Prop where
  len : xs.length = n
  dig : Dig B64 xs
  cell : ∀ j, j < n → w.cell? ⟨g, off + j, none⟩ = some (U (xs.getD j 0))
theorem Row.rd {w : World} {g off n : Nat} {xs : List Nat} (h : Row w g off n xs) : Rd w g off n xs := ⟨h.len, h.dig, h.cell⟩
theorem Rd.at_ {w : World} {g off n c : Nat} {xs : List Nat} (h : Rd w g off n xs) (hc : n ≤ c) (hb : c ≤ maxLen) : At w (some ⟨g, off, none⟩) n c xs := ⟨h.len, hc, hb, h.dig, .inr ⟨g, off, rfl, h.cell⟩⟩
theorem Rd.chg {w w' : World} {S : Nat → Nat → Prop} {g off n : Nat} {xs : List Nat} (h : Rd w g off n xs) (hc : Chg S w w') (hd : ∀ j, j < n → ¬ S g (off + j)) : Rd w' g off n xs :=
  ⟨h.len, h.dig, fun j hj => hc.cell (hd j hj) (h.cell j hj)⟩
theorem Row.chg {w w' : World} {S : Nat → Nat → Prop} {g off n : Nat} {xs : List Nat} (h : Row w g off n xs) (hc : Chg S w w') (hd : ∀ j, j < n → ¬ S g (off + j)) : Row w' g off n xs :=
  ⟨h.len, h.dig, fun j hj => hc.cell (hd j hj) (h.cell j hj), fun j hj => by rw [hc.frozen (h.cell j hj)]; exact h.frozen j hj⟩
theorem Row.sub {w : World} {g off n : Nat} {xs : List Nat} (h : Row w g off n xs) (k m : Nat) (hkm : k + m ≤ n) : Row w g (off + k) m ((xs.drop k).take m) := by
  have hl := h.len
  refine ⟨by simp; omega, (h.dig.drop k).take m, fun j hj => ?_, fun j hj => by rw [Nat.add_assoc]; exact h.frozen (k + j) (by omega)⟩
  have e : ((xs.drop k).take m).getD j 0 = xs.getD (k + j) 0 := by rw [List.getD_eq_getElem?_getD, List.getD_eq_getElem?_getD, List.getElem?_take, if_pos hj, List.getElem?_drop]
  rw [e, Nat.add_assoc]; exact h.cell (k + j) (by omega)
theorem Rd.sub {w : World} {g off n : Nat} {xs : List Nat} (h : Rd w g off n xs) (k m : Nat) (hkm : k + m ≤ n) : Rd w g (off + k) m ((xs.drop k).take m) := by
  have hl := h.len
  refine ⟨by simp; omega, (h.dig.drop k).take m, fun j hj => ?_⟩
  have e : ((xs.drop k).take m).getD j 0 = xs.getD (k + j) 0 := by rw [List.getD_eq_getElem?_getD, List.getD_eq_getElem?_getD, List.getElem?_take, if_pos hj, List.getElem?_drop]
  rw [e, Nat.add_assoc]; exact h.cell (k + j) (by omega)
theorem Row.join {w : World} {g off n m : Nat} {xs ys : List Nat} (h : Row w g off n xs) (k : Row w g (off + n) m ys) : Row w g off (n + m) (xs ++ ys) := by
  have hl := h.len
  have kl := k.len
  refine ⟨by simp; omega, h.dig.append k.dig, fun j hj => ?_, fun j hj => ?_⟩
  · by_cases e : j < n
    · rw [List.getD_eq_getElem?_getD, List.getElem?_append_left (by omega), ← List.getD_eq_getElem?_getD]; exact h.cell j e
    · rw [List.getD_eq_getElem?_getD, List.getElem?_append_right (by omega), ← List.getD_eq_getElem?_getD, hl]
      have := k.cell (j - n) (by omega)
      rw [Nat.add_assoc, show n + (j - n) = j by omega] at this; exact this
  · by_cases e : j < n
    · exact h.frozen j e
    · have := k.frozen (j - n) (by omega)
      rw [Nat.add_assoc, show n + (j - n) = j by omega] at this; exact this
theorem Wr.setCells {g : Nat} : ∀ (vs : List Value) (off : Nat) (w : World), Wr g off vs.length w (w.setCells g off vs)
  | [], off, w => Wr.refl _ _ _ _
  | v :: r, off, w => by
    have h1 : Wr g off (r.length + 1) w (w.setCell ⟨g, off, none⟩ v) := (Wr.refl g off (r.length + 1) w).setCell off ⟨by omega, by omega⟩ v
    have h2 := Wr.setCells (g := g) r (off + 1) (w.setCell ⟨g, off, none⟩ v)
    exact h1.trans (h2.mono (by omega) (by omega))
structure RowsRel (w : World) (g off n m : Nat) (xs ys : List Nat) (i : Nat) (dk : List Nat) (wr : World) : Prop where
  wrs : Wr g off (n + m) w wr
  row : Row wr g off (n + m) dk
  val : valB B64 dk = valB B64 xs * valB B64 (ys.take i)
  top : dk.drop (i + n) = List.replicate (m - i) 0

theorem rows_val {xs ys dk zs2 : List Nat} {n m k cy y : Nat} (hl : dk.length = n + m) (hk : k < m) (hy : y = ys.getD k 0) (hv : valB B64 dk = valB B64 xs * valB B64 (ys.take k)) (ht : dk.drop (k + n) = List.replicate (m - k) 0)
    (hz : zs2.length = n) (hs : valB B64 zs2 + B64 ^ n * cy = valB B64 ((dk.drop k).take n) + valB B64 xs * y) : valB B64 (dk.take k ++ (zs2 ++ [cy] ++ List.replicate (m - k - 1) 0)) = valB B64 xs * valB B64 (ys.take (k + 1)) := by
  have e1 : valB B64 dk = valB B64 (dk.take k) + B64 ^ k * valB B64 ((dk.drop k).take n) := by
    rw [valB_split B64 dk k (by omega), valB_split B64 (dk.drop k) n (by simp; omega), List.drop_drop, ht, valB_replicate]; simp
  rw [valB_append, List.length_take, Nat.min_eq_left (by omega), valB_append_zeros, valB_snoc, hz, hs, valB_take_any _ ys k, ← hy, Nat.mul_add, Nat.mul_add, ← Nat.add_assoc, ← e1, hv]
  rw [show B64 ^ k * (valB B64 xs * y) = valB B64 xs * (B64 ^ k * y) by rw [← Nat.mul_assoc, ← Nat.mul_assoc, Nat.mul_comm (B64 ^ k)]]
theorem RowsRel.step {w : World} {g off n m : Nat} {xs ys : List Nat} {k : Nat} {dk : List Nat} {wr w2 w3 : World} (h : RowsRel w g off n m xs ys k dk wr) (hk : k < m) {y cy : Nat} (hy : y = ys.getD k 0) {zs2 : List Nat} (hcy : cy < B64)
    (hw2 : Wr g (off + k) n wr.drew w2) (hr2 : Row w2 g (off + k) n zs2) (hs : valB B64 zs2 + B64 ^ n * cy = valB B64 ((dk.drop k).take n) + valB B64 xs * y) (hc : w2.cell? ⟨g, off + (k + n), none⟩ = some (U 0)) (hf : w2.frozen? ⟨g, off + (k + n), none⟩ = false)
    (hw3 : w3 = w2.setCell ⟨g, off + (k + n), none⟩ (U cy)) : RowsRel w g off n m xs ys (k + 1) (dk.take k ++ (zs2 ++ [cy] ++ List.replicate (m - k - 1) 0)) w3 := by
  have hl := h.row.len
  have hW23 : Wr g (off + (k + n)) 1 w2 w3 := by rw [hw3]; exact (Wr.refl g (off + (k + n)) 1 w2).setCell _ ⟨by omega, by omega⟩ _
  have hlen2 : (dk.take k ++ (zs2 ++ [cy] ++ List.replicate (m - k - 1) 0)).length = n + m := by simp [hr2.len]; omega
  have lo : Row w3 g off k (dk.take k) := by
    have h0 := (h.row.take k (by omega)).drew
    exact (h0.chg hw2.chg (fun j hj => by unfold Rg; omega)).chg hW23.chg (fun j hj => by unfold Rg; omega)
  have mid : Row w3 g (off + k) n zs2 := hr2.chg hW23.chg (fun j hj => by unfold Rg; omega)
  have one : Row w3 g (off + k) (n + 1) (zs2 ++ [cy]) := by
    refine mid.snoc ?_ ?_ hcy
    · rw [hw3, Nat.add_assoc]; exact World.cell?_setCell_same _ _ _ hc
    · rw [hw3, Nat.add_assoc, World.frozen?_setCell]; exact hf
  have hi : Row w3 g (off + k + (n + 1)) (m - k - 1) (List.replicate (m - k - 1) 0) := by
    have h0 := (h.row.sub (k + n + 1) (m - k - 1) (by omega)).drew
    have e : (dk.drop (k + n + 1)).take (m - k - 1) = List.replicate (m - k - 1) 0 := by
      rw [← List.drop_drop, h.top, List.drop_replicate, List.take_replicate]; simp
    rw [e] at h0
    have h1 := (h0.chg hw2.chg (fun j hj => by unfold Rg; omega)).chg hW23.chg (fun j hj => by unfold Rg; omega)
    rw [show off + (k + n + 1) = off + k + (n + 1) by omega] at h1; exact h1
  have all := lo.join (one.join hi)
  rw [show k + (n + 1 + (m - k - 1)) = n + m by omega] at all
  have hWd : Wr g off (n + m) w wr.drew := h.wrs.drew
  refine ⟨(hWd.trans (hw2.mono (by omega) (by omega))).trans (hW23.mono (by omega) (by omega)), all, rows_val hl hk hy h.val h.top hr2.len hs, ?_⟩
  rw [show k + 1 + n = k + (n + 1) by omega, List.drop_append, List.drop_eq_nil_of_le (by simp; omega), List.nil_append, List.length_take, hl, Nat.min_eq_left (by omega), Nat.add_sub_cancel_left, List.drop_append, List.drop_eq_nil_of_le (by simp [hr2.len]), List.nil_append]
  simp [hr2.len]; omega
theorem Row.copied {w : World} {g off n : Nat} {zs : List Nat} (h : Row w g off n zs) (xs : List Nat) (hd : Dig B64 xs) (hx : xs.length ≤ n) : Row (w.setCells g off (cellsU xs)) g off n (xs ++ zs.drop xs.length) := by
  have hl := h.len
  refine ⟨by simp; omega, hd.append (h.dig.drop _), fun j hj => ?_, fun j hj => by rw [World.frozen?_setCells]; exact h.frozen j hj⟩
  by_cases e : j < xs.length
  · have h1 := World.cell?_setCells_in g (cellsU xs) off w (fun i hi => by rw [h.cell i (by rw [cellsU_length] at hi; omega)]; rfl) j (by rw [cellsU_length]; exact e)
    rw [h1, List.getD_eq_getElem?_getD, List.getElem?_append_left e, ← List.getD_eq_getElem?_getD]
    have := cellsU_get xs j e
    rw [List.getElem?_eq_getElem (by rw [cellsU_length]; exact e)] at this
    exact this
  · rw [World.cell?_setCells_out g (cellsU xs) off w _ (fun _ _ => .inr (by rw [cellsU_length]; simp; omega)), List.getD_eq_getElem?_getD, List.getElem?_append_right (by omega), List.getElem?_drop, show xs.length + (j - xs.length) = j by omega, ← List.getD_eq_getElem?_getD]
    exact h.cell j hj
theorem nb {P Z A L cy : Nat} (hs : Z + L = A + P * cy) (hz : Z < P) (hle : L ≤ A) (hc : cy ≤ 1) : Z + L = A := by
  by_cases h : cy = 0
  · subst h; omega
  · obtain rfl : cy = 1 := by omega
    omega
theorem At.chg {w w' : World} {S : Nat → Nat → Prop} {p : Option Addr} {n c : Nat} {xs : List Nat} (h : At w p n c xs) (hc : Chg S w w') (hd : ∀ g off, p = some ⟨g, off, none⟩ → ∀ j, j < n → g < w.heap.size → ¬ S g (off + j)) : At w' p n c xs := by
  refine ⟨h.len, h.cap, h.big, h.dig, ?_⟩
  rcases h.cells with h0 | ⟨g, off, rfl, hcl⟩
  · exact .inl h0
  · exact .inr ⟨g, off, rfl, fun j hj => hc.cell (hd g off rfl j hj (World.block_lt_of_cell? w _ (hcl j hj))) (hcl j hj)⟩
theorem Nf.big {us : List Nat} {a n : Nat} (h : Nf B64 us a) (hl : us.length = n) (h0 : 0 < n) : B64 ^ (n - 1) ≤ a := by
  have := mt (h.len_le (k := n - 1) B64_one).2 (by omega)
  omega
theorem Nf.zero {us : List Nat} {a : Nat} (h : Nf B64 us a) (hl : us.length = 0) : a = 0 := by
  obtain rfl := List.eq_nil_of_length_eq_zero hl
  have := h.val; simp [valB] at this; omega
end Go.Proofs.YtfmbifocgljieaaGreatDoor
namespace Go.Proofs.YtfmbifocgljieaaGreatDoor
open Go.RowKit Go.Shelf
set_option maxRecDepth 20000
set_option maxHeartbeats 0
structure Box (W : World) (g : Nat) (v0 v1 : Value) : Prop where
  c0 : W.cell? ⟨g, 0, none⟩ = some v0
  c1 : W.cell? ⟨g, 1, none⟩ = some v1
  f0 : W.frozen? ⟨g, 0, none⟩ = false
  f1 : W.frozen? ⟨g, 1, none⟩ = false
theorem Box.below {W W' : World} {g : Nat} {v0 v1 : Value} (h : Box W g v0 v1) (hb : Below W.heap.size W W') : Box W' g v0 v1 := by
  have hl : g < W.heap.size := World.block_lt_of_cell? W _ h.c0
  exact ⟨(hb.cell (p := ⟨g, 0, none⟩) hl).trans h.c0, (hb.cell (p := ⟨g, 1, none⟩) hl).trans h.c1, (hb.frozen (p := ⟨g, 0, none⟩) hl).trans h.f0, (hb.frozen (p := ⟨g, 1, none⟩) hl).trans h.f1⟩

theorem numform_t {p : Option Addr} {n c : Nat} {xs : List Nat} {a : Nat} {w : World} (s : Bool) (h : Num w p n c xs a) (hs : s = true → 0 < a) :
    Calls Tryz.prog 65 #[ZV s p n c] w fun e w' => e = .returned (.bool true) ∧ Below w.heap.size w w' := by
  have fx := h.nf.form (by rw [h.at_.len]; exact h.le)
  have hz := h.zero
  have H : Hid (Num w p n c xs a) := h
  clear h
  cases s
  · clear hs hz
    go_enter Tryz.func65, Tryz.ntmps65
    go_wp2_with fail
    refine (form_true (H.out.at_.alloc _) fx).mono ?_
    rintro e w' ⟨rfl, hw⟩
    obtain rfl := hw.symm
    clear hw fx
    go_wp2_with fail
    go_ret
    exact ⟨rfl, below1 w _⟩
  · have hn0 : n ≠ 0 := by have := hs rfl; intro e; have := hz.1 e; omega
    have hn0' : ((n : Int) == 0) = false := by simp; omega
    clear hs hz
    go_enter Tryz.func65, Tryz.ntmps65
    go_wp2_with fail
    refine (form_true (H.out.at_.alloc _) fx).mono ?_
    rintro e w' ⟨rfl, hw⟩
    obtain rfl := hw.symm
    clear hw fx
    go_wp2_with fail
    go_ret
    exact ⟨rfl, below1 w _⟩

-- the calls
theorem iv_not (t : Bool) (b : Nat) : iv (!t) b = - iv t b := by cases t <;> simp [iv]
theorem wrap_u (n : Int) (m : Nat) (h : n % 18446744073709551616 = (m : Int)) : IntKind.u64.wrap n = (m : Int) := by
  simp [IntKind.wrap, IntKind.signed, IntKind.bits]
  omega
theorem Box.new (w : World) (ty : TypeId) (v0 v1 : Value) : Box (w.alloc (.cells #[v0, v1] ty)) w.heap.size v0 v1 := ⟨by go_simp, by go_simp, by go_simp, by go_simp⟩
theorem bDrew1 {B : Nat} {a w : World} (h : Below B a w) : Below B a w.drew := ⟨h.os, h.tape, h.output, h.size, h.block⟩
end Go.Proofs.YtfmbifocgljieaaGreatDoor
namespace Go.Proofs.YtfmbifocgljieaaGreatDoor
open Go.RowKit
set_option maxRecDepth 20000
set_option maxHeartbeats 0
def B32 : Nat := 4294967296
theorem B32_eq : B32 = 4294967296 := rfl
theorem B32_pos : 0 < B32 := by decide
theorem B32_one : 1 < B32 := by decide
theorem B32_two : B32 * B32 = B64 := by decide
abbrev V (n : Nat) : Value := .int .u32 (n : Int)

structure At32 (w : World) (p : Option Addr) (n c : Nat) (xs : List Nat) : Prop where
  len : xs.length = n
  cap : n ≤ c
  big : c ≤ maxLen
  dig : Dig B32 xs
  cells : n = 0 ∨ ∃ g off, p = some ⟨g, off, none⟩ ∧ ∀ j, j < n → w.cell? ⟨g, off + j, none⟩ = some (V (xs.getD j 0))
theorem At32.below {w w' : World} {p : Option Addr} {n c : Nat} {xs : List Nat} (h : At32 w p n c xs) (hb : Below w.heap.size w w') : At32 w' p n c xs := by
  refine ⟨h.len, h.cap, h.big, h.dig, ?_⟩
  rcases h.cells with h0 | ⟨g, off, rfl, hc⟩
  · exact .inl h0
  · exact .inr ⟨g, off, rfl, fun j hj => (hb.cell (p := ⟨g, off + j, none⟩) (World.block_lt_of_cell? w _ (hc j hj))).trans (hc j hj)⟩
theorem At32.drewN {w : World} {p : Option Addr} {n c : Nat} {xs : List Nat} (h : At32 w p n c xs) (q : Nat) : At32 (w.drewN q) p n c xs := ⟨h.len, h.cap, h.big, h.dig, h.cells⟩
theorem At32.alloc {w : World} {p : Option Addr} {n c : Nat} {xs : List Nat} (h : At32 w p n c xs) (o : Obj) : At32 (w.alloc o) p n c xs :=
  h.below ((Below.refl _ _).alloc (Nat.le_refl _) o)
theorem At32.take {w : World} {p : Option Addr} {n c : Nat} {xs : List Nat} (h : At32 w p n c xs) (m : Nat) (hm : m ≤ n) (c' : Nat) (hc : m ≤ c') (hb : c' ≤ maxLen) : At32 w p m c' (xs.take m) := by
  refine ⟨by rw [List.length_take, h.len]; omega, hc, hb, h.dig.take m, ?_⟩
  rcases h.cells with h0 | ⟨g, off, rfl, hcl⟩
  · exact .inl (by omega)
  · refine .inr ⟨g, off, rfl, fun j hj => ?_⟩
    have e : (xs.take m).getD j 0 = xs.getD j 0 := by rw [List.getD_eq_getElem?_getD, List.getD_eq_getElem?_getD, List.getElem?_take, if_pos hj]
    rw [e]; exact hcl j (by omega)
theorem At32.empty (w : World) (p : Option Addr) (c : Nat) (hb : c ≤ maxLen) : At32 w p 0 c [] := ⟨rfl, Nat.zero_le _, hb, Dig.nil _, .inl rfl⟩
theorem Tryz.infoU32 : (Tryz.prog.info? 171).map (fun i => (i.zero, i.size, i.bytes)) = some (some (.int .u32 0), 1, 4) := by kernel_rfl
theorem Tryz.sizeU32 : (Tryz.prog.info? 171).map (·.size) = some 1 := by kernel_rfl
def cellsV (xs : List Nat) : List Value := xs.map V
theorem madeV (n : Nat) : (madeCells (Value.cells (.int .u32 0)) (n * 1)).toList = cellsV (List.replicate n 0) := by
  unfold madeCells cellsV
  apply List.ext_getElem
  · simp
  · intro i h1 h2
    have e : i % 1 = 0 := Nat.mod_one i
    simp [Value.cells, V, e]
def Blk32 (w : World) (g : Nat) (xs : List Nat) : Prop := w.heap[g]? = some (.cells (cellsV xs).toArray 171 (0, 0))
theorem cellsV_get (xs : List Nat) (j : Nat) (h : j < xs.length) : (cellsV xs)[j]? = some (V (xs.getD j 0)) := by
  unfold cellsV
  rw [List.getElem?_map, List.getElem?_eq_getElem h, List.getD_eq_getElem?_getD, List.getElem?_eq_getElem h]; rfl
theorem Blk32.cell {w : World} {g : Nat} {xs : List Nat} (h : Blk32 w g xs) (j : Nat) (hj : j < xs.length) : w.cell? ⟨g, j, none⟩ = some (V (xs.getD j 0)) := by
  rw [cell_of_row w g j _ _ _ h]
  rw [List.getElem?_toArray]; exact cellsV_get xs j hj
theorem Blk32.lt {w : World} {g : Nat} {xs : List Nat} (h : Blk32 w g xs) : g < w.heap.size := (Array.getElem?_eq_some_iff.1 h).1
theorem own_blk32 {w : World} {base g n : Nat} {xs : List Nat} (h : w.ownsRow base 171 1 (.slice (some ⟨g, 0, none⟩) n n) n (cellsV xs)) : Blk32 w g xs := by
  rcases h.2 with ⟨h', _⟩ | ⟨g', cap', cur, h', _, hg, _, _, hsz, htake⟩
  · simp at h'
  · simp only [Value.slice.injEq, Option.some.injEq, Addr.mk.injEq, and_true, true_and] at h'
    obtain ⟨rfl, rfl⟩ := h'
    have e : cur = (cellsV xs).toArray := by
      rw [← htake, List.take_of_length_le (by rw [Array.length_toList, hsz]; exact Nat.le_refl _)]
    unfold Blk32; rw [← e]; exact hg
theorem splice_cellsV (n : Nat) (xs : List Nat) : splice (cellsV (List.replicate n 0)) 0 (cellsV xs) = cellsV (xs ++ List.replicate (n - xs.length) 0) := by
  unfold splice cellsV
  simp only [List.take_zero, List.nil_append, List.length_map, Nat.zero_add, List.map_append, List.map_replicate, List.drop_replicate]
theorem made_blk32 {w w1 : World} {n : Nat} (hown : w1.ownsRow w.heap.size 171 1 (.slice (some ⟨w.heap.size, 0, none⟩) n n) n (madeCells (Value.cells (.int .u32 0)) (n * 1)).toList) (hgrow : w.grownBy w1 none) :
    Blk32 w1 w.heap.size (List.replicate n 0) ∧ Below w.heap.size w w1 := by
  rw [madeV] at hown
  exact ⟨own_blk32 hown, (Below.refl _ _).grown hgrow (Nat.le_refl _) (fun k hk => by simp at hk)⟩
theorem cellsV_one (xs : List Nat) : ∀ v ∈ cellsV xs, v.oneCell' = true := by
  intro v hv; unfold cellsV at hv; rw [List.mem_map] at hv; obtain ⟨x, _, rfl⟩ := hv; rfl
theorem cellsV_length (xs : List Nat) : (cellsV xs).length = xs.length := by simp [cellsV]
theorem At32.src {w : World} {p : Option Addr} {n c : Nat} {xs : List Nat} (h : At32 w p n c xs) (hn : 0 < n) : ∃ ad, p = some ad ∧ ∀ j v, (cellsV xs)[j]? = some v → w.cell? (ad.add j) = some v := by
  rcases h.cells with h0 | ⟨g, off, rfl, hc⟩
  · omega
  · refine ⟨_, rfl, fun j v hv => ?_⟩
    have hj : j < xs.length := by
      have := (List.getElem?_eq_some_iff.1 hv).1
      rwa [cellsV_length] at this
    have hadd : (⟨g, off, none⟩ : Addr).add j = ⟨g, off + j, none⟩ := by unfold Addr.add; split <;> simp_all
    rw [hadd, hc j (by have := h.len; omega)]
    rw [cellsV_get xs j hj] at hv; exact hv

theorem Blk32.at_ {w : World} {g : Nat} {xs : List Nat} (h : Blk32 w g xs) (hd : Dig B32 xs) {n : Nat} (hn : xs.length = n) (hb : n ≤ maxLen) : At32 w (some ⟨g, 0, none⟩) n n xs := by
  subst hn
  exact ⟨rfl, Nat.le_refl _, hb, hd, .inr ⟨g, 0, rfl, fun j hj => by rw [Nat.zero_add]; exact h.cell j hj⟩⟩
theorem At32.cellAt {w : World} {g off n c : Nat} {xs : List Nat} (h : At32 w (some ⟨g, off, none⟩) n c xs) (j : Nat) (hj : j < n) : w.cell? ⟨g, off + j, none⟩ = some (V (xs.getD j 0)) := by
  obtain ⟨g', o', he, hcell⟩ := h.cells.resolve_left (by omega)
  simp only [Option.some.injEq, Addr.mk.injEq, and_true] at he
  obtain ⟨rfl, rfl⟩ := he
  exact hcell j hj

def dig32 : List Nat → List Nat
  | [] => []
  | x :: xs => x % B32 :: x / B32 :: dig32 xs
theorem dig32_val (xs : List Nat) : valB B32 (dig32 xs) = valB B64 xs := by
  induction xs with
  | nil => rfl
  | cons x xs ih =>
    show x % B32 + B32 * (x / B32 + B32 * valB B32 (dig32 xs)) = x + B64 * valB B64 xs
    rw [ih, Nat.mul_add, ← Nat.mul_assoc, B32_two]
    have := Nat.mod_add_div x B32
    omega
theorem dig32_len (xs : List Nat) : (dig32 xs).length = 2 * xs.length := by
  induction xs with
  | nil => rfl
  | cons x xs ih => show (dig32 xs).length + 1 + 1 = 2 * (xs.length + 1); omega
theorem dig32_dig {xs : List Nat} (h : Dig B64 xs) : Dig B32 (dig32 xs) := by
  induction xs with
  | nil => exact Dig.nil _
  | cons x xs ih =>
    refine Dig.cons (Nat.mod_lt _ B32_pos) (Dig.cons ?_ (ih h.tail))
    refine Nat.div_lt_of_lt_mul ?_
    rw [B32_two]; exact h.head
theorem dig32_append (xs ys : List Nat) : dig32 (xs ++ ys) = dig32 xs ++ dig32 ys := by
  induction xs with
  | nil => rfl
  | cons x xs ih => show _ :: _ :: dig32 (xs ++ ys) = _; rw [ih]; rfl
theorem dig32_snoc (xs : List Nat) (k : Nat) (h : k < xs.length) : dig32 (xs.take (k + 1)) = dig32 (xs.take k) ++ [xs.getD k 0 % B32, xs.getD k 0 / B32] := by
  rw [take_succ_getD xs k h, dig32_append]; rfl

theorem rnorm_any {p : Option Addr} {n c : Nat} {xs : List Nat} {w : World} (h : At32 w p n c xs) (hn : n ≤ 35184372088832) :
    Calls Tryz.prog 130 #[.slice p n c] w fun e w' =>
      ∃ g, e = .returned (.slice (some ⟨g, 0, none⟩) (trimL xs).length (trimL xs).length) ∧ w.heap.size ≤ g ∧ Blk32 w' g (trimL xs) ∧ Below w.heap.size w w' := by
  obtain ⟨i0, hi, hz0, hz1, hz2⟩ := info_parts Tryz.infoU32
  have hl := h.len; have cap := h.cap; have big := h.big
  unfold maxLen at big
  have HL : Hid (xs.length = n) := hl
  clear hl
  go_enter Tryz.func130, Tryz.ntmps130
  go_wp2
  go_loopg [3] n (fun gk nv wr => nv = .int .i64 gk ∧ gk ≤ n ∧ Hid (∀ j, gk ≤ j → j < n → xs.getD j 0 = 0) ∧ wr = w)
  case atStart => exact ⟨rfl, Nat.le_refl _, fun j h1 h2 => absurd h1 (by omega), rfl⟩
  case round =>
    obtain ⟨rfl, hgn, HZ, hwr⟩ := hrel
    obtain rfl := hwr.symm
    clear hwr
    by_cases hg0 : gk = 0
    · have HG0 : Hid (gk = 0) := hg0
      have hng : ¬ 0 < gk := by omega
      have hgc : gk ≤ c := by omega
      clear hg0
      cases p
      · have ht : trimL xs = xs.take gk := trimL_of_take xs gk (by rw [HL.out]; omega) (fun j h1 h2 => HZ.out j h1 (by rw [← HL.out]; exact h2)) (.inl HG0.out)
        have hlt : (trimL xs).length = gk := by rw [ht, List.length_take, HL.out]; omega
        have HT : Hid (trimL xs = xs.take gk) := ht
        have HLT : Hid ((trimL xs).length = gk) := hlt
        have hA := h.take gk (by omega) c (by omega) (by unfold maxLen; omega)
        clear ht hlt h
        go_wp2_with (first
          | (at_make; refine wpList_make_full _ rfl _ _ 102 rfl w.heap.size 171 i0 (.int .u32 0) 1 Tryz.underlying102 hi hz0 hz1 _ _ _ _ gk rfl rfl (by omega) (by omega) (by rw [hz2]; omega) (by unfold maxLen; omega) (Nat.le_refl _) ?_; intro w1 hown hgrow; have hb := made_blk32 hown hgrow; clear hown hgrow)
          | (refine wpList_copy_splice rfl (.tmp 21) (.tmp 24) 102 102 rfl 171 Tryz.underlying102 Tryz.sizeU32 (some ⟨w.heap.size, 0, none⟩) _ gk gk gk c rfl rfl w.heap.size 0 (cellsV (List.replicate gk 0)) 171 hb.1 (cellsV (xs.take gk)) (by rw [cellsV_length, hA.len]; exact (Nat.min_self gk).symm) (fun h0 => ⟨rfl, (hA.below hb.2).src (by rw [cellsV_length, hA.len] at h0; exact h0)⟩) (by simp [cellsV_length]; omega) (cellsV_one _) w.heap.size w hb.2 (Nat.le_refl _) ?_; intro w2 hg2 hb2))
        go_ret
        rw [HLT.out, HT.out]
        refine ⟨_, rfl, Nat.le_refl _, ?_, hb2⟩
        rw [splice_cellsV, hA.len, Nat.sub_self, List.replicate_zero, List.append_nil] at hg2
        exact hg2
      · have ht : trimL xs = xs.take gk := trimL_of_take xs gk (by rw [HL.out]; omega) (fun j h1 h2 => HZ.out j h1 (by rw [← HL.out]; exact h2)) (.inl HG0.out)
        have hlt : (trimL xs).length = gk := by rw [ht, List.length_take, HL.out]; omega
        have HT : Hid (trimL xs = xs.take gk) := ht
        have HLT : Hid ((trimL xs).length = gk) := hlt
        have hA := h.take gk (by omega) c (by omega) (by unfold maxLen; omega)
        clear ht hlt h
        go_wp2_with (first
          | (at_make; refine wpList_make_full _ rfl _ _ 102 rfl w.heap.size 171 i0 (.int .u32 0) 1 Tryz.underlying102 hi hz0 hz1 _ _ _ _ gk rfl rfl (by omega) (by omega) (by rw [hz2]; omega) (by unfold maxLen; omega) (Nat.le_refl _) ?_; intro w1 hown hgrow; have hb := made_blk32 hown hgrow; clear hown hgrow)
          | (refine wpList_copy_splice rfl (.tmp 21) (.tmp 24) 102 102 rfl 171 Tryz.underlying102 Tryz.sizeU32 (some ⟨w.heap.size, 0, none⟩) _ gk gk gk c rfl rfl w.heap.size 0 (cellsV (List.replicate gk 0)) 171 hb.1 (cellsV (xs.take gk)) (by rw [cellsV_length, hA.len]; exact (Nat.min_self gk).symm) (fun h0 => ⟨rfl, (hA.below hb.2).src (by rw [cellsV_length, hA.len] at h0; exact h0)⟩) (by simp [cellsV_length]; omega) (cellsV_one _) w.heap.size w hb.2 (Nat.le_refl _) ?_; intro w2 hg2 hb2))
        go_ret
        rw [HLT.out, HT.out]
        refine ⟨_, rfl, Nat.le_refl _, ?_, hb2⟩
        rw [splice_cellsV, hA.len, Nat.sub_self, List.replicate_zero, List.append_nil] at hg2
        exact hg2
    · obtain ⟨g, off, rfl, hc⟩ := h.cells.resolve_left (by omega)
      obtain ⟨x, hx⟩ : ∃ x, x = xs.getD (gk - 1) 0 := ⟨_, rfl⟩
      have hcx : w.cell? ⟨g, off + (gk - 1), none⟩ = some (V x) := by rw [hx]; exact hc (gk - 1) (by omega)
      have hdg : decide ((0 : Int) < (gk : Int)) = true := decide_eq_true (by omega)
      have HX : Hid (x = xs.getD (gk - 1) 0) := hx
      clear hc hx
      by_cases h0 : x = 0
      · subst h0
        go_wp2_with fail
        go_roundg (gk - 1)
        case measure => omega
        case rel =>
          refine ⟨by go_num, by omega, fun j h1 h2 => ?_, rfl⟩
          by_cases hj : j = gk - 1
          · subst hj; exact HX.out.symm
          · exact HZ.out j (by omega) h2
      · have h0' : ((x : Int) == 0) = false := by simp; omega
        have hgc : gk ≤ c := by omega
        have HXN : Hid (xs.getD (gk - 1) 0 ≠ 0) := by rw [← HX.out]; exact h0
        clear h0
        have ht : trimL xs = xs.take gk := trimL_of_take xs gk (by rw [HL.out]; omega) (fun j h1 h2 => HZ.out j h1 (by rw [← HL.out]; exact h2)) (.inr HXN.out)
        have hlt : (trimL xs).length = gk := by rw [ht, List.length_take, HL.out]; omega
        have HT : Hid (trimL xs = xs.take gk) := ht
        have HLT : Hid ((trimL xs).length = gk) := hlt
        have hA := h.take gk (by omega) c (by omega) (by unfold maxLen; omega)
        clear ht hlt h
        go_wp2_with (first
          | (at_make; refine wpList_make_full _ rfl _ _ 102 rfl w.heap.size 171 i0 (.int .u32 0) 1 Tryz.underlying102 hi hz0 hz1 _ _ _ _ gk rfl rfl (by omega) (by omega) (by rw [hz2]; omega) (by unfold maxLen; omega) (Nat.le_refl _) ?_; intro w1 hown hgrow; have hb := made_blk32 hown hgrow; clear hown hgrow)
          | (refine wpList_copy_splice rfl (.tmp 21) (.tmp 24) 102 102 rfl 171 Tryz.underlying102 Tryz.sizeU32 (some ⟨w.heap.size, 0, none⟩) _ gk gk gk c rfl rfl w.heap.size 0 (cellsV (List.replicate gk 0)) 171 hb.1 (cellsV (xs.take gk)) (by rw [cellsV_length, hA.len]; exact (Nat.min_self gk).symm) (fun h0 => ⟨rfl, (hA.below hb.2).src (by rw [cellsV_length, hA.len] at h0; exact h0)⟩) (by simp [cellsV_length]; omega) (cellsV_one _) w.heap.size w hb.2 (Nat.le_refl _) ?_; intro w2 hg2 hb2))
        go_ret
        rw [HLT.out, HT.out]
        refine ⟨_, rfl, Nat.le_refl _, ?_, hb2⟩
        rw [splice_cellsV, hA.len, Nat.sub_self, List.replicate_zero, List.append_nil] at hg2
        exact hg2
theorem B64_p : B64 = 2 ^ 64 := rfl
theorem pow_split (s : Nat) (hs : s ≤ 64) : 2 ^ s * 2 ^ (64 - s) = B64 := by rw [← Nat.pow_add, show s + (64 - s) = 64 by omega]; rfl

def shlW (x s : Nat) : Nat := x * 2 ^ s % B64
theorem shlW_lt (x s : Nat) : shlW x s < B64 := Nat.mod_lt _ B64_pos
theorem shlW_eq (x s : Nat) (hs : s ≤ 64) : shlW x s = 2 ^ s * (x % 2 ^ (64 - s)) := by
  unfold shlW
  rw [← pow_split s hs, Nat.mul_comm x, Nat.mul_mod_mul_left]
theorem shrW_eq (y s : Nat) (hs : s ≤ 64) : y / 2 ^ (64 - s) = y * 2 ^ s / B64 := by
  rw [← pow_split s hs, Nat.mul_comm y, Nat.mul_div_mul_left _ _ (Nat.two_pow_pos s)]
theorem shrW_lt (y s : Nat) (hs : s ≤ 64) (hy : y < B64) : y / 2 ^ (64 - s) < 2 ^ s := by
  rw [Nat.div_lt_iff_lt_mul (Nat.two_pow_pos _), pow_split s hs]; exact hy
theorem or_low (s A b : Nat) (hb : b < 2 ^ s) : (2 ^ s * A) ||| b = 2 ^ s * A + b := (Nat.two_pow_add_eq_or_of_lt hb A).symm

theorem int_pow (s : Nat) : ((2 : Int) ^ s) = ((2 ^ s : Nat) : Int) := by
  induction s with
  | zero => rfl
  | succ s ih => rw [Int.pow_succ, ih, Nat.pow_succ]; simp
theorem walk_shl (x s : Nat) : Value.int .u64 (IntKind.u64.wrap ((x : Int) * 2 ^ s)) = U (shlW x s) := by
  unfold U shlW
  rw [int_pow, IntKind.wrap_u64, B64_eq, ← Int.natCast_mul]
  congr 1
theorem walk_shr (y s : Nat) : Value.int .u64 ((y : Int) / 2 ^ s) = U (y / 2 ^ s) := by
  unfold U
  rw [int_pow]
  congr 1
theorem walk_or (a b : Nat) (ha : a < B64) (hb : b < B64) : bits .or .u64 (a : Int) (b : Int) = ((a ||| b : Nat) : Int) := by
  rw [B64_eq] at ha hb
  exact bits_or_u64_nat a b ha hb
theorem wrap_nat (x s : Nat) : IntKind.u64.wrap ((x : Int) * 2 ^ s) = ((shlW x s : Nat) : Int) := by
  have := walk_shl x s
  simpa [U] using this
theorem div_nat (y s : Nat) : (y : Int) / 2 ^ s = ((y / 2 ^ s : Nat) : Int) := by
  simp
theorem walk_up (x y s : Nat) (hs : s ≤ 64) (hy : y < B64) : Value.int .u64 (bits .or .u64 (IntKind.u64.wrap ((x : Int) * 2 ^ s)) ((y : Int) / 2 ^ (64 - s))) = U (shlW x s + y * 2 ^ s / B64) := by
  have h1 := shrW_lt y s hs hy
  have h2 : 2 ^ s ≤ B64 := by rw [B64_p]; exact Nat.pow_le_pow_right (by decide) hs
  rw [wrap_nat, div_nat, walk_or _ _ (shlW_lt x s) (by omega), shlW_eq x s hs, or_low s _ _ h1, shrW_eq y s hs]
theorem up_lt (x y s : Nat) (hs : s ≤ 64) (hy : y < B64) : shlW x s + y * 2 ^ s / B64 < B64 := by
  have h1 := shrW_lt y s hs hy
  rw [← shrW_eq y s hs, shlW_eq x s hs]
  have h2 : x % 2 ^ (64 - s) + 1 ≤ 2 ^ (64 - s) := Nat.mod_lt _ (Nat.two_pow_pos _)
  have h3 := Nat.mul_le_mul_left (2 ^ s) h2
  rw [pow_split s hs, Nat.mul_add] at h3
  omega
theorem walk_down (x z s : Nat) (hs : s ≤ 64) (hx : x < B64) : Value.int .u64 (bits .or .u64 ((x : Int) / 2 ^ s) (IntKind.u64.wrap ((z : Int) * 2 ^ (64 - s)))) = U (x / 2 ^ s + 2 ^ (64 - s) * (z % 2 ^ s)) := by
  have e : 64 - (64 - s) = s := by omega
  have h1 := shrW_lt x (64 - s) (by omega) hx
  rw [e] at h1
  have h2 : 2 ^ (64 - s) ≤ B64 := by rw [B64_p]; exact Nat.pow_le_pow_right (by decide) (by omega)
  rw [wrap_nat, div_nat, walk_or _ _ (by omega) (shlW_lt _ _), shlW_eq z (64 - s) (by omega), e, Nat.or_comm, or_low (64 - s) _ _ h1, Nat.add_comm]
theorem down_lt (x z s : Nat) (hs : s ≤ 64) (hx : x < B64) : x / 2 ^ s + 2 ^ (64 - s) * (z % 2 ^ s) < B64 := by
  have e : 64 - (64 - s) = s := by omega
  have h1 := shrW_lt x (64 - s) (by omega) hx
  rw [e] at h1
  have h2 : z % 2 ^ s + 1 ≤ 2 ^ s := Nat.mod_lt _ (Nat.two_pow_pos _)
  have h3 := Nat.mul_le_mul_left (2 ^ (64 - s)) h2
  rw [Nat.mul_comm (2 ^ (64 - s)) (2 ^ s), pow_split s hs, Nat.mul_add] at h3
  omega

def cin (zs : List Nat) (s j : Nat) : Nat := if j = 0 then 0 else zs.getD (j - 1) 0 * 2 ^ s / B64
theorem up_step {zs T : List Nat} {s a ov k d : Nat} (ha : a < zs.length) (hd : d = shlW (zs.getD a 0) s + cin zs s a) (h : valB B64 T + B64 ^ k * ov = 2 ^ s * valB B64 (zs.drop (a + 1)) + cin zs s (a + 1)) :
    valB B64 (d :: T) + B64 ^ (k + 1) * ov = 2 ^ s * valB B64 (zs.drop a) + cin zs s a := by
  have e1 : cin zs s (a + 1) = zs.getD a 0 * 2 ^ s / B64 := by unfold cin; rw [if_neg (by omega), Nat.add_sub_cancel]
  have e2 := Nat.mod_add_div (zs.getD a 0 * 2 ^ s) B64
  rw [valB_cons, valB_drop _ zs a ha, hd]
  unfold shlW
  rw [e1] at h
  have e3 : B64 * (valB B64 T + B64 ^ k * ov) = B64 * (2 ^ s * valB B64 (zs.drop (a + 1)) + zs.getD a 0 * 2 ^ s / B64) := by rw [h]
  rw [Nat.mul_add, Nat.mul_add] at e3
  rw [Nat.pow_succ, Nat.mul_add]
  have e4 : B64 ^ k * B64 * ov = B64 * (B64 ^ k * ov) := by rw [Nat.mul_comm (B64 ^ k) B64, Nat.mul_assoc]
  have e5 : 2 ^ s * (B64 * valB B64 (zs.drop (a + 1))) = B64 * (2 ^ s * valB B64 (zs.drop (a + 1))) := by rw [← Nat.mul_assoc, ← Nat.mul_assoc, Nat.mul_comm (2 ^ s) B64]
  rw [e4, e5, Nat.mul_comm (2 ^ s) (zs.getD a 0)]
  generalize B64 * (B64 ^ k * ov) = X1 at *
  generalize B64 * (2 ^ s * valB B64 (zs.drop (a + 1))) = X2 at *
  generalize B64 * valB B64 T = X3 at *
  generalize B64 * (zs.getD a 0 * 2 ^ s / B64) = X4 at *
  generalize zs.getD a 0 * 2 ^ s = X5 at *
  omega

def cout (zs : List Nat) (s j : Nat) : Nat := zs.getD j 0 % 2 ^ s
theorem down_step {zs dk : List Nat} {s i rem d : Nat} (hs : s ≤ 64) (hd : d = zs.getD i 0 / 2 ^ s + 2 ^ (64 - s) * cout zs s (i + 1)) (h : 2 ^ s * valB B64 (dk.take i) + rem = valB B64 (zs.take i) + B64 ^ i * cout zs s i) (hi : i < zs.length) :
    2 ^ s * (valB B64 (dk.take i) + B64 ^ i * d) + rem = valB B64 (zs.take (i + 1)) + B64 ^ (i + 1) * cout zs s (i + 1) := by
  have e1 := Nat.mod_add_div (zs.getD i 0) (2 ^ s)
  rw [valB_take_succ _ zs i hi, Nat.pow_succ, hd, Nat.mul_add (2 ^ s)]
  have e2 : 2 ^ s * (B64 ^ i * (zs.getD i 0 / 2 ^ s + 2 ^ (64 - s) * cout zs s (i + 1))) = B64 ^ i * (2 ^ s * (zs.getD i 0 / 2 ^ s)) + B64 ^ i * B64 * cout zs s (i + 1) := by
    rw [← Nat.mul_assoc, Nat.mul_comm (2 ^ s) (B64 ^ i), Nat.mul_assoc, Nat.mul_add, Nat.mul_add, ← Nat.mul_assoc (2 ^ s) (2 ^ (64 - s)), pow_split s hs, Nat.mul_assoc]
  have e3 : B64 ^ i * (zs.getD i 0 % 2 ^ s) + B64 ^ i * (2 ^ s * (zs.getD i 0 / 2 ^ s)) = B64 ^ i * zs.getD i 0 := by rw [← Nat.mul_add, e1]
  rw [e2]
  have e4 : cout zs s i = zs.getD i 0 % 2 ^ s := rfl
  rw [e4] at h
  generalize B64 ^ i * (2 ^ s * (zs.getD i 0 / 2 ^ s)) = X1 at *
  generalize B64 ^ i * (zs.getD i 0 % 2 ^ s) = X2 at *
  generalize B64 ^ i * B64 * cout zs s (i + 1) = X3 at *
  omega
end Go.Proofs.YtfmbifocgljieaaGreatDoor
namespace Go.Proofs.YtfmbifocgljieaaGreatDoor
set_option maxRecDepth 20000
set_option maxHeartbeats 0
theorem kn_more {b y1 y0 u d q r : Nat} (hd : d < b) (hu : u < y1 * b + y0) (hq : q * y1 + r = u) (hc : b ≤ q ∨ b * r + d < q * y0) : (u * b + d) / (y1 * b + y0) + 1 ≤ q := by
  refine (Nat.div_lt_iff_lt_mul (by omega)).2 ?_
  rcases hc with hc | hc
  · have a1 : b * (y1 * b + y0) ≤ q * (y1 * b + y0) := Nat.mul_le_mul_right _ hc
    have a2 : b * (u + 1) ≤ b * (y1 * b + y0) := Nat.mul_le_mul_left _ hu
    rw [Nat.mul_add, Nat.mul_one, Nat.mul_comm b u] at a2
    omega
  · have a1 : q * (y1 * b + y0) = q * y1 * b + q * y0 := by rw [Nat.mul_add, Nat.mul_assoc]
    have a2 : u * b = q * y1 * b + r * b := by rw [← hq, Nat.add_mul]
    rw [Nat.mul_comm b r] at hc
    omega
theorem kn_exit {b y1 y0 u d q r : Nat} (hu : u < y1 * b + y0) (hq : q * y1 + r = u) (hQ : (u * b + d) / (y1 * b + y0) ≤ q) (hc : q * y0 ≤ b * r + d) : q = (u * b + d) / (y1 * b + y0) := by
  refine Nat.le_antisymm ((Nat.le_div_iff_mul_le (by omega)).2 ?_) hQ
  have a1 : q * (y1 * b + y0) = q * y1 * b + q * y0 := by rw [Nat.mul_add, Nat.mul_assoc]
  have a2 : u * b = q * y1 * b + r * b := by rw [← hq, Nat.add_mul]
  rw [Nat.mul_comm b r] at hc
  omega
theorem kn_far {b y0 d q r : Nat} (h0 : y0 < b) (hq : q ≤ b) (hr : b ≤ r) : q * y0 ≤ b * r + d := by
  have a1 : q * y0 ≤ b * b := Nat.mul_le_mul hq (by omega)
  have a2 : b * b ≤ b * r := Nat.mul_le_mul_left b hr
  omega
theorem kn_lt {b y1 y0 u d : Nat} (hd : d < b) (hu : u < y1 * b + y0) : (u * b + d) / (y1 * b + y0) < b := by
  refine (Nat.div_lt_iff_lt_mul (by omega)).2 ?_
  have a2 : b * (u + 1) ≤ b * (y1 * b + y0) := Nat.mul_le_mul_left _ hu
  rw [Nat.mul_add, Nat.mul_one, Nat.mul_comm b u] at a2
  omega
end Go.Proofs.YtfmbifocgljieaaGreatDoor
namespace Go.Proofs.YtfmbifocgljieaaGreatDoor
open Go.RowKit
set_option maxRecDepth 20000
set_option maxHeartbeats 0
theorem wrap_mod (n : Int) (m : Nat) (h : n % 18446744073709551616 = (m : Int)) : IntKind.u64.wrap n = (m : Int) := by rw [IntKind.wrap_u64]; exact h
structure Kn (y1 y0 u d q r : Nat) : Prop where
  eq : q * y1 + r = u
  ge : (u * 4294967296 + d) / (y1 * 4294967296 + y0) ≤ q
  le : q ≤ 4294967297
structure KnC (y1 y0 u d : Nat) : Prop where
  hy0 : y0 < 4294967296
  hd : d < 4294967296
  hu : u < y1 * 4294967296 + y0
  hy1 : 4294967296 ≤ 2 * y1
theorem Kn.down {y1 y0 u d q r : Nat} (k : Kn y1 y0 u d q r) (h : KnC y1 y0 u d) (hc : 4294967296 ≤ q ∨ 4294967296 * r + d < q * y0) : 1 ≤ q ∧ Kn y1 y0 u d (q - 1) (r + y1) := by
  have h1 := kn_more h.hd h.hu k.eq hc
  have h2 := k.le
  have h3 := k.eq
  refine ⟨by generalize (u * 4294967296 + d) / (y1 * 4294967296 + y0) = T at *; omega, ?_, by generalize (u * 4294967296 + d) / (y1 * 4294967296 + y0) = T at *; omega, by omega⟩
  have h4 : 1 ≤ q := by generalize (u * 4294967296 + d) / (y1 * 4294967296 + y0) = T at *; omega
  obtain ⟨t, rfl⟩ : ∃ t, q = t + 1 := ⟨q - 1, by omega⟩
  rw [Nat.add_sub_cancel]
  rw [Nat.add_mul, Nat.one_mul] at h3
  omega
theorem dm (N M : Nat) : N = N / M * M + N % M := by rw [Nat.mul_comm]; exact (Nat.div_add_mod N M).symm
structure KnD (y1 y0 u d q : Nat) (rest : Nat) : Prop where
  lt : q < 4294967296
  eq : u * 4294967296 + d = q * (y1 * 4294967296 + y0) + rest
  rlt : rest < y1 * 4294967296 + y0
theorem Kn.done {y1 y0 u d q r : Nat} (k : Kn y1 y0 u d q r) (h : KnC y1 y0 u d) (hc : q * y0 ≤ 4294967296 * r + d) : KnD y1 y0 u d q ((u * 4294967296 + d) % (y1 * 4294967296 + y0)) := by
  have h1 := kn_exit h.hu k.eq k.ge hc
  have h2 := kn_lt h.hd h.hu
  refine ⟨by omega, ?_, Nat.mod_lt _ (by have := h.hu; omega)⟩
  rw [h1]; exact dm _ _
theorem Kn.far {y1 y0 u d q r : Nat} (k : Kn y1 y0 u d q r) (h : KnC y1 y0 u d) (hq : q ≤ 4294967296) (hr : 4294967296 ≤ r) : KnD y1 y0 u d q ((u * 4294967296 + d) % (y1 * 4294967296 + y0)) :=
  k.done h (kn_far h.hy0 hq hr)
theorem and32 (v : Nat) (h : v < 18446744073709551616) : bits .and .u64 (v : Int) 4294967295 = ((v % 4294967296 : Nat) : Int) := by
  have h1 := bits_and_u64_nat v 4294967295 h (by omega)
  rw [show v &&& 4294967295 = v % 4294967296 from Nat.and_two_pow_sub_one_eq_mod v 32] at h1
  exact h1
theorem div32 (v : Nat) : (v : Int) / 4294967296 = ((v / 4294967296 : Nat) : Int) := by omega
theorem step_append_own {P : Program} {ops : Array Oper} {o : Oper} {a : Act} {w : World} {K : Act → World → Prop} {Q : Exit → Act → World → Prop} {E : Prop}
    (hg : o.guard = none) (s x : Operand) (t : TypeId) (hop : o.op = Op.call { callee := Callee.builtin Builtin.append, args := #[s, x], argTypes := #[t, t] })
    (base : Nat) (e : TypeId) (i : TypeInfo) (size : Nat) (h1 : P.underlying t = some (.slice e)) (h2 : P.info? e = some i) (h4 : i.size = size)
    (g k cap : Nat) (xs : List Value) (hs : a.eval s = .slice (some ⟨g, 0, none⟩) k cap) (hown : w.ownsRow base e size (.slice (some ⟨g, 0, none⟩) k cap) k xs) (ad : Addr) (m c : Nat) (news : List Value) (hx : a.eval x = .slice (some ad) m c) (hn : news.length = m * size)
    (hc : ∀ j u, news[j]? = some u → w.cell? (ad.add j) = some u) (h1c : ∀ u ∈ news, u.oneCell' = true) (b1 : k + m ≤ cap)
    (hK : ∀ w', w'.ownsRow base e size (.slice (some ⟨g, 0, none⟩) (k + m) cap) (k + m) (xs ++ news) → w.grownBy w' (some g) → K (a.put o.dst (.slice (some ⟨g, 0, none⟩) (k + m) cap)) w') :
    if Region.wanted o (yielded ops a.tmps) = true then Oper.wp P o a w K Q else E := by
  have hw : Region.wanted o (yielded ops a.tmps) = true := by simp [Region.wanted, hg]
  rw [if_pos hw]
  obtain ⟨w', hrun, r1, r2⟩ := run_append_fits (P := P) w base t o.type e i size h1 h2 h4 g k cap xs hown ad m c news hn hc h1c b1
  unfold Oper.wp
  simp [execOp, hop, resolve, invoke, builtin, hs, hx, hrun, Result.andThen]
  exact hK _ r1 r2
theorem bDrew {B : Nat} {a w : World} (h : Below B a w) : Below B a w.drew := ⟨h.os, h.tape, h.output, h.size, h.block⟩
theorem wrap32 (v : Nat) (h : v < B32) : IntKind.u32.wrap (v : Int) = (v : Int) := by
  rw [B32_eq] at h
  simp [IntKind.wrap, IntKind.signed, IntKind.bits]
  omega
theorem two_cells (w : World) (x y : Nat) : ∀ (j : Nat) (u : Value), [V x, V y][j]? = some u → (w.alloc (.cells #[V x, V y] 171)).cell? ((⟨w.heap.size, 0, none⟩ : Addr).add j) = some u := by
  intro j u h
  have hb : Blk32 (w.alloc (.cells #[V x, V y] 171)) w.heap.size [x, y] := heap_alloc_new w _
  have hj : j < 2 := by
    have := (List.getElem?_eq_some_iff.1 h).1
    simpa using this
  have hadd : (⟨w.heap.size, 0, none⟩ : Addr).add j = ⟨w.heap.size, j, none⟩ := by unfold Addr.add; split <;> simp_all
  rw [hadd, hb.cell j (by simpa using hj)]
  rcases Nat.lt_or_ge j 1 with h1 | h1
  · obtain rfl : j = 0 := by omega
    simpa using h
  · obtain rfl : j = 1 := by omega
    simpa using h

theorem from_any {p : Option Addr} {n c : Nat} {xs : List Nat} {w : World} (h : At w p n c xs) (hn : n ≤ 17592186044416) :
    Calls Tryz.prog 86 #[.slice p n c] w fun e w' =>
      ∃ g zs, e = .returned (.slice (some ⟨g, 0, none⟩) zs.length zs.length) ∧ w.heap.size ≤ g ∧ Blk32 w' g zs ∧ Nf B32 zs (valB B64 xs) ∧ zs.length ≤ 2 * n ∧ Below w.heap.size w w' := by
  obtain ⟨i0, hi, hz0, hz1, hz2⟩ := info_parts Tryz.infoU32
  have hl := h.len; have cap := h.cap; have big := h.big
  unfold maxLen at big
  have HL : Hid (xs.length = n) := hl
  clear hl
  go_enter Tryz.func86, Tryz.ntmps86
  go_wp2_with (at_make; refine wpList_make_own _ rfl _ _ 102 rfl w.heap.size 171 i0 (.int .u32 0) 1 Tryz.underlying102 hi hz0 hz1 _ _ _ (2 * n) rfl rfl (by omega) (by rw [hz2]; omega) (by unfold maxLen; omega) (Nat.le_refl _) ?_; intro w1 hown hgrow)
  have HO : Hid (w1.ownsRow w.heap.size 171 1 (.slice (some ⟨w.heap.size, 0, none⟩) 0 (2 * n)) 0 []) := hown
  have hb1 : Below w.heap.size w w1 := (Below.refl _ _).grown hgrow (Nat.le_refl _) (fun k hk => by simp at hk)
  clear hown hgrow
  obtain ⟨N, hN⟩ : ∃ N, N = 2 * n := ⟨_, rfl⟩
  rw [← hN] at HO ⊢
  have HN : Hid (N = 2 * n) := hN
  clear hN
  go_loopg [3, 4] n (fun gk dv iv wr => ∃ k K2 : Nat, k + gk = n ∧ iv = .int .i64 k ∧ Hid (K2 = 2 * k) ∧ dv = .slice (some ⟨w.heap.size, 0, none⟩) K2 N ∧ Hid (wr.ownsRow w.heap.size 171 1 (.slice (some ⟨w.heap.size, 0, none⟩) K2 N) K2 (cellsV (dig32 (xs.take k)))) ∧ Below w.heap.size w wr)
  case atStart => exact ⟨0, 0, by omega, rfl, rfl, rfl, HO, hb1⟩
  case round =>
    obtain ⟨k, K2, hkg, rfl, HK2, rfl, HOW, hbx⟩ := hrel
    cases gk with
    | zero =>
      obtain rfl : k = n := by omega
      have hO := HOW.out
      rcases hO.2 with ⟨h', _⟩ | ⟨g', cap', cur, h', hbase, hgc, hcap', hmx, hsz, htake⟩
      · simp at h'
      simp only [Value.slice.injEq, Option.some.injEq, Addr.mk.injEq, and_true, true_and] at h'
      obtain ⟨rfl, rfl⟩ := h'
      have hK := HK2.out
      have hNN := HN.out
      have hdl : (dig32 xs).length = K2 := by rw [dig32_len, HL.out, hK]
      have etk : xs.take k = xs := List.take_of_length_le (by rw [HL.out]; omega)
      rw [etk] at htake
      have A32 : At32 wr (some ⟨w.heap.size, 0, none⟩) K2 N (dig32 xs) := by
        refine ⟨hdl, hcap', hmx, dig32_dig h.dig, .inr ⟨w.heap.size, 0, rfl, fun jj hj => ?_⟩⟩
        rw [Nat.zero_add, cell_of_row wr w.heap.size jj _ _ _ hgc]
        have e1 := cellsV_get (dig32 xs) jj (by omega)
        rw [← htake, Nat.mul_one, List.getElem?_take, if_pos hj] at e1
        rw [← Array.getElem?_toList]; exact e1
      have hle := trimL_length_le (dig32 xs)
      have HNF : Hid (Nf B32 (trimL (dig32 xs)) (valB B64 xs)) := by
        have := Nf.trim (dig32_dig h.dig)
        rw [dig32_val] at this; exact this
      have HLE : Hid ((trimL (dig32 xs)).length ≤ 2 * k) := by show _ ≤ _; omega
      clear hO hbase hgc hcap' hmx hsz htake hK hNN hle hdl
      go_wp2_with fail
      refine (rnorm_any A32 (by have := HK2.out; omega)).mono ?_
      rintro e w5 ⟨g5, rfl, hg5, hblk5, hb5⟩
      generalize trimL (dig32 xs) = zs at *
      go_wp2_with fail
      go_ret
      exact ⟨g5, zs, rfl, by have := hbx.size; omega, hblk5, HNF.out, HLE.out, Below.on hbx hb5⟩
    | succ gg =>
      obtain ⟨g, off, rfl, hc⟩ := h.cells.resolve_left (by omega)
      obtain ⟨x, hx⟩ : ∃ x, x = xs.getD k 0 := ⟨_, rfl⟩
      have hcx0 : w.cell? ⟨g, off + k, none⟩ = some (U x) := by rw [hx]; exact hc k (by omega)
      have hcx : wr.cell? ⟨g, off + k, none⟩ = some (U x) := (hbx.cell (p := ⟨g, off + k, none⟩) (World.block_lt_of_cell? w _ hcx0)).trans hcx0
      have hxb : x < B64 := by rw [hx]; exact h.dig.getD B64_pos k
      have HX : Hid (x = xs.getD k 0) := hx
      clear hc hx hcx0
      obtain ⟨lo, hlo⟩ : ∃ lo, lo = x % B32 := ⟨_, rfl⟩
      obtain ⟨hh, hhi⟩ : ∃ hh, hh = x / B32 := ⟨_, rfl⟩
      have hlob : lo < B32 := by rw [hlo]; exact Nat.mod_lt _ B32_pos
      have hhib : hh < B32 := by rw [hhi]; exact Nat.div_lt_of_lt_mul (by rw [B32_two]; exact hxb)
      have e1 : bits .and .u64 (x : Int) 4294967295 = (lo : Int) := by rw [hlo, B32_eq]; exact and32 x (by rw [← B64_eq]; exact hxb)
      have e2 : (x : Int) / 4294967296 = (hh : Int) := by rw [hhi, B32_eq]; exact div32 x
      have e3 : IntKind.u32.wrap (lo : Int) = (lo : Int) := wrap32 lo hlob
      have e4 : IntKind.u32.wrap (hh : Int) = (hh : Int) := wrap32 hh hhib
      have HLO : Hid (lo = x % B32) := hlo
      have HHI : Hid (hh = x / B32) := hhi
      have hsp : K2 + 2 ≤ N := by have := HK2.out; have := HN.out; omega
      have HOA : Hid ((wr.drew.alloc (.cells #[V lo, V hh] 171)).ownsRow w.heap.size 171 1 (.slice (some ⟨w.heap.size, 0, none⟩) K2 N) K2 (cellsV (dig32 (xs.take k)))) := by
        have h0 : wr.drew.ownsRow w.heap.size 171 1 (.slice (some ⟨w.heap.size, 0, none⟩) K2 N) K2 (cellsV (dig32 (xs.take k))) := HOW.out
        exact h0.alloc _
      clear hlo hhi
      go_wp2_with fail
      go_region_law (refine step_append_own rfl (.tmp 15) (.tmp 28) 102 rfl w.heap.size 171 i0 1 Tryz.underlying102 hi hz1 w.heap.size K2 N (cellsV (dig32 (xs.take k))) (by simp [Act.eval]) HOA.out ⟨wr.heap.size, 0, none⟩ 2 2 [V lo, V hh] (by simp [Act.eval]) rfl (two_cells wr.drew lo hh) (by intro u hu; simp at hu; rcases hu with rfl | rfl <;> rfl) hsp ?_; intro w3 hw3 hgr3)
      all_goals
        (have hbx3 : Below w.heap.size w w3 := ((bDrew hbx).alloc (by have := hbx.size; exact this) _).grown hgr3 (by have := hbx.size; simp; omega) (fun q hq => by simp at hq; omega)
         have HW3 : Hid (w3.ownsRow w.heap.size 171 1 (.slice (some ⟨w.heap.size, 0, none⟩) (K2 + 2) N) (K2 + 2) (cellsV (dig32 (xs.take (k + 1))))) := by
           have e0 : cellsV (dig32 (xs.take (k + 1))) = cellsV (dig32 (xs.take k)) ++ [V lo, V hh] := by
             rw [dig32_snoc xs k (by rw [HL.out]; omega), ← HX.out, ← HLO.out, ← HHI.out]; unfold cellsV; rw [List.map_append]; rfl
           rw [e0]; exact hw3
         clear hw3 hgr3
         go_wp2_with fail
         go_roundg gg
         case measure => omega
         case rel => exact ⟨k + 1, K2 + 2, by omega, by go_num, by have := HK2.out; show _ = _; omega, rfl, HW3, hbx3⟩)
end Go.Proofs.YtfmbifocgljieaaGreatDoor
namespace Go.Proofs.YtfmbifocgljieaaGreatDoor
open Go.RowKit Go.Shelf
set_option maxRecDepth 20000
set_option maxHeartbeats 0
theorem B64_sq (k : Nat) : B64 ^ k = B32 ^ (2 * k) := by rw [Nat.pow_mul, show B32 ^ 2 = B64 from rfl]
structure RToR (w : World) (g N m : Nat) (ds : List Nat) (k : Nat) (us : List Nat) (wr : World) : Prop where
  bel : Below g w wr
  own : wr.ownsRow g 23 1 (.slice (some ⟨g, 0, none⟩) k N) k (cellsU us)
  len : us.length = k
  dig : Dig B64 us
  top : m ≤ 2 * k → Top us
  val : valB B64 us = valB B32 (ds.take (2 * k))
theorem rto_val {us ds : List Nat} {k x y : Nat} (h : valB B64 us = valB B32 (ds.take (2 * k))) (hl : us.length = k) (ex : x = ds.getD (2 * k) 0) (ey : y = ds.getD (2 * k + 1) 0) : valB B64 (us ++ [x + B32 * y]) = valB B32 (ds.take (2 * (k + 1))) := by
  rw [valB_snoc, hl, h, B64_sq, show 2 * (k + 1) = 2 * k + 1 + 1 by omega, valB_take_any _ ds (2 * k + 1), valB_take_any _ ds (2 * k), ← ex, ← ey, Nat.pow_succ, Nat.mul_add, Nat.mul_assoc]
  omega
theorem top_snoc (us : List Nat) {x : Nat} (h : x ≠ 0) : Top (us ++ [x]) := by
  intro z hz; simp at hz; omega
theorem own_at {wr : World} {g i N : Nat} {ss : List Nat} (ho : wr.ownsRow g 23 1 (.slice (some ⟨g, 0, none⟩) i N) i (cellsU ss)) (hl : ss.length = i) (hd : Dig B64 ss) : At wr (some ⟨g, 0, none⟩) i N ss := by
  rcases ho.2 with ⟨h', _⟩ | ⟨g', cap', cur, h', hbase, hgc, hcap', hmx, hsz, htake⟩
  · simp at h'
  · simp only [Value.slice.injEq, Option.some.injEq, Addr.mk.injEq, and_true, true_and] at h'
    obtain ⟨rfl, rfl⟩ := h'
    refine ⟨hl, hcap', hmx, hd, .inr ⟨g, 0, rfl, fun jj hj => ?_⟩⟩
    rw [Nat.zero_add, cell_of_row wr g jj _ _ _ hgc]
    have e1 := cellsU_get ss jj (by rw [hl]; exact hj)
    rw [← htake, Nat.mul_one, List.getElem?_take, if_pos hj] at e1
    rw [← Array.getElem?_toList]; exact e1
theorem one_cellU (w : World) (x : Nat) : ∀ (j : Nat) (u : Value), [U x][j]? = some u → (w.alloc (.cells #[U x] 23)).cell? ((⟨w.heap.size, 0, none⟩ : Addr).add j) = some u := by
  intro j u h
  have hb : Blk (w.alloc (.cells #[U x] 23)) w.heap.size [x] := heap_alloc_new w _
  have hj : j < 1 := by
    have := (List.getElem?_eq_some_iff.1 h).1
    simpa using this
  have hadd : (⟨w.heap.size, 0, none⟩ : Addr).add j = ⟨w.heap.size, j, none⟩ := by unfold Addr.add; split <;> simp_all
  rw [hadd, hb.cell j (by simpa using hj)]
  obtain rfl : j = 0 := by omega
  simpa using h

theorem rto_any {p : Option Addr} {n c : Nat} {xs : List Nat} {w : World} (h : At32 w p n c xs) (hn : n ≤ 35184372088832) :
    Calls Tryz.prog 144 #[.slice p n c] w fun e w' => ∃ g k N us, e = .returned (.slice (some ⟨g, 0, none⟩) k N) ∧ w.heap.size ≤ g ∧ At w' (some ⟨g, 0, none⟩) k N us ∧ Nf B64 us (valB B32 xs) ∧ Below w.heap.size w w' := by
  obtain ⟨i0, hi, hz0, hz1, hz2⟩ := info_parts Tryz.infoU64
  have HDG : Hid (Dig B32 xs) := h.dig
  have hlx := h.len
  have hle := trimL_length_le xs
  have hm0 : (trimL xs).length ≤ 35184372088832 := by omega
  have HV : Hid (valB B32 (trimL xs) = valB B32 xs) := valB_trimL _ _
  have HTOP : Hid (Top (trimL xs)) := Top_trimL xs
  have HDT : Hid (Dig B32 (trimL xs)) := h.dig.trimL
  clear hlx hle
  go_enter Tryz.func144, Tryz.ntmps144
  go_wp2_with fail
  refine (rnorm_any h (by omega)).mono ?_
  rintro e w0 ⟨gd, rfl, hgd, hblk, hb0⟩
  have A0 := hblk.at_ HDT.out rfl (by unfold maxLen; omega)
  generalize trimL xs = ds at *
  obtain ⟨m, hm⟩ : ∃ m, m = ds.length := ⟨_, rfl⟩
  rw [← hm] at A0 hm0 ⊢
  have HM : Hid (m = ds.length) := hm
  clear hm hblk h
  have hNi : (m : Int).tdiv 2 = ((m / 2 : Nat) : Int) := by rw [Int.tdiv_eq_ediv_of_nonneg (by omega)]; omega
  go_wp2_with (at_make; refine wpList_make_own _ rfl _ _ 29 rfl w0.heap.size 23 i0 (.int .u64 0) 1 Tryz.underlying29 hi hz0 hz1 _ _ _ (m / 2 + 1) rfl rfl (by omega) (by rw [hz2]; omega) (by unfold maxLen; omega) (Nat.le_refl _) ?_; intro w1 hown hgrow)
  have hb1 : Below w0.heap.size w0 w1 := (Below.refl _ _).grown hgrow (Nat.le_refl _) (fun k hk => by simp at hk)
  have HO : Hid (RToR w0 w0.heap.size (m / 2 + 1) m ds 0 [] w1) := ⟨hb1, hown, rfl, Dig.nil _, fun _ => by intro x hx; simp at hx, by simp [valB]⟩
  clear hown hgrow hb1 hNi
  obtain ⟨N, hN⟩ : ∃ N, N = m / 2 + 1 := ⟨_, rfl⟩
  rw [← hN] at HO ⊢
  have HN : Hid (N = m / 2 + 1) := hN
  have hNb : N ≤ 17592186044417 := by omega
  clear hN
  go_loopg [4, 5] N (fun gk lv iv wr => ∃ (k i : Nat) (us : List Nat), k + gk = N ∧ Hid (i = 2 * k) ∧ iv = .int .i64 i ∧ lv = .slice (some ⟨w0.heap.size, 0, none⟩) k N ∧ Hid (RToR w0 w0.heap.size N m ds k us wr))
  case atStart => exact ⟨0, 0, [], by omega, rfl, rfl, rfl, HO⟩
  case round =>
    obtain ⟨k, i, us, hkg, HI, rfl, rfl, HR⟩ := hrel
    by_cases him : i < m
    · have hsp : k + 1 ≤ N := by have := HI.out; have := HN.out; omega
      obtain ⟨x, hx⟩ : ∃ x, x = ds.getD i 0 := ⟨_, rfl⟩
      obtain ⟨y, hy⟩ : ∃ y, y = ds.getD (i + 1) 0 := ⟨_, rfl⟩
      have hxb : x < B32 := by rw [hx]; exact HDT.out.getD B32_pos i
      have hyb : y < B32 := by rw [hy]; exact HDT.out.getD B32_pos (i + 1)
      rw [B32_eq] at hxb hyb
      have c0 : w0.cell? ⟨gd, i, none⟩ = some (V x) := by
        have := A0.cellAt i (by omega)
        rw [Nat.zero_add] at this
        rw [hx]; exact this
      have c1 : wr.cell? ⟨gd, i, none⟩ = some (V x) := (HR.out.bel.cell (p := ⟨gd, i, none⟩) (World.block_lt_of_cell? w0 _ c0)).trans c0
      have hxw : IntKind.u64.wrap (x : Int) = (x : Int) := wrap_mod _ _ (by omega)
      have hyw : IntKind.u64.wrap (y : Int) = (y : Int) := wrap_mod _ _ (by omega)
      obtain ⟨yh, eyh⟩ : ∃ yh, yh = 4294967296 * y := ⟨_, rfl⟩
      have f1 : IntKind.u64.wrap ((y : Int) * 4294967296) = (yh : Int) := wrap_mod _ _ (by omega)
      obtain ⟨ww, eww⟩ : ∃ ww, ww = x + yh := ⟨_, rfl⟩
      have f2 : IntKind.u64.wrap ((x : Int) + (yh : Int)) = (ww : Int) := wrap_mod _ _ (by omega)
      have hwb : ww < B64 := by rw [B64_eq]; omega
      have EW : Hid (ww = x + B32 * y) := by show _ = _; rw [B32_eq]; omega
      have HXE : Hid (x = ds.getD (2 * k) 0) := by rw [← HI.out]; exact hx
      have HYE : Hid (y = ds.getD (2 * k + 1) 0) := by rw [← HI.out]; exact hy
      have HTT : Hid (m ≤ 2 * (k + 1) → ww ≠ 0) := by
        intro hle
        have hi2 := HI.out
        by_cases h1 : i + 1 < m
        · have : y ≠ 0 := by
            refine HTOP.out y ?_
            rw [List.getLast?_eq_getElem?, ← HM.out, show m - 1 = i + 1 by omega, hy, List.getD_eq_getElem?_getD, List.getElem?_eq_getElem (by have := HM.out; omega)]; rfl
          omega
        · have : x ≠ 0 := by
            refine HTOP.out x ?_
            rw [List.getLast?_eq_getElem?, ← HM.out, show m - 1 = i by omega, hx, List.getD_eq_getElem?_getD, List.getElem?_eq_getElem (by have := HM.out; omega)]; rfl
          omega
      have HOA : Hid ((wr.alloc (.cells #[U ww] 23)).ownsRow w0.heap.size 23 1 (.slice (some ⟨w0.heap.size, 0, none⟩) k N) k (cellsU us)) := HR.out.own.alloc _
      by_cases h1 : i + 1 < m
      · have d0 : w0.cell? ⟨gd, i + 1, none⟩ = some (V y) := by
          have := A0.cellAt (i + 1) (by omega)
          rw [Nat.zero_add] at this
          rw [hy]; exact this
        have d1 : wr.cell? ⟨gd, i + 1, none⟩ = some (V y) := (HR.out.bel.cell (p := ⟨gd, i + 1, none⟩) (World.block_lt_of_cell? w0 _ d0)).trans d0
        clear hx hy c0 d0 eyh eww hxb hyb
        go_wp2_with (at_builtin; refine wpList_append_fits _ rfl (.tmp 39) (.tmp 41) 29 rfl w0.heap.size 23 i0 1 Tryz.underlying29 hi hz1 w0.heap.size k N (cellsU us) rfl HOA.out ⟨wr.heap.size, 0, none⟩ 1 1 [U ww] rfl rfl (one_cellU wr ww) (by intro u hu; simp at hu; subst hu; rfl) hsp ?_; intro w3 hw3 hgr3)
        have HR3 : Hid (RToR w0 w0.heap.size N m ds (k + 1) (us ++ [ww]) w3) := by
          have hR := HR.out
          refine ⟨(hR.bel.alloc hR.bel.size _).grown hgr3 (by have := hR.bel.size; simp; omega) (fun q hq => by simp at hq; omega), ?_, by simp [hR.len], hR.dig.append (dig1 hwb), fun hle => top_snoc us (HTT.out hle), ?_⟩
          · have e0 : cellsU (us ++ [ww]) = cellsU us ++ [U ww] := by unfold cellsU; rw [List.map_append]; rfl
            rw [e0]; exact hw3
          · rw [EW.out]; exact rto_val hR.val hR.len HXE.out HYE.out
        clear hw3 hgr3
        go_roundg (gk - 1)
        case measure => omega
        case rel => exact ⟨k + 1, i + 2, us ++ [ww], by omega, by have := HI.out; show _ = _; omega, by go_num, rfl, HR3⟩
      · have hy0 : y = 0 := by rw [hy, List.getD_eq_getElem?_getD, List.getElem?_eq_none (by have := HM.out; omega)]; rfl
        have eyx : ww = x := by omega
        subst eyx
        clear hx hy c0 eyh eww hxb hyb f1 f2 hyw
        go_wp2_with (at_builtin; refine wpList_append_fits _ rfl (.tmp 39) (.tmp 41) 29 rfl w0.heap.size 23 i0 1 Tryz.underlying29 hi hz1 w0.heap.size k N (cellsU us) rfl HOA.out ⟨wr.heap.size, 0, none⟩ 1 1 [U ww] rfl rfl (one_cellU wr ww) (by intro u hu; simp at hu; subst hu; rfl) hsp ?_; intro w3 hw3 hgr3)
        have HR3 : Hid (RToR w0 w0.heap.size N m ds (k + 1) (us ++ [ww]) w3) := by
          have hR := HR.out
          refine ⟨(hR.bel.alloc hR.bel.size _).grown hgr3 (by have := hR.bel.size; simp; omega) (fun q hq => by simp at hq; omega), ?_, by simp [hR.len], hR.dig.append (dig1 hwb), fun hle => top_snoc us (HTT.out hle), ?_⟩
          · have e0 : cellsU (us ++ [ww]) = cellsU us ++ [U ww] := by unfold cellsU; rw [List.map_append]; rfl
            rw [e0]; exact hw3
          · rw [EW.out]; exact rto_val hR.val hR.len HXE.out HYE.out
        clear hw3 hgr3
        go_roundg (gk - 1)
        case measure => omega
        case rel => exact ⟨k + 1, i + 2, us ++ [ww], by omega, by have := HI.out; show _ = _; omega, by go_num, rfl, HR3⟩
    · have hR := HR.out
      have hi2 := HI.out
      have AT := own_at hR.own hR.len hR.dig
      have HNF : Hid (Nf B64 us (valB B32 xs)) := by
        refine ⟨hR.dig, hR.top (by omega), ?_⟩
        have hv := hR.val
        rw [List.take_of_length_le (by have := HM.out; omega), HV.out] at hv; exact hv
      have hbx := Below.on hb0 hR.bel
      have hgz := hb0.size
      clear hR hi2
      go_wp2_with fail
      go_ret
      exact ⟨_, k, N, us, rfl, by omega, AT, HNF.out, hbx⟩
theorem At32.setOther {w : World} {g off n c : Nat} {xs : List Nat} (h : At32 w (some ⟨g, off, none⟩) n c xs) (g2 o2 : Nat) (v : Value) (hne : g ≠ g2) : At32 (w.setCell ⟨g2, o2, none⟩ v) (some ⟨g, off, none⟩) n c xs := by
  refine ⟨h.len, h.cap, h.big, h.dig, ?_⟩
  rcases h.cells with h0 | ⟨g', o', he, hcl⟩
  · exact .inl h0
  · refine .inr ⟨g', o', he, fun j hj => ?_⟩
    simp only [Option.some.injEq, Addr.mk.injEq, and_true] at he
    rw [World.cell?_setCell_other _ _ _ _ (by intro e; apply hne; have := congrArg Addr.block e; simp at this; omega)]
    exact hcl j hj
theorem At.setOther {w : World} {g off n c : Nat} {xs : List Nat} (h : At w (some ⟨g, off, none⟩) n c xs) (g2 o2 : Nat) (v : Value) (hne : g ≠ g2) : At (w.setCell ⟨g2, o2, none⟩ v) (some ⟨g, off, none⟩) n c xs := by
  refine ⟨h.len, h.cap, h.big, h.dig, ?_⟩
  rcases h.cells with h0 | ⟨g', o', he, hcl⟩
  · exact .inl h0
  · refine .inr ⟨g', o', he, fun j hj => ?_⟩
    simp only [Option.some.injEq, Addr.mk.injEq, and_true] at he
    rw [World.cell?_setCell_other _ _ _ _ (by intro e; apply hne; have := congrArg Addr.block e; simp at this; omega)]
    exact hcl j hj

theorem mk04 {p : Option Addr} {n c : Nat} {xs : List Nat} {w : World} (s : Bool) (h : At32 w p n c xs) (hn : n ≤ 35184372088832) :
    Calls Tryz.prog 105 #[.bool s, .slice p n c] w fun e w' => ∃ g m, m = (trimL xs).length ∧ e = .returned (.agg #[.bool (s && decide (0 < m)), .slice (some ⟨g, 0, none⟩) m m]) ∧ w.heap.size ≤ g ∧ At32 w' (some ⟨g, 0, none⟩) m m (trimL xs) ∧ Below w.heap.size w w' := by
  have hd := h.dig.trimL
  have hle := trimL_length_le xs
  have hlx := h.len
  obtain ⟨zs, hzs⟩ : ∃ zs, zs = trimL xs := ⟨_, rfl⟩
  rw [← hzs] at hd hle
  rw [← hzs]
  have HZS : Hid (zs = trimL xs) := hzs
  clear hzs
  go_enter Tryz.func105, Tryz.ntmps105
  go_wp2_with fail
  have B0 : Box (w.alloc (.cells #[.bool false, .slice none 0 0] 104)) w.heap.size (.bool false) (.slice none 0 0) := ⟨by go_simp, by go_simp, by go_simp, by go_simp⟩
  refine (rnorm_any (h.alloc _) hn).mono ?_
  rintro e w1 ⟨g, rfl, hg, hblk, hb⟩
  rw [← HZS.out] at hblk ⊢
  obtain ⟨c0, c1, f0, f1⟩ := B0.below hb
  have hbw := Below.on (below1 w _) hb
  have HA : Hid (At32 w1 (some ⟨g, 0, none⟩) zs.length zs.length zs) := hblk.at_ hd rfl (by unfold maxLen; omega)
  have hg1 : w.heap.size + 1 ≤ g := by simp at hg; exact hg
  clear B0 hb hblk hg hle hlx h
  obtain ⟨m, hm⟩ : ∃ m, m = zs.length := ⟨_, rfl⟩
  rw [← hm] at HA ⊢
  have HM : Hid (m = zs.length) := hm
  clear hm
  have key : ∀ r : Bool, Hid (At32 ((w1.setCell ⟨w.heap.size, 0, none⟩ (.bool r)).setCell ⟨w.heap.size, 1, none⟩ (.slice (some ⟨g, 0, none⟩) m m)) (some ⟨g, 0, none⟩) m m zs) := by
    intro r
    have hA := HA.out
    refine ⟨hA.len, hA.cap, hA.big, hA.dig, ?_⟩
    rcases hA.cells with h0 | ⟨g', o', he, hcl⟩
    · exact .inl h0
    · refine .inr ⟨g', o', he, fun j hj => ?_⟩
      simp only [Option.some.injEq, Addr.mk.injEq, and_true] at he
      have hne : g' ≠ w.heap.size := by omega
      rw [World.cell?_setCell_other _ _ _ _ (by intro e; apply hne; have := congrArg Addr.block e; simp at this; omega), World.cell?_setCell_other _ _ _ _ (by intro e; apply hne; have := congrArg Addr.block e; simp at this; omega)]
      exact hcl j hj
  cases s
  · go_wp2_with fail
    exact bodyPost_ret (v := .agg #[.bool false, .slice (some ⟨g, 0, none⟩) m m]) (by rw [results_cell1 rfl]; go_simp) rfl ⟨g, m, HM.out, rfl, by omega, (key false).out, bSet (bSet hbw _ _ _ (Nat.le_refl _)) _ _ _ (Nat.le_refl _)⟩
  · by_cases hm0 : 0 < m
    · have hd0 : decide ((0 : Int) < (m : Int)) = true := decide_eq_true (by omega)
      go_wp2_with fail
      exact bodyPost_ret (v := .agg #[.bool true, .slice (some ⟨g, 0, none⟩) m m]) (by rw [results_cell1 rfl]; go_simp) rfl ⟨g, m, HM.out, by simp [hm0], by omega, (key true).out, bSet (bSet hbw _ _ _ (Nat.le_refl _)) _ _ _ (Nat.le_refl _)⟩
    · have hd0 : decide ((0 : Int) < (m : Int)) = false := decide_eq_false (by omega)
      go_wp2_with fail
      exact bodyPost_ret (v := .agg #[.bool false, .slice (some ⟨g, 0, none⟩) m m]) (by rw [results_cell1 rfl]; go_simp) rfl ⟨g, m, HM.out, by simp [hm0], by omega, (key false).out, bSet (bSet hbw _ _ _ (Nat.le_refl _)) _ _ _ (Nat.le_refl _)⟩

theorem from04 {p : Option Addr} {n c : Nat} {xs : List Nat} {w : World} (s : Bool) (h : At w p n c xs) (hn : n ≤ 17592186044416) :
    Calls Tryz.prog 62 #[ZV s p n c] w fun e w' => ∃ p' m zs, e = .returned (.agg #[.bool (s && decide (0 < m)), .slice p' m m]) ∧ At32 w' p' m m zs ∧ Nf B32 zs (valB B64 xs) ∧ m ≤ 2 * n ∧ Below w.heap.size w w' := by
  go_enter Tryz.func62, Tryz.ntmps62
  go_wp2_with fail
  have B0 : Box ((w.alloc (.cells #[.bool s, .slice p n c] 31)).alloc (.cells #[.bool false, .slice none 0 0] 104)) w.heap.size (.bool s) (.slice p n c) := ⟨by go_simp, by go_simp, by go_simp, by go_simp⟩
  have B1 : Box ((w.alloc (.cells #[.bool s, .slice p n c] 31)).alloc (.cells #[.bool false, .slice none 0 0] 104)) (w.heap.size + 1) (.bool false) (.slice none 0 0) := ⟨by go_simp, by go_simp, by go_simp, by go_simp⟩
  have hbw : Below w.heap.size w ((w.alloc (.cells #[.bool s, .slice p n c] 31)).alloc (.cells #[.bool false, .slice none 0 0] 104)) := below2 w _ _
  have hsW : ((w.alloc (.cells #[.bool s, .slice p n c] 31)).alloc (.cells #[.bool false, .slice none 0 0] 104)).heap.size = w.heap.size + 1 + 1 := by simp
  generalize ((w.alloc (.cells #[.bool s, .slice p n c] 31)).alloc (.cells #[.bool false, .slice none 0 0] 104)) = W at *
  obtain ⟨hs, ehs⟩ : ∃ hs, hs = w.heap.size := ⟨_, rfl⟩
  have HHS : Hid (hs = w.heap.size) := ehs
  rw [← ehs] at B0 B1 hsW ⊢
  have HSW : Hid (W.heap.size = hs + 1 + 1) := hsW
  have HBW : Hid (Below w.heap.size w W.drew) := bDrew hbw
  have HAT : Hid (At W.drew p n c xs) := (h.below hbw).drewN 1
  have X0 : Hid (Box W.drew hs (.bool s) (.slice p n c)) := ⟨B0.c0, B0.c1, B0.f0, B0.f1⟩
  have X1 : Hid (Box W.drew (hs + 1) (.bool false) (.slice none 0 0)) := ⟨B1.c0, B1.c1, B1.f0, B1.f1⟩
  obtain ⟨c00, c01, f00, f01⟩ := B0
  obtain ⟨c10, c11, f10, f11⟩ := B1
  clear ehs hsW hbw h
  go_region_with (first
    | (go_at_call 86; refine (from_any HAT.out hn).mono ?_; rintro e w1 ⟨g1, zs, rfl, hg1, hblk1, hnf1, hl1, hb1⟩; obtain ⟨d00, d01, e00, e01⟩ := X0.out.below hb1; have Y1 : Hid (Box w1 (hs + 1) (.bool false) (.slice none 0 0)) := X1.out.below hb1; have HA1 : Hid (At32 w1 (some ⟨g1, 0, none⟩) zs.length zs.length zs) := hblk1.at_ hnf1.dig rfl (by unfold maxLen; omega); have HN1 : Hid (Nf B32 zs (valB B64 xs)) := hnf1; have HL1 : Hid (zs.length ≤ 2 * n) := hl1; have HB1 : Hid (Below w.heap.size w w1) := Below.on HBW.out hb1; have HS1 : Hid (hs + 1 + 1 ≤ w1.heap.size) := Nat.le_trans (Nat.le_of_eq HSW.out.symm) hb1.size; clear hblk1 hnf1 hl1 hb1 hg1)
    | (go_at_call 105; refine (mk04 s HA1.out (by have := HL1.out; omega)).mono ?_; rintro e w2 ⟨g2, m2, hm2, rfl, hg2, hA2, hb2⟩; obtain ⟨c10, c11, f10, f11⟩ := Y1.out.below hb2; have HM2 : Hid (m2 = (trimL zs).length) := hm2; have HA2 : Hid (At32 w2 (some ⟨g2, 0, none⟩) m2 m2 (trimL zs)) := hA2; have HB2 : Hid (Below w.heap.size w w2) := Below.on HB1.out hb2; have HG2 : Hid (hs + 1 + 1 ≤ g2) := Nat.le_trans HS1.out hg2; clear hm2 hA2 hb2 hg2))
  all_goals
    (obtain ⟨sb, esb⟩ : ∃ sb, sb = (s && decide (0 < m2)) := ⟨_, rfl⟩
     rw [← esb]
     have HSB : Hid (sb = (s && decide (0 < m2))) := esb
     clear esb
     go_wp2_with fail
     refine bodyPost_ret (v := .agg #[.bool sb, .slice (some ⟨g2, 0, none⟩) m2 m2]) (by rw [results_cell1 rfl]; go_simp) rfl ⟨_, m2, trimL zs, by rw [HSB.out], (HA2.out.setOther _ _ _ (by have := HG2.out; omega)).setOther _ _ _ (by have := HG2.out; omega), ?_, ?_, bSet (bSet HB2.out _ _ _ (by have := HHS.out; omega)) _ _ _ (by have := HHS.out; omega)⟩
     · rw [trimL_of_Top HN1.out.top]; exact HN1.out
     · have h1 := HM2.out; have h2 := HL1.out; rw [trimL_of_Top HN1.out.top] at h1; omega)
theorem to04_f {p : Option Addr} {n : Nat} {zs : List Nat} {a : Nat} {w : World} (h : At32 w p n n zs) (hx : Nf B32 zs a) (hn : n ≤ 35184372088832) :
    Calls Tryz.prog 104 #[.agg #[.bool false, .slice p n n]] w fun e w' => ∃ g k N us, e = .returned (ZV (false && decide (0 < n)) (some ⟨g, 0, none⟩) k N) ∧ At w' (some ⟨g, 0, none⟩) k N us ∧ Nf B64 us a ∧ w.heap.size ≤ g ∧ Below w.heap.size w w' := by
  have HX : Hid (Nf B32 zs a) := hx
  clear hx
  obtain ⟨sb, esb⟩ : ∃ sb, sb = (false && decide (0 < n)) := ⟨_, rfl⟩
  rw [← esb]
  have HSB : Hid (sb = (false && decide (0 < n))) := esb
  clear esb
  go_enter Tryz.func104, Tryz.ntmps104
  go_wp2_with fail
  have B0 : Box ((w.alloc (.cells #[.bool false, .slice p n n] 104)).alloc (.cells #[.bool false, .slice none 0 0] 31)) w.heap.size (.bool false) (.slice p n n) := ⟨by go_simp, by go_simp, by go_simp, by go_simp⟩
  have B1 : Box ((w.alloc (.cells #[.bool false, .slice p n n] 104)).alloc (.cells #[.bool false, .slice none 0 0] 31)) (w.heap.size + 1) (.bool false) (.slice none 0 0) := ⟨by go_simp, by go_simp, by go_simp, by go_simp⟩
  have hbw : Below w.heap.size w ((w.alloc (.cells #[.bool false, .slice p n n] 104)).alloc (.cells #[.bool false, .slice none 0 0] 31)) := below2 w _ _
  have hsW : ((w.alloc (.cells #[.bool false, .slice p n n] 104)).alloc (.cells #[.bool false, .slice none 0 0] 31)).heap.size = w.heap.size + 1 + 1 := by simp
  generalize ((w.alloc (.cells #[.bool false, .slice p n n] 104)).alloc (.cells #[.bool false, .slice none 0 0] 31)) = W at *
  obtain ⟨hs, ehs⟩ : ∃ hs, hs = w.heap.size := ⟨_, rfl⟩
  have HHS : Hid (hs = w.heap.size) := ehs
  rw [← ehs] at B0 B1 hsW ⊢
  have HSW : Hid (W.heap.size = hs + 1 + 1) := hsW
  have HBW : Hid (Below w.heap.size w W.drew) := bDrew hbw
  have HAT : Hid (At32 W.drew p n n zs) := (h.below hbw).drewN 1
  have X0 : Hid (Box W.drew hs (.bool false) (.slice p n n)) := ⟨B0.c0, B0.c1, B0.f0, B0.f1⟩
  have X1 : Hid (Box W.drew (hs + 1) (.bool false) (.slice none 0 0)) := ⟨B1.c0, B1.c1, B1.f0, B1.f1⟩
  obtain ⟨c00, c01, f00, f01⟩ := B0
  obtain ⟨c10, c11, f10, f11⟩ := B1
  clear ehs hsW hbw h
  have HF : Hid (sb = false) := by show _ = _; rw [HSB.out]; simp
  first | (go_region_with ((go_at_call 144; refine (rto_any HAT.out hn).mono ?_; rintro e w1 ⟨g1, k1, N1, us, rfl, hg1, hA1, hnf1, hb1⟩; obtain ⟨d00, d01, e00, e01⟩ := X0.out.below hb1; obtain ⟨d10, d11, e10, e11⟩ := X1.out.below hb1; have HA1 : Hid (At w1 (some ⟨g1, 0, none⟩) k1 N1 us) := hA1; have HN1 : Hid (Nf B64 us (valB B32 zs)) := hnf1; have HB1 : Hid (Below w.heap.size w w1) := Below.on HBW.out hb1; have HG1 : Hid (hs + 1 + 1 ≤ g1) := Nat.le_trans (Nat.le_of_eq HSW.out.symm) hg1; clear hA1 hnf1 hb1 hg1))) | fail
  all_goals
    (go_wp2_with fail
     refine bodyPost_ret (v := ZV false (some ⟨g1, 0, none⟩) k1 N1) (by rw [results_cell1 rfl]; go_simp) rfl ⟨g1, k1, N1, us, by rw [HF.out], (HA1.out.setOther _ _ _ (by have := HG1.out; omega)).setOther _ _ _ (by have := HG1.out; omega), ?_, by have := HG1.out; have := HHS.out; omega, bSet (bSet HB1.out _ _ _ (by have := HHS.out; omega)) _ _ _ (by have := HHS.out; omega)⟩
     have hq := HN1.out
     rw [HX.out.val] at hq; exact hq)
theorem to04_p {p : Option Addr} {n : Nat} {zs : List Nat} {a : Nat} {w : World} (h : At32 w p n n zs) (hx : Nf B32 zs a) (hn : n ≤ 35184372088832) (h0 : 0 < n) :
    Calls Tryz.prog 104 #[.agg #[.bool true, .slice p n n]] w fun e w' => ∃ g k N us, e = .returned (ZV (true && decide (0 < n)) (some ⟨g, 0, none⟩) k N) ∧ At w' (some ⟨g, 0, none⟩) k N us ∧ Nf B64 us a ∧ w.heap.size ≤ g ∧ Below w.heap.size w w' := by
  have HX : Hid (Nf B32 zs a) := hx
  clear hx
  obtain ⟨sb, esb⟩ : ∃ sb, sb = (true && decide (0 < n)) := ⟨_, rfl⟩
  rw [← esb]
  have HSB : Hid (sb = (true && decide (0 < n))) := esb
  clear esb
  go_enter Tryz.func104, Tryz.ntmps104
  go_wp2_with fail
  have B0 : Box ((w.alloc (.cells #[.bool true, .slice p n n] 104)).alloc (.cells #[.bool false, .slice none 0 0] 31)) w.heap.size (.bool true) (.slice p n n) := ⟨by go_simp, by go_simp, by go_simp, by go_simp⟩
  have B1 : Box ((w.alloc (.cells #[.bool true, .slice p n n] 104)).alloc (.cells #[.bool false, .slice none 0 0] 31)) (w.heap.size + 1) (.bool false) (.slice none 0 0) := ⟨by go_simp, by go_simp, by go_simp, by go_simp⟩
  have hbw : Below w.heap.size w ((w.alloc (.cells #[.bool true, .slice p n n] 104)).alloc (.cells #[.bool false, .slice none 0 0] 31)) := below2 w _ _
  have hsW : ((w.alloc (.cells #[.bool true, .slice p n n] 104)).alloc (.cells #[.bool false, .slice none 0 0] 31)).heap.size = w.heap.size + 1 + 1 := by simp
  generalize ((w.alloc (.cells #[.bool true, .slice p n n] 104)).alloc (.cells #[.bool false, .slice none 0 0] 31)) = W at *
  obtain ⟨hs, ehs⟩ : ∃ hs, hs = w.heap.size := ⟨_, rfl⟩
  have HHS : Hid (hs = w.heap.size) := ehs
  rw [← ehs] at B0 B1 hsW ⊢
  have HSW : Hid (W.heap.size = hs + 1 + 1) := hsW
  have HBW : Hid (Below w.heap.size w W.drew) := bDrew hbw
  have HAT : Hid (At32 W.drew p n n zs) := (h.below hbw).drewN 1
  have X0 : Hid (Box W.drew hs (.bool true) (.slice p n n)) := ⟨B0.c0, B0.c1, B0.f0, B0.f1⟩
  have X1 : Hid (Box W.drew (hs + 1) (.bool false) (.slice none 0 0)) := ⟨B1.c0, B1.c1, B1.f0, B1.f1⟩
  obtain ⟨c00, c01, f00, f01⟩ := B0
  obtain ⟨c10, c11, f10, f11⟩ := B1
  clear ehs hsW hbw h
  have HF : Hid (sb = true) := by show _ = _; rw [HSB.out]; simp [h0]
  have hd0 : decide ((0 : Int) < (n : Int)) = true := decide_eq_true (by omega)
  first | (go_region_with ((go_at_call 144; refine (rto_any HAT.out hn).mono ?_; rintro e w1 ⟨g1, k1, N1, us, rfl, hg1, hA1, hnf1, hb1⟩; obtain ⟨d00, d01, e00, e01⟩ := X0.out.below hb1; obtain ⟨d10, d11, e10, e11⟩ := X1.out.below hb1; have HA1 : Hid (At w1 (some ⟨g1, 0, none⟩) k1 N1 us) := hA1; have HN1 : Hid (Nf B64 us (valB B32 zs)) := hnf1; have HB1 : Hid (Below w.heap.size w w1) := Below.on HBW.out hb1; have HG1 : Hid (hs + 1 + 1 ≤ g1) := Nat.le_trans (Nat.le_of_eq HSW.out.symm) hg1; clear hA1 hnf1 hb1 hg1))) | fail
  all_goals
    (go_wp2_with fail
     refine bodyPost_ret (v := ZV true (some ⟨g1, 0, none⟩) k1 N1) (by rw [results_cell1 rfl]; go_simp) rfl ⟨g1, k1, N1, us, by rw [HF.out], (HA1.out.setOther _ _ _ (by have := HG1.out; omega)).setOther _ _ _ (by have := HG1.out; omega), ?_, by have := HG1.out; have := HHS.out; omega, bSet (bSet HB1.out _ _ _ (by have := HHS.out; omega)) _ _ _ (by have := HHS.out; omega)⟩
     have hq := HN1.out
     rw [HX.out.val] at hq; exact hq)
def Told (z : Int) (s : Bool) (m : Nat) (zs : List Nat) (er : Int) : Prop :=
  (z.natAbs < LIM ∧ s = decide (z < 0) ∧ Nf B64 zs z.natAbs ∧ m ≤ 8192 ∧ er = 0) ∨ (LIM ≤ z.natAbs ∧ s = false ∧ zs = [] ∧ m = 0 ∧ er = 5)
theorem AnsI.any {B : Nat} {w' : World} {e : Ending} {z : Int} (h : AnsI B w' e z) : ∃ s p m zs er, e = .returned (.tuple #[ZV s p m m, .int .i64 er]) ∧ At w' p m m zs ∧ Told z s m zs er := by
  rcases h with ⟨hz, p, m, zs, rfl, ho, hn, hm⟩ | ⟨hz, rfl⟩
  · exact ⟨_, p, m, zs, 0, rfl, ho.at_ hm, .inl ⟨hz, rfl, hn, hm, rfl⟩⟩
  · exact ⟨false, none, 0, [], 5, rfl, At.empty _ none 0 (by decide), .inr ⟨hz, rfl, rfl, rfl, rfl⟩⟩
theorem Told.inj {z : Int} {s s' : Bool} {m m' : Nat} {zs zs' : List Nat} {er er' : Int} (h : Told z s m zs er) (k : Told z s' m' zs' er') : s = s' ∧ zs = zs' ∧ er = er' := by
  rcases h with ⟨hz, rfl, hn, hm, rfl⟩ | ⟨hz, rfl, rfl, rfl, rfl⟩ <;> rcases k with ⟨kz, rfl, kn, km, rfl⟩ | ⟨kz, rfl, rfl, rfl, rfl⟩
  · exact ⟨rfl, hn.inj B64_one kn, rfl⟩
  · omega
  · omega
  · exact ⟨rfl, rfl, rfl⟩
theorem Told.er {z : Int} {s : Bool} {m : Nat} {zs : List Nat} {er : Int} (h : Told z s m zs er) : er = 0 ∨ er = 5 := by
  rcases h with ⟨_, _, _, _, rfl⟩ | ⟨_, _, _, _, rfl⟩
  · exact .inl rfl
  · exact .inr rfl
theorem Told.ok {z : Int} {s : Bool} {m : Nat} {zs : List Nat} {w : World} {p : Option Addr} (h : Told z s m zs 0) (a : At w p m m zs) : Num w p m m zs z.natAbs ∧ s = decide (z < 0) := by
  rcases h with ⟨_, h1, h2, h3, _⟩ | ⟨_, _, _, _, h⟩
  · exact ⟨⟨a, h2, h3⟩, h1⟩
  · exact absurd h (by decide)
theorem Told.no {z : Int} {s : Bool} {m : Nat} {zs : List Nat} (h : Told z s m zs 5) : LIM ≤ z.natAbs := by
  rcases h with ⟨_, _, _, _, h⟩ | ⟨h, _⟩
  · exact absurd h (by decide)
  · exact h
theorem iv_abs (z : Int) : iv (decide (z < 0)) z.natAbs = z := by
  unfold iv
  by_cases h : z < 0
  · simp only [h, decide_true, if_true]; omega
  · simp only [h, decide_false, Bool.false_eq_true, if_false]; omega
theorem iv_natAbs (s : Bool) (a : Nat) : (iv s a).natAbs = a := by cases s <;> simp [iv]
theorem sgn_pos (z : Int) : decide (z < 0) = true → 0 < z.natAbs := by intro h; have := of_decide_eq_true h; omega

theorem to04_any {p : Option Addr} {n : Nat} {zs : List Nat} {a : Nat} {w : World} (b : Bool) (h : At32 w p n n zs) (hx : Nf B32 zs a) (hn : n ≤ 35184372088832) (h0 : b = true → 0 < n) :
    Calls Tryz.prog 104 #[.agg #[.bool b, .slice p n n]] w fun e w' => ∃ g k N us, e = .returned (ZV b (some ⟨g, 0, none⟩) k N) ∧ At w' (some ⟨g, 0, none⟩) k N us ∧ Nf B64 us a ∧ w.heap.size ≤ g ∧ Below w.heap.size w w' := by
  cases b
  · exact to04_f h hx hn
  · have := to04_p h hx hn (h0 rfl)
    rwa [decide_eq_true (h0 rfl)] at this
-- the document's side
theorem nf32_lt {zs : List Nat} {v K : Nat} (h : Nf B32 zs v) (hl : zs.length ≤ K) : v < B32 ^ K := by
  rw [← h.val]
  exact Nat.lt_of_lt_of_le (valB_lt B32_pos h.dig) (Nat.pow_le_pow_right B32_pos hl)
theorem nf32_ge {zs : List Nat} {v K : Nat} (h : Nf B32 zs v) (hl : K < zs.length) : B32 ^ K ≤ v := by
  rw [← h.val]
  exact Nat.le_trans (Nat.pow_le_pow_right B32_pos (by omega)) (valB_pos B32_pos (by intro e; rw [e] at hl; simp at hl) h.top)

theorem B32_pow (k : Nat) : B32 ^ k = 2 ^ (32 * k) := by rw [show B32 = 2 ^ 32 from rfl, ← Nat.pow_mul]
theorem bitsN_list32 {us : List Nat} {m x : Nat} (hd : Dig B32 us) (ht : Top us) (hl : us.length = m) (hm : m ≠ 0) (hx : x = us.getD (m - 1) 0) : bitsN (valB B32 us) = 32 * (m - 1) + bitsN x := by
  have h1 := valB_lt B32_pos (hd.take (m - 1))
  rw [List.length_take, hl, Nat.min_eq_left (by omega), B32_pow] at h1
  have hx0 : x ≠ 0 := by
    rw [hx]
    refine ht _ ?_
    rw [List.getLast?_eq_getElem?, hl, List.getD_eq_getElem?_getD, List.getElem?_eq_getElem (by omega)]; rfl
  have e : valB B32 us = valB B32 (us.take (m - 1)) + B32 ^ (m - 1) * x := by
    have := valB_take_succ B32 us (m - 1) (by omega)
    rw [show m - 1 + 1 = m by omega, List.take_of_length_le (by omega), ← hx] at this
    exact this
  rw [e, B32_pow]
  exact bitsN_top h1 (bitsN_lt x) (bitsN_le x hx0) (by unfold bitsN; rw [if_neg hx0]; omega)
theorem half_int (g : Nat) : (g : Int).tdiv 2 = ((g / 2 : Nat) : Int) := by
  rw [Int.tdiv_eq_ediv_of_nonneg (Int.natCast_nonneg g)]; omega

theorem rbits_any {p : Option Addr} {n c : Nat} {zs : List Nat} {v : Nat} {w : World} (h : At32 w p n c zs) (hx : Nf B32 zs v) (hn : n ≤ 35184372088832) :
    Calls Tryz.prog 156 #[.slice p n c] w fun e w' => e = .returned (.int .i64 (bitsN v)) ∧ w' = w := by
  have hl := h.len; have hcap := h.cap; have hbig := h.big
  unfold maxLen at hbig
  by_cases h0 : n = 0
  · subst h0
    have hv : v = 0 := by rw [← hx.val]; rw [List.eq_nil_of_length_eq_zero hl]; rfl
    subst hv
    clear hx
    go_enter Tryz.func156, Tryz.ntmps156
    go_wp2_with fail
    go_ret
    exact ⟨rfl, rfl⟩
  · obtain ⟨g, off, rfl, hc⟩ := h.cells.resolve_left h0
    obtain ⟨x, hx0⟩ : ∃ x, x = zs.getD (n - 1) 0 := ⟨_, rfl⟩
    have hcx : w.cell? ⟨g, off + (n - 1), none⟩ = some (V x) := by rw [hx0]; exact hc _ (by omega)
    have hxl : x < B32 := by
      rw [hx0, List.getD_eq_getElem?_getD, List.getElem?_eq_getElem (by omega)]
      exact h.dig _ (List.getElem_mem _)
    obtain ⟨T, hT⟩ : ∃ T, T = 32 * (n - 1) + bitsN x := ⟨_, rfl⟩
    have HT : Hid (bitsN v = T) := by show _ = _; rw [← hx.val, hT]; exact bitsN_list32 hx.dig hx.top hl h0 hx0
    have HX : Hid (x < B32) := hxl
    have HTT : Hid (T = 32 * (n - 1) + bitsN x) := hT
    obtain ⟨M, hM⟩ : ∃ M, M = n - 1 := ⟨_, rfl⟩
    have hn1 : (n : Int) - 1 = (M : Int) := by omega
    have h0' : ((n : Int) == 0) = false := by simp; omega
    rw [← hM] at hcx
    have HM : Hid (M = n - 1) := hM
    have hMl : M < n := by omega
    clear hx hl hc hx0 hxl hT h hM
    go_enter Tryz.func156, Tryz.ntmps156
    go_wp2_with fail
    have hTb : T ≤ 1200000000000000 := by
      have h1 := HTT.out
      have h2 : bitsN x ≤ 32 := by
        rcases Nat.lt_or_ge 32 (bitsN x) with e | e
        · exfalso
          have h3 : x ≠ 0 := by intro e0; rw [e0, bitsN_zero] at e; omega
          have h4 := bitsN_le x h3
          have h5 : (2:Nat) ^ 32 ≤ 2 ^ (bitsN x - 1) := Nat.pow_le_pow_right (by decide) (by omega)
          have h6 := HX.out
          rw [B32_eq] at h6
          omega
        · exact e
      omega
    go_loopg [3, 4] x (fun gk nv wv wr => ∃ N : Nat, nv = .int .i64 N ∧ wv = .int .u32 gk ∧ N + bitsN gk = T ∧ gk < B32 ∧ wr = w)
    case atStart => exact ⟨32 * M, by first | rfl | (congr 1; omega) | (simp; omega), rfl, by rw [HTT.out, HM.out], HX.out, rfl⟩
    case round =>
      obtain ⟨N, rfl, rfl, hNT, hgB, hwr⟩ := hrel
      obtain rfl := hwr.symm
      clear hwr
      by_cases hg0 : gk = 0
      · subst hg0
        rw [bitsN_zero] at hNT
        have HNT : Hid (N = T) := by show _ = _; omega
        clear hNT hgB
        go_wp2_with fail
        go_ret
        exact ⟨by rw [HT.out, ← HNT.out]; rfl, rfl⟩
      · have hb := bitsN_half gk hg0
        have hN1 : N + 1 ≤ 1200000000000000 := by omega
        have hgp : (0 : Int) < (gk : Int) := by omega
        have hh := half_int gk
        obtain ⟨k2, hk2⟩ : ∃ k2, k2 = gk / 2 := ⟨_, rfl⟩
        rw [← hk2] at hh hb
        have HK2 : Hid (k2 < gk ∧ N + 1 + bitsN k2 = T ∧ k2 < B32) := ⟨by omega, by omega, by omega⟩
        have hw2 : IntKind.u32.wrap (k2 : Int) = (k2 : Int) := wrap32 k2 (by omega)
        clear hb hNT hgB hk2 hg0
        go_wp2_with fail
        go_roundg k2
        case measure => exact HK2.out.1
        case rel => exact ⟨N + 1, by first | rfl | simp, by first | rfl | simp, HK2.out.2.1, HK2.out.2.2, rfl⟩

def DocIs (v : Nat) (us : List Nat) (f : Int) : Prop := (v < LIM ∧ Nf B64 us v ∧ f = 0) ∨ (LIM ≤ v ∧ us = [] ∧ f = 5)
theorem digit_bit {b e : Nat} (hb : b = 2 ^ e) {xs : List Nat} (hd : Dig b xs) {D R : Nat} (hD : D < xs.length) (hR : R < e) : xs.getD D 0 / 2 ^ R % 2 = valB b xs / 2 ^ (e * D + R) % 2 := by
  have hbp : 0 < b := by rw [hb]; exact Nat.pow_pos (by decide)
  have h1 : valB b (xs.drop D) = valB b xs / b ^ D := by
    have h2 := valB_split b xs D (Nat.le_of_lt hD)
    have h3 := valB_lt hbp (hd.take D)
    rw [List.length_take, Nat.min_eq_left (Nat.le_of_lt hD)] at h3
    rw [h2, Nat.add_mul_div_left _ _ (Nat.pow_pos hbp), Nat.div_eq_of_lt h3, Nat.zero_add]
  have h4 := valB_drop b xs D hD
  have h5 : b ^ D = 2 ^ (e * D) := by rw [hb, ← Nat.pow_mul]
  rw [Nat.pow_add, ← Nat.div_div_eq_div_mul, ← h5, ← h1, h4]
  obtain ⟨k, hk⟩ : ∃ k, e = R + 1 + k := ⟨e - R - 1, by omega⟩
  have h6 : b = 2 ^ R * (2 * 2 ^ k) := by rw [hb, hk, Nat.pow_add, Nat.pow_add, Nat.pow_one, Nat.mul_assoc]
  rw [h6, Nat.mul_assoc (2 ^ R), Nat.add_mul_div_left _ _ (Nat.pow_pos (by decide)), Nat.mul_assoc 2, Nat.add_mul_mod_self_left]
theorem and_one_u64q (i : Nat) (_hi : i < B64) : bits BinOp.and IntKind.u64 (i : Int) 1 = ((i % 2 : Nat) : Int) := by
  have h1 : (BitVec.ofInt 64 1).toNat = 2 ^ 1 - 1 := by decide
  have key : (BitVec.ofInt 64 (i : Int) &&& BitVec.ofInt 64 1).toNat = ((i : Int) % ((2 ^ 64 : Nat) : Int)).toNat % 2 ^ 1 := by
    rw [BitVec.toNat_and, BitVec.toNat_ofInt, h1, Nat.and_two_pow_sub_one_eq_mod]
  show IntKind.u64.wrap ((BitVec.ofInt 64 (i : Int) &&& BitVec.ofInt 64 1).toNat : Nat) = _
  rw [key]
  simp only [IntKind.wrap, IntKind.signed, IntKind.bits]
  simp
  omega

theorem bit_any {p : Option Addr} {n c : Nat} {xs : List Nat} {w : World} (h : At w p n c xs) (_hn : n ≤ 17592186044416) (i : Nat) (hi : i ≤ 9223372036854775807) :
    Calls Tryz.prog 66 #[.slice p n c, .int .i64 i] w fun e w' => e = .returned (.bool (decide (valB B64 xs / 2 ^ i % 2 = 1))) ∧ w' = w := by
  have hl := h.len
  have cap := h.cap
  have big := h.big
  unfold maxLen at big
  obtain ⟨D, hD⟩ : ∃ D, D = i / 64 := ⟨_, rfl⟩
  obtain ⟨R, hR⟩ : ∃ R, R = i % 64 := ⟨_, rfl⟩
  have d1 : (i : Int).tdiv 64 = (D : Int) := by rw [Int.tdiv_eq_ediv_of_nonneg (by omega)]; omega
  have d2 : (i : Int).tmod 64 = (R : Int) := by rw [Int.tmod_eq_emod_of_nonneg (by omega)]; omega
  have hneg : ¬ (i : Int) < 0 := by omega
  have hDb : D ≤ 144115188075855871 := by omega
  have hR64 : R < 64 := by omega
  have hei : i = 64 * D + R := by omega
  obtain ⟨r, hr⟩ : ∃ r, r = decide (valB B64 xs / 2 ^ i % 2 = 1) := ⟨_, rfl⟩
  rw [← hr]
  by_cases hc : n ≤ D
  · have HR0 : Hid (r = false) := by
      show _ = _
      rw [hr]
      refine decide_eq_false ?_
      have h1 : valB B64 xs < 2 ^ i := by
        have h2 := valB_lt B64_pos h.dig
        rw [hl] at h2
        refine Nat.lt_of_lt_of_le h2 ?_
        rw [B64_pow]
        exact Nat.pow_le_pow_right (by decide) (by omega)
      rw [Nat.div_eq_of_lt h1]
      decide
    have hci : (n : Int) ≤ (D : Int) := by omega
    have hcb : decide (n ≤ D) = true := decide_eq_true hc
    clear hr hei hD hR h hl
    go_enter Tryz.func66, Tryz.ntmps66
    go_wp2_with fail
    go_ret
    exact ⟨by rw [HR0.out]; rfl, rfl⟩
  · have hDn : D < n := by omega
    have hcb : decide (n ≤ D) = false := decide_eq_false hc
    obtain ⟨g, off, rfl, hcs⟩ := h.cells.resolve_left (by omega)
    obtain ⟨x, hx⟩ : ∃ x, x = xs.getD D 0 := ⟨_, rfl⟩
    have hcx : w.cell? ⟨g, off + D, none⟩ = some (U x) := by rw [hx]; exact hcs D hDn
    have hxb : x < B64 := by rw [hx]; exact h.dig.getD B64_pos D
    obtain ⟨y, hy⟩ : ∃ y, y = x / 2 ^ R := ⟨_, rfl⟩
    have hyI : (x : Int) / 2 ^ R = (y : Int) := by rw [hy]; norm_cast
    have hyb : y < B64 := by rw [hy]; exact Nat.lt_of_le_of_lt (Nat.div_le_self _ _) hxb
    obtain ⟨z, hz⟩ : ∃ z, z = y % 2 := ⟨_, rfl⟩
    have hand : bits BinOp.and IntKind.u64 (y : Int) 1 = (z : Int) := by rw [hz]; exact and_one_u64q y hyb
    have HR1 : Hid (r = decide (z = 1)) := by
      show _ = _
      rw [hr, hz, hy, hx, digit_bit B64_two_pow h.dig (by rw [hl]; exact hDn) hR64, ← hei]
    have hwD : IntKind.i64.wrap (D : Int) = (D : Int) := by simp [IntKind.wrap, IntKind.signed, IntKind.bits]; omega
    clear hr hei hD hR h hl hcs hx hy hz hxb hyb
    go_enter Tryz.func66, Tryz.ntmps66
    go_wp2_with fail
    go_ret
    have hzz : ((z : Int) == 1) = decide (z = 1) := by rw [Bool.eq_iff_iff]; simp; omega
    exact ⟨by rw [HR1.out, ← hzz]; rfl, rfl⟩
theorem and_one_u32q (i : Nat) (_hi : i < B32) : bits BinOp.and IntKind.u32 (i : Int) 1 = ((i % 2 : Nat) : Int) := by
  have h1 : (BitVec.ofInt 32 1).toNat = 2 ^ 1 - 1 := by decide
  have key : (BitVec.ofInt 32 (i : Int) &&& BitVec.ofInt 32 1).toNat = ((i : Int) % ((2 ^ 32 : Nat) : Int)).toNat % 2 ^ 1 := by
    rw [BitVec.toNat_and, BitVec.toNat_ofInt, h1, Nat.and_two_pow_sub_one_eq_mod]
  show IntKind.u32.wrap ((BitVec.ofInt 32 (i : Int) &&& BitVec.ofInt 32 1).toNat : Nat) = _
  rw [key]
  simp only [IntKind.wrap, IntKind.signed, IntKind.bits]
  simp
  omega
theorem rbit_any {p : Option Addr} {n c : Nat} {xs : List Nat} {w : World} (h : At32 w p n c xs) (_hn : n ≤ 35184372088832) (i : Nat) (hi : i ≤ 9223372036854775807) :
    Calls Tryz.prog 142 #[.slice p n c, .int .i64 i] w fun e w' => e = .returned (.int .i64 (valB B32 xs / 2 ^ i % 2 : Nat)) ∧ w' = w := by
  have hl := h.len
  have cap := h.cap
  have big := h.big
  unfold maxLen at big
  obtain ⟨D, hD⟩ : ∃ D, D = i / 32 := ⟨_, rfl⟩
  obtain ⟨R, hR⟩ : ∃ R, R = i % 32 := ⟨_, rfl⟩
  have d1 : (i : Int).tdiv 32 = (D : Int) := by rw [Int.tdiv_eq_ediv_of_nonneg (by omega)]; omega
  have d2 : (i : Int).tmod 32 = (R : Int) := by rw [Int.tmod_eq_emod_of_nonneg (by omega)]; omega
  have hneg : ¬ (i : Int) < 0 := by omega
  have hDb : D ≤ 288230376151711743 := by omega
  have hR64 : R < 32 := by omega
  have hei : i = 32 * D + R := by omega
  obtain ⟨r, hr⟩ : ∃ r, r = valB B32 xs / 2 ^ i % 2 := ⟨_, rfl⟩
  rw [← hr]
  by_cases hc : n ≤ D
  · have HR0 : Hid (r = 0) := by
      show _ = _
      rw [hr]
      have h1 : valB B32 xs < 2 ^ i := by
        have h2 := valB_lt B32_pos h.dig
        rw [hl] at h2
        refine Nat.lt_of_lt_of_le h2 ?_
        rw [B32_pow]
        exact Nat.pow_le_pow_right (by decide) (by omega)
      rw [Nat.div_eq_of_lt h1]
    have hci : (n : Int) ≤ (D : Int) := by omega
    have hcb : decide (n ≤ D) = true := decide_eq_true hc
    clear hr hei hD hR h hl
    go_enter Tryz.func142, Tryz.ntmps142
    go_wp2_with fail
    go_ret
    exact ⟨by rw [HR0.out]; rfl, rfl⟩
  · have hDn : D < n := by omega
    have hcb : decide (n ≤ D) = false := decide_eq_false hc
    obtain ⟨g, off, rfl, hcs⟩ := h.cells.resolve_left (by omega)
    obtain ⟨x, hx⟩ : ∃ x, x = xs.getD D 0 := ⟨_, rfl⟩
    have hcx : w.cell? ⟨g, off + D, none⟩ = some (V x) := by rw [hx]; exact hcs D hDn
    have hxb : x < B32 := by rw [hx]; exact h.dig.getD B32_pos D
    obtain ⟨y, hy⟩ : ∃ y, y = x / 2 ^ R := ⟨_, rfl⟩
    have hyI : (x : Int) / 2 ^ R = (y : Int) := by rw [hy]; norm_cast
    have hyb : y < B32 := by rw [hy]; exact Nat.lt_of_le_of_lt (Nat.div_le_self _ _) hxb
    obtain ⟨z, hz⟩ : ∃ z, z = y % 2 := ⟨_, rfl⟩
    have hand : bits BinOp.and IntKind.u32 (y : Int) 1 = (z : Int) := by rw [hz]; exact and_one_u32q y hyb
    have HR1 : Hid (r = z) := by
      show _ = _
      rw [hr, hz, hy, hx, digit_bit (show B32 = 2 ^ 32 from rfl) h.dig (by rw [hl]; exact hDn) hR64, ← hei]
    have hz2 : z < 2 := by omega
    have hzw : IntKind.i64.wrap (z : Int) = (z : Int) := by simp [IntKind.wrap, IntKind.signed, IntKind.bits]; omega
    have hwD : IntKind.i64.wrap (D : Int) = (D : Int) := by simp [IntKind.wrap, IntKind.signed, IntKind.bits]; omega
    clear hr hei hD hR h hl hcs hx hy hz hxb hyb
    go_enter Tryz.func142, Tryz.ntmps142
    go_wp2_with fail
    go_ret
    exact ⟨by rw [HR1.out]; rfl, rfl⟩
def TzIs (v k : Nat) : Prop := v % 2 ^ k = 0 ∧ v / 2 ^ k % 2 = 1
theorem TzIs.inj {v k l : Nat} (h : TzIs v k) (h' : TzIs v l) : k = l := by
  have aux : ∀ {a b : Nat}, TzIs v a → TzIs v b → ¬ a < b := by
    intro a b ha hb hab
    obtain ⟨d, hd⟩ : ∃ d, b = a + (d + 1) := ⟨b - a - 1, by omega⟩
    have h1 := Nat.dvd_of_mod_eq_zero hb.1
    obtain ⟨q, hq⟩ := h1
    have h2 := ha.2
    rw [hq, hd, Nat.pow_add, Nat.mul_assoc, Nat.mul_div_cancel_left _ (Nat.pow_pos (by decide)), Nat.pow_succ, Nat.mul_comm (2 ^ d) 2, Nat.mul_assoc, Nat.mul_mod_right] at h2
    exact absurd h2 (by decide)
  rcases Nat.lt_trichotomy k l with e | e | e
  · exact absurd e (aux h h')
  · exact e
  · exact absurd e (aux h' h)
theorem TzIs.ex : ∀ (v : Nat), 0 < v → ∃ k, TzIs v k := by
  intro v
  induction v using Nat.strongRecOn with
  | _ v ih =>
    intro hv
    rcases Nat.mod_two_eq_zero_or_one v with h | h
    · obtain ⟨k, h1, h2⟩ := ih (v / 2) (by omega) (by omega)
      refine ⟨k + 1, ?_, ?_⟩
      · rw [Nat.pow_succ, Nat.mul_comm, Nat.mod_mul, h, h1]
      · rw [Nat.pow_succ, Nat.mul_comm, ← Nat.div_div_eq_div_mul]; exact h2
    · exact ⟨0, by rw [Nat.pow_zero, Nat.mod_one], by rw [Nat.pow_zero, Nat.div_one]; exact h⟩
theorem TzIs.ge {v k n : Nat} (h : TzIs v k) (hn : v % 2 ^ n = 0) : n ≤ k := by
  rcases Nat.lt_or_ge k n with e | e
  · exfalso
    obtain ⟨d, hd⟩ : ∃ d, n = k + (d + 1) := ⟨n - k - 1, by omega⟩
    obtain ⟨q, hq⟩ := Nat.dvd_of_mod_eq_zero hn
    have h2 := h.2
    rw [hq, hd, Nat.pow_add, Nat.mul_assoc, Nat.mul_div_cancel_left _ (Nat.pow_pos (by decide)), Nat.pow_succ, Nat.mul_comm (2 ^ d) 2, Nat.mul_assoc, Nat.mul_mod_right] at h2
    exact absurd h2 (by decide)
  · exact e
theorem tz_step {v n : Nat} (h : v % 2 ^ n = 0) (hb : v / 2 ^ n % 2 = 0) : v % 2 ^ (n + 1) = 0 := by
  rw [Nat.pow_succ, Nat.mod_mul, h, hb, Nat.mul_zero]

theorem rzeros_any {p : Option Addr} {n c : Nat} {xs : List Nat} {v k : Nat} {w : World} (h : At32 w p n c xs) (hx : Nf B32 xs v) (hn : n ≤ 35184372088832) (hk : TzIs v k) (hv : 0 < v) :
    Calls Tryz.prog 102 #[.slice p n c] w fun e w' => e = .returned (.int .i64 k) ∧ w' = w := by
  have HX : Hid (Nf B32 xs v) := hx
  have HA : Hid (At32 w p n c xs) := h
  have HK : Hid (TzIs v k) := hk
  have HV : Hid (0 < v) := hv
  have hl := h.len
  have cap := h.cap
  have big := h.big
  unfold maxLen at big
  have hn0 : 0 < n := by
    rcases Nat.eq_zero_or_pos n with e | e
    · exfalso
      rw [e] at hl
      have := hx.val
      rw [List.eq_nil_of_length_eq_zero hl] at this
      simp [valB] at this
      omega
    · exact e
  have hkb : k < 32 * n := by
    rcases Nat.lt_or_ge k (32 * n) with e | e
    · exact e
    · exfalso
      have h1 : v < 2 ^ k := by
        have h2 := valB_lt B32_pos hx.dig
        rw [hx.val, hl, B32_pow] at h2
        exact Nat.lt_of_lt_of_le h2 (Nat.pow_le_pow_right (by decide) e)
      have h3 := hk.2
      rw [Nat.div_eq_of_lt h1] at h3
      exact absurd h3 (by decide)
  have hne : ((n : Int) == 0) = false := by simp; omega
  have HL : Hid (xs.length = n) := hl
  obtain ⟨g, off, rfl, hcs⟩ := h.cells.resolve_left (by omega)
  have HCS : Hid (∀ j, j < n → w.cell? ⟨g, off + j, none⟩ = some (V (xs.getD j 0))) := hcs
  clear hx h hk hv hl hcs
  go_enter Tryz.func102, Tryz.ntmps102
  go_wp2_with fail
  go_loopg [3] n (fun gk nv wr => ∃ j M : Nat, j + gk = n ∧ nv = .int .i64 M ∧ M = 32 * j ∧ Hid (valB B32 (xs.take j) = 0) ∧ wr = w)
  case atStart => exact ⟨0, 0, by omega, rfl, rfl, by show _ = _; simp [valB], rfl⟩
  case round =>
    obtain ⟨j, M, hjg, rfl, hMj, HZ, hwr⟩ := hrel
    obtain rfl := hwr.symm
    clear hwr
    cases gk with
    | zero =>
      exfalso
      obtain rfl : j = n := by omega
      have h1 := HZ.out
      rw [List.take_of_length_le (by rw [HL.out]; omega), HX.out.val] at h1
      have h2 := HV.out
      omega
    | succ gg =>
      have hjn : j < n := by omega
      obtain ⟨x, hx⟩ : ∃ x, x = xs.getD j 0 := ⟨_, rfl⟩
      have hcx : w.cell? ⟨g, off + j, none⟩ = some (V x) := by rw [hx]; exact HCS.out j hjn
      have d1 : (M : Int).tdiv 32 = (j : Int) := by rw [Int.tdiv_eq_ediv_of_nonneg (by omega)]; omega
      have hjI : (j : Int) < (n : Int) := by omega
      have hwj : IntKind.i64.wrap (j : Int) = (j : Int) := by simp [IntKind.wrap, IntKind.signed, IntKind.bits]; omega
      have hMb : M ≤ 1125899906842624 := by omega
      have hjb : j ≤ 35184372088832 := by omega
      have HMj : Hid (M = 32 * j) := hMj
      clear hMj
      by_cases hx0 : x = 0
      · have HZ1 : Hid (valB B32 (xs.take (j + 1)) = 0) := by
          show _ = _
          rw [valB_take_any, HZ.out, ← hx, hx0, Nat.mul_zero]
        subst hx0
        clear hx HZ
        go_wp2_with fail
        go_roundg gg
        case measure => omega
        case rel => exact ⟨j + 1, M + 32, by omega, by go_num, by have := HMj.out; omega, HZ1, rfl⟩
      · have hxI : ((x : Int) == 0) = false := by simp; omega
        have HM0 : Hid (v % 2 ^ M = 0) := by
          show _ = _
          have h1 := valB_split B32 xs j (by rw [HL.out]; omega)
          rw [HMj.out, ← B32_pow, ← HX.out.val, h1, HZ.out, Nat.zero_add, Nat.mul_mod_right]
        have hMk : M ≤ k := HK.out.ge HM0.out
        clear hx HZ
        go_wp2_with fail
        go_loopg [3] (k - M) (fun gm nv wr => ∃ m : Nat, nv = .int .i64 m ∧ m + gm = k ∧ Hid (v % 2 ^ m = 0) ∧ wr = w)
        case atStart => exact ⟨M, rfl, by omega, HM0, rfl⟩
        case round =>
          obtain ⟨m, rfl, hmk, HB, hwr⟩ := hrel
          obtain rfl := hwr.symm
          clear hwr
          have hmb : m ≤ 1125899906842624 := by omega
          cases gk with
          | zero =>
            obtain rfl : m = k := by omega
            have hb1 := HK.out.2
            go_wp2_with fail
            refine (rbit_any HA.out hn m (by omega)).mono ?_
            rintro e w1 ⟨rfl, hw⟩
            rw [HX.out.val, hb1]
            obtain rfl := hw.symm
            clear hw hb1
            go_wp2_with fail
            go_ret
            exact ⟨rfl, rfl⟩
          | succ gg2 =>
            have hb0 : v / 2 ^ m % 2 = 0 := by
              rcases Nat.mod_two_eq_zero_or_one (v / 2 ^ m) with e | e
              · exact e
              · have := HK.out.inj ⟨HB.out, e⟩; omega
            have HB1 : Hid (v % 2 ^ (m + 1) = 0) := tz_step HB.out hb0
            go_wp2_with fail
            refine (rbit_any HA.out hn m (by omega)).mono ?_
            rintro e w1 ⟨rfl, hw⟩
            rw [HX.out.val, hb0]
            obtain rfl := hw.symm
            clear hw hb0
            go_wp2_with fail
            go_roundg gg2
            case measure => omega
            case rel => exact ⟨m + 1, by go_num, by omega, HB1, rfl⟩
def renTz : Ren := ⟨fun x => match x with | 29 => 122 | n => n, fun x => match x with | 0 => 0 | 3 => 3 | 4 => 4 | 5 => 5 | 22 => 23 | 25 => 154 | 54 => 188 | n => n, fun x => match x with | 1 => 2 | n => n⟩
theorem laysTz : Lays7.n29 Tryz.prog renTz :=
  { mixed := by kernel_rfl, f29 := Tryz.func122.trans (congrArg some (by kernel_rfl)),
    t0 := by kernel_rfl, a0 := fun w => by kernel_rfl, z0 := fun w => by kernel_rfl, v0 := fun w => by kernel_rfl, i0 := by kernel_rfl,
    t3 := Tryz.underlying3, a3 := Tryz.isAgg3, z3 := Tryz.sizeOf3, v3 := Tryz.zeroValue3, i3 := by kernel_rfl,
    t4 := Tryz.underlying4, a4 := Tryz.isAgg4, z4 := Tryz.sizeOf4, v4 := Tryz.zeroValue4, i4 := by kernel_rfl,
    t5 := Tryz.underlying5, a5 := Tryz.isAgg5, z5 := Tryz.sizeOf5, v5 := Tryz.zeroValue5, i5 := by kernel_rfl,
    t22 := Tryz.underlying23, a22 := Tryz.isAgg23, z22 := Tryz.sizeOf23, v22 := Tryz.zeroValue23, i22 := by kernel_rfl,
    t25 := Tryz.underlying154, a25 := Tryz.isAgg154, z25 := Tryz.sizeOf154, v25 := Tryz.zeroValue154, i25 := by kernel_rfl,
    t54 := Tryz.underlying188, a54 := Tryz.isAgg188, z54 := Tryz.sizeOf188, g1 := by kernel_rfl }

def Tab (w : World) : Prop := TabAt 2 Lib.deBruijn64tab w
theorem Tab.below {w w' : World} (h : Tab w) (hb : Below w.heap.size w w') : Tab w' := by
  intro j hj
  have h1 := h j hj
  have hl : 2 < w.heap.size := World.block_lt_of_cell? w _ h1
  exact (hb.cell (p := ⟨2, j, none⟩) hl).trans h1
theorem ctz_is {x : Nat} (h0 : x ≠ 0) (hx : x < B64) : TzIs x (Lib.ctz 64 x) ∧ Lib.ctz 64 x < 64 := by
  rw [B64_two_pow] at hx
  unfold Lib.ctz
  rw [if_neg h0]
  obtain ⟨m, hm, hk⟩ := Lib.ctzFrom_spec 64 x (by omega) hx
  generalize Lib.ctzFrom 64 x = k at *
  refine ⟨⟨?_, ?_⟩, hk⟩
  · rw [hm, Nat.mul_mod_right]
  · rw [hm, Nat.mul_div_cancel_left _ (Nat.pow_pos (by decide))]; omega
theorem tz_any {x r : Nat} (h0 : x ≠ 0) (hx : x < B64) (hr : TzIs x r) {w : World} (hT : Tab w) : Calls Tryz.prog 122 #[U x] w fun e w' => e = .returned (.int .i64 r) ∧ w' = w := by
  obtain ⟨h1, _⟩ := ctz_is h0 hx
  obtain rfl := hr.inj h1
  exact Any7.bits_TrailingZeros64 laysTz x (by rw [B64_eq] at hx; exact hx) w (fun _ => hT)

theorem tz_lift {xs : List Nat} (hd : Dig B64 xs) {j r : Nat} (hj : j < xs.length) (hz : valB B64 (xs.take j) = 0) (hr : TzIs (xs.getD j 0) r) (hr64 : r < 64) : TzIs (valB B64 xs) (64 * j + r) := by
  constructor
  · have h1 := valB_split B64 xs j (Nat.le_of_lt hj)
    have h2 := valB_drop B64 xs j hj
    rw [hz, Nat.zero_add, h2] at h1
    rw [h1, B64_pow, Nat.pow_add, Nat.mul_mod_mul_left]
    obtain ⟨k, hk⟩ : ∃ k, 64 = r + k := ⟨64 - r, by omega⟩
    have h3 : B64 = 2 ^ r * 2 ^ k := by rw [← Nat.pow_add, ← hk]; rfl
    rw [h3, Nat.mul_assoc, Nat.add_mul_mod_self_left, hr.1, Nat.mul_zero]
  · have h1 := digit_bit (b := B64) (e := 64) rfl hd hj hr64
    rw [← h1]
    exact hr.2

def TzO (v k : Nat) : Prop := (v = 0 ∧ k = 0) ∨ (v ≠ 0 ∧ TzIs v k)
theorem TzO.inj {v k l : Nat} (h : TzO v k) (h' : TzO v l) : k = l := by
  rcases h with ⟨h1, rfl⟩ | ⟨h1, h2⟩ <;> rcases h' with ⟨h3, rfl⟩ | ⟨h3, h4⟩
  · rfl
  · exact absurd h1 h3
  · exact absurd h3 h1
  · exact h2.inj h4
theorem TzO.ex (v : Nat) : ∃ k, TzO v k := by
  by_cases h : v = 0
  · exact ⟨0, .inl ⟨h, rfl⟩⟩
  · obtain ⟨k, hk⟩ := TzIs.ex v (by omega)
    exact ⟨k, .inr ⟨h, hk⟩⟩

theorem trail_any {p : Option Addr} {n c : Nat} {xs : List Nat} {k : Nat} {w : World} (h : At w p n c xs) (hn : n ≤ 17592186044416) (hk : TzO (valB B64 xs) k) (hT : Tab w) :
    Calls Tryz.prog 78 #[.slice p n c] w fun e w' => e = .returned (.int .i64 k) ∧ w' = w := by
  have HT : Hid (Tab w) := hT
  have HK : Hid (TzO (valB B64 xs) k) := hk
  have HD : Hid (Dig B64 xs) := h.dig
  have HL : Hid (xs.length = n) := h.len
  have cap := h.cap
  have big := h.big
  unfold maxLen at big
  have HC : Hid (n = 0 ∨ ∃ g off, p = some ⟨g, off, none⟩ ∧ ∀ j, j < n → w.cell? ⟨g, off + j, none⟩ = some (U (xs.getD j 0))) := h.cells
  clear h hk hT
  go_enter Tryz.func78, Tryz.ntmps78
  go_wp2_with fail
  go_loopg [6] n (fun gk iv wr => ∃ j : Nat, j + gk = n ∧ iv = .int .i64 j ∧ Hid (valB B64 (xs.take j) = 0) ∧ wr = w)
  case atStart => exact ⟨0, by omega, rfl, by show _ = _; simp [valB], rfl⟩
  case round =>
    obtain ⟨j, hjg, rfl, HZ, hwr⟩ := hrel
    obtain rfl := hwr.symm
    clear hwr
    cases gk with
    | zero =>
      obtain rfl : j = n := by omega
      have hnk : ¬ (j : Int) < (j : Int) := by omega
      have HK0 : Hid (k = 0) := by
        show _ = _
        have h1 := HZ.out
        rw [List.take_of_length_le (by rw [HL.out]; omega)] at h1
        exact HK.out.inj (.inl ⟨h1, rfl⟩)
      go_wp2_with fail
      go_ret
      exact ⟨ret_int (by have := HK0.out; omega), rfl⟩
    | succ gg =>
      have hjn : j < n := by omega
      obtain ⟨g, off, rfl, hcs⟩ := HC.out.resolve_left (by omega)
      obtain ⟨x, hx⟩ : ∃ x, x = xs.getD j 0 := ⟨_, rfl⟩
      have hcx : w.cell? ⟨g, off + j, none⟩ = some (U x) := by rw [hx]; exact hcs j hjn
      have hjI : (j : Int) < (n : Int) := by omega
      have hwj : IntKind.i64.wrap (j : Int) = (j : Int) := by simp [IntKind.wrap, IntKind.signed, IntKind.bits]; omega
      have hjb : j ≤ 17592186044416 := by omega
      have HXB : Hid (x < B64) := by show _ < _; rw [hx]; exact HD.out.getD B64_pos _
      clear hcs
      by_cases hx0 : x = 0
      · have HZ1 : Hid (valB B64 (xs.take (j + 1)) = 0) := by
          show _ = _
          rw [valB_take_any, HZ.out, ← hx, hx0, Nat.mul_zero]
        subst hx0
        clear hx HZ
        go_wp2_with fail
        go_roundg gg
        case measure => omega
        case rel => exact ⟨j + 1, by omega, by go_num, HZ1, rfl⟩
      · have hxI : ((x : Int) == 0) = false := by simp; omega
        obtain ⟨hr1, hr2⟩ := ctz_is hx0 HXB.out
        generalize Lib.ctz 64 x = r at *
        have HR : Hid (TzIs x r) := hr1
        have HKR : Hid (k = 64 * j + r) := by
          show _ = _
          have h1 := tz_lift HD.out (by rw [HL.out]; omega) HZ.out (hx ▸ hr1) hr2
          refine HK.out.inj (.inr ⟨fun e => ?_, h1⟩)
          have h2 := h1.2
          rw [e, Nat.zero_div] at h2
          exact absurd h2 (by decide)
        clear hr1 hx HZ
        go_wp2_with (go_at_call 122; refine (tz_any hx0 HXB.out HR.out HT.out).mono ?_; rintro e w' ⟨rfl, hw⟩; obtain rfl := hw.symm; clear hw)
        go_ret
        exact ⟨ret_int (by have := HKR.out; omega), rfl⟩
structure SubMulRel (w : World) (g off m : Nat) (zs ys : List Nat) (v k cy : Nat) (dk : List Nat) (wr : World) : Prop where
  wrs : Wr g off m w wr
  row : Row wr g off m dk
  hi : dk.drop k = zs.drop k
  car : cy < B64
  sum : valB B64 (zs.take k) + B64 ^ k * cy = valB B64 (dk.take k) + valB B64 (ys.take k) * v

theorem SubMulRel.step {w : World} {g off m : Nat} {zs ys : List Nat} {v k cy : Nat} {dk : List Nat} {wr : World} (h : SubMulRel w g off m zs ys v k cy dk wr) (hk : k < m)
    {x z l d : Nat} (hz : z = dk.getD k 0) (hx : x = ys.getD k 0) (hs : l + x * v + cy = z + B64 * d) (hl : l < B64) (hd : d < B64) :
    SubMulRel w g off m zs ys v (k + 1) d (dk.set k l) (wr.setCell ⟨g, off + k, none⟩ (U l)) := by
  have hlen := h.row.len
  refine ⟨h.wrs.setCell (off + k) ⟨by omega, by omega⟩ _, h.row.set k l hk hl, ?_, hd, ?_⟩
  · rw [drop_set_lt]; exact drop_succ_of_drop h.hi
  · have hzz : z = zs.getD k 0 := hz.trans (getD_of_drop h.hi)
    rw [take_set_succ dk k l (by omega), valB_snoc, List.length_take, hlen, Nat.min_eq_left (by omega), valB_take_any _ zs k, valB_take_any _ ys k, ← hzz, ← hx, Nat.pow_succ, Nat.add_mul]
    have e1 := h.sum
    have e2 : B64 ^ k * (l + x * v + cy) = B64 ^ k * (z + B64 * d) := by rw [hs]
    rw [Nat.mul_add, Nat.mul_add, Nat.mul_add, ← Nat.mul_assoc] at e2
    have e3 : B64 ^ k * x * v = B64 ^ k * (x * v) := Nat.mul_assoc _ _ _
    have e4 : B64 ^ k * B64 * d = B64 ^ k * (B64 * d) := Nat.mul_assoc _ _ _
    rw [e3, e4]
    rw [← Nat.mul_assoc] at e2
    generalize B64 ^ k * x * v = X0 at *
    generalize B64 ^ k * (x * v) = X1 at *
    generalize B64 ^ k * B64 * d = X2 at *
    generalize B64 ^ k * (B64 * d) = X3 at *
    generalize B64 ^ k * z = X4 at *
    generalize B64 ^ k * cy = X5 at *
    generalize B64 ^ k * l = X6 at *
    omega
theorem trial_step {q d l f s w0 w1 w2 : Nat} (h : q * (s + B64 * f) ≤ w0 + B64 * (w1 + B64 * w2)) (hi : d * f + l = w1 + B64 * w2) (hg : l * B64 + w0 < d * s) : q < d := by
  have h1 : d * (s + B64 * f) = d * s + B64 * (d * f) := by rw [Nat.mul_add, Nat.mul_left_comm]
  have h2 : B64 * (d * f) + B64 * l = B64 * (w1 + B64 * w2) := by rw [← Nat.mul_add, hi]
  have h3 : l * B64 = B64 * l := Nat.mul_comm _ _
  have h4 : q * (s + B64 * f) < d * (s + B64 * f) := by omega
  exact Nat.lt_of_mul_lt_mul_right h4
structure TrialC (ws ds : List Nat) (n w0 w1 w2 s f q : Nat) : Prop where
  e0 : w0 = ws.getD (n - 2) 0
  e1 : w1 = ws.getD (n - 1) 0
  e2 : w2 = ws.getD n 0
  es : s = ds.getD (n - 2) 0
  ef : f = ds.getD (n - 1) 0
  b0 : w0 < B64
  b1 : w1 < B64
  b2 : w2 < B64
  bs : s < B64
  bf : f < B64
  top : q * (s + B64 * f) ≤ w0 + B64 * (w1 + B64 * w2)
  le : w2 ≤ f
  qb : q < B64
theorem At.cellAt {w : World} {g off n c : Nat} {xs : List Nat} (h : At w (some ⟨g, off, none⟩) n c xs) (j : Nat) (hj : j < n) : w.cell? ⟨g, off + j, none⟩ = some (U (xs.getD j 0)) := by
  obtain ⟨g', o', he, hcell⟩ := h.cells.resolve_left (by omega)
  simp only [Option.some.injEq, Addr.mk.injEq, and_true] at he
  obtain ⟨rfl, rfl⟩ := he
  exact hcell j hj

structure TrialR (w1 w2 f q d l o : Nat) : Prop where
  qd : q ≤ d
  db : d < B64
  lb : l < B64
  ob : o ≤ 1
  sum : o = 0 → d * f + l = w1 + B64 * w2
theorem TrialR.down {w0 w1 w2 s f q d l o l' o' : Nat} (h : TrialR w1 w2 f q d l o) {ws ds : List Nat} {n : Nat} (c : TrialC ws ds n w0 w1 w2 s f q) (ho : o = 0) (hg : l * B64 + w0 < d * s) (ha : l + f + 0 = l' + B64 * o') (hl' : l' < B64) (ho' : o' ≤ 1) : 1 ≤ d ∧ TrialR w1 w2 f q (d - 1) l' o' := by
  have h1 := trial_step c.top (h.sum ho) hg
  have h2 := h.db
  refine ⟨by omega, by omega, by omega, hl', ho', fun h0 => ?_⟩
  subst h0
  have h3 := h.sum ho
  have h4 : d * f = (d - 1) * f + f := by rw [← Nat.succ_mul, show (d - 1).succ = d by omega]
  omega
end Go.Proofs.YtfmbifocgljieaaGreatDoor
