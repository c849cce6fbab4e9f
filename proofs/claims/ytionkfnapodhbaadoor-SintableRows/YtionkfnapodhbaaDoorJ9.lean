import Derived.Test.YtionkfnapodhbaaDoorJ8
import Derived.Deep.LoopGhost
import Derived.WalkMore
import Derived.Laws.Cover1
import Derived.Deep.RegionWith
import Derived.Deep.RegionLaw
namespace Go.Proofs.YtionkfnapodhbaaDoor
open Go.RowKit Go.Shelf
set_option maxRecDepth 20000
set_option maxHeartbeats 0
structure WinRel (w : World) (g off n : Nat) (W D d b : Nat) (ws : List Nat) (wr : World) : Prop where
  wrs : Wr g off (n + 1) w wr
  row : Row wr g off (n + 1) ws
  db : d < B64
  bb : b ≤ 1
  ge : W / D ≤ d
  sum : valB B64 ws + D * d = W + B64 ^ (n + 1) * b
theorem WinRel.done {w : World} {g off n W D d : Nat} {ws : List Nat} {wr : World} (h : WinRel w g off n W D d 0 ws wr) (hD : 0 < D) : d = W / D ∧ valB B64 ws = W % D := by
  have h1 := h.sum; have h2 := h.ge
  rw [Nat.mul_zero, Nat.add_zero] at h1
  have h3 : d ≤ W / D := (Nat.le_div_iff_mul_le hD).2 (by rw [Nat.mul_comm]; omega)
  have h4 : d = W / D := by omega
  refine ⟨h4, ?_⟩
  have h5 := Nat.div_add_mod W D
  rw [← h4] at h5
  omega
structure DigRel (w : World) (gq gr L n : Nat) (A D : Nat) (k : Nat) (qs rs : List Nat) (wr : World) : Prop where
  bel : ∀ B, B ≤ gq → B ≤ gr → Below B w wr
  rowq : Row wr gq 0 L qs
  rowr : Row wr gr 0 (L + n) rs
  cell : ∀ b o, b ≠ gq → b ≠ gr → wr.cell? ⟨b, o, none⟩ = w.cell? ⟨b, o, none⟩
  lt : valB B64 (rs.drop (L - k)) < D
  sum : valB B64 rs + B64 ^ (L - k) * valB B64 (qs.drop (L - k)) * D = A

theorem win_take (rs : List Nat) (a m : Nat) (h : a + m ≤ rs.length) : valB B64 rs = valB B64 (rs.take a) + B64 ^ a * (valB B64 ((rs.drop a).take m) + B64 ^ m * valB B64 (rs.drop (a + m))) := by
  rw [valB_split B64 rs a (by omega), valB_split B64 (rs.drop a) m (by rw [List.length_drop]; omega), List.drop_drop]
def winPut (rs ws : List Nat) (a : Nat) : List Nat := rs.take a ++ ws ++ rs.drop (a + ws.length)
theorem winPut_len (rs ws : List Nat) (a : Nat) (h : a + ws.length ≤ rs.length) : (winPut rs ws a).length = rs.length := by
  unfold winPut; simp; omega
theorem winPut_drop (rs ws : List Nat) (a : Nat) (h : a + ws.length ≤ rs.length) : (winPut rs ws a).drop a = ws ++ rs.drop (a + ws.length) := by
  unfold winPut
  rw [List.append_assoc, List.drop_append_of_le_length (by simp; omega), List.drop_of_length_le (by simp; omega), List.nil_append]
theorem winPut_take (rs ws : List Nat) (a : Nat) (h : a + ws.length ≤ rs.length) : (winPut rs ws a).take a = rs.take a := by
  unfold winPut
  rw [List.append_assoc, List.take_append_of_le_length (by simp; omega), List.take_take, Nat.min_self]
theorem winPut_get (rs ws : List Nat) (a j : Nat) (h : a + ws.length ≤ rs.length) : (winPut rs ws a).getD j 0 = if a ≤ j ∧ j < a + ws.length then ws.getD (j - a) 0 else rs.getD j 0 := by
  unfold winPut
  rw [List.getD_eq_getElem?_getD, List.getElem?_append, List.getElem?_append]
  simp only [List.length_append, List.length_take, Nat.min_eq_left (by omega : a ≤ rs.length)]
  by_cases h1 : j < a
  · rw [if_pos (by omega), if_pos (by omega), List.getElem?_take, if_pos h1, if_neg (by omega), List.getD_eq_getElem?_getD]
  · by_cases h2 : j < a + ws.length
    · rw [if_pos h2, if_neg h1, if_pos ⟨by omega, h2⟩, List.getD_eq_getElem?_getD]
    · rw [if_neg h2, if_neg (by omega), List.getElem?_drop, List.getD_eq_getElem?_getD]
      congr 2; omega
end Go.Proofs.YtionkfnapodhbaaDoor
namespace Go.Proofs.YtionkfnapodhbaaDoor
open Go.RowKit
set_option maxRecDepth 20000
set_option maxHeartbeats 0
structure UpRel (w : World) (g n : Nat) (zs : List Nat) (s ov k : Nat) (dk : List Nat) (wr : World) : Prop where
  wrs : Wr g 0 n w wr
  row : Row wr g 0 n dk
  lo : dk.take (n - k) = zs.take (n - k)
  sum : valB B64 (dk.drop (n - k)) + B64 ^ k * ov = 2 ^ s * valB B64 (zs.drop (n - k)) + cin zs s (n - k)

theorem getD_of_take {dk zs : List Nat} {m j : Nat} (h : dk.take m = zs.take m) (hj : j < m) : dk.getD j 0 = zs.getD j 0 := by
  have := congrArg (fun l : List Nat => l[j]?) h
  simp only [List.getElem?_take, hj, if_true] at this
  rw [List.getD_eq_getElem?_getD, List.getD_eq_getElem?_getD, this]
theorem drop_set_at (dk : List Nat) (a y : Nat) (ha : a < dk.length) : (dk.set a y).drop a = y :: dk.drop (a + 1) := by
  rw [drop_getD _ a (by simpa using ha), getD_set dk a y a ha, if_pos rfl, drop_set_lt]
theorem take_set_at (dk : List Nat) (a y : Nat) : (dk.set a y).take a = dk.take a := by
  rw [List.take_set, List.set_eq_of_length_le (by simp; omega)]
theorem take_of_take {dk zs : List Nat} {m j : Nat} (h : dk.take m = zs.take m) (hj : j ≤ m) : dk.take j = zs.take j := by
  have := congrArg (List.take j) h
  rw [List.take_take, List.take_take, Nat.min_eq_left hj] at this
  exact this

theorem UpRel.step {w : World} {g n : Nat} {zs : List Nat} {s ov k : Nat} {dk : List Nat} {wr wr' : World} (h : UpRel w g n zs s ov k dk wr) (hk : k < n) (hz : zs.length = n) {d : Nat}
    (hd : d = shlW (dk.getD (n - 1 - k) 0) s + cin zs s (n - 1 - k)) (hw : Wr g 0 n w wr') (hr : Row wr' g 0 n (dk.set (n - 1 - k) d)) : UpRel w g n zs s ov (k + 1) (dk.set (n - 1 - k) d) wr' := by
  have hl := h.row.len
  have e : n - (k + 1) = n - 1 - k := by omega
  have e2 : n - 1 - k + 1 = n - k := by omega
  refine ⟨hw, hr, ?_, ?_⟩
  · rw [e, take_set_at]; exact take_of_take h.lo (by omega)
  · rw [e, drop_set_at dk _ d (by omega), e2]
    have h1 := h.sum
    rw [← e2] at h1
    have hdz : d = shlW (zs.getD (n - 1 - k) 0) s + cin zs s (n - 1 - k) := by rw [hd, getD_of_take h.lo (by omega)]
    rw [← e2]
    exact up_step (by omega) hdz h1
end Go.Proofs.YtionkfnapodhbaaDoor
namespace Go.Proofs.YtionkfnapodhbaaDoor
open Go.RowKit Go.Shelf
set_option maxRecDepth 20000
set_option maxHeartbeats 0
theorem Row.win {w : World} {g m : Nat} {rs : List Nat} (h : Row w g 0 m rs) (a l : Nat) (ha : a + l ≤ m) : Row w g a l ((rs.drop a).take l) := by
  have hl := h.len
  refine ⟨by simp; omega, (h.dig.drop a).take l, fun j hj => ?_, fun j hj => ?_⟩
  · have e : ((rs.drop a).take l).getD j 0 = rs.getD (a + j) 0 := by
      rw [List.getD_eq_getElem?_getD, List.getD_eq_getElem?_getD, List.getElem?_take, if_pos hj, List.getElem?_drop]
    rw [e]
    have := h.cell (a + j) (by omega)
    rw [Nat.zero_add] at this; exact this
  · have := h.frozen (a + j) (by omega)
    rw [Nat.zero_add] at this; exact this
theorem Row.put {w w' : World} {g m a l : Nat} {rs ws : List Nat} (h : Row w g 0 m rs) (hwr : Wr g a l w w') (hr : Row w' g a l ws) (ha : a + l ≤ m) : Row w' g 0 m (winPut rs ws a) := by
  have hl := h.len; have hwl := hr.len
  have hle : a + ws.length ≤ rs.length := by omega
  refine ⟨by rw [winPut_len rs ws a hle]; exact hl, ?_, fun j hj => ?_, fun j hj => ?_⟩
  · unfold winPut; exact ((h.dig.take a).append hr.dig).append (h.dig.drop _)
  · rw [winPut_get rs ws a j hle, Nat.zero_add]
    by_cases hc : a ≤ j ∧ j < a + ws.length
    · rw [if_pos hc]
      have := hr.cell (j - a) (by omega)
      rw [show a + (j - a) = j by omega] at this; exact this
    · rw [if_neg hc, hwr.cell g j (by omega)]
      have := h.cell j hj
      rw [Nat.zero_add] at this; exact this
  · rw [hwr.frozen]; exact h.frozen j hj
theorem Row.other {w : World} {g off n : Nat} {xs : List Nat} (h : Row w g off n xs) (g2 o2 : Nat) (v : Value) (hne : g ≠ g2) : Row (w.setCell ⟨g2, o2, none⟩ v) g off n xs := by
  refine ⟨h.len, h.dig, fun j hj => ?_, fun j hj => by rw [World.frozen?_setCell]; exact h.frozen j hj⟩
  exact (World.cell?_setCell_other _ _ _ _ (by intro e; apply hne; have := congrArg Addr.block e; simp at this; omega)).trans (h.cell j hj)
theorem Row.wr {w w' : World} {g off n g2 o2 l2 : Nat} {xs : List Nat} (h : Row w g off n xs) (hwr : Wr g2 o2 l2 w w') (hne : g ≠ g2) : Row w' g off n xs :=
  ⟨h.len, h.dig, fun j hj => (hwr.cell g (off + j) (.inl hne)).trans (h.cell j hj), fun j hj => (hwr.frozen _).trans (h.frozen j hj)⟩
theorem At.wr {w w' : World} {g off n c g2 o2 l2 : Nat} {xs : List Nat} (h : At w (some ⟨g, off, none⟩) n c xs) (hwr : Wr g2 o2 l2 w w') (hne : g ≠ g2) : At w' (some ⟨g, off, none⟩) n c xs :=
  ⟨h.len, h.cap, h.big, h.dig, by
    rcases h.cells with h0 | ⟨g', o', he, hc⟩
    · exact .inl h0
    · refine .inr ⟨g', o', he, fun j hj => ?_⟩
      simp only [Option.some.injEq, Addr.mk.injEq, and_true] at he
      rw [← he.1, ← he.2] at hc ⊢
      exact (hwr.cell g (off + j) (.inl hne)).trans (hc j hj)⟩
theorem dig_abs {P W q r D T Q A : Nat} (hW : q * D + r = W) (h : T + P * W + P * B64 * Q * D = A) : T + P * r + P * (q + B64 * Q) * D = A := by
  subst hW
  have e1 : P * (q + B64 * Q) * D = P * (q * D) + P * B64 * Q * D := by
    rw [Nat.mul_add, Nat.add_mul, Nat.mul_assoc P q D, ← Nat.mul_assoc P B64 Q]
  rw [e1]
  rw [Nat.mul_add] at h
  omega
theorem DigRel.window {w : World} {gq gr L n A D k : Nat} {qs rs : List Nat} {wr : World} (h : DigRel w gq gr L n A D k qs rs wr) (hk : k < L) (hDn : D < B64 ^ n) :
    ∃ a ws, a = L - 1 - k ∧ ws = (rs.drop a).take (n + 1) ∧ Row wr gr a (n + 1) ws ∧ valB B64 ws < B64 * D ∧ valB B64 rs = valB B64 (rs.take a) + B64 ^ a * valB B64 ws ∧ valB B64 (rs.drop (a + (n + 1))) = 0 := by
  have hl := h.rowr.len
  obtain ⟨a, ha⟩ : ∃ a, a = L - 1 - k := ⟨_, rfl⟩
  have hlt := h.lt
  rw [show L - k = a + 1 by omega] at hlt
  have hz : valB B64 (rs.drop (a + (n + 1))) = 0 := by
    have hs := valB_split B64 (rs.drop (a + 1)) n (by rw [List.length_drop]; omega)
    rw [List.drop_drop, show a + 1 + n = a + (n + 1) by omega] at hs
    rcases Nat.eq_zero_or_pos (valB B64 (rs.drop (a + (n + 1)))) with e | e
    · exact e
    · exfalso
      have : B64 ^ n * 1 ≤ B64 ^ n * valB B64 (rs.drop (a + (n + 1))) := Nat.mul_le_mul_left _ e
      omega
  have hw := win_take rs a (n + 1) (by omega)
  rw [hz, Nat.mul_zero, Nat.add_zero] at hw
  refine ⟨a, _, ha, rfl, h.rowr.win a (n + 1) (by omega), ?_, hw, hz⟩
  have hs := valB_split B64 (rs.drop a) (n + 1) (by rw [List.length_drop]; omega)
  rw [List.drop_drop, hz, Nat.mul_zero, Nat.add_zero] at hs
  rw [← hs, valB_drop B64 rs a (by omega)]
  have hb := h.rowr.dig.getD B64_pos a
  have : B64 * (valB B64 (rs.drop (a + 1)) + 1) ≤ B64 * D := Nat.mul_le_mul_left _ hlt
  rw [Nat.mul_add] at this
  omega
theorem DigRel.step {w : World} {gq gr L n A D k : Nat} {qs rs : List Nat} {wr wr' : World} (h : DigRel w gq gr L n A D k qs rs wr) (hk : k < L) (hne : gq ≠ gr) {a q : Nat} {ws ws' : List Nat} (ha : a = L - 1 - k)
    (hrs : valB B64 rs = valB B64 (rs.take a) + B64 ^ a * valB B64 ws) (hz : valB B64 (rs.drop (a + (n + 1))) = 0) (hD : 0 < D) (hq : q = valB B64 ws / D) (hqb : q < B64) (hr : valB B64 ws' = valB B64 ws % D)
    (hwr : Wr gr a (n + 1) wr wr') (hrow : Row wr' gr a (n + 1) ws') : DigRel w gq gr L n A D (k + 1) (qs.set a q) (winPut rs ws' a) (wr'.setCell ⟨gq, a, none⟩ (U q)) := by
  have hl := h.rowr.len; have hql := h.rowq.len; have hwl := hrow.len
  have hle : a + ws'.length ≤ rs.length := by omega
  have e1 : L - (k + 1) = a := by omega
  have e2 : L - k = a + 1 := by omega
  have hdrop : valB B64 ((winPut rs ws' a).drop a) = valB B64 ws % D := by
    rw [winPut_drop rs ws' a hle, valB_append, hwl, hz, Nat.mul_zero, Nat.add_zero, hr]
  refine ⟨fun B h1 h2 => ?_, ?_, ?_, fun b o h1 h2 => ?_, ?_, ?_⟩
  · exact ((h.bel B h1 h2).trans (hwr.below h2)).trans ((Wr.refl gq 0 L wr').setCell a ⟨by omega, by omega⟩ (U q) |>.below h1)
  · have := (h.rowq.wr hwr hne).set a q (by omega) hqb
    rw [Nat.zero_add] at this; exact this
  · exact (h.rowr.put hwr hrow (by omega)).other gq a _ (Ne.symm hne)
  · rw [World.cell?_setCell_other _ _ _ _ (by intro e; apply h1; have := congrArg Addr.block e; simp at this; omega), hwr.cell b o (.inl h2)]
    exact h.cell b o h1 h2
  · rw [e1, hdrop]; exact Nat.mod_lt _ hD
  · have hs := h.sum
    rw [e2, hrs, Nat.pow_succ] at hs
    rw [e1, valB_split B64 (winPut rs ws' a) a (by rw [winPut_len rs ws' a hle]; omega), winPut_take rs ws' a hle, hdrop, drop_set_at qs a q (by omega), valB_cons]
    refine dig_abs (W := valB B64 ws) (q := q) ?_ hs
    rw [hq, Nat.mul_comm]; exact Nat.div_add_mod _ _
structure Row32 (w : World) (g off n : Nat) (xs : List Nat) : Prop where
  len : xs.length = n
  dig : Dig B32 xs
  cell : ∀ j, j < n → w.cell? ⟨g, off + j, none⟩ = some (V (xs.getD j 0))
  frozen : ∀ j, j < n → w.frozen? ⟨g, off + j, none⟩ = false
theorem Row32.at_ {w : World} {g off n c : Nat} {xs : List Nat} (h : Row32 w g off n xs) (hc : n ≤ c) (hb : c ≤ maxLen) : At32 w (some ⟨g, off, none⟩) n c xs :=
  ⟨h.len, hc, hb, h.dig, .inr ⟨g, off, rfl, h.cell⟩⟩
theorem Row32.set {w : World} {g off n : Nat} {xs : List Nat} (h : Row32 w g off n xs) (k y : Nat) (hk : k < n) (hy : y < B32) : Row32 (w.setCell ⟨g, off + k, none⟩ (V y)) g off n (xs.set k y) := by
  refine ⟨by rw [List.length_set]; exact h.len, h.dig.set k hy, fun j hj => ?_, fun j hj => by rw [World.frozen?_setCell]; exact h.frozen j hj⟩
  rw [getD_set xs k y j (by rw [h.len]; exact hk)]
  by_cases e : j = k
  · subst e; rw [if_pos rfl]; exact World.cell?_setCell_same _ _ _ (h.cell j hj)
  · rw [if_neg e]
    exact (World.cell?_setCell_other _ _ _ _ (by intro e2; apply e; have := congrArg Addr.off e2; simp at this; omega)).trans (h.cell j hj)
theorem Row32.drewN {w : World} {g off n : Nat} {xs : List Nat} (h : Row32 w g off n xs) (q : Nat) : Row32 (w.drewN q) g off n xs := ⟨h.len, h.dig, h.cell, h.frozen⟩
theorem Row32.drew {w : World} {g off n : Nat} {xs : List Nat} (h : Row32 w g off n xs) : Row32 w.drew g off n xs := ⟨h.len, h.dig, h.cell, h.frozen⟩
theorem Blk32.frozen {w : World} {g : Nat} {xs : List Nat} (h : Blk32 w g xs) (j : Nat) : w.frozen? ⟨g, j, none⟩ = false := frozen_of_row w g j _ _ h
theorem Blk32.row {w : World} {g : Nat} {xs : List Nat} (h : Blk32 w g xs) (hd : Dig B32 xs) : Row32 w g 0 xs.length xs :=
  ⟨rfl, hd, fun j hj => by rw [Nat.zero_add]; exact h.cell j hj, fun j _ => h.frozen _⟩
theorem Row32.win {w : World} {g m : Nat} {rs : List Nat} (h : Row32 w g 0 m rs) (a l : Nat) (ha : a + l ≤ m) : Row32 w g a l ((rs.drop a).take l) := by
  have hl := h.len
  refine ⟨by simp; omega, (h.dig.drop a).take l, fun j hj => ?_, fun j hj => ?_⟩
  · have e : ((rs.drop a).take l).getD j 0 = rs.getD (a + j) 0 := by
      rw [List.getD_eq_getElem?_getD, List.getD_eq_getElem?_getD, List.getElem?_take, if_pos hj, List.getElem?_drop]
    rw [e]
    have := h.cell (a + j) (by omega)
    rw [Nat.zero_add] at this; exact this
  · have := h.frozen (a + j) (by omega)
    rw [Nat.zero_add] at this; exact this
theorem Row32.put {w w' : World} {g m a l : Nat} {rs ws : List Nat} (h : Row32 w g 0 m rs) (hwr : Wr g a l w w') (hr : Row32 w' g a l ws) (ha : a + l ≤ m) : Row32 w' g 0 m (winPut rs ws a) := by
  have hl := h.len; have hwl := hr.len
  have hle : a + ws.length ≤ rs.length := by omega
  refine ⟨by rw [winPut_len rs ws a hle]; exact hl, ?_, fun j hj => ?_, fun j hj => ?_⟩
  · unfold winPut; exact ((h.dig.take a).append hr.dig).append (h.dig.drop _)
  · rw [winPut_get rs ws a j hle, Nat.zero_add]
    by_cases hc : a ≤ j ∧ j < a + ws.length
    · rw [if_pos hc]
      have := hr.cell (j - a) (by omega)
      rw [show a + (j - a) = j by omega] at this; exact this
    · rw [if_neg hc, hwr.cell g j (by omega)]
      have := h.cell j hj
      rw [Nat.zero_add] at this; exact this
  · rw [hwr.frozen]; exact h.frozen j hj
theorem win_take32 (rs : List Nat) (a m : Nat) (h : a + m ≤ rs.length) : valB B32 rs = valB B32 (rs.take a) + B32 ^ a * (valB B32 ((rs.drop a).take m) + B32 ^ m * valB B32 (rs.drop (a + m))) := by
  rw [valB_split B32 rs a (by omega), valB_split B32 (rs.drop a) m (by rw [List.length_drop]; omega), List.drop_drop]

structure RMulRel (w : World) (g off m : Nat) (zs ys : List Nat) (v k cy : Nat) (dk : List Nat) (wr : World) : Prop where
  wrs : Wr g off m w wr
  row : Row32 wr g off m dk
  hi : dk.drop k = zs.drop k
  car : cy < B32
  sum : valB B32 (dk.take k) + B32 ^ k * cy = valB B32 (zs.take k) + valB B32 (ys.take k) * v
theorem RMulRel.step {w : World} {g off m : Nat} {zs ys : List Nat} {v k cy : Nat} {dk : List Nat} {wr : World} (h : RMulRel w g off m zs ys v k cy dk wr) (hk : k < m)
    {x z l d : Nat} (hz : z = dk.getD k 0) (hx : x = ys.getD k 0) (hs : x * v + z + cy = l + B32 * d) (hl : l < B32) (hd : d < B32) :
    RMulRel w g off m zs ys v (k + 1) d (dk.set k l) (wr.setCell ⟨g, off + k, none⟩ (V l)) := by
  have hlen := h.row.len
  refine ⟨h.wrs.setCell (off + k) ⟨by omega, by omega⟩ _, h.row.set k l hk hl, ?_, hd, ?_⟩
  · rw [drop_set_lt]; exact drop_succ_of_drop h.hi
  · have hzz : z = zs.getD k 0 := hz.trans (getD_of_drop h.hi)
    rw [take_set_succ dk k l (by omega), valB_snoc, List.length_take, hlen, Nat.min_eq_left (by omega), valB_take_any _ zs k, valB_take_any _ ys k, ← hzz, ← hx, Nat.pow_succ, Nat.add_mul]
    have e1 := h.sum
    have e2 : B32 ^ k * (x * v + z + cy) = B32 ^ k * (l + B32 * d) := by rw [hs]
    rw [Nat.mul_add, Nat.mul_add, Nat.mul_add, ← Nat.mul_assoc] at e2
    have e3 : B32 ^ k * x * v = B32 ^ k * (x * v) := Nat.mul_assoc _ _ _
    have e4 : B32 ^ k * B32 * d = B32 ^ k * (B32 * d) := Nat.mul_assoc _ _ _
    rw [e3, e4]
    rw [← Nat.mul_assoc] at e2
    generalize B32 ^ k * x * v = X0 at *
    generalize B32 ^ k * (x * v) = X1 at *
    generalize B32 ^ k * B32 * d = X2 at *
    generalize B32 ^ k * (B32 * d) = X3 at *
    generalize B32 ^ k * z = X4 at *
    generalize B32 ^ k * cy = X5 at *
    generalize B32 ^ k * l = X6 at *
    omega

theorem RMulRel.drewN {w : World} {g off m : Nat} {zs ys : List Nat} {v k cy : Nat} {dk : List Nat} {wr : World} (h : RMulRel w g off m zs ys v k cy dk wr) (q : Nat) : RMulRel w g off m zs ys v k cy dk (wr.drewN q) :=
  ⟨h.wrs.drewN q, h.row.drewN q, h.hi, h.car, h.sum⟩
theorem valB_set_zero (b : Nat) (xs : List Nat) (k y : Nat) (hk : k < xs.length) (h0 : xs.getD k 0 = 0) : valB b (xs.set k y) = valB b xs + b ^ k * y := by
  have h1 := valB_split b xs k (by omega)
  have h2 := valB_split b (xs.set k y) k (by simp; omega)
  rw [drop_set_at xs k y hk, take_set_at, valB_cons] at h2
  rw [valB_drop b xs k hk, h0] at h1
  rw [h2, h1, Nat.mul_add, Nat.zero_add]
  omega
theorem valB_drop_zero {b : Nat} (hb : 0 < b) {xs : List Nat} {k : Nat} (h : valB b (xs.drop k) = 0) : xs.getD k 0 = 0 ∧ valB b (xs.drop (k + 1)) = 0 := by
  by_cases hk : k < xs.length
  · rw [valB_drop b xs k hk] at h
    have h1 : b * valB b (xs.drop (k + 1)) = 0 := by omega
    refine ⟨by omega, ?_⟩
    rcases Nat.mul_eq_zero.1 h1 with e | e
    · omega
    · exact e
  · refine ⟨?_, ?_⟩
    · rw [List.getD_eq_getElem?_getD, List.getElem?_eq_none (by omega)]; rfl
    · rw [List.drop_of_length_le (by omega)]; rfl
structure RMulO (w : World) (g N m : Nat) (xs ys : List Nat) (i : Nat) (ps : List Nat) (wr : World) : Prop where
  bel : Below g w wr
  row : Row32 wr g 0 N ps
  val : valB B32 ps = valB B32 (xs.take i) * valB B32 ys
  zero : valB B32 (ps.drop (i + m)) = 0
theorem rmul_abs {P Y x T Z D V cy B m : Nat} (h1 : V = T + P * Z) (h2 : D + B ^ m * cy = Z + Y * x) : T + P * D + P * B ^ m * cy = V + P * (Y * x) := by
  have e1 : P * (D + B ^ m * cy) = P * (Z + Y * x) := by rw [h2]
  rw [Nat.mul_add, Nat.mul_add, ← Nat.mul_assoc] at e1
  omega
theorem RMulO.step {w : World} {g N m n : Nat} {xs ys : List Nat} {i : Nat} {ps : List Nat} {wr wr' : World} (h : RMulO w g N m xs ys i ps wr) (hi : i < n) (hN : N = n + m) (hx : xs.length = n) (hy : ys.length = m) {x cy : Nat} {dk : List Nat} (ex : x = xs.getD i 0) (hR : RMulRel wr g i m ((ps.drop i).take m) ys x m cy dk wr') :
    RMulO w g N m xs ys (i + 1) ((winPut ps dk i).set (i + m) cy) (wr'.setCell ⟨g, i + m, none⟩ (V cy)) := by
  have hl := h.row.len; have hdl := hR.row.len
  have hle : i + dk.length ≤ ps.length := by omega
  have hrow := h.row.put hR.wrs hR.row (by omega)
  have hz := valB_drop_zero B32_pos h.zero
  have hsum := hR.sum
  have t1 : dk.take m = dk := List.take_of_length_le (by omega)
  have t2 : ((ps.drop i).take m).take m = (ps.drop i).take m := by rw [List.take_take, Nat.min_self]
  have t3 : ys.take m = ys := List.take_of_length_le (by omega)
  rw [t1, t2, t3] at hsum
  have hv := win_take32 ps i m (by omega)
  rw [h.zero, Nat.mul_zero, Nat.add_zero] at hv
  have hv1 : valB B32 (winPut ps dk i) = valB B32 (ps.take i) + B32 ^ i * valB B32 dk := by
    rw [valB_split B32 (winPut ps dk i) i (by rw [winPut_len ps dk i hle]; omega), winPut_take ps dk i hle, winPut_drop ps dk i hle, valB_append, hdl, h.zero, Nat.mul_zero, Nat.add_zero]
  have hg0 : (winPut ps dk i).getD (i + m) 0 = 0 := by
    rw [winPut_get ps dk i (i + m) hle, if_neg (by omega)]; exact hz.1
  refine ⟨(h.bel.trans (hR.wrs.below (Nat.le_refl _))).trans (((Wr.refl g 0 N wr').setCell (i + m) ⟨by omega, by omega⟩ (V cy)).below (Nat.le_refl _)), ?_, ?_, ?_⟩
  · have := hrow.set (i + m) cy (by omega) hR.car
    rw [Nat.zero_add] at this; exact this
  · rw [valB_set_zero B32 _ (i + m) cy (by rw [winPut_len ps dk i hle]; omega) hg0, hv1, Nat.pow_add, rmul_abs hv hsum, h.val, valB_take_succ B32 xs i (by omega), ← ex, Nat.add_mul, Nat.mul_assoc, Nat.mul_comm (valB B32 ys) x]
  · rw [show i + 1 + m = i + m + 1 by omega, drop_set_lt]
    have e : (winPut ps dk i).drop (i + m + 1) = ps.drop (i + m + 1) := by
      have e1 : (winPut ps dk i).drop (i + m) = ps.drop (i + m) := by
        have := congrArg (List.drop dk.length) (winPut_drop ps dk i hle)
        rw [List.drop_drop, List.drop_left, hdl] at this
        exact this
      have := congrArg (List.drop 1) e1
      rw [List.drop_drop, List.drop_drop] at this; exact this
    rw [e]; exact hz.2
theorem rmul_digit {x y z cy : Nat} (hx : x < B32) (hy : y < B32) (hz : z < B32) (hc : cy < B32) : x * y + z + cy < B64 := by
  have h1 : x * y ≤ (B32 - 1) * (B32 - 1) := Nat.mul_le_mul (by omega) (by omega)
  have h2 : (B32 - 1) * (B32 - 1) + 2 * (B32 - 1) < B64 := by decide
  omega

theorem rmul_any {p q : Option Addr} {n m c d : Nat} {xs ys : List Nat} {a b : Nat} {w : World} (h : At32 w p n c xs) (k : At32 w q m d ys) (hx : Nf B32 xs a) (hy : Nf B32 ys b) (hn : n ≤ 1099511627776) (hm : m ≤ 1099511627776) :
    Calls Tryd.prog 66 #[.slice p n c, .slice q m d] w fun e w' => ∃ p' m' zs, e = .returned (.slice p' m' m') ∧ At32 w' p' m' m' zs ∧ Nf B32 zs (a * b) ∧ m' ≤ n + m ∧ Below w.heap.size w w' := by
  obtain ⟨i0, hi, hz0, hz1, hz2⟩ := info_parts Tryd.infoU32
  have HX : Hid (Nf B32 xs a) := hx
  have HY : Hid (Nf B32 ys b) := hy
  have HLX : Hid (xs.length = n) := h.len
  have HLY : Hid (ys.length = m) := k.len
  have hcap := h.cap; have hbig := h.big; have kcap := k.cap; have kbig := k.big
  unfold maxLen at hbig kbig
  obtain ⟨N, hN⟩ : ∃ N, N = n + m := ⟨_, rfl⟩
  have HN : Hid (N = n + m) := hN
  have hNi : (n : Int) + (m : Int) = (N : Int) := by omega
  have hNb : N ≤ 2199023255552 := by omega
  clear hx hy hN
  go_enter Tryd.func66, Tryd.ntmps66
  go_wp2_with (at_make; refine wpList_make_full _ rfl _ _ 48 rfl w.heap.size 87 i0 (.int .u32 0) 1 Tryd.underlying48 hi hz0 hz1 _ _ _ _ N rfl rfl (by omega) (by omega) (by rw [hz2]; omega) (by unfold maxLen; omega) (Nat.le_refl _) ?_; intro w1 hown hgrow; have hb := made_blk32 hown hgrow; clear hown hgrow)
  have HO : Hid (RMulO w w.heap.size N m xs ys 0 (List.replicate N 0) w1) := by
    have hr := hb.1.row (Dig.replicate B32 N B32_pos)
    rw [List.length_replicate] at hr
    refine ⟨hb.2, hr, by rw [valB_replicate]; simp [valB], by rw [List.drop_replicate, valB_replicate]⟩
  clear hb hNi
  go_loopg [6] n (fun gk iv wr => ∃ (i : Nat) (ps : List Nat), i + gk = n ∧ iv = .int .i64 i ∧ Hid (RMulO w w.heap.size N m xs ys i ps wr))
  case atStart => exact ⟨0, _, by omega, rfl, HO⟩
  case round =>
    obtain ⟨i, ps, hig, rfl, HR⟩ := hrel
    cases gk with
    | zero =>
      obtain rfl : i = n := by omega
      have hR := HR.out
      have A32 : At32 wr (some ⟨w.heap.size, 0, none⟩) N N ps := hR.row.at_ (Nat.le_refl _) (by unfold maxLen; omega)
      have hv := hR.val
      rw [List.take_of_length_le (by rw [HLX.out]; omega), HX.out.val, HY.out.val] at hv
      have HNF : Hid (Nf B32 (trimL ps) (a * b)) := by
        have := Nf.trim hR.row.dig
        rw [hv] at this; exact this
      have hle := trimL_length_le ps
      have HLE : Hid ((trimL ps).length ≤ i + m) := by have := hR.row.len; have := HN.out; show _ ≤ _; omega
      have hbx := hR.bel
      clear hR hv hle
      go_wp2_with fail
      refine (rnorm_any A32 (by omega)).mono ?_
      rintro e w5 ⟨g5, rfl, hg5, hblk5, hb5⟩
      have hd5 := HNF.out.dig
      generalize trimL ps = zs at *
      go_wp2_with fail
      go_ret
      exact ⟨_, _, zs, rfl, hblk5.at_ hd5 rfl (by have := HLE.out; unfold maxLen; omega), HNF.out, HLE.out, Below.on hbx hb5⟩
    | succ gg =>
      obtain ⟨wo, hwo⟩ : ∃ wo, wo = wr := ⟨_, rfl⟩
      subst hwo
      obtain ⟨g, off, rfl, hc⟩ := h.cells.resolve_left (by omega)
      obtain ⟨x, hx⟩ : ∃ x, x = xs.getD i 0 := ⟨_, rfl⟩
      have hcx0 : w.cell? ⟨g, off + i, none⟩ = some (V x) := by rw [hx]; exact hc i (by omega)
      have hcx : wo.cell? ⟨g, off + i, none⟩ = some (V x) := (HR.out.bel.cell (p := ⟨g, off + i, none⟩) (World.block_lt_of_cell? w _ hcx0)).trans hcx0
      have hxb : x < B32 := by rw [hx]; exact HX.out.dig.getD B32_pos i
      have hxw : IntKind.u64.wrap (x : Int) = (x : Int) := wrap_mod _ _ (by rw [B32_eq] at hxb; omega)
      have HXE : Hid (x = xs.getD i 0) := hx
      have hin : i < n := by omega
      clear hc hx hcx0
      go_wp2_with fail
      go_loopg [7, 9] m (fun g2 cv jv wy => ∃ (j cy : Nat) (dk : List Nat), j + g2 = m ∧ jv = .int .i64 j ∧ cv = U cy ∧ Hid (RMulRel wo w.heap.size i m ((ps.drop i).take m) ys x j cy dk wy))
      case atStart =>
        refine ⟨0, 0, (ps.drop i).take m, by omega, rfl, rfl, ⟨Wr.refl _ _ _ _, HR.out.row.win i m (by have := HN.out; omega), rfl, B32_pos, ?_⟩⟩
        simp [valB]
      case round =>
        obtain ⟨j, cy, dk, hjg, rfl, rfl, HI⟩ := hrel
        have hcyb := HI.out.car
        cases gk with
        | zero =>
          obtain rfl : j = m := by omega
          have hrow1 := HR.out.row.put HI.out.wrs HI.out.row (by have := HN.out; omega)
          have hct : wr.cell? ⟨w.heap.size, i + j, none⟩ = some (V ((winPut ps dk i).getD (i + j) 0)) := by
            have := hrow1.cell (i + j) (by have := HN.out; omega)
            rw [Nat.zero_add] at this; exact this
          have hft : wr.frozen? ⟨w.heap.size, i + j, none⟩ = false := by
            have := hrow1.frozen (i + j) (by have := HN.out; omega)
            rw [Nat.zero_add] at this; exact this
          have hnj : ¬ j < j := by omega
          have hiN : i + j < N := by have := HN.out; omega
          have hw32 : IntKind.u32.wrap (cy : Int) = (cy : Int) := wrap32 cy hcyb
          clear hrow1
          go_wp2_with fail
          go_roundg gg
          case measure => omega
          case rel => exact ⟨i + 1, (winPut ps dk i).set (i + j) cy, by omega, by go_num, HR.out.step (n := n) hin HN.out HLX.out HLY.out HXE.out HI.out⟩
        | succ g3 =>
          have hjm : j < m := by omega
          obtain ⟨gb, ob, rfl, hcb⟩ := k.cells.resolve_left (by omega)
          obtain ⟨z, hzz⟩ : ∃ z, z = dk.getD j 0 := ⟨_, rfl⟩
          obtain ⟨y, hyy⟩ : ∃ y, y = ys.getD j 0 := ⟨_, rfl⟩
          have hcy0 : w.cell? ⟨gb, ob + j, none⟩ = some (V y) := by rw [hyy]; exact hcb j hjm
          have hgb := World.block_lt_of_cell? w _ hcy0
          have hcy1 : wr.cell? ⟨gb, ob + j, none⟩ = some (V y) := by
            rw [HI.out.wrs.cell gb (ob + j) (.inl (by simp at hgb; omega))]
            exact (HR.out.bel.cell (p := ⟨gb, ob + j, none⟩) hgb).trans hcy0
          have hcz : wr.cell? ⟨w.heap.size, i + j, none⟩ = some (V z) := by rw [hzz]; exact HI.out.row.cell j hjm
          have hfz : wr.frozen? ⟨w.heap.size, i + j, none⟩ = false := HI.out.row.frozen j hjm
          have hzb : z < B32 := by rw [hzz]; exact HI.out.row.dig.getD B32_pos j
          have hyb : y < B32 := by rw [hyy]; exact HY.out.dig.getD B32_pos j
          have hall := rmul_digit hxb hyb hzb hcyb
          obtain ⟨xy, exy⟩ : ∃ xy, xy = x * y := ⟨_, rfl⟩
          rw [← exy] at hall
          rw [B64_eq] at hall
          have f0 : IntKind.u64.wrap (z : Int) = (z : Int) := wrap_mod _ _ (by rw [B32_eq] at hzb; omega)
          have f00 : IntKind.u64.wrap (y : Int) = (y : Int) := wrap_mod _ _ (by rw [B32_eq] at hyb; omega)
          have f1 : IntKind.u64.wrap ((x : Int) * (y : Int)) = (xy : Int) := by
            have e : ((x : Int) * (y : Int)) = ((x * y : Nat) : Int) := by simp
            rw [e, ← exy]; exact wrap_mod _ _ (by omega)
          obtain ⟨s1, es1⟩ : ∃ s1, s1 = z + xy := ⟨_, rfl⟩
          have f2 : IntKind.u64.wrap ((z : Int) + (xy : Int)) = (s1 : Int) := wrap_mod _ _ (by omega)
          obtain ⟨s2, es2⟩ : ∃ s2, s2 = cy + s1 := ⟨_, rfl⟩
          have f3 : IntKind.u64.wrap ((cy : Int) + (s1 : Int)) = (s2 : Int) := wrap_mod _ _ (by omega)
          have hs2 : s2 < 18446744073709551616 := by omega
          obtain ⟨lo, elo⟩ : ∃ lo, lo = s2 % B32 := ⟨_, rfl⟩
          obtain ⟨hh, ehh⟩ : ∃ hh, hh = s2 / B32 := ⟨_, rfl⟩
          have hlob : lo < B32 := by rw [elo]; exact Nat.mod_lt _ B32_pos
          have hhhb : hh < B32 := by rw [ehh]; exact Nat.div_lt_of_lt_mul (by rw [B32_two, B64_eq]; exact hs2)
          have f4 : bits .and .u64 (s2 : Int) 4294967295 = (lo : Int) := by rw [elo, B32_eq]; exact and32 s2 hs2
          have f5 : (s2 : Int) / 4294967296 = (hh : Int) := by rw [ehh, B32_eq]; exact div32 s2
          have f6 : IntKind.u32.wrap (lo : Int) = (lo : Int) := wrap32 lo hlob
          have HSUM : Hid (x * y + z + cy = lo + B32 * hh) := by
            have := Nat.mod_add_div s2 B32
            rw [← elo, ← ehh] at this
            show _ = _; omega
          have HZE : Hid (z = dk.getD j 0) := hzz
          have HYE : Hid (y = ys.getD j 0) := hyy
          have hij : IntKind.i64.wrap ((i : Int) + (j : Int)) = (i : Int) + (j : Int) := by
            have e : ((i : Int) + (j : Int)) = ((i + j : Nat) : Int) := by omega
            rw [e]
            simp [IntKind.wrap, IntKind.signed, IntKind.bits]
            omega
          have hiN : (i : Int) + (j : Int) < (N : Int) := by have := HN.out; omega
          clear hall exy es1 es2 elo ehh hzz hyy hcy0 hcb hgb
          go_wp2_with fail
          go_quiet (fail)
          go_wp2_with fail
          go_roundg g3
          case measure => omega
          case rel =>
            refine ⟨j + 1, hh, dk.set j lo, by omega, by go_num, rfl, ?_⟩
            exact (HI.out.drewN nq).step hjm HZE.out HYE.out (by have := HSUM.out; rw [Nat.mul_comm y x]; exact this) hlob hhhb
theorem B64_sq (k : Nat) : B64 ^ k = B32 ^ (2 * k) := by rw [Nat.pow_mul, show B32 ^ 2 = B64 from rfl]
structure RToR (w : World) (g N m : Nat) (ds : List Nat) (k : Nat) (us : List Nat) (wr : World) : Prop where
  bel : Below g w wr
  own : wr.ownsRow g 30 1 (.slice (some ⟨g, 0, none⟩) k N) k (cellsU us)
  len : us.length = k
  dig : Dig B64 us
  top : m ≤ 2 * k → Top us
  val : valB B64 us = valB B32 (ds.take (2 * k))
theorem rto_val {us ds : List Nat} {k x y : Nat} (h : valB B64 us = valB B32 (ds.take (2 * k))) (hl : us.length = k) (ex : x = ds.getD (2 * k) 0) (ey : y = ds.getD (2 * k + 1) 0) : valB B64 (us ++ [x + B32 * y]) = valB B32 (ds.take (2 * (k + 1))) := by
  rw [valB_snoc, hl, h, B64_sq, show 2 * (k + 1) = 2 * k + 1 + 1 by omega, valB_take_any _ ds (2 * k + 1), valB_take_any _ ds (2 * k), ← ex, ← ey, Nat.pow_succ, Nat.mul_add, Nat.mul_assoc]
  omega
theorem top_snoc (us : List Nat) {x : Nat} (h : x ≠ 0) : Top (us ++ [x]) := by
  intro z hz; simp at hz; omega
theorem own_at {wr : World} {g i N : Nat} {ss : List Nat} (ho : wr.ownsRow g 30 1 (.slice (some ⟨g, 0, none⟩) i N) i (cellsU ss)) (hl : ss.length = i) (hd : Dig B64 ss) : At wr (some ⟨g, 0, none⟩) i N ss := by
  rcases ho.2 with ⟨h', _⟩ | ⟨g', cap', cur, h', hbase, hgc, hcap', hmx, hsz, htake⟩
  · simp at h'
  · simp only [Value.slice.injEq, Option.some.injEq, Addr.mk.injEq, and_true, true_and] at h'
    obtain ⟨rfl, rfl⟩ := h'
    refine ⟨hl, hcap', hmx, hd, .inr ⟨g, 0, rfl, fun jj hj => ?_⟩⟩
    rw [Nat.zero_add, cell_of_row wr g jj _ _ _ hgc]
    have e1 := cellsU_get ss jj (by rw [hl]; exact hj)
    rw [← htake, Nat.mul_one, List.getElem?_take, if_pos hj] at e1
    rw [← Array.getElem?_toList]; exact e1
theorem one_cellU (w : World) (x : Nat) : ∀ (j : Nat) (u : Value), [U x][j]? = some u → (w.alloc (.cells #[U x] 30)).cell? ((⟨w.heap.size, 0, none⟩ : Addr).add j) = some u := by
  intro j u h
  have hb : Blk (w.alloc (.cells #[U x] 30)) w.heap.size [x] := heap_alloc_new w _
  have hj : j < 1 := by
    have := (List.getElem?_eq_some_iff.1 h).1
    simpa using this
  have hadd : (⟨w.heap.size, 0, none⟩ : Addr).add j = ⟨w.heap.size, j, none⟩ := by unfold Addr.add; split <;> simp_all
  rw [hadd, hb.cell j (by simpa using hj)]
  obtain rfl : j = 0 := by omega
  simpa using h

theorem rto_any {p : Option Addr} {n c : Nat} {xs : List Nat} {w : World} (h : At32 w p n c xs) (hn : n ≤ 35184372088832) :
    Calls Tryd.prog 73 #[.slice p n c] w fun e w' => ∃ g k N us, e = .returned (.slice (some ⟨g, 0, none⟩) k N) ∧ w.heap.size ≤ g ∧ At w' (some ⟨g, 0, none⟩) k N us ∧ Nf B64 us (valB B32 xs) ∧ Below w.heap.size w w' := by
  obtain ⟨i0, hi, hz0, hz1, hz2⟩ := info_parts Tryd.infoU64
  have HDG : Hid (Dig B32 xs) := h.dig
  have hlx := h.len
  have hle := trimL_length_le xs
  have hm0 : (trimL xs).length ≤ 35184372088832 := by omega
  have HV : Hid (valB B32 (trimL xs) = valB B32 xs) := valB_trimL _ _
  have HTOP : Hid (Top (trimL xs)) := Top_trimL xs
  have HDT : Hid (Dig B32 (trimL xs)) := h.dig.trimL
  clear hlx hle
  go_enter Tryd.func73, Tryd.ntmps73
  go_wp2_with fail
  refine (rnorm_any h (by omega)).mono ?_
  rintro e w0 ⟨gd, rfl, hgd, hblk, hb0⟩
  have A0 := hblk.at_ HDT.out rfl (by unfold maxLen; omega)
  generalize trimL xs = ds at *
  obtain ⟨m, hm⟩ : ∃ m, m = ds.length := ⟨_, rfl⟩
  rw [← hm] at A0 hm0 ⊢
  have HM : Hid (m = ds.length) := hm
  clear hm hblk h
  have hNi : (m : Int).tdiv 2 = ((m / 2 : Nat) : Int) := by rw [Int.tdiv_eq_ediv_of_nonneg (by omega)]; omega
  go_wp2_with (at_make; refine wpList_make_own _ rfl _ _ 106 rfl w0.heap.size 30 i0 (.int .u64 0) 1 Tryd.underlying106 hi hz0 hz1 _ _ _ (m / 2 + 1) rfl rfl (by omega) (by rw [hz2]; omega) (by unfold maxLen; omega) (Nat.le_refl _) ?_; intro w1 hown hgrow)
  have hb1 : Below w0.heap.size w0 w1 := (Below.refl _ _).grown hgrow (Nat.le_refl _) (fun k hk => by simp at hk)
  have HO : Hid (RToR w0 w0.heap.size (m / 2 + 1) m ds 0 [] w1) := ⟨hb1, hown, rfl, Dig.nil _, fun _ => by intro x hx; simp at hx, by simp [valB]⟩
  clear hown hgrow hb1 hNi
  obtain ⟨N, hN⟩ : ∃ N, N = m / 2 + 1 := ⟨_, rfl⟩
  rw [← hN] at HO ⊢
  have HN : Hid (N = m / 2 + 1) := hN
  have hNb : N ≤ 17592186044417 := by omega
  clear hN
  go_loopg [4, 5] N (fun gk lv iv wr => ∃ (k i : Nat) (us : List Nat), k + gk = N ∧ Hid (i = 2 * k) ∧ iv = .int .i64 i ∧ lv = .slice (some ⟨w0.heap.size, 0, none⟩) k N ∧ Hid (RToR w0 w0.heap.size N m ds k us wr))
  case atStart => exact ⟨0, 0, [], by omega, rfl, rfl, rfl, HO⟩
  case round =>
    obtain ⟨k, i, us, hkg, HI, rfl, rfl, HR⟩ := hrel
    by_cases him : i < m
    · have hsp : k + 1 ≤ N := by have := HI.out; have := HN.out; omega
      obtain ⟨x, hx⟩ : ∃ x, x = ds.getD i 0 := ⟨_, rfl⟩
      obtain ⟨y, hy⟩ : ∃ y, y = ds.getD (i + 1) 0 := ⟨_, rfl⟩
      have hxb : x < B32 := by rw [hx]; exact HDT.out.getD B32_pos i
      have hyb : y < B32 := by rw [hy]; exact HDT.out.getD B32_pos (i + 1)
      rw [B32_eq] at hxb hyb
      have c0 : w0.cell? ⟨gd, i, none⟩ = some (V x) := by
        have := A0.cellAt i (by omega)
        rw [Nat.zero_add] at this
        rw [hx]; exact this
      have c1 : wr.cell? ⟨gd, i, none⟩ = some (V x) := (HR.out.bel.cell (p := ⟨gd, i, none⟩) (World.block_lt_of_cell? w0 _ c0)).trans c0
      have hxw : IntKind.u64.wrap (x : Int) = (x : Int) := wrap_mod _ _ (by omega)
      have hyw : IntKind.u64.wrap (y : Int) = (y : Int) := wrap_mod _ _ (by omega)
      obtain ⟨yh, eyh⟩ : ∃ yh, yh = 4294967296 * y := ⟨_, rfl⟩
      have f1 : IntKind.u64.wrap ((y : Int) * 4294967296) = (yh : Int) := wrap_mod _ _ (by omega)
      obtain ⟨ww, eww⟩ : ∃ ww, ww = x + yh := ⟨_, rfl⟩
      have f2 : IntKind.u64.wrap ((x : Int) + (yh : Int)) = (ww : Int) := wrap_mod _ _ (by omega)
      have hwb : ww < B64 := by rw [B64_eq]; omega
      have EW : Hid (ww = x + B32 * y) := by show _ = _; rw [B32_eq]; omega
      have HXE : Hid (x = ds.getD (2 * k) 0) := by rw [← HI.out]; exact hx
      have HYE : Hid (y = ds.getD (2 * k + 1) 0) := by rw [← HI.out]; exact hy
      have HTT : Hid (m ≤ 2 * (k + 1) → ww ≠ 0) := by
        intro hle
        have hi2 := HI.out
        by_cases h1 : i + 1 < m
        · have : y ≠ 0 := by
            refine HTOP.out y ?_
            rw [List.getLast?_eq_getElem?, ← HM.out, show m - 1 = i + 1 by omega, hy, List.getD_eq_getElem?_getD, List.getElem?_eq_getElem (by have := HM.out; omega)]; rfl
          omega
        · have : x ≠ 0 := by
            refine HTOP.out x ?_
            rw [List.getLast?_eq_getElem?, ← HM.out, show m - 1 = i by omega, hx, List.getD_eq_getElem?_getD, List.getElem?_eq_getElem (by have := HM.out; omega)]; rfl
          omega
      have HOA : Hid ((wr.alloc (.cells #[U ww] 30)).ownsRow w0.heap.size 30 1 (.slice (some ⟨w0.heap.size, 0, none⟩) k N) k (cellsU us)) := HR.out.own.alloc _
      by_cases h1 : i + 1 < m
      · have d0 : w0.cell? ⟨gd, i + 1, none⟩ = some (V y) := by
          have := A0.cellAt (i + 1) (by omega)
          rw [Nat.zero_add] at this
          rw [hy]; exact this
        have d1 : wr.cell? ⟨gd, i + 1, none⟩ = some (V y) := (HR.out.bel.cell (p := ⟨gd, i + 1, none⟩) (World.block_lt_of_cell? w0 _ d0)).trans d0
        clear hx hy c0 d0 eyh eww hxb hyb
        go_wp2_with (at_builtin; refine wpList_append_fits _ rfl (.tmp 39) (.tmp 41) 106 rfl w0.heap.size 30 i0 1 Tryd.underlying106 hi hz1 w0.heap.size k N (cellsU us) rfl HOA.out ⟨wr.heap.size, 0, none⟩ 1 1 [U ww] rfl rfl (one_cellU wr ww) (by intro u hu; simp at hu; subst hu; rfl) hsp ?_; intro w3 hw3 hgr3)
        have HR3 : Hid (RToR w0 w0.heap.size N m ds (k + 1) (us ++ [ww]) w3) := by
          have hR := HR.out
          refine ⟨(hR.bel.alloc hR.bel.size _).grown hgr3 (by have := hR.bel.size; simp; omega) (fun q hq => by simp at hq; omega), ?_, by simp [hR.len], hR.dig.append (dig1 hwb), fun hle => top_snoc us (HTT.out hle), ?_⟩
          · have e0 : cellsU (us ++ [ww]) = cellsU us ++ [U ww] := by unfold cellsU; rw [List.map_append]; rfl
            rw [e0]; exact hw3
          · rw [EW.out]; exact rto_val hR.val hR.len HXE.out HYE.out
        clear hw3 hgr3
        go_roundg (gk - 1)
        case measure => omega
        case rel => exact ⟨k + 1, i + 2, us ++ [ww], by omega, by have := HI.out; show _ = _; omega, by go_num, rfl, HR3⟩
      · have hy0 : y = 0 := by rw [hy, List.getD_eq_getElem?_getD, List.getElem?_eq_none (by have := HM.out; omega)]; rfl
        have eyx : ww = x := by omega
        subst eyx
        clear hx hy c0 eyh eww hxb hyb f1 f2 hyw
        go_wp2_with (at_builtin; refine wpList_append_fits _ rfl (.tmp 39) (.tmp 41) 106 rfl w0.heap.size 30 i0 1 Tryd.underlying106 hi hz1 w0.heap.size k N (cellsU us) rfl HOA.out ⟨wr.heap.size, 0, none⟩ 1 1 [U ww] rfl rfl (one_cellU wr ww) (by intro u hu; simp at hu; subst hu; rfl) hsp ?_; intro w3 hw3 hgr3)
        have HR3 : Hid (RToR w0 w0.heap.size N m ds (k + 1) (us ++ [ww]) w3) := by
          have hR := HR.out
          refine ⟨(hR.bel.alloc hR.bel.size _).grown hgr3 (by have := hR.bel.size; simp; omega) (fun q hq => by simp at hq; omega), ?_, by simp [hR.len], hR.dig.append (dig1 hwb), fun hle => top_snoc us (HTT.out hle), ?_⟩
          · have e0 : cellsU (us ++ [ww]) = cellsU us ++ [U ww] := by unfold cellsU; rw [List.map_append]; rfl
            rw [e0]; exact hw3
          · rw [EW.out]; exact rto_val hR.val hR.len HXE.out HYE.out
        clear hw3 hgr3
        go_roundg (gk - 1)
        case measure => omega
        case rel => exact ⟨k + 1, i + 2, us ++ [ww], by omega, by have := HI.out; show _ = _; omega, by go_num, rfl, HR3⟩
    · have hR := HR.out
      have hi2 := HI.out
      have AT := own_at hR.own hR.len hR.dig
      have HNF : Hid (Nf B64 us (valB B32 xs)) := by
        refine ⟨hR.dig, hR.top (by omega), ?_⟩
        have hv := hR.val
        rw [List.take_of_length_le (by have := HM.out; omega), HV.out] at hv; exact hv
      have hbx := Below.on hb0 hR.bel
      have hgz := hb0.size
      clear hR hi2
      go_wp2_with fail
      go_ret
      exact ⟨_, k, N, us, rfl, by omega, AT, HNF.out, hbx⟩
-- the document's side
theorem nf32_lt {zs : List Nat} {v K : Nat} (h : Nf B32 zs v) (hl : zs.length ≤ K) : v < B32 ^ K := by
  rw [← h.val]
  exact Nat.lt_of_lt_of_le (valB_lt B32_pos h.dig) (Nat.pow_le_pow_right B32_pos hl)
theorem nf32_ge {zs : List Nat} {v K : Nat} (h : Nf B32 zs v) (hl : K < zs.length) : B32 ^ K ≤ v := by
  rw [← h.val]
  exact Nat.le_trans (Nat.pow_le_pow_right B32_pos (by omega)) (valB_pos B32_pos (by intro e; rw [e] at hl; simp at hl) h.top)

theorem B32_pow (k : Nat) : B32 ^ k = 2 ^ (32 * k) := by rw [show B32 = 2 ^ 32 from rfl, ← Nat.pow_mul]
theorem bitsN_list32 {us : List Nat} {m x : Nat} (hd : Dig B32 us) (ht : Top us) (hl : us.length = m) (hm : m ≠ 0) (hx : x = us.getD (m - 1) 0) : bitsN (valB B32 us) = 32 * (m - 1) + bitsN x := by
  have h1 := valB_lt B32_pos (hd.take (m - 1))
  rw [List.length_take, hl, Nat.min_eq_left (by omega), B32_pow] at h1
  have hx0 : x ≠ 0 := by
    rw [hx]
    refine ht _ ?_
    rw [List.getLast?_eq_getElem?, hl, List.getD_eq_getElem?_getD, List.getElem?_eq_getElem (by omega)]; rfl
  have e : valB B32 us = valB B32 (us.take (m - 1)) + B32 ^ (m - 1) * x := by
    have := valB_take_succ B32 us (m - 1) (by omega)
    rw [show m - 1 + 1 = m by omega, List.take_of_length_le (by omega), ← hx] at this
    exact this
  rw [e, B32_pow]
  exact bitsN_top h1 (bitsN_lt x) (bitsN_le x hx0) (by unfold bitsN; rw [if_neg hx0]; omega)
theorem half_int (g : Nat) : (g : Int).tdiv 2 = ((g / 2 : Nat) : Int) := by
  rw [Int.tdiv_eq_ediv_of_nonneg (Int.natCast_nonneg g)]; omega

theorem rbits_any {p : Option Addr} {n c : Nat} {zs : List Nat} {v : Nat} {w : World} (h : At32 w p n c zs) (hx : Nf B32 zs v) (hn : n ≤ 35184372088832) :
    Calls Tryd.prog 35 #[.slice p n c] w fun e w' => e = .returned (.int .i64 (bitsN v)) ∧ w' = w := by
  have hl := h.len; have hcap := h.cap; have hbig := h.big
  unfold maxLen at hbig
  by_cases h0 : n = 0
  · subst h0
    have hv : v = 0 := by rw [← hx.val]; rw [List.eq_nil_of_length_eq_zero hl]; rfl
    subst hv
    clear hx
    go_enter Tryd.func35, Tryd.ntmps35
    go_wp2_with fail
    go_ret
    exact ⟨rfl, rfl⟩
  · obtain ⟨g, off, rfl, hc⟩ := h.cells.resolve_left h0
    obtain ⟨x, hx0⟩ : ∃ x, x = zs.getD (n - 1) 0 := ⟨_, rfl⟩
    have hcx : w.cell? ⟨g, off + (n - 1), none⟩ = some (V x) := by rw [hx0]; exact hc _ (by omega)
    have hxl : x < B32 := by
      rw [hx0, List.getD_eq_getElem?_getD, List.getElem?_eq_getElem (by omega)]
      exact h.dig _ (List.getElem_mem _)
    obtain ⟨T, hT⟩ : ∃ T, T = 32 * (n - 1) + bitsN x := ⟨_, rfl⟩
    have HT : Hid (bitsN v = T) := by show _ = _; rw [← hx.val, hT]; exact bitsN_list32 hx.dig hx.top hl h0 hx0
    have HX : Hid (x < B32) := hxl
    have HTT : Hid (T = 32 * (n - 1) + bitsN x) := hT
    obtain ⟨M, hM⟩ : ∃ M, M = n - 1 := ⟨_, rfl⟩
    have hn1 : (n : Int) - 1 = (M : Int) := by omega
    have h0' : ((n : Int) == 0) = false := by simp; omega
    rw [← hM] at hcx
    have HM : Hid (M = n - 1) := hM
    have hMl : M < n := by omega
    clear hx hl hc hx0 hxl hT h hM
    go_enter Tryd.func35, Tryd.ntmps35
    go_wp2_with fail
    have hTb : T ≤ 1200000000000000 := by
      have h1 := HTT.out
      have h2 : bitsN x ≤ 32 := by
        rcases Nat.lt_or_ge 32 (bitsN x) with e | e
        · exfalso
          have h3 : x ≠ 0 := by intro e0; rw [e0, bitsN_zero] at e; omega
          have h4 := bitsN_le x h3
          have h5 : (2:Nat) ^ 32 ≤ 2 ^ (bitsN x - 1) := Nat.pow_le_pow_right (by decide) (by omega)
          have h6 := HX.out
          rw [B32_eq] at h6
          omega
        · exact e
      omega
    go_loopg [3, 4] x (fun gk nv wv wr => ∃ N : Nat, nv = .int .i64 N ∧ wv = .int .u32 gk ∧ N + bitsN gk = T ∧ gk < B32 ∧ wr = w)
    case atStart => exact ⟨32 * M, by first | rfl | (congr 1; omega) | (simp; omega), rfl, by rw [HTT.out, HM.out], HX.out, rfl⟩
    case round =>
      obtain ⟨N, rfl, rfl, hNT, hgB, hwr⟩ := hrel
      obtain rfl := hwr.symm
      clear hwr
      by_cases hg0 : gk = 0
      · subst hg0
        rw [bitsN_zero] at hNT
        have HNT : Hid (N = T) := by show _ = _; omega
        clear hNT hgB
        go_wp2_with fail
        go_ret
        exact ⟨by rw [HT.out, ← HNT.out]; rfl, rfl⟩
      · have hb := bitsN_half gk hg0
        have hN1 : N + 1 ≤ 1200000000000000 := by omega
        have hgp : (0 : Int) < (gk : Int) := by omega
        have hh := half_int gk
        obtain ⟨k2, hk2⟩ : ∃ k2, k2 = gk / 2 := ⟨_, rfl⟩
        rw [← hk2] at hh hb
        have HK2 : Hid (k2 < gk ∧ N + 1 + bitsN k2 = T ∧ k2 < B32) := ⟨by omega, by omega, by omega⟩
        have hw2 : IntKind.u32.wrap (k2 : Int) = (k2 : Int) := wrap32 k2 (by omega)
        clear hb hNT hgB hk2 hg0
        go_wp2_with fail
        go_roundg k2
        case measure => exact HK2.out.1
        case rel => exact ⟨N + 1, by first | rfl | simp, by first | rfl | simp, HK2.out.2.1, HK2.out.2.2, rfl⟩

def DocIs (v : Nat) (us : List Nat) (f : Int) : Prop := (v < LIM ∧ Nf B64 us v ∧ f = 0) ∨ (LIM ≤ v ∧ us = [] ∧ f = 5)
theorem divsmall_abs {L x d B V W q r : Nat} (h : V * d + L = W) (hq : L * B + x = q * d + r) : (q + B * V) * d + r = x + B * W := by
  rw [← h, Nat.add_mul, Nat.mul_add]
  have e : B * V * d = B * (V * d) := by rw [Nat.mul_assoc]
  rw [e]
  have e2 : B * L = L * B := Nat.mul_comm _ _
  omega
theorem drop_set_self (qs : List Nat) (j y : Nat) (h : j < qs.length) : (qs.set j y).drop j = y :: qs.drop (j + 1) := by
  rw [List.drop_eq_getElem_cons (by simpa using h), List.getElem_set_self, List.drop_set_of_lt (by omega)]

theorem bSet0 {B : Nat} {a w : World} (h : Below B a w) (g o : Nat) (v : Value) (hB : B ≤ g) : Below B a (w.setCell ⟨g, o, none⟩ v) :=
  h.trans ((Wr.refl g o 1 w).setCell o ⟨by omega, by omega⟩ v |>.below hB)
structure DSm (w : World) (g n d : Nat) (xs : List Nat) (k L : Nat) (qs : List Nat) (wr : World) : Prop where
  bel : Below w.heap.size w wr
  row : Row32 wr g 0 n qs
  lt : L < d
  val : valB B32 (qs.drop k) * d + L = valB B32 (xs.drop k)

theorem rdivsmall {p : Option Addr} {n c : Nat} {xs : List Nat} {w : World} (h : At32 w p n c xs) (hn : n ≤ 1099511627776) (d : Nat) (hd : 1 ≤ d) (hdb : d < B32) :
    Calls Tryd.prog 62 #[.slice p n c, .int .u32 d] w fun e w' => ∃ p' m' zs r, e = .returned (.tuple #[.slice p' m' m', .int .u32 r]) ∧ At32 w' p' m' m' zs ∧ Nf B32 zs (valB B32 xs / d) ∧ m' ≤ n ∧ Below w.heap.size w w' := by
  obtain ⟨i0, hi, hz0, hz1, hz2⟩ := info_parts Tryd.infoU32
  have HLX : Hid (xs.length = n) := h.len
  have hcap := h.cap; have hbig := h.big
  unfold maxLen at hbig
  have hd0 : ((d : Int) == 0) = false := by simp; omega
  have HDB : Hid (1 ≤ d ∧ d < B32) := ⟨hd, hdb⟩
  have hdw : IntKind.u64.wrap (d : Int) = (d : Int) := wrap_mod _ _ (by rw [B32_eq] at hdb; omega)
  clear hdb
  go_enter Tryd.func62, Tryd.ntmps62
  go_wp2_with (at_make; refine wpList_make_full _ rfl _ _ 48 rfl w.heap.size 87 i0 (.int .u32 0) 1 Tryd.underlying48 hi hz0 hz1 _ _ _ _ n rfl rfl (by omega) (by omega) (by rw [hz2]; omega) (by unfold maxLen; omega) (Nat.le_refl _) ?_; intro w1 hown hgrow; have hb := made_blk32 hown hgrow; clear hown hgrow)
  have HO : Hid (DSm w w.heap.size n d xs n 0 (List.replicate n 0) w1) := by
    have hr := hb.1.row (Dig.replicate B32 n B32_pos)
    rw [List.length_replicate] at hr
    refine ⟨hb.2, hr, by omega, ?_⟩
    rw [List.drop_of_length_le (by rw [List.length_replicate]; exact Nat.le_refl _), List.drop_of_length_le (by rw [HLX.out]; exact Nat.le_refl _)]
    simp [valB]
  clear hb
  go_loopg [7, 8] n (fun gk lv iv wr => ∃ (L : Nat) (z : Int) (qs : List Nat), lv = U L ∧ iv = .int .i64 z ∧ z = (gk : Int) - 1 ∧ gk ≤ n ∧ Hid (DSm w w.heap.size n d xs gk L qs wr))
  case atStart => exact ⟨0, (n : Int) - 1, _, rfl, rfl, rfl, Nat.le_refl _, HO⟩
  case round =>
    obtain ⟨L, z, qs, rfl, rfl, hz, hgn, HR⟩ := hrel
    cases gk with
    | zero =>
      obtain rfl : z = -1 := by omega
      have hR := HR.out
      have A32 : At32 wr (some ⟨w.heap.size, 0, none⟩) n n qs := hR.row.at_ (Nat.le_refl _) (by unfold maxLen; omega)
      have hv := hR.val
      rw [List.drop_zero, List.drop_zero] at hv
      have HV : Hid (valB B32 qs = valB B32 xs / d) := by
        show _ = _
        have h1 := hR.lt
        rw [← hv, Nat.mul_comm, Nat.mul_add_div (by omega), Nat.div_eq_of_lt h1, Nat.add_zero]
      have HNF : Hid (Nf B32 (trimL qs) (valB B32 xs / d)) := by
        have := Nf.trim hR.row.dig
        rw [HV.out] at this; exact this
      have hle := trimL_length_le qs
      have HLE : Hid ((trimL qs).length ≤ n) := by have := hR.row.len; show _ ≤ _; omega
      have hLw : IntKind.u32.wrap (L : Int) = (L : Int) := wrap32 L (by have := hR.lt; have := HDB.out.2; omega)
      have hbx := hR.bel
      clear hR hv hle hz HR
      go_wp2_with fail
      refine (rnorm_any A32 (by omega)).mono ?_
      rintro e w5 ⟨g5, rfl, hg5, hblk5, hb5⟩
      have hd5 := HNF.out.dig
      generalize trimL qs = us at *
      go_wp2_with fail
      go_ret2
      exact ⟨_, _, us, _, rfl, hblk5.at_ hd5 rfl (by have := HLE.out; unfold maxLen; omega), HNF.out, HLE.out, Below.on hbx hb5⟩
    | succ j =>
      obtain rfl : z = (j : Int) := by omega
      obtain ⟨g, off, rfl, hc⟩ := h.cells.resolve_left (by omega)
      obtain ⟨x, hx⟩ : ∃ x, x = xs.getD j 0 := ⟨_, rfl⟩
      have hcx0 : w.cell? ⟨g, off + j, none⟩ = some (V x) := by rw [hx]; exact hc j (by omega)
      have hcx : wr.cell? ⟨g, off + j, none⟩ = some (V x) := (HR.out.bel.cell (p := ⟨g, off + j, none⟩) (World.block_lt_of_cell? w _ hcx0)).trans hcx0
      have hxb : x < B32 := by rw [hx]; exact h.dig.getD B32_pos j
      have hjn : j < n := by omega
      have hct : wr.cell? ⟨w.heap.size, j, none⟩ = some (V (qs.getD j 0)) := by
        have := HR.out.row.cell j hjn
        rw [Nat.zero_add] at this; exact this
      have hft : wr.frozen? ⟨w.heap.size, j, none⟩ = false := by
        have := HR.out.row.frozen j hjn
        rw [Nat.zero_add] at this; exact this
      have hL := HR.out.lt
      have hdB := HDB.out.2
      rw [B32_eq] at hdB hxb
      obtain ⟨T, hT⟩ : ∃ T, T = L * 4294967296 + x := ⟨_, rfl⟩
      obtain ⟨lh, hlh⟩ : ∃ lh, lh = L * 4294967296 := ⟨_, rfl⟩
      have f1 : IntKind.u64.wrap ((L : Int) * 4294967296) = (lh : Int) := wrap_mod _ _ (by omega)
      have f2 : IntKind.u64.wrap ((lh : Int) + (x : Int)) = (T : Int) := wrap_mod _ _ (by omega)
      have fx : IntKind.u64.wrap (x : Int) = (x : Int) := wrap_mod _ _ (by omega)
      obtain ⟨Q, hQ⟩ : ∃ Q, Q = T / d := ⟨_, rfl⟩
      obtain ⟨R, hRr⟩ : ∃ R, R = T % d := ⟨_, rfl⟩
      have q1 : (T : Int).tdiv (d : Int) = (Q : Int) := by rw [hQ, Int.tdiv_eq_ediv_of_nonneg (Int.natCast_nonneg T)]; norm_cast
      have q2 : (T : Int) / (d : Int) = (Q : Int) := by rw [hQ]; norm_cast
      have r1 : (T : Int).tmod (d : Int) = (R : Int) := by rw [hRr, Int.tmod_eq_emod_of_nonneg (Int.natCast_nonneg T)]; norm_cast
      have r2 : (T : Int) % (d : Int) = (R : Int) := by rw [hRr]; norm_cast
      have hRd : R < d := by rw [hRr]; exact Nat.mod_lt _ hd
      have hQB : Q < B32 := by
        rw [hQ, B32_eq]
        refine Nat.div_lt_of_lt_mul ?_
        have : L * 4294967296 + 4294967296 ≤ d * 4294967296 := by
          have := Nat.mul_le_mul_right 4294967296 (show L + 1 ≤ d by omega)
          rw [Nat.add_mul] at this; omega
        omega
      have fq : IntKind.u32.wrap (Q : Int) = (Q : Int) := wrap32 Q hQB
      have fq2 : IntKind.u64.wrap (Q : Int) = (Q : Int) := wrap_mod _ _ (by rw [B32_eq] at hQB; omega)
      have fq3 : (Q : Int) % 4294967296 = (Q : Int) := by rw [B32_eq] at hQB; omega
      have hQR : L * B32 + x = Q * d + R := by rw [B32_eq, ← hT, hQ, hRr, Nat.mul_comm]; exact (Nat.div_add_mod T d).symm
      have HS : Hid (DSm w w.heap.size n d xs j R (qs.set j Q) (wr.setCell ⟨w.heap.size, j, none⟩ (V Q))) := by
        have hR := HR.out
        have hs := hR.row.set j Q hjn hQB
        rw [Nat.zero_add] at hs
        refine ⟨bSet0 hR.bel _ _ _ (Nat.le_refl _), hs, hRd, ?_⟩
        rw [drop_set_self qs j Q (by rw [hR.row.len]; exact hjn), valB_cons, valB_drop B32 xs j (by rw [HLX.out]; exact hjn), ← hx]
        exact divsmall_abs hR.val hQR
      clear hz HR hc hx hcx0 hQ hRr hT hlh hQR hL hdB hxb hRd hQB
      go_wp2_with fail
      go_roundg j
      case measure => omega
      case rel => exact ⟨R, (j : Int) - 1, qs.set j Q, rfl, rfl, rfl, by omega, HS⟩
structure WinRel32 (w : World) (g off n : Nat) (W D d b : Nat) (ws : List Nat) (wr : World) : Prop where
  wrs : Wr g off (n + 1) w wr
  row : Row32 wr g off (n + 1) ws
  db : d < B32
  bb : b ≤ 1
  ge : W / D ≤ d
  sum : valB B32 ws + D * d = W + B32 ^ (n + 1) * b
theorem WinRel32.done {w : World} {g off n W D d : Nat} {ws : List Nat} {wr : World} (h : WinRel32 w g off n W D d 0 ws wr) (hD : 0 < D) : d = W / D ∧ valB B32 ws = W % D := by
  have h1 := h.sum; have h2 := h.ge
  rw [Nat.mul_zero, Nat.add_zero] at h1
  have h3 : d ≤ W / D := (Nat.le_div_iff_mul_le hD).2 (by rw [Nat.mul_comm]; omega)
  have h4 : d = W / D := by omega
  refine ⟨h4, ?_⟩
  have h5 := Nat.div_add_mod W D
  rw [← h4] at h5
  omega
structure DgS (w : World) (g off n : Nat) (us vs : List Nat) (q k cy ow : Nat) (dk : List Nat) (wr : World) : Prop where
  wrs : Wr g off (n + 1) w wr
  row : Row32 wr g off (n + 1) dk
  hi : dk.drop k = us.drop k
  car : cy < B32
  owb : ow ≤ 1
  fin : k = n + 1 → cy = 0
  sum : valB B32 (dk.take k) + valB B32 (vs.take k) * q = valB B32 (us.take k) + B32 ^ k * (ow + cy)
theorem dgs_abs {P B S V U q d y u o c o' c' : Nat} (h : S + V * q = U + P * (o + c)) (hs : o + c + d + y * q = u + B * (o' + c')) : S + P * d + (V + P * y) * q = U + P * u + P * B * (o' + c') := by
  have e1 : P * (o + c + d + y * q) = P * (u + B * (o' + c')) := by rw [hs]
  rw [Nat.mul_add P (o + c + d) (y * q), Nat.mul_add P (o + c) d, Nat.mul_add P u] at e1
  have e2 : P * (y * q) = P * y * q := (Nat.mul_assoc _ _ _).symm
  have e3 : P * (B * (o' + c')) = P * B * (o' + c') := (Nat.mul_assoc _ _ _).symm
  rw [e2, e3] at e1
  rw [Nat.add_mul]
  generalize P * y * q = X1 at *
  generalize P * B * (o' + c') = X2 at *
  generalize P * (o + c) = X3 at *
  generalize P * d = X4 at *
  generalize P * u = X5 at *
  omega
theorem DgS.step {w : World} {g off n : Nat} {us vs : List Nat} {q k cy ow : Nat} {dk : List Nat} {wr : World} (h : DgS w g off n us vs q k cy ow dk wr) (hk : k < n + 1) (hvl : vs.length = n)
    {y u c1 lo cy' ow' d : Nat} (hy : y = vs.getD k 0) (hu : u = dk.getD k 0) (hc1 : c1 = cy + y * q) (hlo : c1 = lo + B32 * cy') (hcy' : cy' < B32) (how' : ow' ≤ 1) (hd : d + lo + ow = u + B32 * ow') (hdb : d < B32) :
    DgS w g off n us vs q (k + 1) cy' ow' (dk.set k d) (wr.setCell ⟨g, off + k, none⟩ (V d)) := by
  have hlen := h.row.len
  refine ⟨h.wrs.setCell (off + k) ⟨by omega, by omega⟩ _, h.row.set k d hk hdb, ?_, hcy', how', ?_, ?_⟩
  · rw [drop_set_lt]; exact drop_succ_of_drop h.hi
  · intro hkn
    have h0 : y = 0 := by
      rw [hy, List.getD_eq_getElem?_getD, List.getElem?_eq_none (by omega)]; rfl
    rw [h0, Nat.zero_mul] at hc1
    have := h.car
    rcases Nat.eq_zero_or_pos cy' with e | e
    · exact e
    · have : B32 * 1 ≤ B32 * cy' := Nat.mul_le_mul_left _ e
      omega
  · have huu : u = us.getD k 0 := hu.trans (getD_of_drop h.hi)
    rw [take_set_succ dk k d (by omega), valB_snoc, List.length_take, hlen, Nat.min_eq_left (by omega), valB_take_any _ us k, valB_take_any _ vs k, ← huu, ← hy, Nat.pow_succ]
    refine dgs_abs h.sum ?_
    rw [Nat.mul_add]
    omega
structure DgA (w : World) (g off n : Nat) (ws vs : List Nat) (k cy : Nat) (dk : List Nat) (wr : World) : Prop where
  wrs : Wr g off (n + 1) w wr
  row : Row32 wr g off (n + 1) dk
  hi : dk.drop k = ws.drop k
  car : cy ≤ 1
  sum : valB B32 (dk.take k) + B32 ^ k * cy = valB B32 (ws.take k) + valB B32 (vs.take k)
theorem DgA.step {w : World} {g off n : Nat} {ws vs : List Nat} {k cy : Nat} {dk : List Nat} {wr : World} (h : DgA w g off n ws vs k cy dk wr) (hk : k < n + 1)
    {y u lo cy' : Nat} (hy : y = vs.getD k 0) (hu : u = dk.getD k 0) (hs : cy + u + y = lo + B32 * cy') (hlo : lo < B32) (hcy' : cy' ≤ 1) :
    DgA w g off n ws vs (k + 1) cy' (dk.set k lo) (wr.setCell ⟨g, off + k, none⟩ (V lo)) := by
  have hlen := h.row.len
  refine ⟨h.wrs.setCell (off + k) ⟨by omega, by omega⟩ _, h.row.set k lo hk hlo, ?_, hcy', ?_⟩
  · rw [drop_set_lt]; exact drop_succ_of_drop h.hi
  · have huu : u = ws.getD k 0 := hu.trans (getD_of_drop h.hi)
    rw [take_set_succ dk k lo (by omega), valB_snoc, List.length_take, hlen, Nat.min_eq_left (by omega), valB_take_any _ ws k, valB_take_any _ vs k, ← huu, ← hy, Nat.pow_succ]
    have e1 := h.sum
    have e2 : B32 ^ k * (cy + u + y) = B32 ^ k * (lo + B32 * cy') := by rw [hs]
    rw [Nat.mul_add, Nat.mul_add, Nat.mul_add, ← Nat.mul_assoc] at e2
    omega
structure RAddR (w : World) (g N M : Nat) (xs ys : List Nat) (i cy : Nat) (ss : List Nat) (wr : World) : Prop where
  bel : Below g w wr
  own : wr.ownsRow g 87 1 (.slice (some ⟨g, 0, none⟩) i N) i (cellsV ss)
  len : ss.length = i
  dig : Dig B32 ss
  car : cy ≤ 1
  fin : i ≤ M + 1
  last : i = M + 1 → cy = 0
  sum : valB B32 ss + B32 ^ i * cy = valB B32 (xs.take i) + valB B32 (ys.take i)
theorem radd_step {xs ys ss : List Nat} {i cy x y lo hh : Nat} (h : valB B32 ss + B32 ^ i * cy = valB B32 (xs.take i) + valB B32 (ys.take i)) (hl : ss.length = i) (ex : x = xs.getD i 0) (ey : y = ys.getD i 0) (hs : cy + x + y = lo + B32 * hh) :
    valB B32 (ss ++ [lo]) + B32 ^ (i + 1) * hh = valB B32 (xs.take (i + 1)) + valB B32 (ys.take (i + 1)) := by
  rw [valB_snoc, hl, valB_take_any _ xs i, valB_take_any _ ys i, ← ex, ← ey, Nat.pow_succ]
  have e1 : B32 ^ i * (cy + x + y) = B32 ^ i * (lo + B32 * hh) := by rw [hs]
  rw [Nat.mul_add, Nat.mul_add, Nat.mul_add, ← Nat.mul_assoc] at e1
  omega
theorem RAddR.at_ {w : World} {g N M : Nat} {xs ys : List Nat} {i cy : Nat} {ss : List Nat} {wr : World} (h : RAddR w g N M xs ys i cy ss wr) : At32 wr (some ⟨g, 0, none⟩) i N ss := by
  rcases h.own.2 with ⟨h', _⟩ | ⟨g', cap', cur, h', hbase, hgc, hcap', hmx, hsz, htake⟩
  · simp at h'
  · simp only [Value.slice.injEq, Option.some.injEq, Addr.mk.injEq, and_true, true_and] at h'
    obtain ⟨rfl, rfl⟩ := h'
    refine ⟨h.len, hcap', hmx, h.dig, .inr ⟨g, 0, rfl, fun jj hj => ?_⟩⟩
    rw [Nat.zero_add, cell_of_row wr g jj _ _ _ hgc]
    have e1 := cellsV_get ss jj (by rw [h.len]; exact hj)
    rw [← htake, Nat.mul_one, List.getElem?_take, if_pos hj] at e1
    rw [← Array.getElem?_toList]; exact e1
theorem one_cell (w : World) (x : Nat) : ∀ (j : Nat) (u : Value), [V x][j]? = some u → (w.alloc (.cells #[V x] 87)).cell? ((⟨w.heap.size, 0, none⟩ : Addr).add j) = some u := by
  intro j u h
  have hb : Blk32 (w.alloc (.cells #[V x] 87)) w.heap.size [x] := heap_alloc_new w _
  have hj : j < 1 := by
    have := (List.getElem?_eq_some_iff.1 h).1
    simpa using this
  have hadd : (⟨w.heap.size, 0, none⟩ : Addr).add j = ⟨w.heap.size, j, none⟩ := by unfold Addr.add; split <;> simp_all
  rw [hadd, hb.cell j (by simpa using hj)]
  obtain rfl : j = 0 := by omega
  simpa using h

theorem radd_any {p q : Option Addr} {n m c d : Nat} {xs ys : List Nat} {a b : Nat} {w : World} (h : At32 w p n c xs) (k : At32 w q m d ys) (hx : Nf B32 xs a) (hy : Nf B32 ys b) (hn : n ≤ 4398046511104) (hm : m ≤ 4398046511104) :
    Calls Tryd.prog 24 #[.slice p n c, .slice q m d] w fun e w' => ∃ p' m' zs, e = .returned (.slice p' m' m') ∧ At32 w' p' m' m' zs ∧ Nf B32 zs (a + b) ∧ Below w.heap.size w w' := by
  obtain ⟨i0, hi, hz0, hz1, hz2⟩ := info_parts Tryd.infoU32
  have HX : Hid (Nf B32 xs a) := hx
  have HY : Hid (Nf B32 ys b) := hy
  have HLX : Hid (xs.length = n) := h.len
  have HLY : Hid (ys.length = m) := k.len
  have hcap := h.cap; have hbig := h.big; have kcap := k.cap; have kbig := k.big
  unfold maxLen at hbig kbig
  obtain ⟨M, hM⟩ : ∃ M, M = max n m := ⟨_, rfl⟩
  have hM1 : n ≤ M := by omega
  have hM2 : m ≤ M := by omega
  have HM : Hid (M = n ∨ M = m) := by show _ ∨ _; omega
  have hMi : max (n : Int) (m : Int) = (M : Int) := by omega
  have hMb : M ≤ 4398046511104 := by omega
  clear hx hy hM
  go_enter Tryd.func24, Tryd.ntmps24
  go_wp2_with (at_make; refine wpList_make_own _ rfl _ _ 48 rfl w.heap.size 87 i0 (.int .u32 0) 1 Tryd.underlying48 hi hz0 hz1 _ _ _ (M + 1) rfl rfl (by omega) (by rw [hz2]; omega) (by unfold maxLen; omega) (Nat.le_refl _) ?_; intro w1 hown hgrow)
  have hb1 : Below w.heap.size w w1 := (Below.refl _ _).grown hgrow (Nat.le_refl _) (fun k hk => by simp at hk)
  have HO : Hid (RAddR w w.heap.size (M + 1) M xs ys 0 0 [] w1) := ⟨hb1, hown, rfl, Dig.nil _, by omega, by omega, fun _ => rfl, by simp [valB]⟩
  clear hown hgrow hb1 hMi
  obtain ⟨N, hN⟩ : ∃ N, N = M + 1 := ⟨_, rfl⟩
  rw [← hN] at HO ⊢
  have HN : Hid (N = M + 1) := hN
  clear hN
  -- the loop
  go_loopg [5, 6, 7] (M + 1) (fun gk sv cv iv wr => ∃ (i cy : Nat) (ss : List Nat), i + gk = M + 1 ∧ iv = .int .i64 i ∧ cv = U cy ∧ sv = .slice (some ⟨w.heap.size, 0, none⟩) i N ∧ Hid (RAddR w w.heap.size N M xs ys i cy ss wr))
  case atStart => exact ⟨0, 0, [], by omega, rfl, rfl, rfl, HO⟩
  case round =>
    obtain ⟨i, cy, ss, hig, rfl, rfl, rfl, HR⟩ := hrel
    have hcy := HR.out.car
    by_cases hall : ¬ i < n ∧ ¬ i < m ∧ cy = 0
    · obtain ⟨ha, hb, rfl⟩ := hall
      have A32 := HR.out.at_
      have hv := HR.out.sum
      rw [Nat.mul_zero, Nat.add_zero, List.take_of_length_le (by rw [HLX.out]; omega), List.take_of_length_le (by rw [HLY.out]; omega), HX.out.val, HY.out.val] at hv
      have HNF : Hid (Nf B32 (trimL ss) (a + b)) := by
        have := Nf.trim HR.out.dig
        rw [hv] at this; exact this
      have hle := trimL_length_le ss
      have HLE : Hid ((trimL ss).length ≤ M + 1) := by have := HR.out.len; have := HR.out.fin; show _ ≤ _; omega
      have hib := HR.out.fin
      have hbx := HR.out.bel
      have hc0 : ¬ (0 : Int) < ((0 : Nat) : Int) := by omega
      clear hv hle
      go_wp2_with fail
      refine (rnorm_any A32 (by omega)).mono ?_
      rintro e w5 ⟨g5, rfl, hg5, hblk5, hb5⟩
      have hd5 := HNF.out.dig
      generalize trimL ss = zs at *
      go_wp2_with fail
      go_ret
      exact ⟨_, _, zs, rfl, hblk5.at_ hd5 rfl (by have := HLE.out; unfold maxLen; omega), HNF.out, Below.on hbx hb5⟩
    · obtain ⟨x, hx⟩ : ∃ x, x = xs.getD i 0 := ⟨_, rfl⟩
      obtain ⟨y, hy⟩ : ∃ y, y = ys.getD i 0 := ⟨_, rfl⟩
      have hxb : x < B32 := by rw [hx]; exact HX.out.dig.getD B32_pos i
      have hyb : y < B32 := by rw [hy]; exact HY.out.dig.getD B32_pos i
      have HXE : Hid (x = xs.getD i 0) := hx
      have HYE : Hid (y = ys.getD i 0) := hy
      clear hx hy
      cases gk with
      | zero =>
        exfalso
        have h1 := HR.out.last (by omega)
        exact hall ⟨by omega, by omega, h1⟩
      | succ gg =>
        by_cases ha : i < n
        · by_cases hb : i < m
          · have hin : i < n := ha
            obtain ⟨g, off, rfl, hc⟩ := h.cells.resolve_left (by omega)
            have hcx0 : w.cell? ⟨g, off + i, none⟩ = some (V x) := by rw [HXE.out]; exact hc i hin
            have hcx : wr.cell? ⟨g, off + i, none⟩ = some (V x) := (HR.out.bel.cell (p := ⟨g, off + i, none⟩) (World.block_lt_of_cell? w _ hcx0)).trans hcx0
            have hxw : IntKind.u64.wrap (x : Int) = (x : Int) := wrap_mod _ _ (by rw [B32_eq] at hxb; omega)
            clear hc hcx0
            have him : i < m := hb
            obtain ⟨g2, off2, rfl, hc2⟩ := k.cells.resolve_left (by omega)
            have hcy0 : w.cell? ⟨g2, off2 + i, none⟩ = some (V y) := by rw [HYE.out]; exact hc2 i him
            have hcy1 : wr.cell? ⟨g2, off2 + i, none⟩ = some (V y) := (HR.out.bel.cell (p := ⟨g2, off2 + i, none⟩) (World.block_lt_of_cell? w _ hcy0)).trans hcy0
            have hyw : IntKind.u64.wrap (y : Int) = (y : Int) := wrap_mod _ _ (by rw [B32_eq] at hyb; omega)
            clear hc2 hcy0
            obtain ⟨t1, et1⟩ : ∃ t1, t1 = cy + x := ⟨_, rfl⟩
            obtain ⟨t2, et2⟩ : ∃ t2, t2 = t1 + y := ⟨_, rfl⟩
            rw [B32_eq] at hxb hyb
            have f1 : IntKind.u64.wrap ((cy : Int) + (x : Int)) = (t1 : Int) := wrap_mod _ _ (by omega)
            have f2 : IntKind.u64.wrap ((t1 : Int) + (y : Int)) = (t2 : Int) := wrap_mod _ _ (by omega)
            have ht2 : t2 < 18446744073709551616 := by omega
            obtain ⟨lo, elo⟩ : ∃ lo, lo = t2 % B32 := ⟨_, rfl⟩
            obtain ⟨hh, ehh⟩ : ∃ hh, hh = t2 / B32 := ⟨_, rfl⟩
            have hlob : lo < B32 := by rw [elo]; exact Nat.mod_lt _ B32_pos
            have hhb : hh ≤ 1 := by rw [ehh, B32_eq]; omega
            have f4 : bits .and .u64 (t2 : Int) 4294967295 = (lo : Int) := by rw [elo, B32_eq]; exact and32 t2 ht2
            have f5 : (t2 : Int) / 4294967296 = (hh : Int) := by rw [ehh, B32_eq]; exact div32 t2
            have f6 : IntKind.u32.wrap (lo : Int) = (lo : Int) := wrap32 lo hlob
            have HSUM : Hid (cy + x + y = lo + B32 * hh) := by
              have := Nat.mod_add_div t2 B32
              rw [← elo, ← ehh] at this
              show _ = _; omega
            have HLAST : Hid (i + 1 = M + 1 → hh = 0) := by
              intro hl
              exfalso; omega
            have HI1 : Hid (i + 1 ≤ M + 1) := by
              have h1 := HR.out.fin; have h2 := HR.out.last
              show _ ≤ _; omega
            have HOA : Hid ((wr.alloc (.cells #[V lo] 87)).ownsRow w.heap.size 87 1 (.slice (some ⟨w.heap.size, 0, none⟩) i N) i (cellsV ss)) := HR.out.own.alloc _
            have hsp : i + 1 ≤ N := by have := HI1.out; have := HN.out; omega
            clear et1 et2 elo ehh hxb hyb
            go_wp2_with (at_builtin; refine wpList_append_fits _ rfl (.tmp 53) (.tmp 57) 48 rfl w.heap.size 87 i0 1 Tryd.underlying48 hi hz1 w.heap.size i N (cellsV ss) rfl HOA.out ⟨wr.heap.size, 0, none⟩ 1 1 [V lo] rfl rfl (one_cell wr lo) (by intro u hu; simp at hu; subst hu; rfl) hsp ?_; intro w3 hw3 hgr3)
            have HR3 : Hid (RAddR w w.heap.size N M xs ys (i + 1) hh (ss ++ [lo]) w3) := by
              have hR := HR.out
              refine ⟨(hR.bel.alloc hR.bel.size _).grown hgr3 (by have := hR.bel.size; simp; omega) (fun q hq => by simp at hq; omega), ?_, by simp [hR.len], hR.dig.append (Dig.cons hlob (Dig.nil _)), hhb, HI1.out, HLAST.out, radd_step hR.sum hR.len HXE.out HYE.out HSUM.out⟩
              have e0 : cellsV (ss ++ [lo]) = cellsV ss ++ [V lo] := by unfold cellsV; rw [List.map_append]; rfl
              rw [e0]; exact hw3
            clear hw3 hgr3
            go_roundg gg
            case measure => omega
            case rel => exact ⟨i + 1, hh, ss ++ [lo], by omega, by go_num, rfl, rfl, HR3⟩
          · have hin : i < n := ha
            obtain ⟨g, off, rfl, hc⟩ := h.cells.resolve_left (by omega)
            have hcx0 : w.cell? ⟨g, off + i, none⟩ = some (V x) := by rw [HXE.out]; exact hc i hin
            have hcx : wr.cell? ⟨g, off + i, none⟩ = some (V x) := (HR.out.bel.cell (p := ⟨g, off + i, none⟩) (World.block_lt_of_cell? w _ hcx0)).trans hcx0
            have hxw : IntKind.u64.wrap (x : Int) = (x : Int) := wrap_mod _ _ (by rw [B32_eq] at hxb; omega)
            clear hc hcx0
            have hy0 : y = 0 := by rw [HYE.out, List.getD_eq_getElem?_getD, List.getElem?_eq_none (by rw [HLY.out]; omega)]; rfl
            obtain ⟨t1, et1⟩ : ∃ t1, t1 = cy + x := ⟨_, rfl⟩
            obtain ⟨t2, et2⟩ : ∃ t2, t2 = t1 + y := ⟨_, rfl⟩
            rw [B32_eq] at hxb hyb
            have f1 : IntKind.u64.wrap ((cy : Int) + (x : Int)) = (t1 : Int) := wrap_mod _ _ (by omega)
            obtain rfl : t2 = t1 := by omega
            have ht2 : t2 < 18446744073709551616 := by omega
            obtain ⟨lo, elo⟩ : ∃ lo, lo = t2 % B32 := ⟨_, rfl⟩
            obtain ⟨hh, ehh⟩ : ∃ hh, hh = t2 / B32 := ⟨_, rfl⟩
            have hlob : lo < B32 := by rw [elo]; exact Nat.mod_lt _ B32_pos
            have hhb : hh ≤ 1 := by rw [ehh, B32_eq]; omega
            have f4 : bits .and .u64 (t2 : Int) 4294967295 = (lo : Int) := by rw [elo, B32_eq]; exact and32 t2 ht2
            have f5 : (t2 : Int) / 4294967296 = (hh : Int) := by rw [ehh, B32_eq]; exact div32 t2
            have f6 : IntKind.u32.wrap (lo : Int) = (lo : Int) := wrap32 lo hlob
            have HSUM : Hid (cy + x + y = lo + B32 * hh) := by
              have := Nat.mod_add_div t2 B32
              rw [← elo, ← ehh] at this
              show _ = _; omega
            have HLAST : Hid (i + 1 = M + 1 → hh = 0) := by
              intro hl
              exfalso; omega
            have HI1 : Hid (i + 1 ≤ M + 1) := by
              have h1 := HR.out.fin; have h2 := HR.out.last
              show _ ≤ _; omega
            have HOA : Hid ((wr.alloc (.cells #[V lo] 87)).ownsRow w.heap.size 87 1 (.slice (some ⟨w.heap.size, 0, none⟩) i N) i (cellsV ss)) := HR.out.own.alloc _
            have hsp : i + 1 ≤ N := by have := HI1.out; have := HN.out; omega
            clear et1 et2 elo ehh hxb hyb
            go_wp2_with (at_builtin; refine wpList_append_fits _ rfl (.tmp 53) (.tmp 57) 48 rfl w.heap.size 87 i0 1 Tryd.underlying48 hi hz1 w.heap.size i N (cellsV ss) rfl HOA.out ⟨wr.heap.size, 0, none⟩ 1 1 [V lo] rfl rfl (one_cell wr lo) (by intro u hu; simp at hu; subst hu; rfl) hsp ?_; intro w3 hw3 hgr3)
            have HR3 : Hid (RAddR w w.heap.size N M xs ys (i + 1) hh (ss ++ [lo]) w3) := by
              have hR := HR.out
              refine ⟨(hR.bel.alloc hR.bel.size _).grown hgr3 (by have := hR.bel.size; simp; omega) (fun q hq => by simp at hq; omega), ?_, by simp [hR.len], hR.dig.append (Dig.cons hlob (Dig.nil _)), hhb, HI1.out, HLAST.out, radd_step hR.sum hR.len HXE.out HYE.out HSUM.out⟩
              have e0 : cellsV (ss ++ [lo]) = cellsV ss ++ [V lo] := by unfold cellsV; rw [List.map_append]; rfl
              rw [e0]; exact hw3
            clear hw3 hgr3
            go_roundg gg
            case measure => omega
            case rel => exact ⟨i + 1, hh, ss ++ [lo], by omega, by go_num, rfl, rfl, HR3⟩
        · by_cases hb : i < m
          · have him : i < m := hb
            obtain ⟨g2, off2, rfl, hc2⟩ := k.cells.resolve_left (by omega)
            have hcy0 : w.cell? ⟨g2, off2 + i, none⟩ = some (V y) := by rw [HYE.out]; exact hc2 i him
            have hcy1 : wr.cell? ⟨g2, off2 + i, none⟩ = some (V y) := (HR.out.bel.cell (p := ⟨g2, off2 + i, none⟩) (World.block_lt_of_cell? w _ hcy0)).trans hcy0
            have hyw : IntKind.u64.wrap (y : Int) = (y : Int) := wrap_mod _ _ (by rw [B32_eq] at hyb; omega)
            clear hc2 hcy0
            have hx0 : x = 0 := by rw [HXE.out, List.getD_eq_getElem?_getD, List.getElem?_eq_none (by rw [HLX.out]; omega)]; rfl
            obtain ⟨t1, et1⟩ : ∃ t1, t1 = cy + x := ⟨_, rfl⟩
            obtain ⟨t2, et2⟩ : ∃ t2, t2 = t1 + y := ⟨_, rfl⟩
            rw [B32_eq] at hxb hyb
            obtain rfl : t1 = cy := by omega
            have f2 : IntKind.u64.wrap ((t1 : Int) + (y : Int)) = (t2 : Int) := wrap_mod _ _ (by omega)
            have ht2 : t2 < 18446744073709551616 := by omega
            obtain ⟨lo, elo⟩ : ∃ lo, lo = t2 % B32 := ⟨_, rfl⟩
            obtain ⟨hh, ehh⟩ : ∃ hh, hh = t2 / B32 := ⟨_, rfl⟩
            have hlob : lo < B32 := by rw [elo]; exact Nat.mod_lt _ B32_pos
            have hhb : hh ≤ 1 := by rw [ehh, B32_eq]; omega
            have f4 : bits .and .u64 (t2 : Int) 4294967295 = (lo : Int) := by rw [elo, B32_eq]; exact and32 t2 ht2
            have f5 : (t2 : Int) / 4294967296 = (hh : Int) := by rw [ehh, B32_eq]; exact div32 t2
            have f6 : IntKind.u32.wrap (lo : Int) = (lo : Int) := wrap32 lo hlob
            have HSUM : Hid (t1 + x + y = lo + B32 * hh) := by
              have := Nat.mod_add_div t2 B32
              rw [← elo, ← ehh] at this
              show _ = _; omega
            have HLAST : Hid (i + 1 = M + 1 → hh = 0) := by
              intro hl
              exfalso; omega
            have HI1 : Hid (i + 1 ≤ M + 1) := by
              have h1 := HR.out.fin; have h2 := HR.out.last
              show _ ≤ _; omega
            have HOA : Hid ((wr.alloc (.cells #[V lo] 87)).ownsRow w.heap.size 87 1 (.slice (some ⟨w.heap.size, 0, none⟩) i N) i (cellsV ss)) := HR.out.own.alloc _
            have hsp : i + 1 ≤ N := by have := HI1.out; have := HN.out; omega
            clear et1 et2 elo ehh hxb hyb
            go_wp2_with (at_builtin; refine wpList_append_fits _ rfl (.tmp 53) (.tmp 57) 48 rfl w.heap.size 87 i0 1 Tryd.underlying48 hi hz1 w.heap.size i N (cellsV ss) rfl HOA.out ⟨wr.heap.size, 0, none⟩ 1 1 [V lo] rfl rfl (one_cell wr lo) (by intro u hu; simp at hu; subst hu; rfl) hsp ?_; intro w3 hw3 hgr3)
            have HR3 : Hid (RAddR w w.heap.size N M xs ys (i + 1) hh (ss ++ [lo]) w3) := by
              have hR := HR.out
              refine ⟨(hR.bel.alloc hR.bel.size _).grown hgr3 (by have := hR.bel.size; simp; omega) (fun q hq => by simp at hq; omega), ?_, by simp [hR.len], hR.dig.append (Dig.cons hlob (Dig.nil _)), hhb, HI1.out, HLAST.out, radd_step hR.sum hR.len HXE.out HYE.out HSUM.out⟩
              have e0 : cellsV (ss ++ [lo]) = cellsV ss ++ [V lo] := by unfold cellsV; rw [List.map_append]; rfl
              rw [e0]; exact hw3
            clear hw3 hgr3
            go_roundg gg
            case measure => omega
            case rel => exact ⟨i + 1, hh, ss ++ [lo], by omega, by go_num, rfl, rfl, HR3⟩
          · have hcp : 0 < cy := by
              rcases Nat.eq_zero_or_pos cy with e | e
              · exact absurd ⟨ha, hb, e⟩ hall
              · exact e
            have hcp' : (0 : Int) < (cy : Int) := by omega
            have hx0 : x = 0 := by rw [HXE.out, List.getD_eq_getElem?_getD, List.getElem?_eq_none (by rw [HLX.out]; omega)]; rfl
            have hy0 : y = 0 := by rw [HYE.out, List.getD_eq_getElem?_getD, List.getElem?_eq_none (by rw [HLY.out]; omega)]; rfl
            obtain ⟨t1, et1⟩ : ∃ t1, t1 = cy + x := ⟨_, rfl⟩
            obtain ⟨t2, et2⟩ : ∃ t2, t2 = t1 + y := ⟨_, rfl⟩
            rw [B32_eq] at hxb hyb
            obtain rfl : t1 = cy := by omega
            obtain rfl : t2 = t1 := by omega
            have ht2 : t2 < 18446744073709551616 := by omega
            obtain ⟨lo, elo⟩ : ∃ lo, lo = t2 % B32 := ⟨_, rfl⟩
            obtain ⟨hh, ehh⟩ : ∃ hh, hh = t2 / B32 := ⟨_, rfl⟩
            have hlob : lo < B32 := by rw [elo]; exact Nat.mod_lt _ B32_pos
            have hhb : hh ≤ 1 := by rw [ehh, B32_eq]; omega
            have f4 : bits .and .u64 (t2 : Int) 4294967295 = (lo : Int) := by rw [elo, B32_eq]; exact and32 t2 ht2
            have f5 : (t2 : Int) / 4294967296 = (hh : Int) := by rw [ehh, B32_eq]; exact div32 t2
            have f6 : IntKind.u32.wrap (lo : Int) = (lo : Int) := wrap32 lo hlob
            have HSUM : Hid (t2 + x + y = lo + B32 * hh) := by
              have := Nat.mod_add_div t2 B32
              rw [← elo, ← ehh] at this
              show _ = _; omega
            have HLAST : Hid (i + 1 = M + 1 → hh = 0) := by
              intro hl
              rw [ehh, B32_eq]; omega
            have HI1 : Hid (i + 1 ≤ M + 1) := by
              have h1 := HR.out.fin; have h2 := HR.out.last
              show _ ≤ _; omega
            have HOA : Hid ((wr.alloc (.cells #[V lo] 87)).ownsRow w.heap.size 87 1 (.slice (some ⟨w.heap.size, 0, none⟩) i N) i (cellsV ss)) := HR.out.own.alloc _
            have hsp : i + 1 ≤ N := by have := HI1.out; have := HN.out; omega
            clear et1 et2 elo ehh hxb hyb
            go_wp2_with (at_builtin; refine wpList_append_fits _ rfl (.tmp 53) (.tmp 57) 48 rfl w.heap.size 87 i0 1 Tryd.underlying48 hi hz1 w.heap.size i N (cellsV ss) rfl HOA.out ⟨wr.heap.size, 0, none⟩ 1 1 [V lo] rfl rfl (one_cell wr lo) (by intro u hu; simp at hu; subst hu; rfl) hsp ?_; intro w3 hw3 hgr3)
            have HR3 : Hid (RAddR w w.heap.size N M xs ys (i + 1) hh (ss ++ [lo]) w3) := by
              have hR := HR.out
              refine ⟨(hR.bel.alloc hR.bel.size _).grown hgr3 (by have := hR.bel.size; simp; omega) (fun q hq => by simp at hq; omega), ?_, by simp [hR.len], hR.dig.append (Dig.cons hlob (Dig.nil _)), hhb, HI1.out, HLAST.out, radd_step hR.sum hR.len HXE.out HYE.out HSUM.out⟩
              have e0 : cellsV (ss ++ [lo]) = cellsV ss ++ [V lo] := by unfold cellsV; rw [List.map_append]; rfl
              rw [e0]; exact hw3
            clear hw3 hgr3
            go_roundg gg
            case measure => omega
            case rel => exact ⟨i + 1, hh, ss ++ [lo], by omega, by go_num, rfl, rfl, HR3⟩
structure RSubR (w : World) (g N : Nat) (xs ys : List Nat) (i ow : Nat) (ss : List Nat) (wr : World) : Prop where
  bel : Below g w wr
  own : wr.ownsRow g 87 1 (.slice (some ⟨g, 0, none⟩) i N) i (cellsV ss)
  len : ss.length = i
  dig : Dig B32 ss
  car : ow ≤ 1
  sum : valB B32 ss + valB B32 (ys.take i) = valB B32 (xs.take i) + B32 ^ i * ow
theorem rsub_step {xs ys ss : List Nat} {i ow x y lo o2 : Nat} (h : valB B32 ss + valB B32 (ys.take i) = valB B32 (xs.take i) + B32 ^ i * ow) (hl : ss.length = i) (ex : x = xs.getD i 0) (ey : y = ys.getD i 0) (hs : lo + ow + y = x + B32 * o2) :
    valB B32 (ss ++ [lo]) + valB B32 (ys.take (i + 1)) = valB B32 (xs.take (i + 1)) + B32 ^ (i + 1) * o2 := by
  rw [valB_snoc, hl, valB_take_any _ xs i, valB_take_any _ ys i, ← ex, ← ey, Nat.pow_succ]
  have e1 : B32 ^ i * (lo + ow + y) = B32 ^ i * (x + B32 * o2) := by rw [hs]
  rw [Nat.mul_add, Nat.mul_add, Nat.mul_add, ← Nat.mul_assoc] at e1
  omega
theorem RSubR.at_ {w : World} {g N : Nat} {xs ys : List Nat} {i cy : Nat} {ss : List Nat} {wr : World} (h : RSubR w g N xs ys i cy ss wr) : At32 wr (some ⟨g, 0, none⟩) i N ss := by
  rcases h.own.2 with ⟨h', _⟩ | ⟨g', cap', cur, h', hbase, hgc, hcap', hmx, hsz, htake⟩
  · simp at h'
  · simp only [Value.slice.injEq, Option.some.injEq, Addr.mk.injEq, and_true, true_and] at h'
    obtain ⟨rfl, rfl⟩ := h'
    refine ⟨h.len, hcap', hmx, h.dig, .inr ⟨g, 0, rfl, fun jj hj => ?_⟩⟩
    rw [Nat.zero_add, cell_of_row wr g jj _ _ _ hgc]
    have e1 := cellsV_get ss jj (by rw [h.len]; exact hj)
    rw [← htake, Nat.mul_one, List.getElem?_take, if_pos hj] at e1
    rw [← Array.getElem?_toList]; exact e1

theorem rsub_gt {p q : Option Addr} {n m c d : Nat} {xs ys : List Nat} {a b : Nat} {w : World} (h : At32 w p n c xs) (k : At32 w q m d ys) (hx : Nf B32 xs a) (hy : Nf B32 ys b) (hn : n ≤ 4398046511104) (hlt : b < a) :
    Calls Tryd.prog 49 #[.slice p n c, .slice q m d] w fun e w' => ∃ p' m' zs, e = .returned (.slice p' m' m') ∧ At32 w' p' m' m' zs ∧ Nf B32 zs (a - b) ∧ m' ≤ n ∧ Below w.heap.size w w' := by
  obtain ⟨i0, hi, hz0, hz1, hz2⟩ := info_parts Tryd.infoU32
  have HX : Hid (Nf B32 xs a) := hx
  have HY : Hid (Nf B32 ys b) := hy
  have HLX : Hid (xs.length = n) := h.len
  have HLY : Hid (ys.length = m) := k.len
  have HLT : Hid (b < a) := hlt
  have hmn : m ≤ n := by
    rcases Nat.lt_or_ge n m with e | e
    · exfalso
      have h1 := nf32_lt hx (K := n) (by rw [h.len]; exact Nat.le_refl _)
      have h2 := nf32_ge hy (K := n) (by rw [k.len]; exact e)
      omega
    · exact e
  have hcap := h.cap; have hbig := h.big; have kcap := k.cap; have kbig := k.big
  unfold maxLen at hbig kbig
  have HA : Hid (At32 w p n c xs) := h
  have HB : Hid (At32 w q m d ys) := k
  clear hx hy h k hlt
  go_enter Tryd.func49, Tryd.ntmps49
  go_wp2_with fail
  refine (rcmp_any HA.out HB.out HX.out HY.out).mono ?_
  rintro e w' ⟨rfl, r, rfl⟩
  rw [cmpN_gt HLT.out]
  have h := HA.out.drewN r
  have k := HB.out.drewN r
  have hb0 : Below w.heap.size w (w.drewN r) := bDrewN (Below.refl _ _) r
  clear HA HB
  generalize w.drewN r = w0 at *
  go_wp2_with (at_make; refine wpList_make_own _ rfl _ _ 48 rfl w0.heap.size 87 i0 (.int .u32 0) 1 Tryd.underlying48 hi hz0 hz1 _ _ _ n rfl rfl (by omega) (by rw [hz2]; omega) (by unfold maxLen; omega) (Nat.le_refl _) ?_; intro w1 hown hgrow)
  have hb1 : Below w0.heap.size w0 w1 := (Below.refl _ _).grown hgrow (Nat.le_refl _) (fun k hk => by simp at hk)
  have HO : Hid (RSubR w0 w0.heap.size n xs ys 0 0 [] w1) := ⟨hb1, hown, rfl, Dig.nil _, by omega, by simp [valB]⟩
  clear hown hgrow hb1
  go_loopg [5, 6, 7] n (fun gk sv ov iv wr => ∃ (i ow : Nat) (ss : List Nat), i + gk = n ∧ iv = .int .i64 i ∧ ov = U ow ∧ sv = .slice (some ⟨w0.heap.size, 0, none⟩) i n ∧ Hid (RSubR w0 w0.heap.size n xs ys i ow ss wr))
  case atStart => exact ⟨0, 0, [], by omega, rfl, rfl, rfl, HO⟩
  case round =>
    obtain ⟨i, ow, ss, hig, rfl, rfl, rfl, HR⟩ := hrel
    have how := HR.out.car
    cases gk with
    | zero =>
      obtain rfl : i = n := by omega
      have A32 := HR.out.at_
      have hv := HR.out.sum
      rw [List.take_of_length_le (l := ys) (by rw [HLY.out]; omega), List.take_of_length_le (l := xs) (by rw [HLX.out]; omega), HX.out.val, HY.out.val] at hv
      have hvl := valB_lt B32_pos HR.out.dig
      rw [HR.out.len] at hvl
      have hsv : valB B32 ss = a - b := sub_abs hv hvl how (Nat.le_of_lt HLT.out)
      have HNF : Hid (Nf B32 (trimL ss) (a - b)) := by
        have := Nf.trim HR.out.dig
        rw [hsv] at this; exact this
      have hle := trimL_length_le ss
      have HLE : Hid ((trimL ss).length ≤ i) := by have := HR.out.len; show _ ≤ _; omega
      have hbx := HR.out.bel
      have hni : ¬ (i : Int) < (i : Int) := by omega
      clear hv hle hvl hsv
      go_wp2_with fail
      refine (rnorm_any A32 (by omega)).mono ?_
      rintro e w5 ⟨g5, rfl, hg5, hblk5, hb5⟩
      have hd5 := HNF.out.dig
      generalize trimL ss = zs at *
      go_wp2_with fail
      go_ret
      exact ⟨_, _, zs, rfl, hblk5.at_ hd5 rfl (by have := HLE.out; unfold maxLen; omega), HNF.out, HLE.out, Below.on hb0 (Below.on hbx hb5)⟩
    | succ gg =>
      obtain ⟨x, hx⟩ : ∃ x, x = xs.getD i 0 := ⟨_, rfl⟩
      obtain ⟨y, hy⟩ : ∃ y, y = ys.getD i 0 := ⟨_, rfl⟩
      have hxb : x < B32 := by rw [hx]; exact HX.out.dig.getD B32_pos i
      have hyb : y < B32 := by rw [hy]; exact HY.out.dig.getD B32_pos i
      have HXE : Hid (x = xs.getD i 0) := hx
      have HYE : Hid (y = ys.getD i 0) := hy
      have hin : i < n := by omega
      obtain ⟨g, off, rfl, hc⟩ := h.cells.resolve_left (by omega)
      have hcx0 : w0.cell? ⟨g, off + i, none⟩ = some (V x) := by rw [HXE.out]; exact hc i hin
      have hcx : wr.cell? ⟨g, off + i, none⟩ = some (V x) := (HR.out.bel.cell (p := ⟨g, off + i, none⟩) (World.block_lt_of_cell? w0 _ hcx0)).trans hcx0
      have hxw : IntKind.u64.wrap (x : Int) = (x : Int) := wrap_mod _ _ (by rw [B32_eq] at hxb; omega)
      have hyw : IntKind.u64.wrap (y : Int) = (y : Int) := wrap_mod _ _ (by rw [B32_eq] at hyb; omega)
      rw [B32_eq] at hxb hyb
      have hsp : i + 1 ≤ n := by omega
      clear hc hcx0 hx hy
      by_cases hb : i < m
      · have him : i < m := hb
        obtain ⟨g2, off2, rfl, hc2⟩ := k.cells.resolve_left (by omega)
        have hcy0 : w0.cell? ⟨g2, off2 + i, none⟩ = some (V y) := by rw [HYE.out]; exact hc2 i him
        have hcy1 : wr.cell? ⟨g2, off2 + i, none⟩ = some (V y) := (HR.out.bel.cell (p := ⟨g2, off2 + i, none⟩) (World.block_lt_of_cell? w0 _ hcy0)).trans hcy0
        clear hc2 hcy0
        obtain ⟨t, et⟩ : ∃ t, t = ow + y := ⟨_, rfl⟩
        have f1 : IntKind.u64.wrap ((ow : Int) + (y : Int)) = (t : Int) := wrap_mod _ _ (by omega)
        by_cases hu : x < t
        · obtain ⟨x2, ex2⟩ : ∃ x2, x2 = x + 4294967296 := ⟨_, rfl⟩
          have f2 : IntKind.u64.wrap ((x : Int) + 4294967296) = (x2 : Int) := wrap_mod _ _ (by omega)
          obtain ⟨lo, elo⟩ : ∃ lo, lo = x2 - t := ⟨_, rfl⟩
          have f3 : IntKind.u64.wrap ((x2 : Int) - (t : Int)) = (lo : Int) := wrap_mod _ _ (by omega)
          have hui : (x : Int) < (t : Int) := by omega
          have hlob : lo < B32 := by rw [B32_eq]; omega
          have f6 : IntKind.u32.wrap (lo : Int) = (lo : Int) := wrap32 lo hlob
          have f7 : (lo : Int) % 4294967296 = (lo : Int) := by rw [B32_eq] at hlob; omega
          have HSUM : Hid (lo + ow + y = x + B32 * 1) := by show _ = _; rw [B32_eq]; omega
          have HOA : Hid ((wr.alloc (.cells #[V lo] 87)).ownsRow w0.heap.size 87 1 (.slice (some ⟨w0.heap.size, 0, none⟩) i n) i (cellsV ss)) := HR.out.own.alloc _
          clear elo ex2 et hxb hyb
          go_wp2_with (at_builtin; refine wpList_append_fits _ rfl (.tmp 46) (.tmp 51) 48 rfl w0.heap.size 87 i0 1 Tryd.underlying48 hi hz1 w0.heap.size i n (cellsV ss) rfl HOA.out ⟨wr.heap.size, 0, none⟩ 1 1 [V lo] rfl rfl (one_cell wr lo) (by intro u hu; simp at hu; subst hu; rfl) hsp ?_; intro w3 hw3 hgr3)
          have HR3 : Hid (RSubR w0 w0.heap.size n xs ys (i + 1) 1 (ss ++ [lo]) w3) := by
            have hR := HR.out
            refine ⟨(hR.bel.alloc hR.bel.size _).grown hgr3 (by have := hR.bel.size; simp; omega) (fun q hq => by simp at hq; omega), ?_, by simp [hR.len], hR.dig.append (Dig.cons hlob (Dig.nil _)), by omega, rsub_step hR.sum hR.len HXE.out HYE.out HSUM.out⟩
            have e0 : cellsV (ss ++ [lo]) = cellsV ss ++ [V lo] := by unfold cellsV; rw [List.map_append]; rfl
            rw [e0]; exact hw3
          clear hw3 hgr3
          go_roundg gg
          case measure => omega
          case rel => exact ⟨i + 1, 1, ss ++ [lo], by omega, by go_num, rfl, rfl, HR3⟩
        · obtain ⟨lo, elo⟩ : ∃ lo, lo = x - t := ⟨_, rfl⟩
          have f3 : IntKind.u64.wrap ((x : Int) - (t : Int)) = (lo : Int) := wrap_mod _ _ (by omega)
          have hui : ¬ (x : Int) < (t : Int) := by omega
          have hlob : lo < B32 := by rw [B32_eq]; omega
          have f6 : IntKind.u32.wrap (lo : Int) = (lo : Int) := wrap32 lo hlob
          have f7 : (lo : Int) % 4294967296 = (lo : Int) := by rw [B32_eq] at hlob; omega
          have HSUM : Hid (lo + ow + y = x + B32 * 0) := by show _ = _; rw [B32_eq]; omega
          have HOA : Hid ((wr.alloc (.cells #[V lo] 87)).ownsRow w0.heap.size 87 1 (.slice (some ⟨w0.heap.size, 0, none⟩) i n) i (cellsV ss)) := HR.out.own.alloc _
          clear elo et hxb hyb
          go_wp2_with (at_builtin; refine wpList_append_fits _ rfl (.tmp 46) (.tmp 51) 48 rfl w0.heap.size 87 i0 1 Tryd.underlying48 hi hz1 w0.heap.size i n (cellsV ss) rfl HOA.out ⟨wr.heap.size, 0, none⟩ 1 1 [V lo] rfl rfl (one_cell wr lo) (by intro u hu; simp at hu; subst hu; rfl) hsp ?_; intro w3 hw3 hgr3)
          have HR3 : Hid (RSubR w0 w0.heap.size n xs ys (i + 1) 0 (ss ++ [lo]) w3) := by
            have hR := HR.out
            refine ⟨(hR.bel.alloc hR.bel.size _).grown hgr3 (by have := hR.bel.size; simp; omega) (fun q hq => by simp at hq; omega), ?_, by simp [hR.len], hR.dig.append (Dig.cons hlob (Dig.nil _)), by omega, rsub_step hR.sum hR.len HXE.out HYE.out HSUM.out⟩
            have e0 : cellsV (ss ++ [lo]) = cellsV ss ++ [V lo] := by unfold cellsV; rw [List.map_append]; rfl
            rw [e0]; exact hw3
          clear hw3 hgr3
          go_roundg gg
          case measure => omega
          case rel => exact ⟨i + 1, 0, ss ++ [lo], by omega, by go_num, rfl, rfl, HR3⟩
      · have hy0 : y = 0 := by rw [HYE.out, List.getD_eq_getElem?_getD, List.getElem?_eq_none (by rw [HLY.out]; omega)]; rfl
        have HY0 : Hid (y = 0) := hy0
        clear hy0
        by_cases hu : x < ow
        · obtain ⟨x2, ex2⟩ : ∃ x2, x2 = x + 4294967296 := ⟨_, rfl⟩
          have f2 : IntKind.u64.wrap ((x : Int) + 4294967296) = (x2 : Int) := wrap_mod _ _ (by omega)
          obtain ⟨lo, elo⟩ : ∃ lo, lo = x2 - ow := ⟨_, rfl⟩
          have f3 : IntKind.u64.wrap ((x2 : Int) - (ow : Int)) = (lo : Int) := wrap_mod _ _ (by omega)
          have hui : (x : Int) < (ow : Int) := by omega
          have hlob : lo < B32 := by rw [B32_eq]; omega
          have f6 : IntKind.u32.wrap (lo : Int) = (lo : Int) := wrap32 lo hlob
          have f7 : (lo : Int) % 4294967296 = (lo : Int) := by rw [B32_eq] at hlob; omega
          have HSUM : Hid (lo + ow + y = x + B32 * 1) := by have h0 := HY0.out; show _ = _; rw [B32_eq]; omega
          have HOA : Hid ((wr.alloc (.cells #[V lo] 87)).ownsRow w0.heap.size 87 1 (.slice (some ⟨w0.heap.size, 0, none⟩) i n) i (cellsV ss)) := HR.out.own.alloc _
          clear elo ex2 hxb hyb
          go_wp2_with (at_builtin; refine wpList_append_fits _ rfl (.tmp 46) (.tmp 51) 48 rfl w0.heap.size 87 i0 1 Tryd.underlying48 hi hz1 w0.heap.size i n (cellsV ss) rfl HOA.out ⟨wr.heap.size, 0, none⟩ 1 1 [V lo] rfl rfl (one_cell wr lo) (by intro u hu; simp at hu; subst hu; rfl) hsp ?_; intro w3 hw3 hgr3)
          have HR3 : Hid (RSubR w0 w0.heap.size n xs ys (i + 1) 1 (ss ++ [lo]) w3) := by
            have hR := HR.out
            refine ⟨(hR.bel.alloc hR.bel.size _).grown hgr3 (by have := hR.bel.size; simp; omega) (fun q hq => by simp at hq; omega), ?_, by simp [hR.len], hR.dig.append (Dig.cons hlob (Dig.nil _)), by omega, rsub_step hR.sum hR.len HXE.out HYE.out HSUM.out⟩
            have e0 : cellsV (ss ++ [lo]) = cellsV ss ++ [V lo] := by unfold cellsV; rw [List.map_append]; rfl
            rw [e0]; exact hw3
          clear hw3 hgr3
          go_roundg gg
          case measure => omega
          case rel => exact ⟨i + 1, 1, ss ++ [lo], by omega, by go_num, rfl, rfl, HR3⟩
        · obtain ⟨lo, elo⟩ : ∃ lo, lo = x - ow := ⟨_, rfl⟩
          have f3 : IntKind.u64.wrap ((x : Int) - (ow : Int)) = (lo : Int) := wrap_mod _ _ (by omega)
          have hui : ¬ (x : Int) < (ow : Int) := by omega
          have hlob : lo < B32 := by rw [B32_eq]; omega
          have f6 : IntKind.u32.wrap (lo : Int) = (lo : Int) := wrap32 lo hlob
          have f7 : (lo : Int) % 4294967296 = (lo : Int) := by rw [B32_eq] at hlob; omega
          have HSUM : Hid (lo + ow + y = x + B32 * 0) := by have h0 := HY0.out; show _ = _; rw [B32_eq]; omega
          have HOA : Hid ((wr.alloc (.cells #[V lo] 87)).ownsRow w0.heap.size 87 1 (.slice (some ⟨w0.heap.size, 0, none⟩) i n) i (cellsV ss)) := HR.out.own.alloc _
          clear elo hxb hyb
          go_wp2_with (at_builtin; refine wpList_append_fits _ rfl (.tmp 46) (.tmp 51) 48 rfl w0.heap.size 87 i0 1 Tryd.underlying48 hi hz1 w0.heap.size i n (cellsV ss) rfl HOA.out ⟨wr.heap.size, 0, none⟩ 1 1 [V lo] rfl rfl (one_cell wr lo) (by intro u hu; simp at hu; subst hu; rfl) hsp ?_; intro w3 hw3 hgr3)
          have HR3 : Hid (RSubR w0 w0.heap.size n xs ys (i + 1) 0 (ss ++ [lo]) w3) := by
            have hR := HR.out
            refine ⟨(hR.bel.alloc hR.bel.size _).grown hgr3 (by have := hR.bel.size; simp; omega) (fun q hq => by simp at hq; omega), ?_, by simp [hR.len], hR.dig.append (Dig.cons hlob (Dig.nil _)), by omega, rsub_step hR.sum hR.len HXE.out HYE.out HSUM.out⟩
            have e0 : cellsV (ss ++ [lo]) = cellsV ss ++ [V lo] := by unfold cellsV; rw [List.map_append]; rfl
            rw [e0]; exact hw3
          clear hw3 hgr3
          go_roundg gg
          case measure => omega
          case rel => exact ⟨i + 1, 0, ss ++ [lo], by omega, by go_num, rfl, rfl, HR3⟩

theorem lit_at32q (w : World) (x y : Nat) (hx : x < B32) (hy : y < B32) : At32 (w.alloc (.cells #[V x, V y] 87)) (some ⟨w.heap.size, 0, none⟩) 2 2 [x, y] := by
  refine ⟨rfl, Nat.le_refl _, by decide, ?_, .inr ⟨w.heap.size, 0, rfl, ?_⟩⟩
  · intro z hz
    simp at hz
    rcases hz with rfl | rfl <;> assumption
  · intro j hj
    match j, hj with
    | 0, _ => exact World.cell?_alloc_new ..
    | 1, _ => exact World.cell?_alloc_new ..
theorem nf32_nilq : Nf B32 [] 0 := ⟨Dig.nil _, by intro x hx; simp at hx, rfl⟩
theorem rword0 (w : World) : Calls Tryd.prog 25 #[.int .u64 0] w fun e w' => ∃ g, e = .returned (.slice (some ⟨g, 0, none⟩) 0 0) ∧ Below w.heap.size w w' := by
  go_enter Tryd.func25, Tryd.ntmps25
  go_wp2_with fail
  refine (rnorm_any (lit_at32q w 0 0 (by decide) (by decide)) (by omega)).mono ?_
  rw [show trimL [0, 0] = [] from by decide]
  rintro e w1 ⟨g, rfl, hg, hb, hbl⟩
  have hbw := Below.on (below1 w _) hbl
  clear hb hbl
  go_wp2_with fail
  go_ret
  exact ⟨g, rfl, hbw⟩
theorem rsub_any {p q : Option Addr} {n m c d : Nat} {xs ys : List Nat} {a b : Nat} {w : World} (h : At32 w p n c xs) (k : At32 w q m d ys) (hx : Nf B32 xs a) (hy : Nf B32 ys b) (hn : n ≤ 4398046511104) (hle : b ≤ a) :
    Calls Tryd.prog 49 #[.slice p n c, .slice q m d] w fun e w' => ∃ p' m' zs, e = .returned (.slice p' m' m') ∧ At32 w' p' m' m' zs ∧ Nf B32 zs (a - b) ∧ m' ≤ n ∧ Below w.heap.size w w' := by
  rcases Nat.lt_or_ge b a with hlt | hge
  · exact rsub_gt h k hx hy hn hlt
  · have HE : Hid (a = b) := Nat.le_antisymm hge hle
    have HA : Hid (At32 w p n c xs) := h
    have HB : Hid (At32 w q m d ys) := k
    have HX : Hid (Nf B32 xs a) := hx
    have HY : Hid (Nf B32 ys b) := hy
    clear h k hx hy hle hge
    go_enter Tryd.func49, Tryd.ntmps49
    go_wp2_with fail
    refine (rcmp_any HA.out HB.out HX.out HY.out).mono ?_
    rintro e w' ⟨rfl, r, rfl⟩
    rw [cmpN_eq HE.out]
    have hb0 : Below w.heap.size w (w.drewN r) := bDrewN (Below.refl _ _) r
    generalize w.drewN r = w0 at *
    go_wp2_with fail
    refine (rword0 w0).mono ?_
    rintro e w1 ⟨g, rfl, hb1⟩
    have hbw := Below.on hb0 hb1
    clear hb1 hb0
    go_wp2_with fail
    go_ret
    exact ⟨_, 0, [], rfl, At32.empty _ _ 0 (by decide), by rw [HE.out, Nat.sub_self]; exact nf32_nilq, by omega, hbw⟩
theorem At32.dropq {w : World} {g off n c : Nat} {xs : List Nat} (h : At32 w (some ⟨g, off, none⟩) n c xs) (k : Nat) (hk : k < n) : At32 w (some ⟨g, off + k, none⟩) (n - k) (c - k) (xs.drop k) := by
  refine ⟨by rw [List.length_drop, h.len], by have := h.cap; omega, by have := h.big; unfold maxLen at *; omega, h.dig.drop k, .inr ⟨g, off + k, rfl, fun j hj => ?_⟩⟩
  rcases h.cells with h0 | ⟨g', off', he, hc⟩
  · omega
  · simp only [Option.some.injEq, Addr.mk.injEq, and_true] at he
    obtain ⟨rfl, rfl⟩ := he
    have := hc (k + j) (by omega)
    rw [Nat.add_assoc, this]
    congr 2
    simp [List.getD_eq_getElem?_getD, List.getElem?_drop]
theorem drop_div32q {xs : List Nat} {v k : Nat} (hx : Nf B32 xs v) (hk : k ≤ xs.length) : valB B32 (xs.drop k) = v / B32 ^ k := by
  have h1 := valB_split B32 xs k hk
  have h2 := valB_lt B32_pos (hx.dig.take k)
  rw [List.length_take, Nat.min_eq_left hk] at h2
  rw [← hx.val, h1, Nat.add_mul_div_left _ _ (Nat.pow_pos B32_pos), Nat.div_eq_of_lt h2, Nat.zero_add]

theorem rfshr_any {p : Option Addr} {n c : Nat} {xs : List Nat} {v : Nat} {w : World} (h : At32 w p n c xs) (hx : Nf B32 xs v) (hn : n ≤ 16384) (N : Nat) (hN : 1 ≤ N) (hN2 : N ≤ 9223372036854775807) :
    Calls Tryd.prog 46 #[.slice p n c, .int .i64 N] w fun e w' => ∃ p' m' zs, e = .returned (.slice p' m' m') ∧ At32 w' p' m' m' zs ∧ Nf B32 zs (v / 2 ^ N) ∧ m' ≤ n ∧ Below w.heap.size w w' := by
  have HX : Hid (Nf B32 xs v) := hx
  have hl := h.len
  have cap := h.cap
  have big := h.big
  unfold maxLen at big
  obtain ⟨D, hD⟩ : ∃ D, D = N / 32 := ⟨_, rfl⟩
  obtain ⟨R, hR⟩ : ∃ R, R = N % 32 := ⟨_, rfl⟩
  have d1 : (N : Int).tdiv 32 = (D : Int) := by rw [Int.tdiv_eq_ediv_of_nonneg (by omega)]; omega
  have d2 : (N : Int).tmod 32 = (R : Int) := by rw [Int.tmod_eq_emod_of_nonneg (by omega)]; omega
  have hNp : ¬ (N : Int) ≤ 0 := by omega
  have hN0 : ¬ N = 0 := by omega
  have hR32 : R < 32 := by omega
  have hDb : D ≤ 288230376151711743 := by omega
  have hwD : IntKind.i64.wrap (D : Int) = (D : Int) := by simp [IntKind.wrap, IntKind.signed, IntKind.bits]; omega
  have HD : Hid (2 ^ N = B32 ^ D * 2 ^ R) := by show _ = _; rw [show B32 = 2 ^ 32 from rfl, ← Nat.pow_mul, ← Nat.pow_add]; congr 1; omega
  have HLX : Hid (xs.length = n) := hl
  clear hx hD hR hl
  by_cases hc : n ≤ D
  · have hci : (n : Int) ≤ (D : Int) := by omega
    have hcb : decide (n ≤ D) = true := decide_eq_true hc
    have HZ : Hid (v / 2 ^ N = 0) := by
      show _ = _
      rw [HD.out]
      refine Nat.div_eq_of_lt ?_
      have h1 := nf32_lt HX.out (K := D) (by rw [HLX.out]; exact hc)
      exact Nat.lt_of_lt_of_le h1 (Nat.le_mul_of_pos_right _ (Nat.pow_pos (by decide)))
    clear h
    go_enter Tryd.func46, Tryd.ntmps46
    go_wp2_with fail
    refine (rword0 w).mono ?_
    rintro e w1 ⟨g, rfl, hb⟩
    go_wp2_with fail
    go_ret
    exact ⟨_, 0, [], rfl, At32.empty _ _ 0 (by decide), by rw [HZ.out]; exact nf32_nilq, by omega, hb⟩
  · have hci : ¬ (n : Int) ≤ (D : Int) := by omega
    have hcb : decide (n ≤ D) = false := decide_eq_false hc
    have hDn : D < n := by omega
    have hDc : D < c := by omega
    have hDc2 : D ≤ c := by omega
    have hcD : ¬ c = D := by omega
    have hDn2 : D ≤ n := by omega
    obtain ⟨g, off, rfl, hcs⟩ := h.cells.resolve_left (by omega)
    have A1 : Hid (At32 w (some ⟨g, off + D, none⟩) (n - D) (c - D) (xs.drop D)) := h.dropq D hDn
    obtain ⟨d, hd⟩ : ∃ d, d = 2 ^ R := ⟨_, rfl⟩
    have hd1 : 1 ≤ d := by rw [hd]; exact Nat.pow_pos (by decide)
    have hdB : d < B32 := by rw [hd, show B32 = 2 ^ 32 from rfl]; exact Nat.pow_lt_pow_right (by decide) hR32
    have hdw : IntKind.u32.wrap (d : Int) = (d : Int) := wrap32 d hdB
    have hdI : (2 : Int) ^ R = (d : Int) := by rw [hd]; norm_cast
    have HV : Hid (valB B32 (xs.drop D) / d = v / 2 ^ N) := by
      show _ = _
      rw [HD.out, hd, drop_div32q HX.out (by rw [HLX.out]; omega), Nat.div_div_eq_div_mul]
    have A1d : Hid (At32 w.drew (some ⟨g, off + D, none⟩) (n - D) (c - D) (xs.drop D)) := A1.out.drewN 1
    have hbd : Below w.heap.size w w.drew := bDrew (Below.refl _ _)
    have HDD : Hid (1 ≤ d ∧ d < B32) := ⟨hd1, hdB⟩
    clear h hcs A1 hd hd1 hdB
    go_enter Tryd.func46, Tryd.ntmps46
    go_wp2_with fail
    (go_region_with (go_at_call 62; refine (rdivsmall A1d.out (by omega) d HDD.out.1 HDD.out.2).mono ?_; rintro e w1 ⟨p1, m1, z1, r1, rfl, hA1, hN1, hm1, hb1⟩; have A2 : Hid (At32 w1 p1 m1 m1 z1) := hA1; have N2 : Hid (Nf B32 z1 (v / 2 ^ N)) := (by rw [HV.out] at hN1; exact hN1); have hbw : Below w.heap.size w w1 := Below.on hbd hb1; have hm1' : m1 ≤ n := (by omega); clear hA1 hN1 hb1))
    all_goals
      (go_wp2_with fail
       go_ret
       exact ⟨p1, m1, z1, rfl, A2.out, N2.out, hm1', hbw⟩)
theorem take_mod32q {xs : List Nat} {v k : Nat} (hx : Nf B32 xs v) (hk : k ≤ xs.length) : valB B32 (xs.take k) = v % B32 ^ k := by
  have h1 := valB_split B32 xs k hk
  have h2 := valB_lt B32_pos (hx.dig.take k)
  rw [List.length_take, Nat.min_eq_left hk] at h2
  rw [← hx.val, h1, Nat.add_mul_mod_self_left, Nat.mod_eq_of_lt h2]
theorem Blk32.own {w : World} {g base : Nat} {xs : List Nat} (h : Blk32 w g xs) (hb : base ≤ g) (hm : xs.length ≤ maxLen) : w.ownsRow base 87 1 (.slice (some ⟨g, 0, none⟩) xs.length xs.length) xs.length (cellsV xs) :=
  ⟨by simp [cellsV], .inr ⟨g, xs.length, (cellsV xs).toArray, rfl, hb, h, Nat.le_refl _, hm, by simp [cellsV], by rw [Nat.mul_one]; exact List.take_of_length_le (by simp [cellsV])⟩⟩
theorem own_at32q {wr : World} {base i N : Nat} {p : Option Addr} {ss : List Nat} (ho : wr.ownsRow base 87 1 (.slice p i N) i (cellsV ss)) (hl : ss.length = i) (hd : Dig B32 ss) : At32 wr p i N ss := by
  rcases ho.2 with ⟨h', h0⟩ | ⟨g', cap', cur, h', hbase, hgc, hcap', hmx, hsz, htake⟩
  · simp only [Value.slice.injEq] at h'
    obtain ⟨rfl, rfl, rfl⟩ := h'
    obtain rfl : ss = [] := List.eq_nil_of_length_eq_zero hl
    exact At32.empty _ _ 0 (by decide)
  · simp only [Value.slice.injEq, true_and] at h'
    obtain ⟨rfl, rfl⟩ := h'
    refine ⟨hl, hcap', hmx, hd, .inr ⟨g', 0, rfl, fun jj hj => ?_⟩⟩
    rw [Nat.zero_add, cell_of_row wr g' jj _ _ _ hgc]
    have e1 := cellsV_get ss jj (by rw [hl]; exact hj)
    rw [← htake, Nat.mul_one, List.getElem?_take, if_pos hj] at e1
    rw [← Array.getElem?_toList]; exact e1
theorem own_form {wr : World} {base i : Nat} {v : Value} {e : TypeId} {xs : List Value} (ho : wr.ownsRow base e 1 v i xs) : ∃ p N, v = .slice p i N := by
  rcases ho.2 with ⟨h', h0⟩ | ⟨g', cap', cur, h', _⟩
  · subst h0; exact ⟨none, 0, h'⟩
  · exact ⟨_, _, h'⟩

theorem own_base {wr : World} {base i : Nat} {v : Value} {e : TypeId} {xs : List Value} (ho : wr.ownsRow base e 1 v i xs) : ∀ q, v.ownBlock = some q → base ≤ q := by
  intro q hq
  rcases ho.2 with ⟨h', h0⟩ | ⟨g', cap', cur, h', hb, _⟩
  · rw [h'] at hq; simp [Value.ownBlock] at hq
  · rw [h'] at hq; simp [Value.ownBlock] at hq; omega
theorem step_append_ownq {P : Program} {ops : Array Oper} {o : Oper} {a : Act} {w : World} {K : Act → World → Prop} {Q : Exit → Act → World → Prop} {E : Prop}
    (hg : o.guard = none) (s x : Operand) (t : TypeId) (hop : o.op = Op.call { callee := Callee.builtin Builtin.append, args := #[s, x], argTypes := #[t, t] })
    (base : Nat) (e : TypeId) (i : TypeInfo) (z : Value) (size bytes : Nat) (ht : P.underlying t = some (.slice e)) (hi : P.info? e = some i) (hz : i.zero = some z)
    (hsize : i.size = size) (hby : i.bytes = bytes) (hzs : z.cells.size = size) (hsz : 0 < size)
    (v : Value) (n : Nat) (xs : List Value) (hs : a.eval s = v) (hown : w.ownsRow base e size v n xs)
    (ad : Addr) (m c : Nat) (news : List Value) (hx : a.eval x = .slice (some ad) m c) (hl : news.length = m * size) (hnews : ∀ j u, news[j]? = some u → w.cell? (ad.add j) = some u) (h1 : ∀ u ∈ news, u.oneCell' = true)
    (h63 : n + m ≤ maxLen) (hbytes : (n + m) * bytes ≤ 140737488355328) (hbase : base ≤ w.heap.size)
    (hK : ∀ v' w', w'.ownsRow base e size v' (n + m) (xs ++ news) → w.grownBy w' v.ownBlock → K (a.put o.dst v') w') :
    if Region.wanted o (yielded ops a.tmps) = true then Oper.wp P o a w K Q else E := by
  have hw : Region.wanted o (yielded ops a.tmps) = true := by simp [Region.wanted, hg]
  rw [if_pos hw]
  obtain ⟨v', w', hr, h2, h3, h4⟩ := run_append_own (P := P) w base t o.type e i z size bytes ht hi hz hsize hby hzs hsz v n xs hown ad m c news hl hnews h1 h63 hbytes hbase
  unfold Oper.wp
  simp [execOp, hop, resolve, invoke, builtin, hs, hx, hr, Result.andThen]
  exact hK _ _ h2 h3

theorem rlow_any {p : Option Addr} {n c : Nat} {xs : List Nat} {v : Nat} {w : World} (h : At32 w p n c xs) (hx : Nf B32 xs v) (hn : n ≤ 16384) (N : Nat) (hN : 1 ≤ N) (hN2 : N ≤ 9223372036854775807) :
    Calls Tryd.prog 47 #[.slice p n c, .int .i64 N] w fun e w' => ∃ p' m' zs, e = .returned (.slice p' m' m') ∧ At32 w' p' m' m' zs ∧ Nf B32 zs (v % 2 ^ N) ∧ m' ≤ n ∧ Below w.heap.size w w' := by
  obtain ⟨i0, hi, hz0, hz1, hz2⟩ := info_parts Tryd.infoU32
  have HX : Hid (Nf B32 xs v) := hx
  have hl := h.len
  have cap := h.cap
  have big := h.big
  unfold maxLen at big
  obtain ⟨D, hD⟩ : ∃ D, D = N / 32 := ⟨_, rfl⟩
  obtain ⟨R, hR⟩ : ∃ R, R = N % 32 := ⟨_, rfl⟩
  have d1 : (N : Int).tdiv 32 = (D : Int) := by rw [Int.tdiv_eq_ediv_of_nonneg (by omega)]; omega
  have d2 : (N : Int).tmod 32 = (R : Int) := by rw [Int.tmod_eq_emod_of_nonneg (by omega)]; omega
  have hNp : ¬ (N : Int) ≤ 0 := by omega
  have hN0 : ¬ N = 0 := by omega
  have hR32 : R < 32 := by omega
  have hDb : D ≤ 288230376151711743 := by omega
  have hwD : IntKind.i64.wrap (D : Int) = (D : Int) := by simp [IntKind.wrap, IntKind.signed, IntKind.bits]; omega
  have HD : Hid (2 ^ N = B32 ^ D * 2 ^ R) := by show _ = _; rw [show B32 = 2 ^ 32 from rfl, ← Nat.pow_mul, ← Nat.pow_add]; congr 1; omega
  have HLX : Hid (xs.length = n) := hl
  clear hx hD hR hl
  by_cases hc : n ≤ D
  · have hci : (n : Int) ≤ (D : Int) := by omega
    have hcb : decide (n ≤ D) = true := decide_eq_true hc
    have HZ : Hid (v % 2 ^ N = v) := by
      show _ = _
      rw [HD.out]
      exact Nat.mod_eq_of_lt (Nat.lt_of_lt_of_le (nf32_lt HX.out (K := D) (by rw [HLX.out]; exact hc)) (Nat.le_mul_of_pos_right _ (Nat.pow_pos (by decide))))
    have HA : Hid (At32 w p n c xs) := h
    clear h
    go_enter Tryd.func47, Tryd.ntmps47
    go_wp2_with fail
    refine (rnorm_any HA.out (by omega)).mono ?_
    rw [trimL_of_Top HX.out.top]
    rintro e w1 ⟨g, rfl, hg, hb, hbl⟩
    have HB : Hid (Blk32 w1 g xs) := hb
    rw [HLX.out]
    clear hb
    go_wp2_with fail
    go_ret
    exact ⟨_, n, xs, rfl, HB.out.at_ HX.out.dig HLX.out (by unfold maxLen; omega), by rw [HZ.out]; exact HX.out, by omega, hbl⟩
  · have hci : ¬ (n : Int) ≤ (D : Int) := by omega
    have hcb : decide (n ≤ D) = false := decide_eq_false hc
    have hDn : D < n := by omega
    have hDc : D < c := by omega
    have hDc2 : D ≤ c := by omega
    have hDn2 : D ≤ n := by omega
    obtain ⟨g, off, rfl, hcs⟩ := h.cells.resolve_left (by omega)
    have A1 : Hid (At32 w (some ⟨g, off, none⟩) D c (xs.take D)) := h.take D hDn2 c hDc2 (by unfold maxLen; omega)
    obtain ⟨y, hy⟩ : ∃ y, y = xs.getD D 0 := ⟨_, rfl⟩
    have hcy : w.cell? ⟨g, off + D, none⟩ = some (V y) := by rw [hy]; exact hcs D hDn
    have HV : Hid (valB B32 (trimL (xs.take D)) = v % B32 ^ D) := by rw [valB_trimL]; exact take_mod32q HX.out (by rw [HLX.out]; omega)
    obtain ⟨d, hd⟩ : ∃ d, d = 2 ^ R := ⟨_, rfl⟩
    have hd1 : 1 ≤ d := by rw [hd]; exact Nat.pow_pos (by decide)
    have hdB : d < B32 := by rw [hd, show B32 = 2 ^ 32 from rfl]; exact Nat.pow_lt_pow_right (by decide) hR32
    have hdw : IntKind.u32.wrap (d : Int) = (d : Int) := wrap32 d hdB
    have hdI : (2 : Int) ^ R = (d : Int) := by rw [hd]; norm_cast
    obtain ⟨q, hq⟩ : ∃ q, q = y % d := ⟨_, rfl⟩
    have hqB : q < B32 := by rw [hq]; exact Nat.lt_trans (Nat.mod_lt _ hd1) hdB
    have HQ : Hid (v % 2 ^ N = v % B32 ^ D + B32 ^ D * q) := by
      show _ = _
      rw [HD.out, ← hd, Nat.mod_mul, hq, hy, ← drop_div32q HX.out (by rw [HLX.out]; omega), valB_drop B32 xs D (by rw [HLX.out]; exact hDn)]
      congr 2
      have hdv : d ∣ B32 := by rw [hd, show B32 = 2 ^ 32 from rfl]; exact Nat.pow_dvd_pow 2 (by omega)
      obtain ⟨e, he⟩ := hdv
      rw [he, Nat.mul_assoc, Nat.add_mul_mod_self_left]
    have hdI0 : ¬ (d : Int) = 0 := by omega
    have hdN0 : ¬ d = 0 := by omega
    have hdbe : ((d : Int) == 0) = false := by simp; omega
    have hym : (y : Int).tmod (d : Int) = (q : Int) := by rw [hq, Int.tmod_eq_emod_of_nonneg (Int.natCast_nonneg y)]; norm_cast
    have hym2 : (y : Int) % (d : Int) = (q : Int) := by rw [hq]; norm_cast
    have HQB : Hid (q < B32) := hqB
    have hqw : IntKind.u32.wrap (q : Int) = (q : Int) := wrap32 q hqB
    clear hd hd1 hdB hq hqB
    have hgl : g < w.heap.size := World.block_lt_of_cell? w _ hcy
    clear h hcs hy
    go_enter Tryd.func47, Tryd.ntmps47
    go_wp2_with fail
    refine (rnorm_any A1.out (by omega)).mono ?_
    rintro e w1 ⟨g1, rfl, hg1, hb1, hbl⟩
    have hd1 : Dig B32 (trimL (xs.take D)) := Dig.trimL A1.out.dig
    have hle1 := trimL_length_le (xs.take D)
    rw [A1.out.len] at hle1
    generalize trimL (xs.take D) = zs at *
    have hcy1 : w1.cell? ⟨g, off + D, none⟩ = some (V y) := (hbl.cell (p := ⟨g, off + D, none⟩) hgl).trans hcy
    have HO : Hid (w1.ownsRow w.heap.size 87 1 (.slice (some ⟨g1, 0, none⟩) zs.length zs.length) zs.length (cellsV zs)) := hb1.own hg1 (by unfold maxLen; omega)
    have HDZ : Hid (Dig B32 zs) := hd1
    obtain ⟨L, hL⟩ : ∃ L, L = zs.length := ⟨_, rfl⟩
    rw [← hL] at HO hle1 ⊢
    have HL : Hid (zs.length = L) := hL.symm
    clear hb1 hd1 hL A1
    go_wp2_with fail
    go_loopg [5] (D - L) (fun gk dv wr => ∃ (i Nc : Nat) (pp : Option Addr) (ss : List Nat), i + gk = D ∧ dv = .slice pp i Nc ∧ Hid (wr.ownsRow w.heap.size 87 1 (.slice pp i Nc) i (cellsV ss) ∧ ss.length = i ∧ Dig B32 ss ∧ valB B32 ss = v % B32 ^ D ∧ Below w.heap.size w wr))
    case atStart => exact ⟨L, L, _, zs, by omega, rfl, HO.out, HL.out, HDZ.out, HV.out, hbl⟩
    case round =>
      obtain ⟨i, Nc, pp, ss, hig, rfl, HR⟩ := hrel
      have hbr := HR.out.2.2.2.2
      have hcr : wr.cell? ⟨g, off + D, none⟩ = some (V y) := (hbr.cell (p := ⟨g, off + D, none⟩) hgl).trans hcy
      cases gk with
      | zero =>
        obtain rfl : i = D := by omega
        have hni : ¬ (i : Int) < (i : Int) := by omega
        have HOA : Hid ((wr.drew.alloc (.cells #[V q] 87)).ownsRow w.heap.size 87 1 (.slice pp i Nc) i (cellsV ss)) := by
          have h0 : wr.drew.ownsRow w.heap.size 87 1 (.slice pp i Nc) i (cellsV ss) := HR.out.1
          exact h0.alloc _
        have hsz1 : w.heap.size ≤ (wr.drew.alloc (.cells #[V q] 87)).heap.size := by have := hbr.size; simp; omega
        go_wp2_with fail
        go_region_law (first
          | (refine step_append_ownq rfl (.tmp 29) (.tmp 39) 48 rfl w.heap.size 87 i0 (.int .u32 0) 1 4 Tryd.underlying48 hi hz0 hz1 hz2 rfl (by decide) (.slice pp i Nc) i (cellsV ss) (by simp [Act.eval]) HOA.out ⟨wr.heap.size, 0, none⟩ 1 1 [V q] (by simp [Act.eval]) rfl (one_cell wr.drew q) (by intro u hu; simp at hu; subst hu; rfl) (by unfold maxLen; omega) (by omega) hsz1 ?_; intro v3 w3 hw3 hgr3; obtain ⟨p3, N3, rfl⟩ := own_form hw3; have hl3 : (ss ++ [q]).length = i + 1 := (by simp [HR.out.2.1]); have hd3 : Dig B32 (ss ++ [q]) := HR.out.2.2.1.append (Dig.cons HQB.out (Dig.nil _)); have A3 : Hid (At32 w3 p3 (i + 1) N3 (ss ++ [q])) := own_at32q (by rw [show cellsV (ss ++ [q]) = cellsV ss ++ [V q] from by unfold cellsV; rw [List.map_append]; rfl]; exact hw3) hl3 hd3; have HB3 : Hid (Below w.heap.size w w3) := ((bDrew hbr).alloc hbr.size _).grown hgr3 (by have := hbr.size; simp; omega) (own_base HOA.out); have NF3 : Hid (Nf B32 (trimL (ss ++ [q])) (v % 2 ^ N)) := (by have h1 := Nf.trim hd3; rw [valB_snoc, HR.out.2.1, HR.out.2.2.2.1, ← HQ.out] at h1; exact h1); have hle3 : (trimL (ss ++ [q])).length ≤ i + 1 := (by have h1 := trimL_length_le (ss ++ [q]); omega); clear hw3 hgr3 hl3 hd3)
          | (go_simp; refine (rnorm_any A3.out (by omega)).mono ?_; rintro e w4 ⟨g4, rfl, hg4, hb4, hbl4⟩; have A4 : Hid (At32 w4 (some ⟨g4, 0, none⟩) (trimL (ss ++ [q])).length (trimL (ss ++ [q])).length (trimL (ss ++ [q]))) := hb4.at_ NF3.out.dig rfl (by unfold maxLen; omega); have hbw4 := Below.on HB3.out hbl4; generalize trimL (ss ++ [q]) = z4 at *; clear hb4 hbl4 hg4))
        all_goals
          (go_wp2_with fail
           go_ret
           exact ⟨_, _, z4, rfl, A4.out, NF3.out, by omega, hbw4⟩)
      | succ gg =>
        have hlt : (i : Int) < (D : Int) := by omega
        have hlt2 : i < D := by omega
        have HOA : Hid ((wr.alloc (.cells #[V 0] 87)).ownsRow w.heap.size 87 1 (.slice pp i Nc) i (cellsV ss)) := HR.out.1.alloc _
        have hsz1 : w.heap.size ≤ (wr.alloc (.cells #[V 0] 87)).heap.size := by have := hbr.size; simp; omega
        go_wp2_with (at_builtin; refine wpList_append_own _ rfl (.tmp 26) (.tmp 27) 48 rfl w.heap.size 87 i0 (.int .u32 0) 1 4 Tryd.underlying48 hi hz0 hz1 hz2 rfl (by decide) (.slice pp i Nc) i (cellsV ss) rfl HOA.out ⟨wr.heap.size, 0, none⟩ 1 1 [V 0] rfl rfl (one_cell wr 0) (by intro u hu; simp at hu; subst hu; rfl) (by unfold maxLen; omega) (by omega) hsz1 ?_; intro v3 w3 hw3 hgr3 hnil3)
        obtain ⟨p3, N3, rfl⟩ := own_form hw3
        have HR3 : Hid (w3.ownsRow w.heap.size 87 1 (.slice p3 (i + 1) N3) (i + 1) (cellsV (ss ++ [0])) ∧ (ss ++ [0]).length = i + 1 ∧ Dig B32 (ss ++ [0]) ∧ valB B32 (ss ++ [0]) = v % B32 ^ D ∧ Below w.heap.size w w3) := by
          have hR := HR.out
          refine ⟨?_, by simp [hR.2.1], hR.2.2.1.append (Dig.cons B32_pos (Dig.nil _)), by rw [valB_snoc, Nat.mul_zero, Nat.add_zero]; exact hR.2.2.2.1, ?_⟩
          · have e0 : cellsV (ss ++ [0]) = cellsV ss ++ [V 0] := by unfold cellsV; rw [List.map_append]; rfl
            rw [e0]; exact hw3
          · exact (hR.2.2.2.2.alloc hR.2.2.2.2.size _).grown hgr3 (by have := hR.2.2.2.2.size; simp; omega) (own_base HOA.out)
        clear hw3 hgr3 hnil3
        go_roundg gg
        case measure => omega
        case rel => exact ⟨i + 1, N3, p3, ss ++ [0], by omega, rfl, HR3⟩
end Go.Proofs.YtionkfnapodhbaaDoor
