import Derived.Test.YtmmgnkhfaiophaaDoorTakeDig
import Derived.Test.YtmmgnkhfaiophaaDoorShift
import Derived.Deep.LoopGhost
import Derived.WalkMore
namespace Go.Proofs.YtmmgnkhfaiophaaDoor
open Go.RowKit Go.Shelf

theorem Row.win {w : World} {g m : Nat} {rs : List Nat} (h : Row w g 0 m rs) (a l : Nat) (ha : a + l ≤ m) : Row w g a l ((rs.drop a).take l) := by
  have hl := h.len
  refine ⟨by simp; omega, (h.dig.drop a).take l, fun j hj => ?_, fun j hj => ?_⟩
  · have e : ((rs.drop a).take l).getD j 0 = rs.getD (a + j) 0 := by
      rw [List.getD_eq_getElem?_getD, List.getD_eq_getElem?_getD, List.getElem?_take, if_pos hj, List.getElem?_drop]
    rw [e]
    have := h.cell (a + j) (by omega)
    rw [Nat.zero_add] at this; exact this
  · have := h.frozen (a + j) (by omega)
    rw [Nat.zero_add] at this; exact this
theorem Row.put {w w' : World} {g m a l : Nat} {rs ws : List Nat} (h : Row w g 0 m rs) (hwr : Wr g a l w w') (hr : Row w' g a l ws) (ha : a + l ≤ m) : Row w' g 0 m (winPut rs ws a) := by
  have hl := h.len; have hwl := hr.len
  have hle : a + ws.length ≤ rs.length := by omega
  refine ⟨by rw [winPut_len rs ws a hle]; exact hl, ?_, fun j hj => ?_, fun j hj => ?_⟩
  · unfold winPut; exact ((h.dig.take a).append hr.dig).append (h.dig.drop _)
  · rw [winPut_get rs ws a j hle, Nat.zero_add]
    by_cases hc : a ≤ j ∧ j < a + ws.length
    · rw [if_pos hc]
      have := hr.cell (j - a) (by omega)
      rw [show a + (j - a) = j by omega] at this; exact this
    · rw [if_neg hc, hwr.cell g j (by omega)]
      have := h.cell j hj
      rw [Nat.zero_add] at this; exact this
  · rw [hwr.frozen]; exact h.frozen j hj
theorem Row.other {w : World} {g off n : Nat} {xs : List Nat} (h : Row w g off n xs) (g2 o2 : Nat) (v : Value) (hne : g ≠ g2) : Row (w.setCell ⟨g2, o2, none⟩ v) g off n xs := by
  refine ⟨h.len, h.dig, fun j hj => ?_, fun j hj => by rw [World.frozen?_setCell]; exact h.frozen j hj⟩
  exact (World.cell?_setCell_other _ _ _ _ (by intro e; apply hne; have := congrArg Addr.block e; simp at this; omega)).trans (h.cell j hj)
theorem Row.wr {w w' : World} {g off n g2 o2 l2 : Nat} {xs : List Nat} (h : Row w g off n xs) (hwr : Wr g2 o2 l2 w w') (hne : g ≠ g2) : Row w' g off n xs :=
  ⟨h.len, h.dig, fun j hj => (hwr.cell g (off + j) (.inl hne)).trans (h.cell j hj), fun j hj => (hwr.frozen _).trans (h.frozen j hj)⟩
theorem At.wr {w w' : World} {g off n c g2 o2 l2 : Nat} {xs : List Nat} (h : At w (some ⟨g, off, none⟩) n c xs) (hwr : Wr g2 o2 l2 w w') (hne : g ≠ g2) : At w' (some ⟨g, off, none⟩) n c xs :=
  ⟨h.len, h.cap, h.big, h.dig, by
    rcases h.cells with h0 | ⟨g', o', he, hc⟩
    · exact .inl h0
    · refine .inr ⟨g', o', he, fun j hj => ?_⟩
      simp only [Option.some.injEq, Addr.mk.injEq, and_true] at he
      rw [← he.1, ← he.2] at hc ⊢
      exact (hwr.cell g (off + j) (.inl hne)).trans (hc j hj)⟩
theorem At.cells_of {w w' : World} {g off n c : Nat} {xs : List Nat} (h : At w (some ⟨g, off, none⟩) n c xs) (hc : ∀ o, w'.cell? ⟨g, o, none⟩ = w.cell? ⟨g, o, none⟩) : At w' (some ⟨g, off, none⟩) n c xs :=
  ⟨h.len, h.cap, h.big, h.dig, by
    rcases h.cells with h0 | ⟨g', o', he, hcl⟩
    · exact .inl h0
    · refine .inr ⟨g', o', he, fun j hj => ?_⟩
      simp only [Option.some.injEq, Addr.mk.injEq, and_true] at he
      rw [← he.1, ← he.2] at hcl ⊢
      exact (hc (off + j)).trans (hcl j hj)⟩

theorem dig_abs {P W q r D T Q A : Nat} (hW : q * D + r = W) (h : T + P * W + P * B64 * Q * D = A) : T + P * r + P * (q + B64 * Q) * D = A := by
  subst hW
  have e1 : P * (q + B64 * Q) * D = P * (q * D) + P * B64 * Q * D := by
    rw [Nat.mul_add, Nat.add_mul, Nat.mul_assoc P q D, ← Nat.mul_assoc P B64 Q]
  rw [e1]
  rw [Nat.mul_add] at h
  omega
/-- The window at the next place. -/
theorem DigRel.window {w : World} {gq gr L n A D k : Nat} {qs rs : List Nat} {wr : World} (h : DigRel w gq gr L n A D k qs rs wr) (hk : k < L) (hDn : D < B64 ^ n) :
    ∃ a ws, a = L - 1 - k ∧ ws = (rs.drop a).take (n + 1) ∧ Row wr gr a (n + 1) ws ∧ valB B64 ws < B64 * D ∧ valB B64 rs = valB B64 (rs.take a) + B64 ^ a * valB B64 ws ∧ valB B64 (rs.drop (a + (n + 1))) = 0 := by
  have hl := h.rowr.len
  obtain ⟨a, ha⟩ : ∃ a, a = L - 1 - k := ⟨_, rfl⟩
  have hlt := h.lt
  rw [show L - k = a + 1 by omega] at hlt
  have hz : valB B64 (rs.drop (a + (n + 1))) = 0 := by
    have hs := valB_split B64 (rs.drop (a + 1)) n (by rw [List.length_drop]; omega)
    rw [List.drop_drop, show a + 1 + n = a + (n + 1) by omega] at hs
    rcases Nat.eq_zero_or_pos (valB B64 (rs.drop (a + (n + 1)))) with e | e
    · exact e
    · exfalso
      have : B64 ^ n * 1 ≤ B64 ^ n * valB B64 (rs.drop (a + (n + 1))) := Nat.mul_le_mul_left _ e
      omega
  have hw := win_take rs a (n + 1) (by omega)
  rw [hz, Nat.mul_zero, Nat.add_zero] at hw
  refine ⟨a, _, ha, rfl, h.rowr.win a (n + 1) (by omega), ?_, hw, hz⟩
  have hs := valB_split B64 (rs.drop a) (n + 1) (by rw [List.length_drop]; omega)
  rw [List.drop_drop, hz, Nat.mul_zero, Nat.add_zero] at hs
  rw [← hs, valB_drop B64 rs a (by omega)]
  have hb := h.rowr.dig.getD B64_pos a
  have : B64 * (valB B64 (rs.drop (a + 1)) + 1) ≤ B64 * D := Nat.mul_le_mul_left _ hlt
  rw [Nat.mul_add] at this
  omega
theorem DigRel.step {w : World} {gq gr L n A D k : Nat} {qs rs : List Nat} {wr wr' : World} (h : DigRel w gq gr L n A D k qs rs wr) (hk : k < L) (hne : gq ≠ gr) {a q : Nat} {ws ws' : List Nat} (ha : a = L - 1 - k)
    (hrs : valB B64 rs = valB B64 (rs.take a) + B64 ^ a * valB B64 ws) (hz : valB B64 (rs.drop (a + (n + 1))) = 0) (hD : 0 < D) (hq : q = valB B64 ws / D) (hqb : q < B64) (hr : valB B64 ws' = valB B64 ws % D)
    (hwr : Wr gr a (n + 1) wr wr') (hrow : Row wr' gr a (n + 1) ws') : DigRel w gq gr L n A D (k + 1) (qs.set a q) (winPut rs ws' a) (wr'.setCell ⟨gq, a, none⟩ (U q)) := by
  have hl := h.rowr.len; have hql := h.rowq.len; have hwl := hrow.len
  have hle : a + ws'.length ≤ rs.length := by omega
  have e1 : L - (k + 1) = a := by omega
  have e2 : L - k = a + 1 := by omega
  have hdrop : valB B64 ((winPut rs ws' a).drop a) = valB B64 ws % D := by
    rw [winPut_drop rs ws' a hle, valB_append, hwl, hz, Nat.mul_zero, Nat.add_zero, hr]
  refine ⟨fun B h1 h2 => ?_, ?_, ?_, fun b o h1 h2 => ?_, ?_, ?_⟩
  · exact ((h.bel B h1 h2).trans (hwr.below h2)).trans ((Wr.refl gq 0 L wr').setCell a ⟨by omega, by omega⟩ (U q) |>.below h1)
  · have := (h.rowq.wr hwr hne).set a q (by omega) hqb
    rw [Nat.zero_add] at this; exact this
  · exact (h.rowr.put hwr hrow (by omega)).other gq a _ (Ne.symm hne)
  · rw [World.cell?_setCell_other _ _ _ _ (by intro e; apply h1; have := congrArg Addr.block e; simp at this; omega), hwr.cell b o (.inl h2)]
    exact h.cell b o h1 h2
  · rw [e1, hdrop]; exact Nat.mod_lt _ hD
  · have hs := h.sum
    rw [e2, hrs, Nat.pow_succ] at hs
    rw [e1, valB_split B64 (winPut rs ws' a) a (by rw [winPut_len rs ws' a hle]; omega), winPut_take rs ws' a hle, hdrop, drop_set_at qs a q (by omega), valB_cons]
    refine dig_abs (W := valB B64 ws) (q := q) ?_ hs
    rw [hq, Nat.mul_comm]; exact Nat.div_add_mod _ _

end Go.Proofs.YtmmgnkhfaiophaaDoor
