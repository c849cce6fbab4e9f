import Derived.Test.YtmmgnkhfaiophaaDoorTrial
namespace Go.Proofs.YtmmgnkhfaiophaaDoor
open Go.RowKit Go.Shelf

theorem takemul_sum {n : Nat} {P W L D v top cy zs' t b : Nat} (hW : W = L + P * top) (h1 : L + P * cy = zs' + D * v) (h2 : top + B64 * b = t + cy + 0) (hP : P = B64 ^ n) : zs' + P * t + D * v = W + B64 ^ (n + 1) * b := by
  have e1 : P * (top + B64 * b) = P * (t + cy) := by rw [h2, Nat.add_zero]
  rw [Nat.mul_add, Nat.mul_add, ← Nat.mul_assoc] at e1
  rw [Nat.pow_succ, ← hP]
  omega
theorem set_snoc (zs : List Nat) (x y n : Nat) (hl : zs.length = n) : (zs ++ [x]).set n y = zs ++ [y] := by
  subst hl
  rw [List.set_append_right _ _ (Nat.le_refl _), Nat.sub_self]; rfl
theorem cut_top (g off n : Nat) (w : World) :
    Calls Tryd.prog 94 #[.slice (some ⟨g, off, none⟩) (n + 1 : Nat) (n + 1 : Nat), .int .i64 n] w fun e w' =>
      e = .returned (.tuple #[.slice (some ⟨g, off, none⟩) n n, .slice (some ⟨g, off + n, none⟩) 1 1]) ∧ ∃ r, w' = w.drewN r := by
  refine (cut_row g off (n + 1) (n + 1) n w (Nat.le_refl _) (by omega)).mono ?_
  rintro e w' ⟨rfl, hr⟩
  rw [cutOff_lt (by omega), show n + 1 - n = 1 by omega]
  exact ⟨rfl, hr⟩

end Go.Proofs.YtmmgnkhfaiophaaDoor
