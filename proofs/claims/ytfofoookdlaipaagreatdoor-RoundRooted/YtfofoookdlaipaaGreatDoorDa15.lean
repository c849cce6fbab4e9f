import Derived.Test.YtfofoookdlaipaaGreatDoorJ28
namespace Go.Proofs.YtfofoookdlaipaaGreatDoor
open Go.RowKit Go.Shelf

theorem half_bits {w : World} {s : Bool} {p : Option Addr} {m c : Nat} {z : Int} (h : ZN w s p m c z) (hm : m ≤ 4096) : bitsN z.natAbs ≤ 262144 := by
  obtain ⟨ys, hY⟩ := h.ex
  have h1 := (hY.nf.len_le B64_one (k := 4096)).1 (by rw [hY.at_.len]; exact hm)
  obtain ⟨k, hk⟩ : ∃ k, k = 4096 := ⟨_, rfl⟩
  rw [← hk, B64_pow] at h1
  by_cases h0 : z.natAbs = 0
  · rw [h0, bitsN_zero]; omega
  have h2 := bitsN_le z.natAbs h0
  have h3 := (Nat.pow_lt_pow_iff_right (by omega : 1 < 2)).1 (Nat.lt_of_le_of_lt h2 h1)
  omega
structure WB (x y : Int) (P : Nat) (X Y L : Int) : Prop where
  l : L = P + bitsN y.natAbs - bitsN x.natAbs
  xv : X = x * 2 ^ L.toNat
  yv : Y = y * 2 ^ (-L).toNat
end Go.Proofs.YtfofoookdlaipaaGreatDoor

