import Derived.Test.YtoalblaklcekeaaGreatDoorJ8
namespace Go.Proofs.YtoalblaklcekeaaGreatDoor
open Go.RowKit

theorem nb {P Z A L cy : Nat} (hs : Z + L = A + P * cy) (hz : Z < P) (hle : L ≤ A) (hc : cy ≤ 1) : Z + L = A := by
  by_cases h : cy = 0
  · subst h; omega
  · obtain rfl : cy = 1 := by omega
    omega
end Go.Proofs.YtoalblaklcekeaaGreatDoor

