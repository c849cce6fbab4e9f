import Derived.Test.YtmmgnkhfaiophaaDoorNatAdd
namespace Go.Proofs.YtmmgnkhfaiophaaDoor
open Go.RowKit

theorem sub_abs {P A B Z cy : Nat} (hs : Z + B = A + P * cy) (h1 : Z < P) (hc : cy ≤ 1) (h2 : B ≤ A) : Z = A - B := by
  by_cases h : cy = 0
  · subst h; omega
  · obtain rfl : cy = 1 := by omega
    omega

end Go.Proofs.YtmmgnkhfaiophaaDoor
