import Derived.Test.YtfofoookdlaipaaGreatDoorJ22
import Derived.Test.YtfofoookdlaipaaGreatDoorJ11
import Derived.Test.YtfofoookdlaipaaGreatDoorJ21
import Derived.Test.YtfofoookdlaipaaGreatDoorJ16
import Derived.Test.YtfofoookdlaipaaGreatDoorJ20
namespace Go.Proofs.YtfofoookdlaipaaGreatDoor
open Go.RowKit Go.Shelf

set_option maxRecDepth 20000 in
set_option maxHeartbeats 8000000 in
theorem tgreat_32 (w : World) :
    Calls Tryz.prog 13 #[.int .i64 32] w fun en w' => en = .returned (.int .u64 2139095039) ∧ Below w.heap.size w w' := by
  go_enter Tryz.func13, Tryz.ntmps13
  go_wp2_with fail
  go_ret
  exact ⟨rfl, Below.refl _ _⟩
set_option maxRecDepth 20000 in
set_option maxHeartbeats 8000000 in
theorem tsign_32 (b : Nat) (hb : b < 2 * 2147483648) (w : World) :
    Calls Tryz.prog 14 #[.int .i64 32, U b] w fun en w' => en = .returned (.bool (decide (2147483648 ≤ b))) ∧ Below w.heap.size w w' := by
  have e1 : bits BinOp.and IntKind.u64 (b : Int) 2147483648 = _ := sign_and b 2147483648 31 (by decide) (by decide) hb
  obtain ⟨s, hs⟩ : ∃ s, s = decide (2147483648 ≤ b) := ⟨_, rfl⟩
  obtain ⟨y, hy⟩ : ∃ y, y = (if 2147483648 ≤ b then 2147483648 else 0) := ⟨_, rfl⟩
  rw [← hy] at e1
  rw [← hs]
  have hys2 : ((y : Int) == 0) = !s := by
    rw [hy, hs]
    by_cases h : 2147483648 ≤ b <;> simp [h]
  have hys : ((y : Int) != 0) = s := by simp [bne, hys2]
  clear hs hy hb
  go_enter Tryz.func14, Tryz.ntmps14
  go_wp2_with fail
  go_ret
  exact ⟨rfl, Below.refl _ _⟩
set_option maxRecDepth 20000 in
set_option maxHeartbeats 8000000 in
theorem tgreat_64 (w : World) :
    Calls Tryz.prog 13 #[.int .i64 64] w fun en w' => en = .returned (.int .u64 9218868437227405311) ∧ Below w.heap.size w w' := by
  go_enter Tryz.func13, Tryz.ntmps13
  go_wp2_with fail
  go_ret
  exact ⟨rfl, Below.refl _ _⟩
set_option maxRecDepth 20000 in
set_option maxHeartbeats 8000000 in
theorem tsign_64 (b : Nat) (hb : b < 2 * 9223372036854775808) (w : World) :
    Calls Tryz.prog 14 #[.int .i64 64, U b] w fun en w' => en = .returned (.bool (decide (9223372036854775808 ≤ b))) ∧ Below w.heap.size w w' := by
  have e1 : bits BinOp.and IntKind.u64 (b : Int) 9223372036854775808 = _ := sign_and b 9223372036854775808 63 (by decide) (by decide) hb
  obtain ⟨s, hs⟩ : ∃ s, s = decide (9223372036854775808 ≤ b) := ⟨_, rfl⟩
  obtain ⟨y, hy⟩ : ∃ y, y = (if 9223372036854775808 ≤ b then 9223372036854775808 else 0) := ⟨_, rfl⟩
  rw [← hy] at e1
  rw [← hs]
  have hys2 : ((y : Int) == 0) = !s := by
    rw [hy, hs]
    by_cases h : 9223372036854775808 ≤ b <;> simp [h]
  have hys : ((y : Int) != 0) = s := by simp [bne, hys2]
  clear hs hy hb
  go_enter Tryz.func14, Tryz.ntmps14
  go_wp2_with fail
  go_ret
  exact ⟨rfl, Below.refl _ _⟩
end Go.Proofs.YtfofoookdlaipaaGreatDoor

namespace Go.Proofs.YtfofoookdlaipaaGreatDoor
open Go.RowKit Go.Shelf

structure B1q (W : World) (g : Nat) (v0 : Value) : Prop where
  c0 : W.cell? ⟨g, 0, none⟩ = some v0
  f0 : W.frozen? ⟨g, 0, none⟩ = false
theorem B1q.lt {w : World} {g : Nat} {a : Value} (h : B1q w g a) : g < w.heap.size := World.block_lt_of_cell? w _ h.c0
theorem B1q.below {W W' : World} {g : Nat} {v0 : Value} (h : B1q W g v0) (hb : Below W.heap.size W W') : B1q W' g v0 := by
  have hl : g < W.heap.size := World.block_lt_of_cell? W _ h.c0
  exact ⟨(hb.cell (p := ⟨g, 0, none⟩) hl).trans h.c0, (hb.frozen (p := ⟨g, 0, none⟩) hl).trans h.f0⟩
theorem B1q.new (w : World) (ty : TypeId) (v0 : Value) : B1q (w.alloc (.cells #[v0] ty)) w.heap.size v0 := ⟨by go_simp, by go_simp⟩
structure Lt (single : Bool) (f l : Int) (S I H sd : Nat) (Be : Int) (one : Nat) : Prop where
  fmt : ∀ w, Calls Tryz.prog 6 #[.bool single] w fun en w' => en = .returned (.int .i64 f) ∧ Below w.heap.size w w'
  pt : ∀ b, b < B64 → ∃ b', b' < 2 * S ∧ ∀ w, Calls Tryz.prog 19 #[.int .i64 f, U b] w fun en w' => en = .returned (U b') ∧ Below w.heap.size w w'
  one_ : rnp l sd Be S I 1 0 = one
  o1 : one < 2 * S ∧ one % S ≠ 0 ∧ one % S < I ∧ one % 2 = 0
  o2 : ∃ z e, DFm z e ∧ dv z e = cLo H l (decide (S ≤ one)) (one % S) ∧ e < 0
  num : (S = 2147483648 ∧ I = 2139095040) ∨ (S = 9223372036854775808 ∧ I = 9218868437227405312)
theorem lt_lo {H : Nat} {l : Int} {S one z : Nat} {mn : Nat} {ex : Int} (hs : decide (S ≤ one) = false) (hz : one % S - 1 = z) (hl : -4194303 ≤ l) (hm : 2 * (z - (z / H - 1) * H) + 1 = mn) (he : l + ((z / H - 1 : Nat) : Int) - 1 = ex) : dv (mn : Int) ex = cLo H l (decide (S ≤ one)) (one % S) := by
  have := mid_dv (H := H) z hl
  rw [hm, he] at this
  rw [this, hs]
  unfold cLo
  rw [if_neg (by simp), hz]
theorem lt_32 : Lt true 32 (-149) 2147483648 2139095040 8388608 23 128 1065353216 :=
  ⟨tfmt_32, fun b hb => ⟨b % 4294967296, Nat.mod_lt _ (by decide), fun w => tpat_32 b hb w⟩, by decide +kernel, by decide, ⟨33554431, -25, .inr ⟨by decide, by decide, by decide⟩, lt_lo (mn := 33554431) (z := 1065353215) (by decide) (by decide) (by decide) (by decide) (by decide), by decide⟩, .inl ⟨rfl, rfl⟩⟩
theorem lt_64 : Lt false 64 (-1074) 9223372036854775808 9218868437227405312 4503599627370496 52 1024 4607182418800017408 :=
  ⟨tfmt_64, fun b hb => ⟨b, hb, fun w => tpat_64 b w⟩, by decide +kernel, by decide, ⟨18014398509481983, -54, .inr ⟨by decide, by decide, by decide⟩, lt_lo (mn := 18014398509481983) (z := 4607182418800017407) (by decide) (by decide) (by decide) (by decide) (by decide), by decide⟩, .inr ⟨rfl, rfl⟩⟩
end Go.Proofs.YtfofoookdlaipaaGreatDoor

