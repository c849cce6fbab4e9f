import Derived.Laws.Bits64b
import Derived.Deep.RegionWith
import Derived.Test.YtmhkabomabkkfaaGreatDoorChecked
import Derived.Test.YtmhkabomabkkfaaGreatDoorMem
import Derived.Shelf.Strconv.Itoa0
import Derived.BigQuiet
import Derived.Test.YtmhkabomabkkfaaGreatDoorSmall
import Derived.BigRegion
import Derived.Shelf.Spec.BitsCarry
namespace Go.Proofs.YtmhkabomabkkfaaGreatDoor
open Go.RowKit
set_option maxRecDepth 20000
set_option maxHeartbeats 0
theorem bwAlloc (w : World) (o : Obj) : Below w.heap.size w (w.alloc o) := (Below.refl _ _).alloc (Nat.le_refl _) o
theorem bwOn {w w1 w2 : World} (h : Below w.heap.size w w1) (k : Below w1.heap.size w1 w2) : Below w.heap.size w w2 := h.trans (k.mono h.size)
theorem bwDrew {B : Nat} {a w : World} (h : Below B a w) : Below B a w.drew := ⟨h.os, h.tape, h.output, h.size, h.block⟩
theorem bwSet {B : Nat} {a w : World} (h : Below B a w) (g o : Nat) (v : Value) (hB : B ≤ g) : Below B a (w.setCell ⟨g, o, none⟩ v) :=
  h.trans ((Wr.refl g o 1 w).setCell o ⟨by omega, by omega⟩ v |>.below hB)
theorem results_c1 {fn : Func} {p : Tmp} {ty : TypeId} (h : fn.results = #[.cell p ty]) (tmps : Array Value) (P : Program) (w : World) :
    (results fn tmps).run P w = ((asAddr (tmps.getD p undef)).run P w).andThen fun a w₁ => (loadVar ty a).run P w₁ := by
  simp only [results, h]
  simp [Sem.run_bind, Result.andThen]
theorem results_ct {fn : Func} {p q : Tmp} {ty : TypeId} (h : fn.results = #[.cell p ty, .tmp q]) (tmps : Array Value) (P : Program) (w : World) :
    (results fn tmps).run P w = ((asAddr (tmps.getD p undef)).run P w).andThen fun a w₁ => ((loadVar ty a).run P w₁).andThen fun v w₂ => .ok (.tuple #[v, tmps.getD q undef]) w₂ := by
  simp only [results, h]
  simp [Sem.run_bind, Result.andThen]

abbrev WV (p m l : Int) : Value := .agg #[.int .i64 p, .int .i64 m, .int .i64 l]
structure B3 (W : World) (g : Nat) (v0 v1 v2 : Value) : Prop where
  c0 : W.cell? ⟨g, 0, none⟩ = some v0
  c1 : W.cell? ⟨g, 1, none⟩ = some v1
  c2 : W.cell? ⟨g, 2, none⟩ = some v2
  f0 : W.frozen? ⟨g, 0, none⟩ = false
  f1 : W.frozen? ⟨g, 1, none⟩ = false
  f2 : W.frozen? ⟨g, 2, none⟩ = false
theorem B3.below {W W' : World} {g : Nat} {v0 v1 v2 : Value} (h : B3 W g v0 v1 v2) (hb : Below W.heap.size W W') : B3 W' g v0 v1 v2 := by
  have hl : g < W.heap.size := World.block_lt_of_cell? W _ h.c0
  exact ⟨(hb.cell (p := ⟨g, 0, none⟩) hl).trans h.c0, (hb.cell (p := ⟨g, 1, none⟩) hl).trans h.c1, (hb.cell (p := ⟨g, 2, none⟩) hl).trans h.c2,
    (hb.frozen (p := ⟨g, 0, none⟩) hl).trans h.f0, (hb.frozen (p := ⟨g, 1, none⟩) hl).trans h.f1, (hb.frozen (p := ⟨g, 2, none⟩) hl).trans h.f2⟩
theorem B3.new (w : World) (ty : TypeId) (v0 v1 v2 : Value) : B3 (w.alloc (.cells #[v0, v1, v2] ty)) w.heap.size v0 v1 v2 :=
  ⟨by go_simp, by go_simp, by go_simp, by go_simp, by go_simp, by go_simp⟩
theorem B3.lt {W : World} {g : Nat} {v0 v1 v2 : Value} (h : B3 W g v0 v1 v2) : g < W.heap.size := World.block_lt_of_cell? W _ h.c0

theorem widths_32 (w : World) : Calls Tryz.prog 83 #[.int .i64 32] w fun e w' => e = .returned (WV 32 24 (-149)) ∧ Below w.heap.size w w' := by
  go_enter Tryz.func83, Tryz.ntmps83
  go_wp2_with fail
  exact bodyPost_ret (v := WV 32 24 (-149)) (by rw [results_c1 rfl]; go_simp) rfl ⟨rfl, bwAlloc w _⟩
theorem widths_64 (w : World) : Calls Tryz.prog 83 #[.int .i64 64] w fun e w' => e = .returned (WV 64 53 (-1074)) ∧ Below w.heap.size w w' := by
  go_enter Tryz.func83, Tryz.ntmps83
  go_wp2_with fail
  exact bodyPost_ret (v := WV 64 53 (-1074)) (by rw [results_c1 rfl]; go_simp) rfl ⟨rfl, bwAlloc w _⟩
theorem of_32 (w : World) : Calls Tryz.prog 50 #[.int .i64 32] w fun e w' => e = .returned (.tuple #[WV 32 24 (-149), .int .i64 0]) ∧ Below w.heap.size w w' := by
  go_enter Tryz.func50, Tryz.ntmps50
  go_wp2_with fail
  have X0 : B3 (w.alloc (.cells #[.int .i64 0, .int .i64 0, .int .i64 0] 75)) w.heap.size (.int .i64 0) (.int .i64 0) (.int .i64 0) := B3.new ..
  have hb0 : Below w.heap.size w (w.alloc (.cells #[.int .i64 0, .int .i64 0, .int .i64 0] 75)) := bwAlloc w _
  generalize w.alloc (.cells #[.int .i64 0, .int .i64 0, .int .i64 0] 75) = W at *
  obtain ⟨g, hg⟩ : ∃ g, g = w.heap.size := ⟨_, rfl⟩
  have HG : Hid (w.heap.size ≤ g) := by show _ ≤ _; omega
  rw [← hg] at X0 ⊢
  clear hg
  refine (widths_32 _).mono ?_
  rintro e w1 ⟨rfl, hb1⟩
  obtain ⟨d0, d1, d2, d3, d4, d5⟩ := X0.below hb1
  have hgl : g < w1.heap.size := (X0.below hb1).lt
  have HB : Hid (Below w.heap.size w w1) := bwOn hb0 hb1
  clear hb0 hb1 X0
  go_wp2_with fail
  refine bodyPost_ret (v := .tuple #[WV 32 24 (-149), .int .i64 0]) (by rw [results_ct rfl]; go_simp) rfl ⟨rfl, ?_⟩
  exact Below.alloc (bwSet (bwSet (bwSet HB.out _ _ _ HG.out) _ _ _ HG.out) _ _ _ HG.out) (by simpa using HB.out.size) _
theorem of_64 (w : World) : Calls Tryz.prog 50 #[.int .i64 64] w fun e w' => e = .returned (.tuple #[WV 64 53 (-1074), .int .i64 0]) ∧ Below w.heap.size w w' := by
  go_enter Tryz.func50, Tryz.ntmps50
  go_wp2_with fail
  have X0 : B3 (w.alloc (.cells #[.int .i64 0, .int .i64 0, .int .i64 0] 75)) w.heap.size (.int .i64 0) (.int .i64 0) (.int .i64 0) := B3.new ..
  have hb0 : Below w.heap.size w (w.alloc (.cells #[.int .i64 0, .int .i64 0, .int .i64 0] 75)) := bwAlloc w _
  generalize w.alloc (.cells #[.int .i64 0, .int .i64 0, .int .i64 0] 75) = W at *
  obtain ⟨g, hg⟩ : ∃ g, g = w.heap.size := ⟨_, rfl⟩
  have HG : Hid (w.heap.size ≤ g) := by show _ ≤ _; omega
  rw [← hg] at X0 ⊢
  clear hg
  refine (widths_64 _).mono ?_
  rintro e w1 ⟨rfl, hb1⟩
  obtain ⟨d0, d1, d2, d3, d4, d5⟩ := X0.below hb1
  have hgl : g < w1.heap.size := (X0.below hb1).lt
  have HB : Hid (Below w.heap.size w w1) := bwOn hb0 hb1
  clear hb0 hb1 X0
  go_wp2_with fail
  refine bodyPost_ret (v := .tuple #[WV 64 53 (-1074), .int .i64 0]) (by rw [results_ct rfl]; go_simp) rfl ⟨rfl, ?_⟩
  exact Below.alloc (bwSet (bwSet (bwSet HB.out _ _ _ HG.out) _ _ _ HG.out) _ _ _ HG.out) (by simpa using HB.out.size) _
theorem stored_32 (w : World) : Calls Tryz.prog 84 #[WV 32 24 (-149)] w fun e w' => e = .returned (.int .i64 23) ∧ Below w.heap.size w w' := by
  go_enter Tryz.func84, Tryz.ntmps84
  go_wp2_with fail
  go_ret
  exact ⟨rfl, bwAlloc w _⟩
theorem sign_32 (w : World) : Calls Tryz.prog 56 #[WV 32 24 (-149)] w fun e w' => e = .returned (.int .u64 2147483648) ∧ Below w.heap.size w w' := by
  go_enter Tryz.func56, Tryz.ntmps56
  go_wp2_with fail
  go_ret
  exact ⟨rfl, bwAlloc w _⟩
theorem infinity_32 (w : World) : Calls Tryz.prog 52 #[WV 32 24 (-149)] w fun e w' => e = .returned (.int .u64 2139095040) ∧ Below w.heap.size w w' := by
  go_enter Tryz.func52, Tryz.ntmps52
  go_wp2_with fail
  have X0 : B3 (w.alloc (.cells #[.int .i64 32, .int .i64 24, .int .i64 (-149)] 75)) w.heap.size (.int .i64 32) (.int .i64 24) (.int .i64 (-149)) := B3.new ..
  have hb0 : Below w.heap.size w (w.alloc (.cells #[.int .i64 32, .int .i64 24, .int .i64 (-149)] 75)) := bwAlloc w _
  generalize w.alloc (.cells #[.int .i64 32, .int .i64 24, .int .i64 (-149)] 75) = W at *
  obtain ⟨g, hg⟩ : ∃ g, g = w.heap.size := ⟨_, rfl⟩
  have HG : Hid (w.heap.size ≤ g) := by show _ ≤ _; omega
  rw [← hg] at X0 ⊢
  clear hg
  have XB : Hid (B3 W.drew g (.int .i64 32) (.int .i64 24) (.int .i64 (-149))) := ⟨X0.c0, X0.c1, X0.c2, X0.f0, X0.f1, X0.f2⟩
  have HBW : Hid (Below w.heap.size w W.drew) := bwDrew hb0
  obtain ⟨c0, c1, c2, c3, c4, c5⟩ := X0
  clear hb0
  go_region_with (first
      | (go_at_call 56; (with_reducible refine (sign_32 _).mono ?_); rintro e w1 ⟨rfl, hb1⟩; obtain ⟨d0, d1, d2, d3, d4, d5⟩ := XB.out.below hb1; have HBW1 : Hid (Below w.heap.size w w1) := bwOn HBW.out hb1; clear hb1)
      | (go_at_call 84; (with_reducible refine (stored_32 _).mono ?_); rintro e w2 ⟨rfl, hb2⟩; have HBW2 : Hid (Below w.heap.size w w2) := bwOn HBW1.out hb2; clear hb2))
  all_goals
    (go_wp2_with fail
     go_ret
     exact ⟨rfl, HBW2.out⟩)
theorem stored_64 (w : World) : Calls Tryz.prog 84 #[WV 64 53 (-1074)] w fun e w' => e = .returned (.int .i64 52) ∧ Below w.heap.size w w' := by
  go_enter Tryz.func84, Tryz.ntmps84
  go_wp2_with fail
  go_ret
  exact ⟨rfl, bwAlloc w _⟩
theorem sign_64 (w : World) : Calls Tryz.prog 56 #[WV 64 53 (-1074)] w fun e w' => e = .returned (.int .u64 9223372036854775808) ∧ Below w.heap.size w w' := by
  go_enter Tryz.func56, Tryz.ntmps56
  go_wp2_with fail
  go_ret
  exact ⟨rfl, bwAlloc w _⟩
theorem infinity_64 (w : World) : Calls Tryz.prog 52 #[WV 64 53 (-1074)] w fun e w' => e = .returned (.int .u64 9218868437227405312) ∧ Below w.heap.size w w' := by
  go_enter Tryz.func52, Tryz.ntmps52
  go_wp2_with fail
  have X0 : B3 (w.alloc (.cells #[.int .i64 64, .int .i64 53, .int .i64 (-1074)] 75)) w.heap.size (.int .i64 64) (.int .i64 53) (.int .i64 (-1074)) := B3.new ..
  have hb0 : Below w.heap.size w (w.alloc (.cells #[.int .i64 64, .int .i64 53, .int .i64 (-1074)] 75)) := bwAlloc w _
  generalize w.alloc (.cells #[.int .i64 64, .int .i64 53, .int .i64 (-1074)] 75) = W at *
  obtain ⟨g, hg⟩ : ∃ g, g = w.heap.size := ⟨_, rfl⟩
  have HG : Hid (w.heap.size ≤ g) := by show _ ≤ _; omega
  rw [← hg] at X0 ⊢
  clear hg
  have XB : Hid (B3 W.drew g (.int .i64 64) (.int .i64 53) (.int .i64 (-1074))) := ⟨X0.c0, X0.c1, X0.c2, X0.f0, X0.f1, X0.f2⟩
  have HBW : Hid (Below w.heap.size w W.drew) := bwDrew hb0
  obtain ⟨c0, c1, c2, c3, c4, c5⟩ := X0
  clear hb0
  go_region_with (first
      | (go_at_call 56; (with_reducible refine (sign_64 _).mono ?_); rintro e w1 ⟨rfl, hb1⟩; obtain ⟨d0, d1, d2, d3, d4, d5⟩ := XB.out.below hb1; have HBW1 : Hid (Below w.heap.size w w1) := bwOn HBW.out hb1; clear hb1)
      | (go_at_call 84; (with_reducible refine (stored_64 _).mono ?_); rintro e w2 ⟨rfl, hb2⟩; have HBW2 : Hid (Below w.heap.size w w2) := bwOn HBW1.out hb2; clear hb2))
  all_goals
    (go_wp2_with fail
     go_ret
     exact ⟨rfl, HBW2.out⟩)
theorem land_two_pow (b k : Nat) : b &&& 2 ^ k = if b / 2 ^ k % 2 = 1 then 2 ^ k else 0 := by
  refine Nat.eq_of_testBit_eq fun i => ?_
  rw [Nat.testBit_and, Nat.testBit_two_pow]
  by_cases h : k = i
  · subst h
    by_cases h2 : b / 2 ^ k % 2 = 1
    · rw [if_pos h2, Nat.testBit_two_pow_self]; simp [Nat.testBit_eq_decide_div_mod_eq, h2]
    · rw [if_neg h2]; simp [Nat.testBit_eq_decide_div_mod_eq, h2]
  · by_cases h2 : b / 2 ^ k % 2 = 1
    · rw [if_pos h2, Nat.testBit_two_pow]; simp [h]
    · rw [if_neg h2]; simp [h]
theorem sign_and (b S k : Nat) (hS : S = 2 ^ k) (hk : k < 64) (hb : b < 2 * S) : bits BinOp.and IntKind.u64 (b : Int) (S : Int) = ((if S ≤ b then S else 0 : Nat) : Int) := by
  have h1 : S ≤ 9223372036854775808 := by rw [hS]; exact Nat.le_trans (Nat.pow_le_pow_right (by decide) (by omega : k ≤ 63)) (by decide)
  rw [bits_and_u64_nat b S (by omega) (by omega)]
  congr 1
  rw [hS] at hb ⊢
  rw [land_two_pow]
  have hp := Nat.two_pow_pos k
  by_cases h : 2 ^ k ≤ b
  · have : b / 2 ^ k = 1 := by
      rw [Nat.div_eq_of_lt_le] <;> omega
    rw [this, if_pos rfl, if_pos h]
  · rw [Nat.div_eq_of_lt (by omega), if_neg (by decide), if_neg h]
theorem andNot_bv (b k : Nat) (hb : b < 2 ^ (k + 1)) (hk : k < 64) : (BitVec.ofNat 64 b &&& ~~~ BitVec.ofNat 64 (2 ^ k)) = BitVec.ofNat 64 (b % 2 ^ k) := by
  refine BitVec.eq_of_getLsbD_eq fun i hi => ?_
  simp only [BitVec.getLsbD_and, BitVec.getLsbD_not, BitVec.getLsbD_ofNat, Nat.testBit_two_pow, Nat.testBit_mod_two_pow, hi, decide_true, Bool.true_and]
  rcases Nat.lt_trichotomy i k with h | h | h
  · have h2 : ¬ k = i := by omega
    simp [h, h2]
  · subst h; simp
  · have h2 : b.testBit i = false := Nat.testBit_lt_two_pow (Nat.lt_of_lt_of_le hb (Nat.pow_le_pow_right (by decide) h))
    simp [h2]
theorem sign_andNot (b S k : Nat) (hS : S = 2 ^ k) (hk : k < 64) (hb : b < 2 * S) : bits BinOp.andNot IntKind.u64 (b : Int) (S : Int) = ((b % S : Nat) : Int) := by
  have h1 : S ≤ 9223372036854775808 := by rw [hS]; exact Nat.le_trans (Nat.pow_le_pow_right (by decide) (by omega : k ≤ 63)) (by decide)
  have hb2 : b < 2 ^ (k + 1) := by rw [Nat.pow_succ, ← hS]; omega
  show IntKind.u64.wrap ((BitVec.ofInt 64 (b : Int) &&& ~~~ BitVec.ofInt 64 (S : Int)).toNat : Int) = _
  rw [BitVec.ofInt_natCast, BitVec.ofInt_natCast, hS, andNot_bv b k hb2 hk, ← hS, BitVec.toNat_ofNat, IntKind.wrap_u64]
  have h2 : b % S < S := Nat.mod_lt _ (by rw [hS]; exact Nat.two_pow_pos k)
  omega
theorem sign_or (s S k : Nat) (hS : S = 2 ^ k) (hk : k < 64) (hs : s < S) : bits BinOp.or IntKind.u64 (S : Int) (s : Int) = ((S + s : Nat) : Int) := by
  have h1 : S ≤ 9223372036854775808 := by rw [hS]; exact Nat.le_trans (Nat.pow_le_pow_right (by decide) (by omega : k ≤ 63)) (by decide)
  have h2 := Nat.two_pow_add_eq_or_of_lt (i := k) (b := s) (hS ▸ hs) 1
  rw [Nat.mul_one] at h2
  rw [bits_or_u64_nat S s (by omega) (by omega), hS, ← h2]
end Go.Proofs.YtmhkabomabkkfaaGreatDoor
namespace Go.Proofs.YtmhkabomabkkfaaGreatDoor
open Go.RowKit Go.Shelf
set_option maxRecDepth 20000
set_option maxHeartbeats 0
def bl_renLen : Ren := ⟨fun x => match x with | 129 => 82 | n => n, fun x => match x with | 53 => 22 | 3 => 3 | 4 => 4 | 46 => 143 | 5 => 5 | 9 => 9 | n => n, fun n => n⟩
theorem bl_laysLen : Lays.n129 Tryz.prog bl_renLen :=
  { mixed := by kernel_rfl, f129 := Tryz.func82.trans (congrArg some (by kernel_rfl)),
    t3 := Tryz.underlying3, a3 := Tryz.isAgg3, z3 := Tryz.sizeOf3, v3 := Tryz.zeroValue3, t4 := Tryz.underlying4, a4 := Tryz.isAgg4, z4 := Tryz.sizeOf4, v4 := Tryz.zeroValue4,
    t5 := Tryz.underlying5, a5 := Tryz.isAgg5, z5 := Tryz.sizeOf5, v5 := Tryz.zeroValue5, t9 := Tryz.underlying9, a9 := Tryz.isAgg9, z9 := Tryz.sizeOf9, v9 := Tryz.zeroValue9,
    t46 := Tryz.underlying143, a46 := Tryz.isAgg143, z46 := Tryz.sizeOf143, v46 := Tryz.zeroValue143, t53 := Tryz.underlying22, a53 := Tryz.isAgg22, z53 := Tryz.sizeOf22, v53 := Tryz.zeroValue22 }

def bl_bitsN (n : Nat) : Nat := if n = 0 then 0 else n.log2 + 1
theorem bl_bitsN_zero : bl_bitsN 0 = 0 := rfl
theorem bl_bitsN_lt (n : Nat) : n < 2 ^ bl_bitsN n := by
  unfold bl_bitsN
  split
  · rename_i h; subst h; decide
  · exact Nat.lt_log2_self
theorem bl_bitsN_le (n : Nat) (h : n ≠ 0) : 2 ^ (bl_bitsN n - 1) ≤ n := by
  unfold bl_bitsN
  rw [if_neg h, Nat.add_sub_cancel]
  exact Nat.log2_self_le h
theorem bl_bitsN_unique {n k : Nat} (h1 : n < 2 ^ k) (h2 : n ≠ 0 → 2 ^ (k - 1) ≤ n) (h3 : n = 0 → k = 0) : bl_bitsN n = k := by
  by_cases h0 : n = 0
  · subst h0; rw [h3 rfl]; rfl
  · have a1 := bl_bitsN_lt n
    have a2 := bl_bitsN_le n h0
    have b2 := h2 h0
    have c1 : bl_bitsN n - 1 < k := (Nat.pow_lt_pow_iff_right (by decide : 1 < 2)).1 (Nat.lt_of_le_of_lt a2 h1)
    have c2 : k - 1 < bl_bitsN n := (Nat.pow_lt_pow_iff_right (by decide : 1 < 2)).1 (Nat.lt_of_le_of_lt b2 a1)
    have c3 : bl_bitsN n ≠ 0 := by unfold bl_bitsN; rw [if_neg h0]; omega
    omega
theorem bl_bitsN_half (n : Nat) (h : n ≠ 0) : bl_bitsN n = 1 + bl_bitsN (n / 2) := by
  refine bl_bitsN_unique ?_ ?_ (fun e => absurd e h)
  · have := bl_bitsN_lt (n / 2)
    rw [Nat.add_comm, Nat.pow_succ]; omega
  · intro _
    by_cases h2 : n / 2 = 0
    · rw [h2]; simp [bl_bitsN]; omega
    · have a := bl_bitsN_le _ h2
      have c3 : bl_bitsN (n / 2) ≠ 0 := by unfold bl_bitsN; rw [if_neg h2]; omega
      have e : 1 + bl_bitsN (n / 2) - 1 = bl_bitsN (n / 2) - 1 + 1 := by omega
      rw [e, Nat.pow_succ]; omega
theorem bl_bitLen_eq : ∀ (k n : Nat), n < 2 ^ k → k ≤ 64 → Lib.bitLen n = bl_bitsN n := by
  intro k
  induction k with
  | zero => intro n h _; have : n = 0 := by simpa using h
            subst this; rfl
  | succ k ih =>
    intro n h hk
    by_cases h0 : n = 0
    · subst h0; rfl
    · rw [Lib.bitLen_half n h0 (Nat.lt_of_lt_of_le h (Nat.pow_le_pow_right (by decide) hk)), bl_bitsN_half n h0, ih (n / 2) (by rw [Nat.pow_succ] at h; omega) (by omega)]

theorem bl_len_any (x : Nat) (w : World) (hx : x < B64) : Calls Tryz.prog 82 #[U x] w fun e w' => e = .returned (.int .i64 (bl_bitsN x)) ∧ w' = w := by
  rw [B64_eq] at hx
  have h := Any.bits_Len64 bl_laysLen (x : Int) w (by omega) (by omega)
  rw [Int.toNat_natCast, bl_bitLen_eq 64 x hx (Nat.le_refl _)] at h
  exact h

theorem bl_gt32 {b : Nat} (h : 4294967296 ≤ b) : 32 < bl_bitsN b := by
  rcases Nat.lt_or_ge 32 (bl_bitsN b) with e | e
  · exact e
  · have h1 := bl_bitsN_lt b
    have h2 : 2 ^ bl_bitsN b ≤ 2 ^ 32 := Nat.pow_le_pow_right (by decide) e
    omega
theorem bl_le {b k : Nat} (h : b < 2 ^ k) : bl_bitsN b ≤ k := by
  by_cases h0 : b = 0
  · subst h0; rw [bl_bitsN_zero]; omega
  · have h1 := bl_bitsN_le b h0
    have h2 := (Nat.pow_lt_pow_iff_right (by decide : 1 < 2)).1 (Nat.lt_of_le_of_lt h1 h)
    omega
abbrev PV (p m l : Int) (s : Bool) (z : Nat) : Value := .agg #[.int .i64 p, .int .i64 m, .int .i64 l, .bool s, U z]
structure B5q (W : World) (g : Nat) (v0 v1 v2 v3 v4 : Value) : Prop where
  c0 : W.cell? ⟨g, 0, none⟩ = some v0
  c1 : W.cell? ⟨g, 1, none⟩ = some v1
  c2 : W.cell? ⟨g, 2, none⟩ = some v2
  c3 : W.cell? ⟨g, 3, none⟩ = some v3
  c4 : W.cell? ⟨g, 4, none⟩ = some v4
  f0 : W.frozen? ⟨g, 0, none⟩ = false
  f1 : W.frozen? ⟨g, 1, none⟩ = false
  f2 : W.frozen? ⟨g, 2, none⟩ = false
  f3 : W.frozen? ⟨g, 3, none⟩ = false
  f4 : W.frozen? ⟨g, 4, none⟩ = false
theorem B5q.below {W W' : World} {g : Nat} {v0 v1 v2 v3 v4 : Value} (h : B5q W g v0 v1 v2 v3 v4) (hb : Below W.heap.size W W') : B5q W' g v0 v1 v2 v3 v4 := by
  have hl : g < W.heap.size := World.block_lt_of_cell? W _ h.c0
  exact ⟨(hb.cell (p := ⟨g, 0, none⟩) hl).trans h.c0, (hb.cell (p := ⟨g, 1, none⟩) hl).trans h.c1, (hb.cell (p := ⟨g, 2, none⟩) hl).trans h.c2, (hb.cell (p := ⟨g, 3, none⟩) hl).trans h.c3, (hb.cell (p := ⟨g, 4, none⟩) hl).trans h.c4,
    (hb.frozen (p := ⟨g, 0, none⟩) hl).trans h.f0, (hb.frozen (p := ⟨g, 1, none⟩) hl).trans h.f1, (hb.frozen (p := ⟨g, 2, none⟩) hl).trans h.f2, (hb.frozen (p := ⟨g, 3, none⟩) hl).trans h.f3, (hb.frozen (p := ⟨g, 4, none⟩) hl).trans h.f4⟩
theorem B5q.new (w : World) (ty : TypeId) (v0 v1 v2 v3 v4 : Value) : B5q (w.alloc (.cells #[v0, v1, v2, v3, v4] ty)) w.heap.size v0 v1 v2 v3 v4 :=
  ⟨by go_simp, by go_simp, by go_simp, by go_simp, by go_simp, by go_simp, by go_simp, by go_simp, by go_simp, by go_simp⟩
theorem B5q.lt {W : World} {g : Nat} {v0 v1 v2 v3 v4 : Value} (h : B5q W g v0 v1 v2 v3 v4) : g < W.heap.size := World.block_lt_of_cell? W _ h.c0
theorem B5q.drew {W : World} {g : Nat} {v0 v1 v2 v3 v4 : Value} (h : B5q W g v0 v1 v2 v3 v4) : B5q W.drew g v0 v1 v2 v3 v4 := ⟨h.c0, h.c1, h.c2, h.c3, h.c4, h.f0, h.f1, h.f2, h.f3, h.f4⟩
theorem B3.drew {W : World} {g : Nat} {v0 v1 v2 : Value} (h : B3 W g v0 v1 v2) : B3 W.drew g v0 v1 v2 := ⟨h.c0, h.c1, h.c2, h.f0, h.f1, h.f2⟩
end Go.Proofs.YtmhkabomabkkfaaGreatDoor
namespace Go.Proofs.YtmhkabomabkkfaaGreatDoor
open Go.RowKit
set_option maxRecDepth 20000
set_option maxHeartbeats 0
variable {P : Program} {md : Region.Mode} {ops : Array Oper} {Q : Exit → Act → World → Prop} {J : World → Prop}

def wpJ (P : Program) (md : Region.Mode) (ops : Array Oper) (Q : Exit → Act → World → Prop) (J : World → Prop) : Nat → Array Bool → Act → World → Prop
  | 0, listed, a, w => Region.ready md ops listed = [] ∧ Q .normal a w
  | fuel + 1, listed, a, w =>
    (Region.ready md ops listed = [] → Q .normal a w) ∧
    ∀ i ∈ Region.ready md ops listed, wpOp P ops Q i (fun a' w' => J w' ∧ wpJ P md ops Q J fuel (listed.setIfInBounds i true) a' w') a w
theorem wpJ_any : ∀ (fuel : Nat) (listed : Array Bool) (a : Act) (w : World), wpJ P md ops Q J fuel listed a w → wpAny P md ops Q fuel listed a w
  | 0, _, _, _, h => h
  | fuel + 1, _, _, _, h => ⟨h.1, fun i hi => wpOp_mono (fun a' w' h' => wpJ_any fuel _ a' w' h'.2) (h.2 i hi)⟩

def YieldsJ (P : Program) (ops : Array Oper) (J : World → Prop) (o : Oper) (v : Value) (a : Act) : Prop :=
  (Region.wanted o (yielded ops a.tmps) = true ∧ ∀ w, J w → (execOp a.eval o).run P w = .ok (.value v) w) ∨ (Region.wanted o (yielded ops a.tmps) = false ∧ v = undef)
theorem YieldsJ.wpOp {i : Nat} {o : Oper} {v : Value} {a : Act} (hi : ops[i]? = some o) (hy : YieldsJ P ops J o v a)
    {K : Act → World → Prop} {w : World} (hJ : J w) (h : K (a.put o.dst v) w) : wpOp P ops Q i K a w := by
  unfold Go.wpOp
  simp only [hi]
  rcases hy with ⟨hw, hv⟩ | ⟨hw, rfl⟩
  · simp only [hw, if_true, Oper.wp, hv w hJ, Oper.upon]
    exact .inl h
  · simp only [hw]
    exact h
theorem YieldsJ.of_same {o : Oper} {v : Value} {a a' : Act} (hy : YieldsJ P ops J o v a) (he : execOp a'.eval o = execOp a.eval o)
    (hw : Region.wanted o (yielded ops a'.tmps) = Region.wanted o (yielded ops a.tmps)) : YieldsJ P ops J o v a' := by
  unfold YieldsJ at *
  rw [he, hw]
  exact hy
theorem wpOpJ_put {j : Nat} {oi oj : Oper} {v : Value} (hj : ops[j]? = some oj) (hap : oi.apart ops oj = true)
    (hsi : ∀ cs b, oi.op ≠ .select cs b) (hsj : ∀ cs b, oj.op ≠ .select cs b)
    (hQ : ∀ c a w, Q (.panic c) (a.put oi.dst v) w → Q (.panic c) a w) {K : Act → World → Prop} {a : Act} {w : World}
    (hy : YieldsJ P ops J oi v a) (h : wpOp P ops Q j K (a.put oi.dst v) w) :
    wpOp P ops Q j (fun a' w' => YieldsJ P ops J oi v a' ∧ K (a'.put oi.dst v) w') a w := by
  obtain ⟨h1, h2, h3⟩ := Oper.apart_spec hap
  have keep : ∀ (a : Act), YieldsJ P ops J oi v a → ∀ u, YieldsJ P ops J oi v (a.put oj.dst u) := fun a hy u =>
    hy.of_same (execOp_put oi hsi a oj.dst u h3) (wanted_put oi a oj.dst u h3)
  have keepD : ∀ d, YieldsJ P ops J oi v { a with defers := d :: a.defers } := fun d => hy.of_same rfl rfl
  unfold wpOp at *
  simp only [hj] at *
  rw [wanted_put oj a oi.dst v h1] at h
  split
  · rename_i hw
    simp only [hw, if_true] at h
    rcases h with h | ⟨hasks, hlets⟩
    case inr => exact .inr ⟨by unfold Oper.asks at *; rw [execOp_put oj hsj a oi.dst v h1] at hasks; exact hasks, hlets⟩
    refine .inl ?_
    unfold Oper.wp at *
    rw [execOp_put oj hsj a oi.dst v h1] at h
    generalize (execOp a.eval oj).run P w = r at *
    cases r with
    | ok n w' =>
      cases n <;> simp only [Oper.upon] at h ⊢
      case value u => exact ⟨keep a hy u, by rw [← Act.put_comm a v u h2]; exact h⟩
      case skip => exact ⟨keep a hy _, by rw [← Act.put_comm a v undef h2]; exact h⟩
      case defer d =>
        refine ⟨keep _ (keepD d) _, ?_⟩
        rw [← Act.put_comm _ v undef h2, ← Act.put_defers]
        exact h
      case enter f args =>
        refine Calls.mono h fun e w'' he => ?_
        cases e with
        | returned u => exact ⟨keep a hy u, by rw [← Act.put_comm a v u h2]; exact he⟩
        | panicked c => exact hQ _ _ _ he
        | outgrown => exact he
      case row row args => exact Rows.mono h fun u w'' he => ⟨keep a hy u, by rw [← Act.put_comm a v u h2]; exact he⟩
    | halt x w' =>
      cases x <;> simp only [Oper.upon] at h ⊢
      case panic u => exact hQ _ _ _ h
  · rename_i hw
    simp only [hw] at h
    exact ⟨keep a hy _, by rw [← Act.put_comm a v undef h2]; exact h⟩

theorem wpJ_first {i : Nat} {oi : Oper} {v : Value} (hi : ops[i]? = some oi) (hsel : ∀ (j : Nat) (o : Oper) cs b, ops[j]? = some o → o.op ≠ .select cs b)
    (hQ : ∀ c a w, Q (.panic c) (a.put oi.dst v) w → Q (.panic c) a w) :
    ∀ (fuel : Nat) (listed : Array Bool) (a : Act) (w : World),
      (∀ j oj, ops[j]? = some oj → j ≠ i → listed.getD j true = false → (∀ e ∈ oj.after, Region.binds md e = true → e.on ≠ i) → oi.apart ops oj = true) →
      i ∈ Region.ready md ops listed → YieldsJ P ops J oi v a → J w →
      wpJ P md ops Q J fuel (listed.setIfInBounds i true) (a.put oi.dst v) w → wpJ P md ops Q J (fuel + 1) listed a w := by
  intro fuel
  induction fuel with
  | zero =>
    intro listed a w _ hr hy hJ H
    refine ⟨fun h => (by rw [h] at hr; cases hr), fun j hj => ?_⟩
    by_cases hji : j = i
    · subst hji; exact hy.wpOp hi hJ ⟨hJ, H⟩
    · have := ready_mono hj hji
      rw [H.1] at this
      cases this
  | succ fuel ih =>
    intro listed a w hfree hr hy hJ H
    refine ⟨fun h => (by rw [h] at hr; cases hr), fun j hj => ?_⟩
    by_cases hji : j = i
    · subst hji; exact hy.wpOp hi hJ ⟨hJ, H⟩
    · have h1 := H.2 j (ready_mono hj hji)
      obtain ⟨hjun, oj, hoj, hall⟩ := mem_ready.1 hj
      have hnot : ∀ e ∈ oj.after, Region.binds md e = true → e.on ≠ i := fun e he hb heq => by
        have h1 := hall e he hb
        have h0 := (mem_ready.1 hr).1
        rw [heq] at h1
        rcases Nat.lt_or_ge i listed.size with h' | h'
        · simp [h'] at h0 h1; rw [h0] at h1; cases h1
        · simp [Array.getElem?_eq_none h'] at h1
      have h2 := wpOpJ_put hoj (hfree j oj hoj hji hjun hnot) (fun cs b => hsel i oi cs b hi) (fun cs b => hsel j oj cs b hoj) hQ hy h1
      have hfree' : ∀ k ok, ops[k]? = some ok → k ≠ i → (listed.setIfInBounds j true).getD k true = false →
          (∀ e ∈ ok.after, Region.binds md e = true → e.on ≠ i) → oi.apart ops ok = true := fun k ok hk hki hun hno => by
        refine hfree k ok hk hki ?_ hno
        by_cases hjk : j = k
        · subst hjk; exact hjun
        · rw [getD_set_ne true hjk] at hun; exact hun
      refine wpOp_mono (fun a' w' h3 => ⟨h3.2.1, ih (listed.setIfInBounds j true) a' w' hfree' (ready_mono hr (Ne.symm hji)) h3.1 h3.2.1 ?_⟩) h2
      rw [Array.setIfInBounds_comm _ _ hji]
      exact h3.2.2

theorem wpJ_take {i : Nat} {oi : Oper} {v : Value} {fuel : Nat} {listed : Array Bool} {a : Act} {w : World} (hi : ops[i]? = some oi)
    (hs : Region.noSelect ops = true) (hf : Region.free md ops listed i = true) (hr : (Region.ready md ops listed).contains i = true)
    (hQ : ∀ c a w, Q (.panic c) (a.put oi.dst v) w → Q (.panic c) a w) (hw : Region.wanted oi (yielded ops a.tmps) = true)
    (hy : ∀ w, J w → (execOp a.eval oi).run P w = .ok (.value v) w) (hJ : J w)
    (h : wpJ P md ops Q J fuel (listed.setIfInBounds i true) (a.put oi.dst v) w) : wpJ P md ops Q J (fuel + 1) listed a w :=
  wpJ_first hi (Region.noSelect_spec hs) hQ fuel listed a w (Region.free_spec hi hf) (by simpa using hr) (.inl ⟨hw, hy⟩) hJ h
theorem wpJ_tk (i : Nat) {oi : Oper} {v : Value} {fuel : Nat} {listed : Array Bool} {a : Act} {w : World} (hi : ops[i]? = some oi)
    (hy : ∀ w, J w → (execOp a.eval oi).run P w = .ok (.value v) w) (hJ : J w)
    (h : wpJ P md ops Q J fuel (listed.setIfInBounds i true) (a.put oi.dst v) w) (hs : Region.noSelect ops = true := by kernel_rfl) (hf : Region.free md ops listed i = true := by kernel_rfl)
    (hr : (Region.ready md ops listed).contains i = true := by kernel_rfl) (hQ : ∀ c a w, Q (.panic c) (a.put oi.dst v) w → Q (.panic c) a w := by exact fun _ _ _ h => h)
    (hw : Region.wanted oi (yielded ops a.tmps) = true := by kernel_rfl) : wpJ P md ops Q J (fuel + 1) listed a w := wpJ_take hi hs hf hr hQ hw hy hJ h
theorem wpJ_tq (i : Nat) {oi : Oper} {v : Value} {fuel : Nat} {listed : Array Bool} {a : Act} {w : World} (hi : ops[i]? = some oi) (hJ : J w)
    (h : wpJ P md ops Q J fuel (listed.setIfInBounds i true) (a.put oi.dst v) w)
    (hy : ∀ w, J w → (execOp a.eval oi).run P w = .ok (.value v) w := by (intro W' hJ; repeat (obtain ⟨_, hJ⟩ := hJ); go_simp; first | done | with_reducible rfl)) (hs : Region.noSelect ops = true := by kernel_rfl) (hf : Region.free md ops listed i = true := by kernel_rfl)
    (hr : (Region.ready md ops listed).contains i = true := by kernel_rfl) (hQ : ∀ c a w, Q (.panic c) (a.put oi.dst v) w → Q (.panic c) a w := by exact fun _ _ _ h => h)
    (hw : Region.wanted oi (yielded ops a.tmps) = true := by kernel_rfl) : wpJ P md ops Q J (fuel + 1) listed a w := wpJ_take hi hs hf hr hQ hw hy hJ h
theorem wpJ_skip {i : Nat} {oi : Oper} {fuel : Nat} {listed : Array Bool} {a : Act} {w : World} (hi : ops[i]? = some oi)
    (hs : Region.noSelect ops = true) (hf : Region.free md ops listed i = true) (hr : (Region.ready md ops listed).contains i = true)
    (hQ : ∀ c a w, Q (.panic c) (a.put oi.dst undef) w → Q (.panic c) a w) (hw : Region.wanted oi (yielded ops a.tmps) = false) (hJ : J w)
    (h : wpJ P md ops Q J fuel (listed.setIfInBounds i true) (a.put oi.dst undef) w) : wpJ P md ops Q J (fuel + 1) listed a w :=
  wpJ_first hi (Region.noSelect_spec hs) hQ fuel listed a w (Region.free_spec hi hf) (by simpa using hr) (.inr ⟨hw, rfl⟩) hJ h
theorem wpJ_sk (i : Nat) {oi : Oper} {fuel : Nat} {listed : Array Bool} {a : Act} {w : World} (hi : ops[i]? = some oi) (hJ : J w) (h : wpJ P md ops Q J fuel (listed.setIfInBounds i true) (a.put oi.dst undef) w)
    (hs : Region.noSelect ops = true := by kernel_rfl) (hf : Region.free md ops listed i = true := by kernel_rfl) (hr : (Region.ready md ops listed).contains i = true := by kernel_rfl)
    (hQ : ∀ c a w, Q (.panic c) (a.put oi.dst undef) w → Q (.panic c) a w := by exact fun _ _ _ h => h) (hw : Region.wanted oi (yielded ops a.tmps) = false := by kernel_rfl) : wpJ P md ops Q J (fuel + 1) listed a w := wpJ_skip hi hs hf hr hQ hw hJ h
theorem wpJ_one {i : Nat} {o : Oper} {fuel : Nat} {listed : Array Bool} {a : Act} {w : World} (hr : Region.ready md ops listed = [i]) (ho : ops[i]? = some o)
    (hw : Region.wanted o (yielded ops a.tmps) = true)
    (h : ∀ K : Act → World → Prop, (∀ a' w', J w' → wpJ P md ops Q J fuel (listed.setIfInBounds i true) a' w' → K a' w') → Oper.wp P o a w K Q) : wpJ P md ops Q J (fuel + 1) listed a w := by
  refine ⟨fun h => (by rw [hr] at h; cases h), fun j hj => ?_⟩
  rw [hr] at hj
  obtain rfl : j = i := by simpa using hj
  unfold wpOp
  simp only [ho, hw, if_true]
  exact .inl (h _ fun a' w' h1 h2 => ⟨h1, h2⟩)
theorem wpJ_on (i : Nat) {o : Oper} {fuel : Nat} {listed : Array Bool} {a : Act} {w : World} (ho : ops[i]? = some o)
    (h : ∀ K : Act → World → Prop, (∀ a' w', J w' → wpJ P md ops Q J fuel (listed.setIfInBounds i true) a' w' → K a' w') → Oper.wp P o a w K Q) (hr : Region.ready md ops listed = [i] := by kernel_rfl)
    (hw : Region.wanted o (yielded ops a.tmps) = true := by kernel_rfl) : wpJ P md ops Q J (fuel + 1) listed a w := wpJ_one hr ho hw h
theorem wpJ_done {listed : Array Bool} {a : Act} {w : World} (hr : Region.ready md ops listed = []) (h : Q .normal a w) : ∀ fuel, wpJ P md ops Q J fuel listed a w
  | 0 => ⟨hr, h⟩
  | _ + 1 => ⟨fun _ => h, by rw [hr]; simp⟩
theorem wp_region_J (J : World → Prop) {id : Nat} {a : Act} {w : World} (hm : P.follows .mixedOrders = true)
    (h : wpJ P .any ops Q J ops.size (Array.replicate ops.size false) a w.drew) : (Code.region id ops true).wp P Q a w :=
  wp_region_any hm (wpJ_any _ _ _ _ h)
end Go.Proofs.YtmhkabomabkkfaaGreatDoor
namespace Go.Proofs.YtmhkabomabkkfaaGreatDoor
open Go.RowKit Go.Shelf
set_option maxRecDepth 20000
set_option maxHeartbeats 0
theorem beyond_64 (w : World) : Calls Tryz.prog 85 #[WV 64 53 (-1074)] w fun e w' => e = .returned (.int .i64 1024) ∧ Below w.heap.size w w' := by
  go_enter Tryz.func85, Tryz.ntmps85
  go_wp2_with fail
  have X0 : B3 (w.alloc (.cells #[.int .i64 64, .int .i64 53, .int .i64 (-1074)] 75)) w.heap.size (.int .i64 64) (.int .i64 53) (.int .i64 (-1074)) := B3.new ..
  have hb0 : Below w.heap.size w (w.alloc (.cells #[.int .i64 64, .int .i64 53, .int .i64 (-1074)] 75)) := bwAlloc w _
  generalize w.alloc (.cells #[.int .i64 64, .int .i64 53, .int .i64 (-1074)] 75) = W at *
  obtain ⟨g, hg⟩ : ∃ g, g = w.heap.size := ⟨_, rfl⟩
  rw [← hg] at X0 ⊢
  clear hg
  have XB : Hid (B3 W.drew g (.int .i64 64) (.int .i64 53) (.int .i64 (-1074))) := X0.drew
  have HBW : Hid (Below w.heap.size w W.drew) := bwDrew hb0
  have XW : Hid (B3 W g (.int .i64 64) (.int .i64 53) (.int .i64 (-1074))) := X0
  have HB0 : Hid (Below w.heap.size w W) := hb0
  clear X0 hb0
  refine wp_region_J (fun W' => B3 W' g (.int .i64 64) (.int .i64 53) (.int .i64 (-1074))) (by kernel_rfl) ?_
  refine wpJ_take (i := 0) (v := ?v1x0) rfl (by kernel_rfl) (by kernel_rfl) (by kernel_rfl) (fun _ _ _ h => h) (by rfl) ?hy1x0 XB.out ?rest1x0
  case hy1x0 => (intro W' hJ; obtain ⟨c0, c1, c2, c3, c4, c5⟩ := hJ; go_simp; first | done | with_reducible rfl)
  refine wpJ_take (i := 2) (v := ?v2x2) rfl (by kernel_rfl) (by kernel_rfl) (by kernel_rfl) (fun _ _ _ h => h) (by rfl) ?hy2x2 XB.out ?rest2x2
  case hy2x2 => (intro W' hJ; obtain ⟨c0, c1, c2, c3, c4, c5⟩ := hJ; go_simp; first | done | with_reducible rfl)
  refine wpJ_on 1 rfl fun K hK => ?_
  go_simp
  refine (infinity_64 _).mono ?_
  rintro e w1 ⟨rfl, hb1⟩
  have Xw1 : Hid (B3 w1 g (.int .i64 64) (.int .i64 53) (.int .i64 (-1074))) := XB.out.below hb1
  have HBw1 : Hid (Below w.heap.size w w1) := bwOn HBW.out hb1
  clear hb1
  refine hK _ _ Xw1.out ?_
  clear hK
  refine wpJ_on 3 rfl fun K hK => ?_
  go_simp
  refine (stored_64 _).mono ?_
  rintro e w2 ⟨rfl, hb2⟩
  have Xw2 : Hid (B3 w2 g (.int .i64 64) (.int .i64 53) (.int .i64 (-1074))) := Xw1.out.below hb2
  have HBw2 : Hid (Below w.heap.size w w2) := bwOn HBw1.out hb2
  clear hb2
  refine hK _ _ Xw2.out ?_
  clear hK
  refine wpJ_take (i := 4) (v := ?v3x4) rfl (by kernel_rfl) (by kernel_rfl) (by kernel_rfl) (fun _ _ _ h => h) (by rfl) ?hy3x4 Xw2.out ?rest3x4
  case hy3x4 => (intro W' hJ; obtain ⟨c0, c1, c2, c3, c4, c5⟩ := hJ; go_simp; first | done | with_reducible rfl)
  refine wpJ_take (i := 5) (v := ?v4x5) rfl (by kernel_rfl) (by kernel_rfl) (by kernel_rfl) (fun _ _ _ h => h) (by rfl) ?hy4x5 Xw2.out ?rest4x5
  case hy4x5 => (intro W' hJ; obtain ⟨c0, c1, c2, c3, c4, c5⟩ := hJ; go_simp; first | done | with_reducible rfl)
  refine wpJ_take (i := 6) (v := ?v5x6) rfl (by kernel_rfl) (by kernel_rfl) (by kernel_rfl) (fun _ _ _ h => h) (by rfl) ?hy5x6 Xw2.out ?rest5x6
  case hy5x6 => (intro W' hJ; obtain ⟨c0, c1, c2, c3, c4, c5⟩ := hJ; go_simp; first | done | with_reducible rfl)
  refine wpJ_done (by kernel_rfl) ?_ _
  clear XB HBW XW HB0 Xw1 HBw1
  have XB : Hid (B3 w2.drew g (.int .i64 64) (.int .i64 53) (.int .i64 (-1074))) := Xw2.out.drew
  have HBW : Hid (Below w.heap.size w w2.drew) := bwDrew HBw2.out
  have hwr : IntKind.i64.wrap 2047 = 2047 := by decide
  go_wp2_with fail
  refine wp_region_J (fun W' => B3 W' g (.int .i64 64) (.int .i64 53) (.int .i64 (-1074))) (by kernel_rfl) ?_
  refine wpJ_take (i := 0) (v := ?v6x0) rfl (by kernel_rfl) (by kernel_rfl) (by kernel_rfl) (fun _ _ _ h => h) (by rfl) ?hy6x0 XB.out ?rest6x0
  case hy6x0 => (intro W' hJ; obtain ⟨c0, c1, c2, c3, c4, c5⟩ := hJ; go_simp; first | done | with_reducible rfl)
  refine wpJ_take (i := 1) (v := ?v7x1) rfl (by kernel_rfl) (by kernel_rfl) (by kernel_rfl) (fun _ _ _ h => h) (by rfl) ?hy7x1 XB.out ?rest7x1
  case hy7x1 => (intro W' hJ; obtain ⟨c0, c1, c2, c3, c4, c5⟩ := hJ; go_simp; first | done | with_reducible rfl)
  refine wpJ_take (i := 2) (v := ?v8x2) rfl (by kernel_rfl) (by kernel_rfl) (by kernel_rfl) (fun _ _ _ h => h) (by rfl) ?hy8x2 XB.out ?rest8x2
  case hy8x2 => (intro W' hJ; obtain ⟨c0, c1, c2, c3, c4, c5⟩ := hJ; go_simp; first | done | with_reducible rfl)
  refine wpJ_take (i := 3) (v := ?v9x3) rfl (by kernel_rfl) (by kernel_rfl) (by kernel_rfl) (fun _ _ _ h => h) (by rfl) ?hy9x3 XB.out ?rest9x3
  case hy9x3 => (intro W' hJ; obtain ⟨c0, c1, c2, c3, c4, c5⟩ := hJ; go_simp; first | done | with_reducible rfl)
  refine wpJ_take (i := 4) (v := ?v10x4) rfl (by kernel_rfl) (by kernel_rfl) (by kernel_rfl) (fun _ _ _ h => h) (by rfl) ?hy10x4 XB.out ?rest10x4
  case hy10x4 => (intro W' hJ; obtain ⟨c0, c1, c2, c3, c4, c5⟩ := hJ; go_simp; first | done | with_reducible rfl)
  refine wpJ_take (i := 5) (v := ?v11x5) rfl (by kernel_rfl) (by kernel_rfl) (by kernel_rfl) (fun _ _ _ h => h) (by rfl) ?hy11x5 XB.out ?rest11x5
  case hy11x5 => (intro W' hJ; obtain ⟨c0, c1, c2, c3, c4, c5⟩ := hJ; go_simp; first | done | with_reducible rfl)
  refine wpJ_on 6 rfl fun K hK => ?_
  go_simp
  refine (stored_64 _).mono ?_
  rintro e w3 ⟨rfl, hb3⟩
  have Xw3 : Hid (B3 w3 g (.int .i64 64) (.int .i64 53) (.int .i64 (-1074))) := XB.out.below hb3
  have HBw3 : Hid (Below w.heap.size w w3) := bwOn HBW.out hb3
  clear hb3
  refine hK _ _ Xw3.out ?_
  clear hK
  refine wpJ_take (i := 7) (v := ?v12x7) rfl (by kernel_rfl) (by kernel_rfl) (by kernel_rfl) (fun _ _ _ h => h) (by rfl) ?hy12x7 Xw3.out ?rest12x7
  case hy12x7 => (intro W' hJ; obtain ⟨c0, c1, c2, c3, c4, c5⟩ := hJ; go_simp; first | done | with_reducible rfl)
  refine wpJ_take (i := 8) (v := ?v13x8) rfl (by kernel_rfl) (by kernel_rfl) (by kernel_rfl) (fun _ _ _ h => h) (by rfl) ?hy13x8 Xw3.out ?rest13x8
  case hy13x8 => (intro W' hJ; obtain ⟨c0, c1, c2, c3, c4, c5⟩ := hJ; go_simp; first | done | with_reducible rfl)
  refine wpJ_done (by kernel_rfl) ?_ _
  go_wp2_with fail
  go_ret
  exact ⟨rfl, HBw3.out⟩
theorem unit_64 (top : Int) (h1 : -1022 ≤ top) (h2 : top ≤ 5000) (w : World) : Calls Tryz.prog 87 #[WV 64 53 (-1074), .int .i64 top] w fun e w' => e = .returned (.int .i64 (top - 52)) ∧ Below w.heap.size w w' := by
  obtain ⟨r, hr⟩ : ∃ r, r = top - 52 := ⟨_, rfl⟩
  have e1 : IntKind.i64.wrap (top - 52) = r := by rw [hr]; simp [IntKind.wrap, IntKind.signed, IntKind.bits]; omega
  have e2 : max r (-1074) = r := by omega
  rw [← hr]
  clear hr h1 h2
  go_enter Tryz.func87, Tryz.ntmps87
  go_wp2_with fail
  have X0 : B3 (w.alloc (.cells #[.int .i64 64, .int .i64 53, .int .i64 (-1074)] 75)) w.heap.size (.int .i64 64) (.int .i64 53) (.int .i64 (-1074)) := B3.new ..
  have hb0 : Below w.heap.size w (w.alloc (.cells #[.int .i64 64, .int .i64 53, .int .i64 (-1074)] 75)) := bwAlloc w _
  generalize w.alloc (.cells #[.int .i64 64, .int .i64 53, .int .i64 (-1074)] 75) = W at *
  obtain ⟨g, hg⟩ : ∃ g, g = w.heap.size := ⟨_, rfl⟩
  rw [← hg] at X0 ⊢
  clear hg
  have XB : Hid (B3 W.drew g (.int .i64 64) (.int .i64 53) (.int .i64 (-1074))) := X0.drew
  have HBW : Hid (Below w.heap.size w W.drew) := bwDrew hb0
  have XW : Hid (B3 W g (.int .i64 64) (.int .i64 53) (.int .i64 (-1074))) := X0
  have HB0 : Hid (Below w.heap.size w W) := hb0
  clear X0 hb0
  refine wp_region_J (fun W' => B3 W' g (.int .i64 64) (.int .i64 53) (.int .i64 (-1074))) (by kernel_rfl) ?_
  refine wpJ_take (i := 0) (v := ?v14x0) rfl (by kernel_rfl) (by kernel_rfl) (by kernel_rfl) (fun _ _ _ h => h) (by rfl) ?hy14x0 XB.out ?rest14x0
  case hy14x0 => (intro W' hJ; obtain ⟨c0, c1, c2, c3, c4, c5⟩ := hJ; go_simp; first | done | with_reducible rfl)
  refine wpJ_take (i := 1) (v := ?v15x1) rfl (by kernel_rfl) (by kernel_rfl) (by kernel_rfl) (fun _ _ _ h => h) (by rfl) ?hy15x1 XB.out ?rest15x1
  case hy15x1 => (intro W' hJ; obtain ⟨c0, c1, c2, c3, c4, c5⟩ := hJ; go_simp; first | done | with_reducible rfl)
  refine wpJ_take (i := 4) (v := ?v16x4) rfl (by kernel_rfl) (by kernel_rfl) (by kernel_rfl) (fun _ _ _ h => h) (by rfl) ?hy16x4 XB.out ?rest16x4
  case hy16x4 => (intro W' hJ; obtain ⟨c0, c1, c2, c3, c4, c5⟩ := hJ; go_simp; first | done | with_reducible rfl)
  refine wpJ_take (i := 5) (v := ?v17x5) rfl (by kernel_rfl) (by kernel_rfl) (by kernel_rfl) (fun _ _ _ h => h) (by rfl) ?hy17x5 XB.out ?rest17x5
  case hy17x5 => (intro W' hJ; obtain ⟨c0, c1, c2, c3, c4, c5⟩ := hJ; go_simp; first | done | with_reducible rfl)
  refine wpJ_on 2 rfl fun K hK => ?_
  go_simp
  refine (stored_64 _).mono ?_
  rintro e w2 ⟨rfl, hb2⟩
  have Xw2 : Hid (B3 w2 g (.int .i64 64) (.int .i64 53) (.int .i64 (-1074))) := XB.out.below hb2
  have HBw2 : Hid (Below w.heap.size w w2) := bwOn HBW.out hb2
  clear hb2
  refine hK _ _ Xw2.out ?_
  clear hK
  refine wpJ_take (i := 3) (v := ?v18x3) rfl (by kernel_rfl) (by kernel_rfl) (by kernel_rfl) (fun _ _ _ h => h) (by rfl) ?hy18x3 Xw2.out ?rest18x3
  case hy18x3 => (intro W' hJ; obtain ⟨c0, c1, c2, c3, c4, c5⟩ := hJ; go_simp; first | done | with_reducible rfl)
  refine wpJ_take (i := 6) (v := ?v19x6) rfl (by kernel_rfl) (by kernel_rfl) (by kernel_rfl) (fun _ _ _ h => h) (by rfl) ?hy19x6 Xw2.out ?rest19x6
  case hy19x6 => (intro W' hJ; obtain ⟨c0, c1, c2, c3, c4, c5⟩ := hJ; go_simp; first | done | with_reducible rfl)
  refine wpJ_take (i := 7) (v := ?v20x7) rfl (by kernel_rfl) (by kernel_rfl) (by kernel_rfl) (fun _ _ _ h => h) (by rfl) ?hy20x7 Xw2.out ?rest20x7
  case hy20x7 => (intro W' hJ; obtain ⟨c0, c1, c2, c3, c4, c5⟩ := hJ; go_simp; first | done | with_reducible rfl)
  refine wpJ_done (by kernel_rfl) ?_ _
  clear XB HBW XW HB0
  go_wp2_with fail
  go_ret
  exact ⟨rfl, HBw2.out⟩
theorem size_64 (man q : Nat) (u : Int) (hu : u = (q : Int) - 1074) (hq : q < 2048) (hm : man ≤ 9007199254740992) (w : World) : Calls Tryz.prog 88 #[WV 64 53 (-1074), U man, .int .i64 u] w fun e w' => e = .returned (U (q * 4503599627370496 + man)) ∧ Below w.heap.size w w' := by
  obtain ⟨r, hr⟩ : ∃ r, r = q * 4503599627370496 + man := ⟨_, rfl⟩
  obtain ⟨y, hy⟩ : ∃ y, y = q * 4503599627370496 := ⟨_, rfl⟩
  rw [← hr]
  have e1 : IntKind.i64.wrap (u - -1074) = (q : Int) := by simp [IntKind.wrap, IntKind.signed, IntKind.bits]; omega
  have e1' : IntKind.i64.wrap (u + 1074) = (q : Int) := by simp [IntKind.wrap, IntKind.signed, IntKind.bits]; omega
  have e2 : IntKind.u64.wrap (q : Int) = (q : Int) := by rw [IntKind.wrap_u64]; omega
  have e3 : IntKind.u64.wrap ((q : Int) * 4503599627370496) = (y : Int) := by rw [IntKind.wrap_u64]; omega
  have e4 : IntKind.u64.wrap ((y : Int) + (man : Int)) = (r : Int) := by rw [IntKind.wrap_u64]; omega
  clear hr hy hq hm hu
  go_enter Tryz.func88, Tryz.ntmps88
  go_wp2_with fail
  have X0 : B3 (w.alloc (.cells #[.int .i64 64, .int .i64 53, .int .i64 (-1074)] 75)) w.heap.size (.int .i64 64) (.int .i64 53) (.int .i64 (-1074)) := B3.new ..
  have hb0 : Below w.heap.size w (w.alloc (.cells #[.int .i64 64, .int .i64 53, .int .i64 (-1074)] 75)) := bwAlloc w _
  generalize w.alloc (.cells #[.int .i64 64, .int .i64 53, .int .i64 (-1074)] 75) = W at *
  obtain ⟨g, hg⟩ : ∃ g, g = w.heap.size := ⟨_, rfl⟩
  rw [← hg] at X0 ⊢
  clear hg
  have XB : Hid (B3 W.drew g (.int .i64 64) (.int .i64 53) (.int .i64 (-1074))) := X0.drew
  have HBW : Hid (Below w.heap.size w W.drew) := bwDrew hb0
  have XW : Hid (B3 W g (.int .i64 64) (.int .i64 53) (.int .i64 (-1074))) := X0
  have HB0 : Hid (Below w.heap.size w W) := hb0
  clear X0 hb0
  refine wp_region_J (fun W' => B3 W' g (.int .i64 64) (.int .i64 53) (.int .i64 (-1074))) (by kernel_rfl) ?_
  refine wpJ_take (i := 0) (v := ?v21x0) rfl (by kernel_rfl) (by kernel_rfl) (by kernel_rfl) (fun _ _ _ h => h) (by rfl) ?hy21x0 XB.out ?rest21x0
  case hy21x0 => (intro W' hJ; obtain ⟨c0, c1, c2, c3, c4, c5⟩ := hJ; go_simp; first | done | with_reducible rfl)
  refine wpJ_take (i := 1) (v := ?v22x1) rfl (by kernel_rfl) (by kernel_rfl) (by kernel_rfl) (fun _ _ _ h => h) (by rfl) ?hy22x1 XB.out ?rest22x1
  case hy22x1 => (intro W' hJ; obtain ⟨c0, c1, c2, c3, c4, c5⟩ := hJ; go_simp; first | done | with_reducible rfl)
  refine wpJ_take (i := 2) (v := ?v23x2) rfl (by kernel_rfl) (by kernel_rfl) (by kernel_rfl) (fun _ _ _ h => h) (by rfl) ?hy23x2 XB.out ?rest23x2
  case hy23x2 => (intro W' hJ; obtain ⟨c0, c1, c2, c3, c4, c5⟩ := hJ; go_simp; first | done | with_reducible rfl)
  refine wpJ_take (i := 3) (v := ?v24x3) rfl (by kernel_rfl) (by kernel_rfl) (by kernel_rfl) (fun _ _ _ h => h) (by rfl) ?hy24x3 XB.out ?rest24x3
  case hy24x3 => (intro W' hJ; obtain ⟨c0, c1, c2, c3, c4, c5⟩ := hJ; go_simp; first | done | with_reducible rfl)
  refine wpJ_take (i := 4) (v := ?v25x4) rfl (by kernel_rfl) (by kernel_rfl) (by kernel_rfl) (fun _ _ _ h => h) (by rfl) ?hy25x4 XB.out ?rest25x4
  case hy25x4 => (intro W' hJ; obtain ⟨c0, c1, c2, c3, c4, c5⟩ := hJ; go_simp; first | done | with_reducible rfl)
  refine wpJ_take (i := 5) (v := ?v26x5) rfl (by kernel_rfl) (by kernel_rfl) (by kernel_rfl) (fun _ _ _ h => h) (by rfl) ?hy26x5 XB.out ?rest26x5
  case hy26x5 => (intro W' hJ; obtain ⟨c0, c1, c2, c3, c4, c5⟩ := hJ; go_simp; first | done | with_reducible rfl)
  refine wpJ_take (i := 8) (v := ?v27x8) rfl (by kernel_rfl) (by kernel_rfl) (by kernel_rfl) (fun _ _ _ h => h) (by rfl) ?hy27x8 XB.out ?rest27x8
  case hy27x8 => (intro W' hJ; obtain ⟨c0, c1, c2, c3, c4, c5⟩ := hJ; go_simp; first | done | with_reducible rfl)
  refine wpJ_on 6 rfl fun K hK => ?_
  go_simp
  refine (stored_64 _).mono ?_
  rintro e w2 ⟨rfl, hb2⟩
  have Xw2 : Hid (B3 w2 g (.int .i64 64) (.int .i64 53) (.int .i64 (-1074))) := XB.out.below hb2
  have HBw2 : Hid (Below w.heap.size w w2) := bwOn HBW.out hb2
  clear hb2
  refine hK _ _ Xw2.out ?_
  clear hK
  refine wpJ_take (i := 7) (v := ?v28x7) rfl (by kernel_rfl) (by kernel_rfl) (by kernel_rfl) (fun _ _ _ h => h) (by rfl) ?hy28x7 Xw2.out ?rest28x7
  case hy28x7 => (intro W' hJ; obtain ⟨c0, c1, c2, c3, c4, c5⟩ := hJ; go_simp; first | done | with_reducible rfl)
  refine wpJ_take (i := 9) (v := ?v29x9) rfl (by kernel_rfl) (by kernel_rfl) (by kernel_rfl) (fun _ _ _ h => h) (by rfl) ?hy29x9 Xw2.out ?rest29x9
  case hy29x9 => (intro W' hJ; obtain ⟨c0, c1, c2, c3, c4, c5⟩ := hJ; go_simp; first | done | with_reducible rfl)
  refine wpJ_take (i := 10) (v := ?v30x10) rfl (by kernel_rfl) (by kernel_rfl) (by kernel_rfl) (fun _ _ _ h => h) (by rfl) ?hy30x10 Xw2.out ?rest30x10
  case hy30x10 => (intro W' hJ; obtain ⟨c0, c1, c2, c3, c4, c5⟩ := hJ; go_simp; first | done | with_reducible rfl)
  refine wpJ_done (by kernel_rfl) ?_ _
  clear XB HBW XW HB0
  go_wp2_with fail
  go_ret
  exact ⟨rfl, HBw2.out⟩
theorem parts_32 (s q m : Nat) (hq : q = s / 8388608 - 1) (hm : m = s - q * 8388608) (hs : s < 2147483648) (w : World) : Calls Tryz.prog 53 #[WV 32 24 (-149), U s] w fun e w' => e = .returned (.tuple #[U m, .int .i64 (-149 + (q : Int))]) ∧ Below w.heap.size w w' := by
  obtain ⟨r, hr⟩ : ∃ r : Int, r = -149 + (q : Int) := ⟨_, rfl⟩
  obtain ⟨y, hy⟩ : ∃ y, y = q * 8388608 := ⟨_, rfl⟩
  rw [← hr]
  have e0 : max ((s : Int) / 8388608 - 1) 0 = (q : Int) := by omega
  have e1 : IntKind.u64.wrap (q : Int) = (q : Int) := by rw [IntKind.wrap_u64]; omega
  have e2 : IntKind.u64.wrap ((q : Int) * 8388608) = (y : Int) := by rw [IntKind.wrap_u64]; omega
  have e3 : IntKind.u64.wrap ((s : Int) - (y : Int)) = (m : Int) := by rw [IntKind.wrap_u64]; omega
  have e4 : IntKind.i64.wrap (-149 + (q : Int)) = r := by rw [hr]; simp [IntKind.wrap, IntKind.signed, IntKind.bits]; omega
  have HS : Hid (s < 2147483648) := hs
  have hs31 : (s : Int) < 2147483648 := by omega
  clear hr hy hq hm hs
  go_enter Tryz.func53, Tryz.ntmps53
  go_wp2_with fail
  have X0 : B3 (w.alloc (.cells #[.int .i64 32, .int .i64 24, .int .i64 (-149)] 75)) w.heap.size (.int .i64 32) (.int .i64 24) (.int .i64 (-149)) := B3.new ..
  have hb0 : Below w.heap.size w (w.alloc (.cells #[.int .i64 32, .int .i64 24, .int .i64 (-149)] 75)) := bwAlloc w _
  generalize w.alloc (.cells #[.int .i64 32, .int .i64 24, .int .i64 (-149)] 75) = W at *
  obtain ⟨g, hg⟩ : ∃ g, g = w.heap.size := ⟨_, rfl⟩
  rw [← hg] at X0 ⊢
  clear hg
  have XB : Hid (B3 W.drew g (.int .i64 32) (.int .i64 24) (.int .i64 (-149))) := X0.drew
  have HBW : Hid (Below w.heap.size w W.drew) := bwDrew hb0
  have XW : Hid (B3 W g (.int .i64 32) (.int .i64 24) (.int .i64 (-149))) := X0
  have HB0 : Hid (Below w.heap.size w W) := hb0
  clear X0 hb0
  refine (stored_32 _).mono ?_
  rintro e w1 ⟨rfl, hb1⟩
  have Xw1 : Hid (B3 w1 g (.int .i64 32) (.int .i64 24) (.int .i64 (-149))) := XW.out.below hb1
  have HBw1 : Hid (Below w.heap.size w w1) := bwOn HB0.out hb1
  clear hb1
  have c6 := Xw1.out
  obtain ⟨c0, c1, c2, c3, c4, c5⟩ := c6
  go_wp2_with fail
  clear c0 c1 c2 c3 c4 c5 XB HBW XW HB0
  have XB : Hid (B3 w1.drew g (.int .i64 32) (.int .i64 24) (.int .i64 (-149))) := Xw1.out.drew
  have HBW : Hid (Below w.heap.size w w1.drew) := bwDrew HBw1.out
  refine wp_region_J (fun W' => B3 W' g (.int .i64 32) (.int .i64 24) (.int .i64 (-149))) (by kernel_rfl) ?_
  refine wpJ_take (i := 0) (v := ?v31x0) rfl (by kernel_rfl) (by kernel_rfl) (by kernel_rfl) (fun _ _ _ h => h) (by rfl) ?hy31x0 XB.out ?rest31x0
  case hy31x0 => (intro W' hJ; obtain ⟨c0, c1, c2, c3, c4, c5⟩ := hJ; go_simp; first | done | with_reducible rfl)
  refine wpJ_take (i := 1) (v := ?v32x1) rfl (by kernel_rfl) (by kernel_rfl) (by kernel_rfl) (fun _ _ _ h => h) (by rfl) ?hy32x1 XB.out ?rest32x1
  case hy32x1 => (intro W' hJ; obtain ⟨c0, c1, c2, c3, c4, c5⟩ := hJ; go_simp; first | done | with_reducible rfl)
  refine wpJ_take (i := 2) (v := ?v33x2) rfl (by kernel_rfl) (by kernel_rfl) (by kernel_rfl) (fun _ _ _ h => h) (by rfl) ?hy33x2 XB.out ?rest33x2
  case hy33x2 => (intro W' hJ; obtain ⟨c0, c1, c2, c3, c4, c5⟩ := hJ; go_simp; first | done | with_reducible rfl)
  refine wpJ_take (i := 3) (v := ?v34x3) rfl (by kernel_rfl) (by kernel_rfl) (by kernel_rfl) (fun _ _ _ h => h) (by rfl) ?hy34x3 XB.out ?rest34x3
  case hy34x3 => (intro W' hJ; obtain ⟨c0, c1, c2, c3, c4, c5⟩ := hJ; go_simp; first | done | with_reducible rfl)
  refine wpJ_take (i := 7) (v := ?v35x7) rfl (by kernel_rfl) (by kernel_rfl) (by kernel_rfl) (fun _ _ _ h => h) (by rfl) ?hy35x7 XB.out ?rest35x7
  case hy35x7 => (intro W' hJ; obtain ⟨c0, c1, c2, c3, c4, c5⟩ := hJ; go_simp; first | done | with_reducible rfl)
  refine wpJ_take (i := 8) (v := ?v36x8) rfl (by kernel_rfl) (by kernel_rfl) (by kernel_rfl) (fun _ _ _ h => h) (by rfl) ?hy36x8 XB.out ?rest36x8
  case hy36x8 => (intro W' hJ; obtain ⟨c0, c1, c2, c3, c4, c5⟩ := hJ; go_simp; first | done | with_reducible rfl)
  refine wpJ_take (i := 9) (v := ?v37x9) rfl (by kernel_rfl) (by kernel_rfl) (by kernel_rfl) (fun _ _ _ h => h) (by rfl) ?hy37x9 XB.out ?rest37x9
  case hy37x9 => (intro W' hJ; obtain ⟨c0, c1, c2, c3, c4, c5⟩ := hJ; go_simp; first | done | with_reducible rfl)
  refine wpJ_take (i := 10) (v := ?v38x10) rfl (by kernel_rfl) (by kernel_rfl) (by kernel_rfl) (fun _ _ _ h => h) (by rfl) ?hy38x10 XB.out ?rest38x10
  case hy38x10 => (intro W' hJ; obtain ⟨c0, c1, c2, c3, c4, c5⟩ := hJ; go_simp; first | done | with_reducible rfl)
  refine wpJ_on 4 rfl fun K hK => ?_
  go_simp
  refine (stored_32 _).mono ?_
  rintro e w2 ⟨rfl, hb2⟩
  have Xw2 : Hid (B3 w2 g (.int .i64 32) (.int .i64 24) (.int .i64 (-149))) := XB.out.below hb2
  have HBw2 : Hid (Below w.heap.size w w2) := bwOn HBW.out hb2
  clear hb2
  refine hK _ _ Xw2.out ?_
  clear hK
  refine wpJ_take (i := 5) (v := ?v39x5) rfl (by kernel_rfl) (by kernel_rfl) (by kernel_rfl) (fun _ _ _ h => h) (by rfl) ?hy39x5 Xw2.out ?rest39x5
  case hy39x5 => (intro W' hJ; obtain ⟨c0, c1, c2, c3, c4, c5⟩ := hJ; go_simp; first | done | with_reducible rfl)
  refine wpJ_take (i := 6) (v := ?v40x6) rfl (by kernel_rfl) (by kernel_rfl) (by kernel_rfl) (fun _ _ _ h => h) (by rfl) ?hy40x6 Xw2.out ?rest40x6
  case hy40x6 => (intro W' hJ; obtain ⟨c0, c1, c2, c3, c4, c5⟩ := hJ; go_simp; first | done | with_reducible rfl)
  refine wpJ_take (i := 11) (v := ?v41x11) rfl (by kernel_rfl) (by kernel_rfl) (by kernel_rfl) (fun _ _ _ h => h) (by rfl) ?hy41x11 Xw2.out ?rest41x11
  case hy41x11 => (intro W' hJ; obtain ⟨c0, c1, c2, c3, c4, c5⟩ := hJ; go_simp; first | done | with_reducible rfl)
  refine wpJ_take (i := 12) (v := ?v42x12) rfl (by kernel_rfl) (by kernel_rfl) (by kernel_rfl) (fun _ _ _ h => h) (by rfl) ?hy42x12 Xw2.out ?rest42x12
  case hy42x12 => (intro W' hJ; obtain ⟨c0, c1, c2, c3, c4, c5⟩ := hJ; go_simp; first | done | with_reducible rfl)
  refine wpJ_done (by kernel_rfl) ?_ _
  go_wp2_with fail
  go_ret2
  exact ⟨rfl, HBw2.out⟩
theorem parts_64 (s q m : Nat) (hq : q = s / 4503599627370496 - 1) (hm : m = s - q * 4503599627370496) (hs : s < 9223372036854775808) (w : World) : Calls Tryz.prog 53 #[WV 64 53 (-1074), U s] w fun e w' => e = .returned (.tuple #[U m, .int .i64 (-1074 + (q : Int))]) ∧ Below w.heap.size w w' := by
  obtain ⟨r, hr⟩ : ∃ r : Int, r = -1074 + (q : Int) := ⟨_, rfl⟩
  obtain ⟨y, hy⟩ : ∃ y, y = q * 4503599627370496 := ⟨_, rfl⟩
  rw [← hr]
  have e0 : max ((s : Int) / 4503599627370496 - 1) 0 = (q : Int) := by omega
  have e1 : IntKind.u64.wrap (q : Int) = (q : Int) := by rw [IntKind.wrap_u64]; omega
  have e2 : IntKind.u64.wrap ((q : Int) * 4503599627370496) = (y : Int) := by rw [IntKind.wrap_u64]; omega
  have e3 : IntKind.u64.wrap ((s : Int) - (y : Int)) = (m : Int) := by rw [IntKind.wrap_u64]; omega
  have e4 : IntKind.i64.wrap (-1074 + (q : Int)) = r := by rw [hr]; simp [IntKind.wrap, IntKind.signed, IntKind.bits]; omega
  have HS : Hid (s < 9223372036854775808) := hs
  have hs31 : (s : Int) < 9223372036854775808 := by omega
  clear hr hy hq hm hs
  go_enter Tryz.func53, Tryz.ntmps53
  go_wp2_with fail
  have X0 : B3 (w.alloc (.cells #[.int .i64 64, .int .i64 53, .int .i64 (-1074)] 75)) w.heap.size (.int .i64 64) (.int .i64 53) (.int .i64 (-1074)) := B3.new ..
  have hb0 : Below w.heap.size w (w.alloc (.cells #[.int .i64 64, .int .i64 53, .int .i64 (-1074)] 75)) := bwAlloc w _
  generalize w.alloc (.cells #[.int .i64 64, .int .i64 53, .int .i64 (-1074)] 75) = W at *
  obtain ⟨g, hg⟩ : ∃ g, g = w.heap.size := ⟨_, rfl⟩
  rw [← hg] at X0 ⊢
  clear hg
  have XB : Hid (B3 W.drew g (.int .i64 64) (.int .i64 53) (.int .i64 (-1074))) := X0.drew
  have HBW : Hid (Below w.heap.size w W.drew) := bwDrew hb0
  have XW : Hid (B3 W g (.int .i64 64) (.int .i64 53) (.int .i64 (-1074))) := X0
  have HB0 : Hid (Below w.heap.size w W) := hb0
  clear X0 hb0
  refine (stored_64 _).mono ?_
  rintro e w1 ⟨rfl, hb1⟩
  have Xw1 : Hid (B3 w1 g (.int .i64 64) (.int .i64 53) (.int .i64 (-1074))) := XW.out.below hb1
  have HBw1 : Hid (Below w.heap.size w w1) := bwOn HB0.out hb1
  clear hb1
  have c6 := Xw1.out
  obtain ⟨c0, c1, c2, c3, c4, c5⟩ := c6
  go_wp2_with fail
  clear c0 c1 c2 c3 c4 c5 XB HBW XW HB0
  have XB : Hid (B3 w1.drew g (.int .i64 64) (.int .i64 53) (.int .i64 (-1074))) := Xw1.out.drew
  have HBW : Hid (Below w.heap.size w w1.drew) := bwDrew HBw1.out
  refine wp_region_J (fun W' => B3 W' g (.int .i64 64) (.int .i64 53) (.int .i64 (-1074))) (by kernel_rfl) ?_
  refine wpJ_take (i := 0) (v := ?v31x0) rfl (by kernel_rfl) (by kernel_rfl) (by kernel_rfl) (fun _ _ _ h => h) (by rfl) ?hy31x0 XB.out ?rest31x0
  case hy31x0 => (intro W' hJ; obtain ⟨c0, c1, c2, c3, c4, c5⟩ := hJ; go_simp; first | done | with_reducible rfl)
  refine wpJ_take (i := 1) (v := ?v32x1) rfl (by kernel_rfl) (by kernel_rfl) (by kernel_rfl) (fun _ _ _ h => h) (by rfl) ?hy32x1 XB.out ?rest32x1
  case hy32x1 => (intro W' hJ; obtain ⟨c0, c1, c2, c3, c4, c5⟩ := hJ; go_simp; first | done | with_reducible rfl)
  refine wpJ_take (i := 2) (v := ?v33x2) rfl (by kernel_rfl) (by kernel_rfl) (by kernel_rfl) (fun _ _ _ h => h) (by rfl) ?hy33x2 XB.out ?rest33x2
  case hy33x2 => (intro W' hJ; obtain ⟨c0, c1, c2, c3, c4, c5⟩ := hJ; go_simp; first | done | with_reducible rfl)
  refine wpJ_take (i := 3) (v := ?v34x3) rfl (by kernel_rfl) (by kernel_rfl) (by kernel_rfl) (fun _ _ _ h => h) (by rfl) ?hy34x3 XB.out ?rest34x3
  case hy34x3 => (intro W' hJ; obtain ⟨c0, c1, c2, c3, c4, c5⟩ := hJ; go_simp; first | done | with_reducible rfl)
  refine wpJ_take (i := 7) (v := ?v35x7) rfl (by kernel_rfl) (by kernel_rfl) (by kernel_rfl) (fun _ _ _ h => h) (by rfl) ?hy35x7 XB.out ?rest35x7
  case hy35x7 => (intro W' hJ; obtain ⟨c0, c1, c2, c3, c4, c5⟩ := hJ; go_simp; first | done | with_reducible rfl)
  refine wpJ_take (i := 8) (v := ?v36x8) rfl (by kernel_rfl) (by kernel_rfl) (by kernel_rfl) (fun _ _ _ h => h) (by rfl) ?hy36x8 XB.out ?rest36x8
  case hy36x8 => (intro W' hJ; obtain ⟨c0, c1, c2, c3, c4, c5⟩ := hJ; go_simp; first | done | with_reducible rfl)
  refine wpJ_take (i := 9) (v := ?v37x9) rfl (by kernel_rfl) (by kernel_rfl) (by kernel_rfl) (fun _ _ _ h => h) (by rfl) ?hy37x9 XB.out ?rest37x9
  case hy37x9 => (intro W' hJ; obtain ⟨c0, c1, c2, c3, c4, c5⟩ := hJ; go_simp; first | done | with_reducible rfl)
  refine wpJ_take (i := 10) (v := ?v38x10) rfl (by kernel_rfl) (by kernel_rfl) (by kernel_rfl) (fun _ _ _ h => h) (by rfl) ?hy38x10 XB.out ?rest38x10
  case hy38x10 => (intro W' hJ; obtain ⟨c0, c1, c2, c3, c4, c5⟩ := hJ; go_simp; first | done | with_reducible rfl)
  refine wpJ_on 4 rfl fun K hK => ?_
  go_simp
  refine (stored_64 _).mono ?_
  rintro e w2 ⟨rfl, hb2⟩
  have Xw2 : Hid (B3 w2 g (.int .i64 64) (.int .i64 53) (.int .i64 (-1074))) := XB.out.below hb2
  have HBw2 : Hid (Below w.heap.size w w2) := bwOn HBW.out hb2
  clear hb2
  refine hK _ _ Xw2.out ?_
  clear hK
  refine wpJ_take (i := 5) (v := ?v39x5) rfl (by kernel_rfl) (by kernel_rfl) (by kernel_rfl) (fun _ _ _ h => h) (by rfl) ?hy39x5 Xw2.out ?rest39x5
  case hy39x5 => (intro W' hJ; obtain ⟨c0, c1, c2, c3, c4, c5⟩ := hJ; go_simp; first | done | with_reducible rfl)
  refine wpJ_take (i := 6) (v := ?v40x6) rfl (by kernel_rfl) (by kernel_rfl) (by kernel_rfl) (fun _ _ _ h => h) (by rfl) ?hy40x6 Xw2.out ?rest40x6
  case hy40x6 => (intro W' hJ; obtain ⟨c0, c1, c2, c3, c4, c5⟩ := hJ; go_simp; first | done | with_reducible rfl)
  refine wpJ_take (i := 11) (v := ?v41x11) rfl (by kernel_rfl) (by kernel_rfl) (by kernel_rfl) (fun _ _ _ h => h) (by rfl) ?hy41x11 Xw2.out ?rest41x11
  case hy41x11 => (intro W' hJ; obtain ⟨c0, c1, c2, c3, c4, c5⟩ := hJ; go_simp; first | done | with_reducible rfl)
  refine wpJ_take (i := 12) (v := ?v42x12) rfl (by kernel_rfl) (by kernel_rfl) (by kernel_rfl) (fun _ _ _ h => h) (by rfl) ?hy42x12 Xw2.out ?rest42x12
  case hy42x12 => (intro W' hJ; obtain ⟨c0, c1, c2, c3, c4, c5⟩ := hJ; go_simp; first | done | with_reducible rfl)
  refine wpJ_done (by kernel_rfl) ?_ _
  go_wp2_with fail
  go_ret2
  exact ⟨rfl, HBw2.out⟩
end Go.Proofs.YtmhkabomabkkfaaGreatDoor
namespace Go.Proofs.YtmhkabomabkkfaaGreatDoor
open Go.RowKit
set_option maxRecDepth 20000
set_option maxHeartbeats 0
def cutOff (off n k : Nat) : Nat := if k = n then off else off + k
theorem cutOff_lt {off n k : Nat} (h : k < n) : cutOff off n k = off + k := if_neg (by omega)
theorem cutOff_eq {off n k : Nat} (h : k = n) : cutOff off n k = off := if_pos h

theorem ret_cut {v : Value} {g o o' m m' : Nat} (h : o = o') (hm : m = m') : Ending.returned (.tuple #[v, .slice (some ⟨g, o, none⟩) m m]) = .returned (.tuple #[v, .slice (some ⟨g, o', none⟩) m' m']) := by rw [h, hm]
theorem cut_row (g off n c k : Nat) (w : World) (hnc : n ≤ c) (hk : k ≤ n) :
    Calls Tryz.prog 144 #[.slice (some ⟨g, off, none⟩) n c, .int .i64 k] w fun e w' =>
      e = .returned (.tuple #[.slice (some ⟨g, off, none⟩) k k, .slice (some ⟨g, cutOff off n k, none⟩) (n - k) (n - k)]) ∧ ∃ r, w' = w.drewN r := by
  obtain ⟨o, ho⟩ : ∃ o, o = cutOff off n k := ⟨_, rfl⟩
  rw [← ho]
  by_cases hkn : k = n
  · have HO : Hid (o = off) := ho.trans (cutOff_eq hkn)
    subst hkn
    clear ho
    go_enter Tryz.func144, Tryz.ntmps144
    go_wp2
    go_quiet (fail)
    go_wp2
    go_ret2
    exact ⟨ret_cut HO.out.symm (Nat.sub_self k).symm, _, rfl⟩
  · have HO : Hid (o = off + k) := ho.trans (cutOff_lt (by omega))
    have hlt : k < n := by omega
    clear ho
    go_enter Tryz.func144, Tryz.ntmps144
    go_wp2
    go_quiet (fail)
    go_wp2
    go_ret2
    exact ⟨ret_cut HO.out.symm rfl, _, rfl⟩
theorem order_any (b : Bool) (w : World) : Calls Tryz.prog 162 #[.bool b] w fun e w' => e = .returned (.int .i64 (if b then -1 else 1)) ∧ w' = w := by
  cases b
  · go_enter Tryz.func162, Tryz.ntmps162
    go_wp2
    go_ret
    exact ⟨rfl, rfl⟩
  · go_enter Tryz.func162, Tryz.ntmps162
    go_wp2
    go_ret
    exact ⟨rfl, rfl⟩

theorem fitted_any {g n c : Nat} {xs : List Nat} {w : World} (h : At w (some ⟨g, 0, none⟩) n c xs) :
    Calls Tryz.prog 147 #[.slice (some ⟨g, 0, none⟩) n c] w fun e w' =>
      ((trimL xs).length ≤ 8192 ∧ (∃ p' m, e = .returned (.tuple #[.slice p' m m, .int .i64 0]) ∧ m = (trimL xs).length ∧ (m ≠ 0 → p' = some ⟨g, 0, none⟩)) ∧ w' = w) ∨
      (8192 < (trimL xs).length ∧ e = .returned (.tuple #[.slice none 0 0, .int .i64 5]) ∧ w' = w) := by
  go_enter Tryz.func147, Tryz.ntmps147
  go_wp2_with (go_at_call 118; refine (trim_any h).mono ?_; rintro e w' ⟨p', m, rfl, hm, hp, rfl⟩; have HM : Hid (m = (trimL xs).length) := hm; clear hm)
  · go_ret2
    have := HM.out
    exact .inr ⟨by omega, rfl, rfl⟩
  · go_ret2
    have := HM.out
    exact .inl ⟨by omega, ⟨_, _, rfl, this, hp⟩, rfl⟩
theorem add64_ex (x y c : Nat) (hx : x < B64) (hy : y < B64) (hc : c ≤ 1) : ∃ s d, (∀ w : World, (callFunc 160 #[U x, U y, U c]).run Tryz.prog w = .ok (.value (.tuple #[U s, U d])) w) ∧ x + y + c = s + B64 * d ∧ s < B64 ∧ d ≤ 1 := by
  refine ⟨(x + y + c) % 18446744073709551616, (x + y + c) / 18446744073709551616, fun w => ?_, ?_, ?_, ?_⟩
  · rw [run_callFunc_extern Tryz.func160 (by kernel_rfl) (by kernel_rfl) (by kernel_rfl) (e := add64Entry) (by kernel_rfl), run_add64 x y c (by omega) (by omega) (by omega) (by omega)]
    simp only [Result.andThen]
    congr 5 <;> omega
  · rw [B64_eq]; omega
  · rw [B64_eq]; omega
  · rw [B64_eq] at hx hy; omega

structure AddRel (w : World) (g off n : Nat) (zs ys : List Nat) (k cy : Nat) (dk : List Nat) (wr : World) : Prop where
  wrs : Wr g off n w wr
  row : Row wr g off n dk
  hi : dk.drop k = zs.drop k
  car : cy ≤ 1
  sum : valB B64 (dk.take k) + B64 ^ k * cy = valB B64 (zs.take k) + valB B64 (ys.take k)

theorem valB_take_any (b : Nat) (xs : List Nat) (k : Nat) : valB b (xs.take (k + 1)) = valB b (xs.take k) + b ^ k * xs.getD k 0 := by
  by_cases h : k < xs.length
  · exact valB_take_succ b xs k h
  · rw [List.take_of_length_le (by omega), List.take_of_length_le (by omega), List.getD_eq_getElem?_getD, List.getElem?_eq_none (by omega)]; simp
theorem drop_set_lt (dk : List Nat) (k y : Nat) : (dk.set k y).drop (k + 1) = dk.drop (k + 1) := by
  rw [List.drop_set]; simp
theorem take_set_succ (dk : List Nat) (k y : Nat) (hk : k < dk.length) : (dk.set k y).take (k + 1) = dk.take k ++ [y] := by
  rw [take_succ_getD _ k (by simpa using hk), getD_set dk k y k hk, if_pos rfl, List.take_set]
  congr 1
  rw [List.set_eq_of_length_le (by simp; omega)]
theorem drop_succ_of_drop {dk zs : List Nat} {k : Nat} (h : dk.drop k = zs.drop k) : dk.drop (k + 1) = zs.drop (k + 1) := by
  have := congrArg (List.drop 1) h
  rw [List.drop_drop, List.drop_drop] at this
  exact this
theorem getD_of_drop {dk zs : List Nat} {k : Nat} (h : dk.drop k = zs.drop k) : dk.getD k 0 = zs.getD k 0 := by
  have := congrArg (fun l : List Nat => l[0]?) h
  simp only [List.getElem?_drop, Nat.add_zero] at this
  rw [List.getD_eq_getElem?_getD, List.getD_eq_getElem?_getD, this]

theorem AddRel.step {w : World} {g off n : Nat} {zs ys : List Nat} {k cy : Nat} {dk : List Nat} {wr : World} (h : AddRel w g off n zs ys k cy dk wr) (hk : k < n)
    {x y s d : Nat} (hx : x = dk.getD k 0) (hy : y = ys.getD k 0) (hs : x + y + cy = s + B64 * d) (hsl : s < B64) (hd : d ≤ 1) (q : Nat) :
    AddRel w g off n zs ys (k + 1) d (dk.set k s) ((wr.setCell ⟨g, off + k, none⟩ (U s)).drewN q) := by
  have hl := h.row.len
  refine ⟨(h.wrs.setCell (off + k) ⟨by omega, by omega⟩ _).drewN q, (h.row.set k s hk hsl).drewN q, ?_, hd, ?_⟩
  · rw [drop_set_lt]; exact drop_succ_of_drop h.hi
  · have hxz : x = zs.getD k 0 := hx.trans (getD_of_drop h.hi)
    rw [take_set_succ dk k s (by omega), valB_snoc, List.length_take, hl, Nat.min_eq_left (by omega), valB_take_any _ zs k, valB_take_any _ ys k, ← hxz, ← hy, Nat.pow_succ]
    have e1 := h.sum
    have e2 : B64 ^ k * (x + y + cy) = B64 ^ k * (s + B64 * d) := by rw [hs]
    rw [Nat.mul_add, Nat.mul_add, Nat.mul_add, ← Nat.mul_assoc] at e2
    omega
theorem AddRel.fin {w : World} {g off n : Nat} {zs ys : List Nat} {k cy : Nat} {dk : List Nat} {wr : World} (h : AddRel w g off n zs ys k cy dk wr) (hz : zs.length = n) (hy : ys.length ≤ k) (hk : k ≤ n) (hf : cy = 0 ∨ k = n) :
    valB B64 dk + B64 ^ n * cy = valB B64 zs + valB B64 ys := by
  have hl := h.row.len
  have e1 := h.sum
  rw [List.take_of_length_le hy] at e1
  rw [valB_split B64 dk k (by omega), valB_split B64 zs k (by omega), h.hi]
  rcases hf with rfl | rfl
  · omega
  · rw [List.drop_of_length_le (by omega)]; simp only [valB_nil]; omega

theorem ladd_any (g off n c : Nat) (zs : List Nat) (p : Option Addr) (m d : Nat) (ys : List Nat) (w : World) (hz : Row w g off n zs) (hnc : n ≤ c) (hbig : c ≤ 9223372036854775807)
    (ha : At w p m d ys) (hmn : m ≤ n) (hap : ∀ g2 off2, 0 < m → p = some ⟨g2, off2, none⟩ → g2 ≠ g ∨ off2 + m ≤ off ∨ off + n ≤ off2) :
    Calls Tryz.prog 146 #[.slice (some ⟨g, off, none⟩) n c, .slice p m d] w fun e w' =>
      ∃ cy zs', e = .returned (U cy) ∧ cy ≤ 1 ∧ Wr g off n w w' ∧ Row w' g off n zs' ∧ valB B64 zs' + B64 ^ n * cy = valB B64 zs + valB B64 ys := by
  have hl := hz.len; have al := ha.len; have acap := ha.cap; have abig := ha.big
  unfold maxLen at abig
  go_enter Tryz.func146, Tryz.ntmps146
  go_wp2_with (go_at_call 144; refine (cut_row g off n c m _ hnc hmn).mono ?_; rintro e w' ⟨rfl, r0, rfl⟩)
  go_loopw [7, 8, 19] (fun cv _ i wr => ∃ (k cy : Nat) (dk : List Nat), k ≤ m ∧ i = .int .i64 k ∧ cv = U cy ∧ AddRel w g off n zs ys k cy dk wr) (fun _ _ i _ => m - (intOf i).toNat)
  case atStart => exact ⟨0, 0, zs, Nat.zero_le _, rfl, rfl, ⟨(Wr.refl _ _ _ _).drewN _, hz.drewN _, rfl, by omega, by simp [valB]⟩⟩
  case round =>
    obtain ⟨k, cy, dk, hk, rfl, rfl, hR⟩ := hrel
    by_cases hlt : k < m
    · obtain ⟨g2, off2, rfl, hc2⟩ := ha.cells.resolve_left (by omega)
      obtain ⟨x, hx⟩ : ∃ x, x = dk.getD k 0 := ⟨_, rfl⟩
      obtain ⟨y, hy⟩ : ∃ y, y = ys.getD k 0 := ⟨_, rfl⟩
      have hcx : wr.cell? ⟨g, off + k, none⟩ = some (U x) := by rw [hx]; exact hR.row.cell k (by omega)
      have hfx : wr.frozen? ⟨g, off + k, none⟩ = false := hR.row.frozen k (by omega)
      have hcy : wr.cell? ⟨g2, off2 + k, none⟩ = some (U y) := by
        rw [hy, hR.wrs.cell g2 (off2 + k) (by have := hap g2 off2 (by omega) rfl; omega)]; exact hc2 k hlt
      obtain ⟨s, d1, hrun, hsum, hsl, hd1⟩ := add64_ex x y cy (by rw [hx]; exact hR.row.dig.getD B64_pos k) (by rw [hy]; exact ha.dig.getD B64_pos k) hR.car
      have HR : Hid (AddRel w g off n zs ys k cy dk wr) := hR
      have HX : Hid (x = dk.getD k 0) := hx
      have HY : Hid (y = ys.getD k 0) := hy
      have HS : Hid (x + y + cy = s + B64 * d1) := hsum
      clear hR hx hy hsum hc2
      go_wp2
      go_region
      go_wp2
      go_roundw
      case rel => exact ⟨k + 1, d1, dk.set k s, by omega, by go_num, rfl, HR.out.step (by omega) HX.out HY.out HS.out hsl hd1 1⟩
      case measure => simp [intOf]; omega
    · obtain rfl : k = m := by omega
      have HR : Hid (AddRel w g off n zs ys k cy dk wr) := hR
      clear hR
      go_wp2
      go_loopw [7, 9, 41] (fun cv _ i wr => ∃ (j cy : Nat) (dk : List Nat), j ≤ n - k ∧ i = .int .i64 j ∧ cv = U cy ∧ AddRel w g off n zs ys (k + j) cy dk wr) (fun _ _ i _ => n - k - (intOf i).toNat)
      case atStart => exact ⟨0, cy, dk, Nat.zero_le _, rfl, rfl, HR.out⟩
      case round =>
        clear HR
        obtain ⟨j, cy, dk, hj, rfl, rfl, hR⟩ := hrel
        by_cases hlt2 : j < n - k
        · have hco : cutOff off n k = off + k := cutOff_lt (by omega)
          obtain ⟨x, hx⟩ : ∃ x, x = dk.getD (k + j) 0 := ⟨_, rfl⟩
          have hcx : wr.cell? ⟨g, cutOff off n k + j, none⟩ = some (U x) := by rw [hx, hco, Nat.add_assoc]; exact hR.row.cell (k + j) (by omega)
          have hfx : wr.frozen? ⟨g, cutOff off n k + j, none⟩ = false := by rw [hco, Nat.add_assoc]; exact hR.row.frozen (k + j) (by omega)
          obtain ⟨s, d1, hrun0, hsum, hsl, hd1⟩ := add64_ex x 0 cy (by rw [hx]; exact hR.row.dig.getD B64_pos _) B64_pos hR.car
          have HR : Hid (AddRel w g off n zs ys (k + j) cy dk wr) := hR
          have HX : Hid (x = dk.getD (k + j) 0) := hx
          have HS : Hid (x + 0 + cy = s + B64 * d1) := hsum
          have HO : Hid (cutOff off n k = off + k) := hco
          have hrun : ∀ w : World, (callFunc 160 #[U x, .int .u64 0, U cy]).run Tryz.prog w = .ok (.value (.tuple #[U s, U d1])) w := hrun0
          clear hR hx hsum hco hrun0
          by_cases hc0 : cy = 0
          · subst hc0
            go_wp2
            go_ret
            exact ⟨0, dk, rfl, by omega, HR.out.wrs, HR.out.row, HR.out.fin hl (by omega) (by omega) (.inl rfl)⟩
          · have hc0' : ((cy : Int) == 0) = false := by simp; omega
            go_wp2
            go_roundw
            case rel =>
              refine ⟨j + 1, d1, dk.set (k + j) s, by omega, by go_num, rfl, ?_⟩
              have st := HR.out.step (by omega) HX.out (y := 0) (by rw [List.getD_eq_getElem?_getD, List.getElem?_eq_none (by omega)]; rfl) HS.out hsl hd1 0
              rw [← Nat.add_assoc off, ← HO.out] at st
              exact st
            case measure => simp [intOf]; omega
        · have hjn : k + j = n := by omega
          have HR : Hid (AddRel w g off n zs ys (k + j) cy dk wr) := hR
          have HJ : Hid (k + j = n) := hjn
          clear hR hjn
          go_wp2
          go_ret
          exact ⟨cy, dk, rfl, HR.out.car, HR.out.wrs, HR.out.row, HR.out.fin hl (by omega) (by have := HJ.out; omega) (.inr HJ.out)⟩
theorem sub64_ex (x y c : Nat) (hx : x < B64) (hy : y < B64) (hc : c ≤ 1) : ∃ s d, (∀ w : World, (callFunc 169 #[U x, U y, U c]).run Tryz.prog w = .ok (.value (.tuple #[U s, U d])) w) ∧ x + B64 * d = s + y + c ∧ s < B64 ∧ d ≤ 1 := by
  refine ⟨(x + 18446744073709551616 - y - c) % 18446744073709551616, if x < y + c then 1 else 0, fun w => ?_, ?_, ?_, ?_⟩
  · rw [run_callFunc_extern Tryz.func169 (by kernel_rfl) (by kernel_rfl) (by kernel_rfl) (e := sub64Entry) (by kernel_rfl), run_sub64 x y c hc]
    rfl
  · rw [B64_eq] at *; split <;> omega
  · rw [B64_eq]; omega
  · split <;> omega

structure SubRel (w : World) (g off n : Nat) (zs ys : List Nat) (k cy : Nat) (dk : List Nat) (wr : World) : Prop where
  wrs : Wr g off n w wr
  row : Row wr g off n dk
  hi : dk.drop k = zs.drop k
  car : cy ≤ 1
  sum : valB B64 (dk.take k) + valB B64 (ys.take k) = valB B64 (zs.take k) + B64 ^ k * cy

theorem SubRel.step {w : World} {g off n : Nat} {zs ys : List Nat} {k cy : Nat} {dk : List Nat} {wr : World} (h : SubRel w g off n zs ys k cy dk wr) (hk : k < n)
    {x y s d : Nat} (hx : x = dk.getD k 0) (hy : y = ys.getD k 0) (hs : x + B64 * d = s + y + cy) (hsl : s < B64) (hd : d ≤ 1) (q : Nat) :
    SubRel w g off n zs ys (k + 1) d (dk.set k s) ((wr.setCell ⟨g, off + k, none⟩ (U s)).drewN q) := by
  have hl := h.row.len
  refine ⟨(h.wrs.setCell (off + k) ⟨by omega, by omega⟩ _).drewN q, (h.row.set k s hk hsl).drewN q, ?_, hd, ?_⟩
  · rw [drop_set_lt]; exact drop_succ_of_drop h.hi
  · have hxz : x = zs.getD k 0 := hx.trans (getD_of_drop h.hi)
    rw [take_set_succ dk k s (by omega), valB_snoc, List.length_take, hl, Nat.min_eq_left (by omega), valB_take_any _ zs k, valB_take_any _ ys k, ← hxz, ← hy, Nat.pow_succ]
    have e1 := h.sum
    have e2 : B64 ^ k * (x + B64 * d) = B64 ^ k * (s + y + cy) := by rw [hs]
    rw [Nat.mul_add, Nat.mul_add, Nat.mul_add, ← Nat.mul_assoc] at e2
    omega
theorem SubRel.fin {w : World} {g off n : Nat} {zs ys : List Nat} {k cy : Nat} {dk : List Nat} {wr : World} (h : SubRel w g off n zs ys k cy dk wr) (hz : zs.length = n) (hy : ys.length ≤ k) (hk : k ≤ n) (hf : cy = 0 ∨ k = n) :
    valB B64 dk + valB B64 ys = valB B64 zs + B64 ^ n * cy := by
  have hl := h.row.len
  have e1 := h.sum
  rw [List.take_of_length_le hy] at e1
  rw [valB_split B64 dk k (by omega), valB_split B64 zs k (by omega), h.hi]
  rcases hf with rfl | rfl
  · omega
  · rw [List.drop_of_length_le (by omega)]; simp only [valB_nil]; omega

theorem lsub_any (g off n c : Nat) (zs : List Nat) (p : Option Addr) (m d : Nat) (ys : List Nat) (w : World) (hz : Row w g off n zs) (hnc : n ≤ c) (hbig : c ≤ 9223372036854775807)
    (ha : At w p m d ys) (hmn : m ≤ n) (hap : ∀ g2 off2, 0 < m → p = some ⟨g2, off2, none⟩ → g2 ≠ g ∨ off2 + m ≤ off ∨ off + n ≤ off2) :
    Calls Tryz.prog 163 #[.slice (some ⟨g, off, none⟩) n c, .slice p m d] w fun e w' =>
      ∃ cy zs', e = .returned (U cy) ∧ cy ≤ 1 ∧ Wr g off n w w' ∧ Row w' g off n zs' ∧ valB B64 zs' + valB B64 ys = valB B64 zs + B64 ^ n * cy := by
  have hl := hz.len; have al := ha.len; have acap := ha.cap; have abig := ha.big
  unfold maxLen at abig
  go_enter Tryz.func163, Tryz.ntmps163
  go_wp2_with (go_at_call 144; refine (cut_row g off n c m _ hnc hmn).mono ?_; rintro e w' ⟨rfl, r0, rfl⟩)
  go_loopw [7, 8, 19] (fun cv _ i wr => ∃ (k cy : Nat) (dk : List Nat), k ≤ m ∧ i = .int .i64 k ∧ cv = U cy ∧ SubRel w g off n zs ys k cy dk wr) (fun _ _ i _ => m - (intOf i).toNat)
  case atStart => exact ⟨0, 0, zs, Nat.zero_le _, rfl, rfl, ⟨(Wr.refl _ _ _ _).drewN _, hz.drewN _, rfl, by omega, by simp [valB]⟩⟩
  case round =>
    obtain ⟨k, cy, dk, hk, rfl, rfl, hR⟩ := hrel
    by_cases hlt : k < m
    · obtain ⟨g2, off2, rfl, hc2⟩ := ha.cells.resolve_left (by omega)
      obtain ⟨x, hx⟩ : ∃ x, x = dk.getD k 0 := ⟨_, rfl⟩
      obtain ⟨y, hy⟩ : ∃ y, y = ys.getD k 0 := ⟨_, rfl⟩
      have hcx : wr.cell? ⟨g, off + k, none⟩ = some (U x) := by rw [hx]; exact hR.row.cell k (by omega)
      have hfx : wr.frozen? ⟨g, off + k, none⟩ = false := hR.row.frozen k (by omega)
      have hcy : wr.cell? ⟨g2, off2 + k, none⟩ = some (U y) := by
        rw [hy, hR.wrs.cell g2 (off2 + k) (by have := hap g2 off2 (by omega) rfl; omega)]; exact hc2 k hlt
      obtain ⟨s, d1, hrun, hsum, hsl, hd1⟩ := sub64_ex x y cy (by rw [hx]; exact hR.row.dig.getD B64_pos k) (by rw [hy]; exact ha.dig.getD B64_pos k) hR.car
      have HR : Hid (SubRel w g off n zs ys k cy dk wr) := hR
      have HX : Hid (x = dk.getD k 0) := hx
      have HY : Hid (y = ys.getD k 0) := hy
      have HS : Hid (x + B64 * d1 = s + y + cy) := hsum
      clear hR hx hy hsum hc2
      go_wp2
      go_region
      go_wp2
      go_roundw
      case rel => exact ⟨k + 1, d1, dk.set k s, by omega, by go_num, rfl, HR.out.step (by omega) HX.out HY.out HS.out hsl hd1 1⟩
      case measure => simp [intOf]; omega
    · obtain rfl : k = m := by omega
      have HR : Hid (SubRel w g off n zs ys k cy dk wr) := hR
      clear hR
      go_wp2
      go_loopw [7, 9, 41] (fun cv _ i wr => ∃ (j cy : Nat) (dk : List Nat), j ≤ n - k ∧ i = .int .i64 j ∧ cv = U cy ∧ SubRel w g off n zs ys (k + j) cy dk wr) (fun _ _ i _ => n - k - (intOf i).toNat)
      case atStart => exact ⟨0, cy, dk, Nat.zero_le _, rfl, rfl, HR.out⟩
      case round =>
        clear HR
        obtain ⟨j, cy, dk, hj, rfl, rfl, hR⟩ := hrel
        by_cases hlt2 : j < n - k
        · have hco : cutOff off n k = off + k := cutOff_lt (by omega)
          obtain ⟨x, hx⟩ : ∃ x, x = dk.getD (k + j) 0 := ⟨_, rfl⟩
          have hcx : wr.cell? ⟨g, cutOff off n k + j, none⟩ = some (U x) := by rw [hx, hco, Nat.add_assoc]; exact hR.row.cell (k + j) (by omega)
          have hfx : wr.frozen? ⟨g, cutOff off n k + j, none⟩ = false := by rw [hco, Nat.add_assoc]; exact hR.row.frozen (k + j) (by omega)
          obtain ⟨s, d1, hrun0, hsum, hsl, hd1⟩ := sub64_ex x 0 cy (by rw [hx]; exact hR.row.dig.getD B64_pos _) B64_pos hR.car
          have HR : Hid (SubRel w g off n zs ys (k + j) cy dk wr) := hR
          have HX : Hid (x = dk.getD (k + j) 0) := hx
          have HS : Hid (x + B64 * d1 = s + 0 + cy) := hsum
          have HO : Hid (cutOff off n k = off + k) := hco
          have hrun : ∀ w : World, (callFunc 169 #[U x, .int .u64 0, U cy]).run Tryz.prog w = .ok (.value (.tuple #[U s, U d1])) w := hrun0
          clear hR hx hsum hco hrun0
          by_cases hc0 : cy = 0
          · subst hc0
            go_wp2
            go_ret
            exact ⟨0, dk, rfl, by omega, HR.out.wrs, HR.out.row, HR.out.fin hl (by omega) (by omega) (.inl rfl)⟩
          · have hc0' : ((cy : Int) == 0) = false := by simp; omega
            go_wp2
            go_roundw
            case rel =>
              refine ⟨j + 1, d1, dk.set (k + j) s, by omega, by go_num, rfl, ?_⟩
              have st := HR.out.step (by omega) HX.out (y := 0) (by rw [List.getD_eq_getElem?_getD, List.getElem?_eq_none (by omega)]; rfl) HS.out hsl hd1 0
              rw [← Nat.add_assoc off, ← HO.out] at st
              exact st
            case measure => simp [intOf]; omega
        · have hjn : k + j = n := by omega
          have HR : Hid (SubRel w g off n zs ys (k + j) cy dk wr) := hR
          have HJ : Hid (k + j = n) := hjn
          clear hR hjn
          go_wp2
          go_ret
          exact ⟨cy, dk, rfl, HR.out.car, HR.out.wrs, HR.out.row, HR.out.fin hl (by omega) (by have := HJ.out; omega) (.inr HJ.out)⟩
def cmpN (a b : Nat) : Int := if a < b then -1 else if a = b then 0 else 1
theorem cmpN_lt {a b : Nat} (h : a < b) : cmpN a b = -1 := if_pos h
theorem cmpN_gt {a b : Nat} (h : b < a) : cmpN a b = 1 := by unfold cmpN; rw [if_neg (by omega), if_neg (by omega)]
theorem cmpN_eq {a b : Nat} (h : a = b) : cmpN a b = 0 := by unfold cmpN; rw [if_neg (by omega), if_pos h]
theorem cmpN_neg (a b : Nat) : cmpN a b < 0 ↔ a < b := by unfold cmpN; split <;> rename_i h; · simp [h]
                                                          · split <;> simp [h]

theorem val_lt_len {xs ys : List Nat} (hx : Dig B64 xs) (ty : Top ys) (h : xs.length < ys.length) : valB B64 xs < valB B64 ys := by
  have h1 := valB_lt B64_pos hx
  have h2 := valB_pos B64_pos (show ys ≠ [] by intro e; subst e; simp at h) ty
  have h3 : B64 ^ xs.length ≤ B64 ^ (ys.length - 1) := Nat.pow_le_pow_right B64_pos (by omega)
  omega
theorem val_lt_top {xs ys : List Nat} (hx : Dig B64 xs) {n t x y : Nat} (lx : xs.length = n) (ly : ys.length = n) (ht : t < n) (hd : xs.drop (t + 1) = ys.drop (t + 1)) (ex : x = xs.getD t 0) (ey : y = ys.getD t 0) (h : x < y) : valB B64 xs < valB B64 ys := by
  have h1 := valB_lt B64_pos (hx.take t)
  rw [List.length_take, lx, Nat.min_eq_left (by omega)] at h1
  rw [valB_split B64 xs t (by omega), valB_split B64 ys t (by omega), valB_drop _ xs t (by omega), valB_drop _ ys t (by omega), hd, ← ex, ← ey]
  have h2 : B64 ^ t * (x + 1) ≤ B64 ^ t * y := Nat.mul_le_mul_left _ h
  rw [Nat.mul_add] at h2
  rw [Nat.mul_add, Nat.mul_add]
  omega
theorem drop_step {xs ys : List Nat} {n t : Nat} (lx : xs.length = n) (ly : ys.length = n) (ht : t < n) (hd : xs.drop (t + 1) = ys.drop (t + 1)) (h : xs.getD t 0 = ys.getD t 0) : xs.drop t = ys.drop t := by
  rw [drop_getD xs t (by omega), drop_getD ys t (by omega), h, hd]

theorem drewN_two (w : World) (a b : Nat) : (w.drewN a).drewN b = w.drewN (a + b) := by simp

theorem cmp_any {p q : Option Addr} {n m c d : Nat} {xs ys : List Nat} {w : World} (h : At w p n c xs) (k : At w q m d ys) :
    Calls Tryz.prog 154 #[.slice p n c, .slice q m d] w fun e w' => e = .returned (.int .i64 (cmpN (valB B64 xs) (valB B64 ys))) ∧ ∃ r, w' = w.drewN r := by
  obtain ⟨res, hres⟩ : ∃ res, res = cmpN (valB B64 xs) (valB B64 ys) := ⟨_, rfl⟩
  rw [← hres]
  have HRES : Hid (res = cmpN (valB B64 (trimL xs)) (valB B64 (trimL ys))) := by rw [valB_trimL, valB_trimL]; exact hres
  clear hres
  go_enter Tryz.func154, Tryz.ntmps154
  go_wp2_with fail
  refine (trim_any h).mono ?_
  rintro e w' ⟨p1, n1, rfl, hn1, hp1, hw⟩
  obtain rfl := hw.symm
  clear hw
  go_wp2_with fail
  refine (trim_any k).mono ?_
  rintro e w' ⟨q1, m1, rfl, hm1, hq1, hw⟩
  obtain rfl := hw.symm
  clear hw
  have A := h.trim hn1 hp1
  have K := k.trim hm1 hq1
  have tx := Top_trimL xs
  have ty := Top_trimL ys
  clear hn1 hm1 hp1 hq1 h k
  generalize trimL xs = us at *
  generalize trimL ys = vs at *
  have al := A.len; have acap := A.cap; have abig := A.big; have adig := A.dig
  have kl := K.len; have kbig := K.big; have kdig := K.dig
  unfold maxLen at abig kbig
  have HX : Hid (Top us) := tx
  have HY : Hid (Top vs) := ty
  have HU : Hid (Dig B64 us) := adig
  have HV : Hid (Dig B64 vs) := kdig
  clear tx ty adig kdig
  by_cases hlt : n1 < m1
  · have hne : ((n1 : Int) != (m1 : Int)) = true := by simp; omega
    have hr : res = -1 := HRES.out.trans (cmpN_lt (val_lt_len HU.out HY.out (by omega)))
    have HR : Hid (res = -1) := hr
    clear hr
    go_wp2_with (go_at_call 162; refine (order_any _ _).mono ?_; rintro e w' ⟨rfl, hw⟩; obtain rfl := hw.symm; clear hw)
    go_ret
    exact ⟨ret_int HR.out.symm, 0, rfl⟩
  · by_cases hgt : m1 < n1
    · have hne : ((n1 : Int) != (m1 : Int)) = true := by simp; omega
      have hr : res = 1 := HRES.out.trans (cmpN_gt (val_lt_len HV.out HX.out (by omega)))
      have HR : Hid (res = 1) := hr
      clear hr
      go_wp2_with (go_at_call 162; refine (order_any _ _).mono ?_; rintro e w' ⟨rfl, hw⟩; obtain rfl := hw.symm; clear hw)
      go_ret
      exact ⟨ret_int HR.out.symm, 0, rfl⟩
    · obtain rfl : n1 = m1 := by omega
      have hne : ((n1 : Int) != (n1 : Int)) = false := by simp
      go_wp2
      go_loopw [6, 7, 24] (fun _ _ i wr => ∃ t r : Nat, t ≤ n1 ∧ i = .int .i64 t ∧ wr = w.drewN r ∧ us.drop (n1 - t) = vs.drop (n1 - t)) (fun _ _ i _ => n1 - (intOf i).toNat)
      case atStart => exact ⟨0, 0, Nat.zero_le _, rfl, rfl, by rw [Nat.sub_zero, List.drop_of_length_le (by omega), List.drop_of_length_le (by omega)]⟩
      case round =>
        obtain ⟨t, r, ht, rfl, rfl, hd⟩ := hrel
        have HD : Hid (us.drop (n1 - t) = vs.drop (n1 - t)) := hd
        clear hd
        by_cases h1 : t < n1
        · obtain ⟨g, off, rfl, hc⟩ := A.cells.resolve_left (by omega)
          obtain ⟨g2, off2, rfl, hc2⟩ := K.cells.resolve_left (by omega)
          obtain ⟨x, hx⟩ : ∃ x, x = us.getD (n1 - 1 - t) 0 := ⟨_, rfl⟩
          obtain ⟨y, hy⟩ : ∃ y, y = vs.getD (n1 - 1 - t) 0 := ⟨_, rfl⟩
          have hcx : w.cell? ⟨g, off + (n1 - 1 - t), none⟩ = some (U x) := by rw [hx]; exact hc _ (by omega)
          have hcy : w.cell? ⟨g2, off2 + (n1 - 1 - t), none⟩ = some (U y) := by rw [hy]; exact hc2 _ (by omega)
          have HX2 : Hid (x = us.getD (n1 - 1 - t) 0) := hx
          have HY2 : Hid (y = vs.getD (n1 - 1 - t) 0) := hy
          have HD2 : Hid (us.drop (n1 - 1 - t + 1) = vs.drop (n1 - 1 - t + 1)) := by
            have e : n1 - 1 - t + 1 = n1 - t := by omega
            rw [e]; exact HD.out
          clear hx hy hc hc2 HD
          by_cases hxy : x = y
          · have hb : ((x : Int) != (y : Int)) = false := by simp; omega
            go_wp2
            go_quiet (fail)
            go_wp2
            go_roundw
            case rel =>
              refine ⟨t + 1, r + nq, by omega, by go_num, rfl, ?_⟩
              have := drop_step (t := n1 - 1 - t) al kl (by omega) HD2.out (by rw [← HX2.out, ← HY2.out]; exact hxy)
              rw [show n1 - (t + 1) = n1 - 1 - t by omega]; exact this
            case measure => simp [intOf]; omega
          · have hb : ((x : Int) != (y : Int)) = true := by simp; omega
            by_cases hl : x < y
            · have hr : res = -1 := HRES.out.trans (cmpN_lt (val_lt_top HU.out al kl (by omega) HD2.out HX2.out HY2.out hl))
              have HR : Hid (res = -1) := hr
              have hl' : (x : Int) < (y : Int) := by omega
              clear hr
              go_wp2
              go_quiet (fail)
              go_wp2
              go_quiet ((go_at_call 162; exact (order_any _ _).mono (fun e w1 h => ⟨h.1, _, h.2⟩)))
              go_wp2
              go_ret
              exact ⟨ret_int HR.out.symm, _, by first | rfl | (rw [drewN_two, drewN_two])⟩
            · have hr : res = 1 := HRES.out.trans (cmpN_gt (val_lt_top HV.out kl al (by omega) HD2.out.symm HY2.out HX2.out (by omega)))
              have HR : Hid (res = 1) := hr
              have hl' : ¬ (x : Int) < (y : Int) := by omega
              clear hr
              go_wp2
              go_quiet (fail)
              go_wp2
              go_quiet ((go_at_call 162; exact (order_any _ _).mono (fun e w1 h => ⟨h.1, _, h.2⟩)))
              go_wp2
              go_ret
              exact ⟨ret_int HR.out.symm, _, by first | rfl | (rw [drewN_two, drewN_two])⟩
        · obtain rfl : t = n1 := by omega
          have hr : res = 0 := HRES.out.trans (cmpN_eq (by have := HD.out; rw [Nat.sub_self, List.drop_zero, List.drop_zero] at this; rw [this]))
          have HR : Hid (res = 0) := hr
          clear hr
          go_wp2
          go_ret
          exact ⟨ret_int HR.out.symm, r, rfl⟩
theorem bDrewN {B : Nat} {a w : World} (h : Below B a w) (q : Nat) : Below B a (w.drewN q) := ⟨h.os, h.tape, h.output, h.size, h.block⟩

theorem dig1 {x : Nat} (h : x < B64) : Dig B64 [x] := Dig.cons h (Dig.nil _)

def LIM : Nat := B64 ^ 8192
theorem LIM_eq (k : Nat) (hk : k = 8192) : LIM = B64 ^ k := by subst hk; unfold LIM; rfl
theorem Nf.lim {xs : List Nat} {n : Nat} (h : Nf B64 xs n) : xs.length ≤ 8192 ↔ n < LIM := by
  have := h.len_le (k := 8192) B64_one
  unfold LIM; exact this

structure Own (B : Nat) (w : World) (p : Option Addr) (m : Nat) (zs : List Nat) : Prop where
  len : zs.length = m
  dig : Dig B64 zs
  mem : m = 0 ∨ ∃ g, p = some ⟨g, 0, none⟩ ∧ B ≤ g ∧ Row w g 0 m zs
theorem Own.at_ {B : Nat} {w : World} {p : Option Addr} {m : Nat} {zs : List Nat} (h : Own B w p m zs) (hm : m ≤ 8192) : At w p m m zs := by
  refine ⟨h.len, Nat.le_refl _, by unfold maxLen; omega, h.dig, ?_⟩
  rcases h.mem with h0 | ⟨g, rfl, _, hr⟩
  · exact .inl h0
  · exact .inr ⟨g, 0, rfl, hr.cell⟩
theorem Row.lt {w : World} {g off n : Nat} {xs : List Nat} (h : Row w g off n xs) (hn : 0 < n) : g < w.heap.size := World.block_lt_of_cell? w _ (h.cell 0 hn)
theorem Own.below {B : Nat} {w w' : World} {p : Option Addr} {m : Nat} {zs : List Nat} (h : Own B w p m zs) (hb : Below w.heap.size w w') : Own B w' p m zs := by
  refine ⟨h.len, h.dig, ?_⟩
  by_cases h0 : m = 0
  · exact .inl h0
  · obtain ⟨g, rfl, hg, hr⟩ := h.mem.resolve_left h0
    exact .inr ⟨g, rfl, hg, hr.below hb (hr.lt (by omega))⟩
theorem Own.mono {B B' : Nat} {w : World} {p : Option Addr} {m : Nat} {zs : List Nat} (h : Own B w p m zs) (hB : B' ≤ B) : Own B' w p m zs := by
  refine ⟨h.len, h.dig, ?_⟩
  rcases h.mem with h0 | ⟨g, hp, hg, hr⟩
  · exact .inl h0
  · exact .inr ⟨g, hp, by omega, hr⟩
theorem Row.take {w : World} {g off n : Nat} {xs : List Nat} (h : Row w g off n xs) (m : Nat) (hm : m ≤ n) : Row w g off m (xs.take m) := by
  refine ⟨by rw [List.length_take, h.len]; omega, h.dig.take m, fun j hj => ?_, fun j hj => h.frozen j (by omega)⟩
  have e : (xs.take m).getD j 0 = xs.getD j 0 := by rw [List.getD_eq_getElem?_getD, List.getD_eq_getElem?_getD, List.getElem?_take, if_pos hj]
  rw [e]; exact h.cell j (by omega)
theorem Row.own {w : World} {g n B : Nat} {xs : List Nat} (h : Row w g 0 n xs) (hB : B ≤ g) {p' : Option Addr} {m : Nat} (hm : m = (trimL xs).length) (hp : m ≠ 0 → p' = some ⟨g, 0, none⟩) : Own B w p' m (trimL xs) := by
  have hle := trimL_length_le xs
  refine ⟨hm.symm, h.dig.trimL, ?_⟩
  by_cases h0 : m = 0
  · exact .inl h0
  · have := h.take m (by have := h.len; omega)
    rw [hm, ← trimL_take, ← hm] at this
    exact .inr ⟨g, hp h0, hB, this⟩
theorem Blk.own {w : World} {g B : Nat} {xs : List Nat} (h : Blk w g xs) (hd : Dig B64 xs) (hB : B ≤ g) : Own B w (some ⟨g, 0, none⟩) xs.length xs :=
  ⟨rfl, hd, .inr ⟨g, rfl, hB, h.row hd⟩⟩
theorem Blk.at_ {w : World} {g : Nat} {xs : List Nat} (h : Blk w g xs) (hd : Dig B64 xs) {n : Nat} (hn : xs.length = n) (hb : n ≤ maxLen) : At w (some ⟨g, 0, none⟩) n n xs := by
  subst hn; exact (h.row hd).at_ (Nat.le_refl _) hb

def Ans (B : Nat) (w' : World) (e : Ending) (n : Nat) : Prop :=
  (n < LIM ∧ ∃ p m zs, e = .returned (.tuple #[.slice p m m, .int .i64 0]) ∧ Own B w' p m zs ∧ Nf B64 zs n ∧ m ≤ 8192) ∨
  (LIM ≤ n ∧ e = .returned (.tuple #[.slice none 0 0, .int .i64 5]))

theorem norm_any {p : Option Addr} {n c : Nat} {xs : List Nat} {w : World} (h : At w p n c xs) :
    Calls Tryz.prog 130 #[.slice p n c] w fun e w' => Ans w.heap.size w' e (valB B64 xs) ∧ Below w.heap.size w w' := by
  have hN := Nf.trim h.dig
  have hlim := hN.lim
  have HN : Hid (Nf B64 (trimL xs) (valB B64 xs)) := hN
  have HL : Hid ((trimL xs).length ≤ 8192 ↔ valB B64 xs < LIM) := hlim
  clear hN hlim
  go_enter Tryz.func130, Tryz.ntmps130
  go_wp2_with fail
  refine (trim_any h).mono ?_
  rintro e w' ⟨p1, m, rfl, hm, hp, hw⟩
  obtain rfl := hw.symm
  have A := h.trim hm hp
  have HM : Hid (m = (trimL xs).length) := hm
  clear hw hm hp
  by_cases hle : m ≤ 8192
  · go_wp2_with fail
    refine (copied_any A m (Nat.le_refl _) (by omega)).mono ?_
    rintro e w1 ⟨g, rfl, hg, hblk, hb⟩
    rw [Nat.sub_self, List.replicate_zero, List.append_nil] at hblk
    go_wp2_with fail
    go_ret2
    have e1 := HM.out
    refine ⟨.inl ⟨HL.out.1 (by omega), _, m, trimL xs, rfl, ?_, HN.out, hle⟩, hb⟩
    have := hblk.own HN.out.dig hg
    rw [← e1] at this; exact this
  · go_wp2_with fail
    go_ret2
    have e1 := HM.out
    refine ⟨.inr ⟨?_, rfl⟩, Below.refl _ _⟩
    have := mt HL.out.2 (by omega)
    omega

theorem form_true {p : Option Addr} {n c : Nat} {xs : List Nat} {w : World} (h : At w p n c xs) (hf : formB xs = true) :
    Calls Tryz.prog 127 #[.slice p n c] w fun e w' => e = .returned (.bool true) ∧ w' = w := by
  have := form_any h; rw [hf] at this; exact this
theorem Nf.form {xs : List Nat} {n : Nat} (h : Nf B64 xs n) (hl : xs.length ≤ 8192) : formB xs = true := (formB_iff xs).2 ⟨hl, h.top⟩
def Ap2 (v1 v2 : Value) : Prop := ∀ p1 m1 c1 p2 m2 c2 g, v1 = .slice p1 m1 c1 → v2 = .slice p2 m2 c2 → m1 ≠ 0 → m2 ≠ 0 → p1 = some ⟨g, 0, none⟩ → p2 = some ⟨g, 0, none⟩ → False
theorem ap_own {B : Nat} {w1 w2 : World} {p1 p2 : Option Addr} {m1 m2 : Nat} {z1 z2 : List Nat} (h1 : Own B w1 p1 m1 z1) (h2 : Own w1.heap.size w2 p2 m2 z2) : Ap2 (.slice p1 m1 m1) (.slice p2 m2 m2) := by
  intro q1 n1 c1 q2 n2 c2 g e1 e2 hn1 hn2 hq1 hq2
  simp only [Value.slice.injEq] at e1 e2
  obtain ⟨rfl, rfl, -⟩ := e1
  obtain ⟨rfl, rfl, -⟩ := e2
  obtain ⟨g1, a1, -, a3⟩ := h1.mem.resolve_left hn1
  obtain ⟨g2, b1, b2, -⟩ := h2.mem.resolve_left hn2
  rw [a1] at hq1; rw [b1] at hq2
  cases hq1; cases hq2
  have := World.block_lt_of_cell? w1 _ (a3.cell 0 (by omega))
  have h9 : g < w1.heap.size := this
  omega
theorem Ap2.symm {v1 v2 : Value} (h : Ap2 v1 v2) : Ap2 v2 v1 := fun p1 m1 c1 p2 m2 c2 g e1 e2 h1 h2 q1 q2 => h p2 m2 c2 p1 m1 c1 g e2 e1 h2 h1 q2 q1
theorem ap_nil {p : Option Addr} {c : Nat} {v : Value} : Ap2 (.slice p 0 c) v := by
  intro q1 n1 c1 q2 n2 c2 g e1 e2 hn1 hn2 hq1 hq2
  simp only [Value.slice.injEq] at e1
  exact hn1 e1.2.1.symm
theorem ap_ne {p1 p2 : Option Addr} {m1 m2 g1 g2 : Nat} (h1 : m1 ≠ 0 → p1 = some ⟨g1, 0, none⟩) (h2 : m2 ≠ 0 → p2 = some ⟨g2, 0, none⟩) (hne : g1 ≠ g2) : Ap2 (.slice p1 m1 m1) (.slice p2 m2 m2) := by
  intro q1 n1 c1 q2 n2 c2 g e1 e2 hn1 hn2 hq1 hq2
  simp only [Value.slice.injEq] at e1 e2
  obtain ⟨rfl, rfl, -⟩ := e1
  obtain ⟨rfl, rfl, -⟩ := e2
  rw [h1 hn1] at hq1; rw [h2 hn2] at hq2
  cases hq1; cases hq2
  exact hne rfl
theorem dig_pad {xs : List Nat} (h : Dig B64 xs) (n : Nat) : Dig B64 (xs ++ List.replicate n 0) := h.append (Dig.replicate _ _ B64_pos)

theorem add_abs {P Q R A B Z cy : Nat} (hs : Z + Q * cy = A + B) (h1 : A < P) (h2 : B < R) (h3 : R ≤ P) (h5 : P * 2 ≤ Q) : Z = A + B := by
  by_cases hc : cy = 0
  · subst hc; omega
  · have h6 : Q * 1 ≤ Q * cy := Nat.mul_le_mul_left _ (by omega)
    omega
theorem add_fin {n m : Nat} {zs xs ys : List Nat} {a b cy : Nat} (hx : Nf B64 xs a) (hy : Nf B64 ys b) (hlx : xs.length = n) (hly : ys.length = m) (hmn : m ≤ n)
    (hs : valB B64 zs + B64 ^ (n + 1) * cy = valB B64 (xs ++ List.replicate (n + 1 - n) 0) + valB B64 ys) : valB B64 zs = a + b := by
  rw [valB_append_zeros, hx.val, hy.val] at hs
  have h1 := valB_lt B64_pos hx.dig
  have h2 := valB_lt B64_pos hy.dig
  rw [hx.val, hlx] at h1
  rw [hy.val, hly] at h2
  refine add_abs hs h1 h2 (Nat.pow_le_pow_right B64_pos hmn) ?_
  rw [Nat.pow_succ]; exact Nat.mul_le_mul_left _ B64_two

theorem add_ord {p q : Option Addr} {n m c d : Nat} {xs ys : List Nat} {a b : Nat} {w : World} (h : At w p n c xs) (k : At w q m d ys) (hx : Nf B64 xs a) (hy : Nf B64 ys b) (hlx : n ≤ 8192) (hly : m ≤ 8192) :
    Calls Tryz.prog 132 #[.slice p n c, .slice q m d] w fun e w' => Ans w.heap.size w' e (a + b) ∧ Below w.heap.size w w' := by
  have fx := hx.form (by rw [h.len]; exact hlx)
  have fy := hy.form (by rw [k.len]; exact hly)
  have HX : Hid (Nf B64 xs a) := hx
  have HY : Hid (Nf B64 ys b) := hy
  clear hx hy
  go_enter Tryz.func132, Tryz.ntmps132
  go_wp2_with fail
  refine (form_true h fx).mono ?_
  rintro e w' ⟨rfl, hw⟩
  obtain rfl := hw.symm
  clear hw
  go_wp2_with fail
  refine (form_true k fy).mono ?_
  rintro e w' ⟨rfl, hw⟩
  obtain rfl := hw.symm
  clear hw fx fy
  by_cases hlt : n < m
  · go_wp2_with fail
    rw [show ((m : Int) + 1) = ((m + 1 : Nat) : Int) by omega]
    refine (copied_any k (m + 1) (by omega) (by omega)).mono ?_
    rintro e w1 ⟨g, rfl, hg, hblk, hb⟩
    have hd1 := dig_pad HY.out.dig (m + 1 - m)
    have hr := hblk.row hd1
    have hl1 : (ys ++ List.replicate (m + 1 - m) 0).length = m + 1 := by rw [List.length_append, List.length_replicate, k.len]; omega
    rw [hl1] at hr
    have h1 := h.below hb
    go_wp2_with fail
    refine (ladd_any g 0 (m + 1) (m + 1) _ p n c xs _ hr (Nat.le_refl _) (by omega) h1 (by omega) (fun g2 off2 hn hp => .inl (h.fresh hg g2 off2 hn hp))).mono ?_
    rintro e w2 ⟨cy, zs, rfl, _, hwr, hrow, hsum⟩
    have A2 := hrow.at_ (Nat.le_refl _) (by unfold maxLen; omega)
    have hval := add_fin HY.out HX.out k.len h.len (by omega) hsum
    have hN := Nf.trim hrow.dig
    rw [hval] at hN
    have HV : Hid (Nf B64 (trimL zs) (b + a)) := hN
    have hb2 : Below w.heap.size w w2 := hb.trans (hwr.below hg)
    clear hsum hval hN hd1 hl1 hr hblk
    go_wp2_with fail
    refine (fitted_any A2).mono ?_
    rintro e w3 hres
    rcases hres with ⟨hle, ⟨p', m', rfl, hm', hp'⟩, hw⟩ | ⟨hgt, rfl, hw⟩
    · obtain rfl := hw.symm
      have HM : Hid (m' = (trimL zs).length) := hm'
      clear hw hm'
      go_wp2_with fail
      go_ret2
      have e1 := HM.out
      rw [Nat.add_comm a b]
      exact ⟨.inl ⟨HV.out.lim.1 hle, p', m', trimL zs, rfl, hrow.own hg e1 hp', HV.out, by omega⟩, hb2⟩
    · obtain rfl := hw.symm
      clear hw
      go_wp2_with fail
      go_ret2
      rw [Nat.add_comm a b]
      refine ⟨.inr ⟨?_, rfl⟩, hb2⟩
      have := mt HV.out.lim.2 (by omega)
      omega
  · go_wp2_with fail
    rw [show ((n : Int) + 1) = ((n + 1 : Nat) : Int) by omega]
    refine (copied_any h (n + 1) (by omega) (by omega)).mono ?_
    rintro e w1 ⟨g, rfl, hg, hblk, hb⟩
    have hd1 := dig_pad HX.out.dig (n + 1 - n)
    have hr := hblk.row hd1
    have hl1 : (xs ++ List.replicate (n + 1 - n) 0).length = n + 1 := by rw [List.length_append, List.length_replicate, h.len]; omega
    rw [hl1] at hr
    have h1 := k.below hb
    go_wp2_with fail
    refine (ladd_any g 0 (n + 1) (n + 1) _ q m d ys _ hr (Nat.le_refl _) (by omega) h1 (by omega) (fun g2 off2 hn hp => .inl (k.fresh hg g2 off2 hn hp))).mono ?_
    rintro e w2 ⟨cy, zs, rfl, _, hwr, hrow, hsum⟩
    have A2 := hrow.at_ (Nat.le_refl _) (by unfold maxLen; omega)
    have hval := add_fin HX.out HY.out h.len k.len (by omega) hsum
    have hN := Nf.trim hrow.dig
    rw [hval] at hN
    have HV : Hid (Nf B64 (trimL zs) (a + b)) := hN
    have hb2 : Below w.heap.size w w2 := hb.trans (hwr.below hg)
    clear hsum hval hN hd1 hl1 hr hblk
    go_wp2_with fail
    refine (fitted_any A2).mono ?_
    rintro e w3 hres
    rcases hres with ⟨hle, ⟨p', m', rfl, hm', hp'⟩, hw⟩ | ⟨hgt, rfl, hw⟩
    · obtain rfl := hw.symm
      have HM : Hid (m' = (trimL zs).length) := hm'
      clear hw hm'
      go_wp2_with fail
      go_ret2
      have e1 := HM.out
      exact ⟨.inl ⟨HV.out.lim.1 hle, p', m', trimL zs, rfl, hrow.own hg e1 hp', HV.out, by omega⟩, hb2⟩
    · obtain rfl := hw.symm
      clear hw
      go_wp2_with fail
      go_ret2
      refine ⟨.inr ⟨?_, rfl⟩, hb2⟩
      have := mt HV.out.lim.2 (by omega)
      omega
end Go.Proofs.YtmhkabomabkkfaaGreatDoor
namespace Go.Proofs.YtmhkabomabkkfaaGreatDoor
open Go.RowKit Go.Shelf
set_option maxRecDepth 20000
set_option maxHeartbeats 0
def renLen : Ren := ⟨fun x => match x with | 129 => 82 | n => n, fun x => match x with | 53 => 22 | 3 => 3 | 4 => 4 | 46 => 143 | 5 => 5 | 9 => 9 | n => n, fun n => n⟩
theorem laysLen : Lays.n129 Tryz.prog renLen :=
  { mixed := by kernel_rfl, f129 := Tryz.func82.trans (congrArg some (by kernel_rfl)),
    t3 := Tryz.underlying3, a3 := Tryz.isAgg3, z3 := Tryz.sizeOf3, v3 := Tryz.zeroValue3, t4 := Tryz.underlying4, a4 := Tryz.isAgg4, z4 := Tryz.sizeOf4, v4 := Tryz.zeroValue4,
    t5 := Tryz.underlying5, a5 := Tryz.isAgg5, z5 := Tryz.sizeOf5, v5 := Tryz.zeroValue5, t9 := Tryz.underlying9, a9 := Tryz.isAgg9, z9 := Tryz.sizeOf9, v9 := Tryz.zeroValue9,
    t46 := Tryz.underlying143, a46 := Tryz.isAgg143, z46 := Tryz.sizeOf143, v46 := Tryz.zeroValue143, t53 := Tryz.underlying22, a53 := Tryz.isAgg22, z53 := Tryz.sizeOf22, v53 := Tryz.zeroValue22 }

def bitsN (n : Nat) : Nat := if n = 0 then 0 else n.log2 + 1
theorem bitsN_zero : bitsN 0 = 0 := rfl
theorem bitsN_lt (n : Nat) : n < 2 ^ bitsN n := by
  unfold bitsN
  split
  · rename_i h; subst h; decide
  · exact Nat.lt_log2_self
theorem bitsN_le (n : Nat) (h : n ≠ 0) : 2 ^ (bitsN n - 1) ≤ n := by
  unfold bitsN
  rw [if_neg h, Nat.add_sub_cancel]
  exact Nat.log2_self_le h
theorem bitsN_unique {n k : Nat} (h1 : n < 2 ^ k) (h2 : n ≠ 0 → 2 ^ (k - 1) ≤ n) (h3 : n = 0 → k = 0) : bitsN n = k := by
  by_cases h0 : n = 0
  · subst h0; rw [h3 rfl]; rfl
  · have a1 := bitsN_lt n
    have a2 := bitsN_le n h0
    have b2 := h2 h0
    have c1 : bitsN n - 1 < k := (Nat.pow_lt_pow_iff_right (by decide : 1 < 2)).1 (Nat.lt_of_le_of_lt a2 h1)
    have c2 : k - 1 < bitsN n := (Nat.pow_lt_pow_iff_right (by decide : 1 < 2)).1 (Nat.lt_of_le_of_lt b2 a1)
    have c3 : bitsN n ≠ 0 := by unfold bitsN; rw [if_neg h0]; omega
    omega
theorem bitsN_half (n : Nat) (h : n ≠ 0) : bitsN n = 1 + bitsN (n / 2) := by
  refine bitsN_unique ?_ ?_ (fun e => absurd e h)
  · have := bitsN_lt (n / 2)
    rw [Nat.add_comm, Nat.pow_succ]; omega
  · intro _
    by_cases h2 : n / 2 = 0
    · rw [h2]; simp [bitsN]; omega
    · have a := bitsN_le _ h2
      have c3 : bitsN (n / 2) ≠ 0 := by unfold bitsN; rw [if_neg h2]; omega
      have e : 1 + bitsN (n / 2) - 1 = bitsN (n / 2) - 1 + 1 := by omega
      rw [e, Nat.pow_succ]; omega
theorem bitLen_eq : ∀ (k n : Nat), n < 2 ^ k → k ≤ 64 → Lib.bitLen n = bitsN n := by
  intro k
  induction k with
  | zero => intro n h _; have : n = 0 := by simpa using h
            subst this; rfl
  | succ k ih =>
    intro n h hk
    by_cases h0 : n = 0
    · subst h0; rfl
    · rw [Lib.bitLen_half n h0 (Nat.lt_of_lt_of_le h (Nat.pow_le_pow_right (by decide) hk)), bitsN_half n h0, ih (n / 2) (by rw [Nat.pow_succ] at h; omega) (by omega)]

theorem B64_two_pow : B64 = 2 ^ 64 := rfl
theorem B64_pow (k : Nat) : B64 ^ k = 2 ^ (64 * k) := by rw [B64_two_pow, ← Nat.pow_mul]
theorem bitsN_top {lo x k l : Nat} (hlo : lo < 2 ^ k) (h1 : x < 2 ^ l) (h2 : 2 ^ (l - 1) ≤ x) (hl : l ≠ 0) : bitsN (lo + 2 ^ k * x) = k + l := by
  have hx : 0 < x := Nat.lt_of_lt_of_le (Nat.two_pow_pos _) h2
  have hp := Nat.two_pow_pos k
  have hk : 2 ^ k * 1 ≤ 2 ^ k * x := Nat.mul_le_mul_left _ hx
  refine bitsN_unique ?_ (fun _ => ?_) (fun e => by omega)
  · have := Nat.mul_le_mul_left (2 ^ k) (show x + 1 ≤ 2 ^ l from h1)
    rw [Nat.mul_add, ← Nat.pow_add] at this; omega
  · have := Nat.mul_le_mul_left (2 ^ k) h2
    rw [← Nat.pow_add] at this
    rw [show k + l - 1 = k + (l - 1) by omega]; omega
theorem bitsN_list {us : List Nat} {m x : Nat} (hd : Dig B64 us) (ht : Top us) (hl : us.length = m) (hm : m ≠ 0) (hx : x = us.getD (m - 1) 0) : bitsN (valB B64 us) = 64 * (m - 1) + bitsN x := by
  have h1 := valB_lt B64_pos (hd.take (m - 1))
  rw [List.length_take, hl, Nat.min_eq_left (by omega), B64_pow] at h1
  have hx0 : x ≠ 0 := by
    rw [hx]
    refine ht _ ?_
    rw [List.getLast?_eq_getElem?, hl, List.getD_eq_getElem?_getD, List.getElem?_eq_getElem (by omega)]; rfl
  have e : valB B64 us = valB B64 (us.take (m - 1)) + B64 ^ (m - 1) * x := by
    have := valB_take_succ B64 us (m - 1) (by omega)
    rw [show m - 1 + 1 = m by omega, List.take_of_length_le (by omega), ← hx] at this
    exact this
  rw [e, B64_pow]
  exact bitsN_top h1 (bitsN_lt x) (bitsN_le x hx0) (by unfold bitsN; rw [if_neg hx0]; omega)

theorem len_any (x : Nat) (w : World) (hx : x < B64) : Calls Tryz.prog 82 #[U x] w fun e w' => e = .returned (.int .i64 (bitsN x)) ∧ w' = w := by
  rw [B64_eq] at hx
  have h := Any.bits_Len64 laysLen (x : Int) w (by omega) (by omega)
  rw [Int.toNat_natCast, bitLen_eq 64 x hx (Nat.le_refl _)] at h
  exact h

theorem bits_any {p : Option Addr} {n c : Nat} {xs : List Nat} {w : World} (h : At w p n c xs) (hn : n ≤ 17592186044416) :
    Calls Tryz.prog 98 #[.slice p n c] w fun e w' => e = .returned (.int .i64 (bitsN (valB B64 xs))) ∧ w' = w := by
  obtain ⟨res, hres⟩ : ∃ res, res = bitsN (valB B64 xs) := ⟨_, rfl⟩
  rw [← hres]
  have HRES : Hid (res = bitsN (valB B64 (trimL xs))) := by rw [valB_trimL]; exact hres
  clear hres
  go_enter Tryz.func98, Tryz.ntmps98
  go_wp2_with fail
  refine (trim_any h).mono ?_
  rintro e w' ⟨p1, m, rfl, hm, hp, hw⟩
  obtain rfl := hw.symm
  have A := h.trim hm hp
  have tx := Top_trimL xs
  have hle := trimL_length_le xs
  rw [h.len, ← hm] at hle
  clear hw hm hp
  generalize trimL xs = us at *
  by_cases h0 : m = 0
  · subst h0
    have hu : us = [] := List.eq_nil_of_length_eq_zero A.len
    have HR : Hid (res = 0) := by have := HRES.out; rw [hu] at this; exact this
    clear hu
    go_wp2_with fail
    go_ret
    exact ⟨ret_int (by have := HR.out; omega), rfl⟩
  · obtain ⟨g, off, rfl, hc⟩ := A.cells.resolve_left h0
    obtain ⟨x, hx⟩ : ∃ x, x = us.getD (m - 1) 0 := ⟨_, rfl⟩
    have hcx : w.cell? ⟨g, off + (m - 1), none⟩ = some (U x) := by rw [hx]; exact hc _ (by omega)
    have h0' : ((m : Int) == 0) = false := by simp; omega
    have hxb : x < B64 := by rw [hx]; exact A.dig.getD B64_pos _
    have HR : Hid (res = 64 * (m - 1) + bitsN x) := HRES.out.trans (bitsN_list A.dig tx A.len h0 hx)
    have hbx : bitsN x ≤ 64 := by
      have h1 : bitsN x - 1 < 64 ∨ x = 0 := by
        by_cases e : x = 0
        · exact .inr e
        · refine .inl ((Nat.pow_lt_pow_iff_right (by decide : 1 < 2)).1 (Nat.lt_of_le_of_lt (bitsN_le x e) ?_))
          rw [B64_two_pow] at hxb; exact hxb
      rcases h1 with h1 | rfl
      · omega
      · simp [bitsN]
    clear hc hx
    go_wp2_with fail
    refine (len_any x _ hxb).mono ?_
    rintro e w' ⟨rfl, hw⟩
    obtain rfl := hw.symm
    clear hw
    go_wp2_with fail
    go_ret
    exact ⟨ret_int (by have := HR.out; omega), rfl⟩
end Go.Proofs.YtmhkabomabkkfaaGreatDoor
namespace Go.Proofs.YtmhkabomabkkfaaGreatDoor
open Go.RowKit
set_option maxRecDepth 20000
set_option maxHeartbeats 0
theorem sub_abs {P A B Z cy : Nat} (hs : Z + B = A + P * cy) (h1 : Z < P) (hc : cy ≤ 1) (h2 : B ≤ A) : Z = A - B := by
  by_cases h : cy = 0
  · subst h; omega
  · obtain rfl : cy = 1 := by omega
    omega

theorem sub_nf {p q : Option Addr} {n m c d : Nat} {xs ys : List Nat} {a b : Nat} {w : World} (h : At w p n c xs) (k : At w q m d ys) (hx : Nf B64 xs a) (hy : Nf B64 ys b) (hlx : n ≤ 8192) (hly : m ≤ 8192) :
    Calls Tryz.prog 155 #[.slice p n c, .slice q m d] w fun e w' =>
      ((b ≤ a ∧ ∃ p m zs, e = .returned (.tuple #[.slice p m m, .int .i64 0]) ∧ Own w.heap.size w' p m zs ∧ Nf B64 zs (a - b) ∧ m ≤ 8192) ∨
       (a < b ∧ e = .returned (.tuple #[.slice none 0 0, .int .i64 3]))) ∧ Below w.heap.size w w' := by
  have fx := hx.form (by rw [h.len]; exact hlx)
  have fy := hy.form (by rw [k.len]; exact hly)
  have HX : Hid (Nf B64 xs a) := hx
  have HY : Hid (Nf B64 ys b) := hy
  clear hx hy
  go_enter Tryz.func155, Tryz.ntmps155
  go_wp2_with fail
  refine (form_true h fx).mono ?_
  rintro e w' ⟨rfl, hw⟩
  obtain rfl := hw.symm
  clear hw
  go_wp2_with fail
  refine (form_true k fy).mono ?_
  rintro e w' ⟨rfl, hw⟩
  obtain rfl := hw.symm
  clear hw fx fy
  go_wp2_with fail
  refine (cmp_any h k).mono ?_
  rintro e w' ⟨rfl, r, hw⟩
  obtain rfl := hw.symm
  clear hw
  rw [HX.out.val, HY.out.val]
  have hn0 := cmpN_neg a b
  by_cases hlt : a < b
  · have hneg : cmpN a b < 0 := hn0.2 hlt
    clear hn0
    go_wp2_with fail
    go_ret2
    exact ⟨.inr ⟨hlt, rfl⟩, bDrewN (Below.refl _ _) r⟩
  · have hneg : ¬ cmpN a b < 0 := mt hn0.1 hlt
    clear hn0
    go_wp2_with fail
    refine (copied_any (h.drewN r) n (Nat.le_refl _) (by omega)).mono ?_
    rintro e w1 ⟨g, rfl, hg, hblk, hb⟩
    rw [Nat.sub_self, List.replicate_zero, List.append_nil] at hblk
    have hr := hblk.row HX.out.dig
    rw [h.len] at hr
    have h1 := (k.drewN r).below hb
    have hmn : m ≤ n := by
      have l1 := h.len; have l2 := k.len
      by_cases hnm : n < m
      · have := val_lt_len HX.out.dig HY.out.top (by omega)
        rw [HX.out.val, HY.out.val] at this; omega
      · omega
    go_wp2_with fail
    refine (lsub_any g 0 n n _ q m d ys _ hr (Nat.le_refl _) (by omega) h1 hmn (fun g2 off2 hn hp => .inl (k.fresh hg g2 off2 hn hp))).mono ?_
    rintro e w2 ⟨cy, zs, rfl, hcy, hwr, hrow, hsum⟩
    have A2 := hrow.at_ (Nat.le_refl _) (by unfold maxLen; omega)
    have hval : valB B64 zs = a - b := by
      rw [HX.out.val, HY.out.val] at hsum
      have h2 := valB_lt B64_pos hrow.dig
      rw [hrow.len] at h2
      exact sub_abs hsum h2 hcy (by omega)
    have hN := Nf.trim hrow.dig
    rw [hval] at hN
    have HV : Hid (Nf B64 (trimL zs) (a - b)) := hN
    have hb2 : Below w.heap.size w w2 := (bDrewN (Below.refl _ _) r).trans (hb.trans (hwr.below hg))
    clear hsum hval hN hr hblk
    go_wp2_with fail
    refine (trim_any A2).mono ?_
    rintro e w3 ⟨p', m', rfl, hm', hp', hw⟩
    obtain rfl := hw.symm
    have HM : Hid (m' = (trimL zs).length) := hm'
    clear hw hm'
    go_wp2_with fail
    go_ret2
    have e1 := HM.out
    have e2 := trimL_length_le zs
    have e3 := hrow.len
    exact ⟨.inl ⟨by omega, p', m', trimL zs, rfl, hrow.own hg e1 hp', HV.out, by omega⟩, hb2⟩
theorem Ans.ok {B : Nat} {w' : World} {e : Ending} {n : Nat} (h : Ans B w' e n) (hn : n < LIM) : ∃ p m zs, e = .returned (.tuple #[.slice p m m, .int .i64 0]) ∧ Own B w' p m zs ∧ Nf B64 zs n ∧ m ≤ 8192 := by
  rcases h with ⟨_, h⟩ | ⟨h, _⟩
  · exact h
  · omega
theorem Ans.no {B : Nat} {w' : World} {e : Ending} {n : Nat} (h : Ans B w' e n) (hn : LIM ≤ n) : e = .returned (.tuple #[.slice none 0 0, .int .i64 5]) := by
  rcases h with ⟨h, _⟩ | ⟨_, h⟩
  · omega
  · exact h
theorem below1 (w : World) (o : Obj) : Below w.heap.size w (w.alloc o) := (Below.refl _ _).alloc (Nat.le_refl _) o
theorem below2 (w : World) (o o' : Obj) : Below w.heap.size w ((w.alloc o).alloc o') := (below1 w o).alloc (by simp) o'
theorem Below.on {w w1 w2 : World} (h : Below w.heap.size w w1) (k : Below w1.heap.size w1 w2) : Below w.heap.size w w2 := h.trans (k.mono h.size)
theorem nf_one {x : Nat} (h : x < B64) (h0 : x ≠ 0) : Nf B64 [x] x := ⟨dig1 h, by intro y hy; simp at hy; omega, by simp [valB]⟩
theorem cmp_w {p q : Option Addr} {n m c d : Nat} {xs ys : List Nat} {w : World} (h : At w p n c xs) (k : At w q m d ys) :
    Calls Tryz.prog 154 #[.slice p n c, .slice q m d] w fun e w' => e = .returned (.int .i64 (cmpN (valB B64 xs) (valB B64 ys))) ∧ Below w.heap.size w w' := by
  refine (cmp_any h k).mono ?_
  rintro e w' ⟨rfl, r, rfl⟩
  exact ⟨rfl, bDrewN (Below.refl _ _) r⟩

theorem word_any (v : Nat) (w : World) (hv : v < B64) :
    Calls Tryz.prog 96 #[U v] w fun e w' => ∃ p m zs, e = .returned (.slice p m m) ∧ Own w.heap.size w' p m zs ∧ Nf B64 zs v ∧ m ≤ 1 ∧ Below w.heap.size w w' := by
  by_cases h0 : v = 0
  · subst h0
    go_enter Tryz.func96, Tryz.ntmps96
    go_wp2_with fail
    go_ret
    exact ⟨none, 0, [], rfl, ⟨rfl, Dig.nil _, .inl rfl⟩, Nf.nil _, by omega, Below.refl _ _⟩
  · have h0' : ((v : Int) == 0) = false := by simp; omega
    go_enter Tryz.func96, Tryz.ntmps96
    go_wp2_with fail
    go_ret
    have hbk : Blk (w.alloc (.cells #[U v] 22)) w.heap.size [v] := heap_alloc_new w _
    exact ⟨_, 1, [v], rfl, hbk.own (dig1 hv) (Nat.le_refl _), nf_one hv h0, by omega, below1 w _⟩
structure Num (w : World) (p : Option Addr) (m c : Nat) (xs : List Nat) (a : Nat) : Prop where
  at_ : At w p m c xs
  nf : Nf B64 xs a
  le : m ≤ 8192
theorem Num.below {w w' : World} {p : Option Addr} {m c : Nat} {xs : List Nat} {a : Nat} (h : Num w p m c xs a) (hb : Below w.heap.size w w') : Num w' p m c xs a := ⟨h.at_.below hb, h.nf, h.le⟩
theorem Num.lim {w : World} {p : Option Addr} {m c : Nat} {xs : List Nat} {a : Nat} (h : Num w p m c xs a) : a < LIM := h.nf.lim.1 (by rw [h.at_.len]; exact h.le)
theorem Num.of {B : Nat} {w : World} {p : Option Addr} {m : Nat} {xs : List Nat} {a : Nat} (ho : Own B w p m xs) (hn : Nf B64 xs a) (hm : m ≤ 8192) : Num w p m m xs a := ⟨ho.at_ hm, hn, hm⟩
end Go.Proofs.YtmhkabomabkkfaaGreatDoor
