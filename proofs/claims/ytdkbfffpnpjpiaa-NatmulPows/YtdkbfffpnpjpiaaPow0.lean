import Derived.Test.YtdkbfffpnpjpiaaLit
import Derived.Test.YtdkbfffpnpjpiaaBits
import Derived.Laws.Bits64b
namespace Go.Proofs.Ytdkbfffpnpjpiaa
open Go.RowKit

set_option maxRecDepth 20000 in
set_option maxHeartbeats 400000 in
theorem bit_one {g o c : Nat} {x i : Nat} {w : World} (h : At w (some ⟨g, o, none⟩) 1 c [x]) (hi : i < 64) :
    Calls Try.prog 28 #[.slice (some ⟨g, o, none⟩) 1 c, .int .i64 i] w fun e w' => e = .returned (.bool (decide (x / 2 ^ i % 2 = 1))) ∧ w' = w := by
  have hc : w.cell? ⟨g, o, none⟩ = some (U x) := by
    obtain ⟨g', o', he, hcell⟩ := h.cells.resolve_left (by omega)
    simp only [Option.some.injEq, Addr.mk.injEq, and_true] at he
    obtain ⟨rfl, rfl⟩ := he
    exact hcell 0 (by omega)
  have hxb : x < B64 := h.dig.getD B64_pos 0
  have cap := h.cap
  have e1 : (i : Int).tdiv 64 = 0 := by rw [Int.tdiv_eq_ediv_of_nonneg (by omega)]; omega
  have e2 : (i : Int).tmod 64 = i := by rw [Int.tmod_eq_emod_of_nonneg (by omega)]; omega
  go_enter Try.func28, Try.ntmps28
  go_wp2_with fail
  go_ret
  refine ⟨?_, rfl⟩
  have hy : x / 2 ^ i < 18446744073709551616 := by have := Nat.div_le_self x (2 ^ i); rw [B64_eq] at hxb; omega
  have e3 : ((x : Int) / 2 ^ i) = ((x / 2 ^ i : Nat) : Int) := by simp
  have e4 : bits BinOp.and IntKind.u64 ((x : Int) / 2 ^ i) 1 = ((x / 2 ^ i % 2 : Nat) : Int) := by
    rw [e3, ← Nat.and_one_is_mod]
    exact bits_and_u64_nat _ 1 hy (by omega)
  refine ret_bool ?_
  rw [e4]
  rcases Nat.mod_two_eq_zero_or_one (x / 2 ^ i) with h2 | h2 <;> rw [h2] <;> rfl
end Go.Proofs.Ytdkbfffpnpjpiaa
