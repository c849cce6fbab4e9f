import Derived.Test.YtkhhejfnglolkabLit
import Derived.Test.YtkhhejfnglolkabBits
import Derived.Laws.Bits64b
namespace Go.Proofs.Ytkhhejfnglolkab
open Go.RowKit

/-- nat.Word. -/
theorem word_any (v : Nat) (w : World) (hv : v < B64) :
    Calls Try.prog 29 #[U v] w fun e w' => ∃ p m zs, e = .returned (.slice p m m) ∧ Own w.heap.size w' p m zs ∧ Nf B64 zs v ∧ m ≤ 1 ∧ Below w.heap.size w w' := by
  by_cases h0 : v = 0
  · subst h0
    go_enter Try.func29, Try.ntmps29
    go_wp2_with fail
    go_ret
    exact ⟨none, 0, [], rfl, ⟨rfl, Dig.nil _, .inl rfl⟩, Nf.nil _, by omega, Below.refl _ _⟩
  · have h0' : ((v : Int) == 0) = false := by simp; omega
    go_enter Try.func29, Try.ntmps29
    go_wp2_with fail
    go_ret
    have hbk : Blk (w.alloc (.cells #[U v] 29)) w.heap.size [v] := heap_alloc_new w _
    exact ⟨_, 1, [v], rfl, hbk.own (dig1 hv) (Nat.le_refl _), nf_one hv h0, by omega, below1 w _⟩

set_option maxHeartbeats 400000 in
theorem bit_one {g o c : Nat} {x i : Nat} {w : World} (h : At w (some ⟨g, o, none⟩) 1 c [x]) (hi : i < 64) :
    Calls Try.prog 37 #[.slice (some ⟨g, o, none⟩) 1 c, .int .i64 i] w fun e w' => e = .returned (.bool (decide (x / 2 ^ i % 2 = 1))) ∧ w' = w := by
  have hc : w.cell? ⟨g, o, none⟩ = some (U x) := by
    obtain ⟨g', o', he, hcell⟩ := h.cells.resolve_left (by omega)
    simp only [Option.some.injEq, Addr.mk.injEq, and_true] at he
    obtain ⟨rfl, rfl⟩ := he
    exact hcell 0 (by omega)
  have hxb : x < B64 := h.dig.getD B64_pos 0
  have cap := h.cap
  have e1 : (i : Int).tdiv 64 = 0 := by rw [Int.tdiv_eq_ediv_of_nonneg (by omega)]; omega
  have e2 : (i : Int).tmod 64 = i := by rw [Int.tmod_eq_emod_of_nonneg (by omega)]; omega
  go_enter Try.func37, Try.ntmps37
  go_wp2_with fail
  go_ret
  refine ⟨?_, rfl⟩
  have hy : x / 2 ^ i < 18446744073709551616 := by have := Nat.div_le_self x (2 ^ i); rw [B64_eq] at hxb; omega
  have e3 : ((x : Int) / 2 ^ i) = ((x / 2 ^ i : Nat) : Int) := by simp
  have e4 : bits BinOp.and IntKind.u64 ((x : Int) / 2 ^ i) 1 = ((x / 2 ^ i % 2 : Nat) : Int) := by
    rw [e3, ← Nat.and_one_is_mod]
    exact bits_and_u64_nat _ 1 hy (by omega)
  refine ret_bool ?_
  rw [e4]
  rcases Nat.mod_two_eq_zero_or_one (x / 2 ^ i) with h2 | h2 <;> rw [h2] <;> rfl
end Go.Proofs.Ytkhhejfnglolkab
