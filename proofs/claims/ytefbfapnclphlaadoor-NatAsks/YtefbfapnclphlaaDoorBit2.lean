import Derived.Test.YtefbfapnclphlaaDoorBit1
namespace Go.Proofs.YtefbfapnclphlaaDoor
open Go.RowKit Go.Shelf

theorem and_one_u32q (i : Nat) (_hi : i < B32) : bits BinOp.and IntKind.u32 (i : Int) 1 = ((i % 2 : Nat) : Int) := by
  have h1 : (BitVec.ofInt 32 1).toNat = 2 ^ 1 - 1 := by decide
  have key : (BitVec.ofInt 32 (i : Int) &&& BitVec.ofInt 32 1).toNat = ((i : Int) % ((2 ^ 32 : Nat) : Int)).toNat % 2 ^ 1 := by
    rw [BitVec.toNat_and, BitVec.toNat_ofInt, h1, Nat.and_two_pow_sub_one_eq_mod]
  show IntKind.u32.wrap ((BitVec.ofInt 32 (i : Int) &&& BitVec.ofInt 32 1).toNat : Nat) = _
  rw [key]
  simp only [IntKind.wrap, IntKind.signed, IntKind.bits]
  simp
  omega
set_option maxRecDepth 20000 in
set_option maxHeartbeats 1000000 in
/-- ref.Bit. -/
theorem rbit_any {p : Option Addr} {n c : Nat} {xs : List Nat} {w : World} (h : At32 w p n c xs) (_hn : n ≤ 35184372088832) (i : Nat) (hi : i ≤ 9223372036854775807) :
    Calls Tryd.prog 56 #[.slice p n c, .int .i64 i] w fun e w' => e = .returned (.int .i64 (valB B32 xs / 2 ^ i % 2 : Nat)) ∧ w' = w := by
  have hl := h.len
  have cap := h.cap
  have big := h.big
  unfold maxLen at big
  obtain ⟨D, hD⟩ : ∃ D, D = i / 32 := ⟨_, rfl⟩
  obtain ⟨R, hR⟩ : ∃ R, R = i % 32 := ⟨_, rfl⟩
  have d1 : (i : Int).tdiv 32 = (D : Int) := by rw [Int.tdiv_eq_ediv_of_nonneg (by omega)]; omega
  have d2 : (i : Int).tmod 32 = (R : Int) := by rw [Int.tmod_eq_emod_of_nonneg (by omega)]; omega
  have hneg : ¬ (i : Int) < 0 := by omega
  have hDb : D ≤ 288230376151711743 := by omega
  have hR64 : R < 32 := by omega
  have hei : i = 32 * D + R := by omega
  obtain ⟨r, hr⟩ : ∃ r, r = valB B32 xs / 2 ^ i % 2 := ⟨_, rfl⟩
  rw [← hr]
  by_cases hc : n ≤ D
  · have HR0 : Hid (r = 0) := by
      show _ = _
      rw [hr]
      have h1 : valB B32 xs < 2 ^ i := by
        have h2 := valB_lt B32_pos h.dig
        rw [hl] at h2
        refine Nat.lt_of_lt_of_le h2 ?_
        rw [B32_pow]
        exact Nat.pow_le_pow_right (by decide) (by omega)
      rw [Nat.div_eq_of_lt h1]
    have hci : (n : Int) ≤ (D : Int) := by omega
    have hcb : decide (n ≤ D) = true := decide_eq_true hc
    clear hr hei hD hR h hl
    go_enter Tryd.func56, Tryd.ntmps56
    go_wp2_with fail
    go_ret
    exact ⟨by rw [HR0.out]; rfl, rfl⟩
  · have hDn : D < n := by omega
    have hcb : decide (n ≤ D) = false := decide_eq_false hc
    obtain ⟨g, off, rfl, hcs⟩ := h.cells.resolve_left (by omega)
    obtain ⟨x, hx⟩ : ∃ x, x = xs.getD D 0 := ⟨_, rfl⟩
    have hcx : w.cell? ⟨g, off + D, none⟩ = some (V x) := by rw [hx]; exact hcs D hDn
    have hxb : x < B32 := by rw [hx]; exact h.dig.getD B32_pos D
    obtain ⟨y, hy⟩ : ∃ y, y = x / 2 ^ R := ⟨_, rfl⟩
    have hyI : (x : Int) / 2 ^ R = (y : Int) := by rw [hy]; norm_cast
    have hyb : y < B32 := by rw [hy]; exact Nat.lt_of_le_of_lt (Nat.div_le_self _ _) hxb
    obtain ⟨z, hz⟩ : ∃ z, z = y % 2 := ⟨_, rfl⟩
    have hand : bits BinOp.and IntKind.u32 (y : Int) 1 = (z : Int) := by rw [hz]; exact and_one_u32q y hyb
    have HR1 : Hid (r = z) := by
      show _ = _
      rw [hr, hz, hy, hx, digit_bit (show B32 = 2 ^ 32 from rfl) h.dig (by rw [hl]; exact hDn) hR64, ← hei]
    have hz2 : z < 2 := by omega
    have hzw : IntKind.i64.wrap (z : Int) = (z : Int) := by simp [IntKind.wrap, IntKind.signed, IntKind.bits]; omega
    have hwD : IntKind.i64.wrap (D : Int) = (D : Int) := by simp [IntKind.wrap, IntKind.signed, IntKind.bits]; omega
    clear hr hei hD hR h hl hcs hx hy hz hxb hyb
    go_enter Tryd.func56, Tryd.ntmps56
    go_wp2_with fail
    go_ret
    exact ⟨by rw [HR1.out]; rfl, rfl⟩
end Go.Proofs.YtefbfapnclphlaaDoor
