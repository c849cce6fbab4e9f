import Derived.Test.YtdkbfffpnpjpiaaLit
import Derived.Test.YtdkbfffpnpjpiaaShr
namespace Go.Proofs.Ytdkbfffpnpjpiaa
open Go.RowKit

theorem div_of_len {xs : List Nat} {a k n : Nat} (hx : Nf B64 xs a) (hl : xs.length = n) (hk : n ≤ k) : a / B64 ^ k = 0 ∧ a % B64 ^ k = a := by
  have h := (hx.len_le (k := k) B64_one).1 (by omega)
  exact ⟨Nat.div_eq_of_lt h, Nat.mod_eq_of_lt h⟩
theorem Nf.drop {xs : List Nat} {a k : Nat} (hx : Nf B64 xs a) (hk : k ≤ xs.length) : Nf B64 (xs.drop k) (a / B64 ^ k) := by
  refine ⟨hx.dig.drop k, ?_, drop_div hx hk⟩
  intro x h
  refine hx.top x ?_
  by_cases hkl : k < xs.length
  · rw [List.getLast?_drop, if_neg (by omega)] at h; exact h
  · rw [List.drop_of_length_le (by omega)] at h; simp at h
theorem Nf.low {xs : List Nat} {a k : Nat} (hx : Nf B64 xs a) (hk : k ≤ xs.length) : Nf B64 (trimL (xs.take k)) (a % B64 ^ k) := by
  have h := Nf.trim (hx.dig.take k)
  rw [take_mod hx hk] at h; exact h

/-- What halves answers. -/
structure HalvesTo (w : World) (k a : Nat) (e : Ending) (w' : World) : Prop where
  ends : ∃ p1 m1 us p2 m2 vs, e = .returned (.tuple #[.slice p1 m1 m1, .slice p2 m2 m2]) ∧ At w' p1 m1 m1 us ∧ At w' p2 m2 m2 vs ∧ Nf B64 us (a % B64 ^ k) ∧ Nf B64 vs (a / B64 ^ k) ∧ m1 ≤ 8192 ∧ m2 ≤ 8192
  bel : Below w.heap.size w w'

set_option maxRecDepth 20000 in
set_option maxHeartbeats 1000000 in
theorem halves_any {p : Option Addr} {n c : Nat} {xs : List Nat} {a : Nat} {w : World} (h : At w p n c xs) (hx : Nf B64 xs a) (hn : n ≤ 8192) (k : Nat) (hk : 1 ≤ k) (hk2 : k ≤ 8192) :
    Calls Try.prog 20 #[.slice p n c, .int .i64 k] w fun e w' => HalvesTo w k a e w' := by
  have cap := h.cap; have big := h.big
  have HX : Hid (Nf B64 xs a) := hx
  have HLX : Hid (xs.length = n) := h.len
  have HD := div_of_len (k := k) hx h.len
  have HDV : Hid (n ≤ k → a / B64 ^ k = 0 ∧ a % B64 ^ k = a) := HD
  clear hx HD
  rcases h.cells with h0 | ⟨g, off, rfl, hc⟩
  · subst h0
    have hmin : min (k : Int) 0 = 0 := by omega
    go_enter Try.func20, Try.ntmps20
    go_wp2_with fail
    rw [show Value.int IntKind.i64 0 = .int .i64 ((0 : Nat) : Int) from rfl]
    refine (cut_empty p c w).mono ?_
    rintro e w1 ⟨rfl, r1, hw1⟩
    have A1 : At w1 p 0 0 (xs.take 0) := by rw [hw1]; exact (h.take 0 (by omega) 0 (by omega) (by omega)).drewN r1
    have B1 : At w1 p 0 0 [] := At.empty _ _ _ (by omega)
    have hb1 : Below w.heap.size w w1 := by rw [hw1]; exact bDrewN (Below.refl _ _) r1
    clear hw1
    go_wp2_with fail
    refine (trim_any A1).mono ?_
    rintro e w' ⟨p1, m1, rfl, hm1, hp1, hw⟩
    obtain rfl := hw.symm
    have A2 := A1.trim hm1 hp1
    have HM1 : Hid (m1 = (trimL (xs.take 0)).length) := hm1
    clear hw hm1 hp1 A1
    go_wp2_with fail
    go_ret2
    have e1 := HM1.out
    have e2 := trimL_length_le (xs.take 0)
    have e3 := HLX.out
    rw [List.length_take] at e2
    refine ⟨⟨_, _, _, _, _, _, rfl, A2, B1, ?_, ?_, by omega, by omega⟩, hb1⟩
    · rw [(HDV.out (by omega)).2]
      have hz : xs = [] := List.eq_nil_of_length_eq_zero e3
      subst hz
      exact HX.out
    · rw [(HDV.out (by omega)).1]; exact Nf.nil _
  · by_cases hlt : k < n
    · have hmin : min (k : Int) (n : Int) = (k : Int) := by omega
      go_enter Try.func20, Try.ntmps20
      go_wp2_with fail
      refine (cut_row g off n c k w cap (by omega)).mono ?_
      rintro e w1 ⟨rfl, r1, hw1⟩
      have A1 : At w1 (some ⟨g, off, none⟩) k k (xs.take k) := by rw [hw1]; exact (h.take k (by omega) k (by omega) (by unfold maxLen; omega)).drewN r1
      have B1 : At w1 (some ⟨g, cutOff off n k, none⟩) (n - k) (n - k) (xs.drop k) := by rw [hw1, cutOff_lt hlt]; exact (h.drop k hlt).drewN r1
      have hb1 : Below w.heap.size w w1 := by rw [hw1]; exact bDrewN (Below.refl _ _) r1
      clear hw1
      go_wp2_with fail
      refine (trim_any A1).mono ?_
      rintro e w' ⟨p1, m1, rfl, hm1, hp1, hw⟩
      obtain rfl := hw.symm
      have A2 := A1.trim hm1 hp1
      have HM1 : Hid (m1 = (trimL (xs.take k)).length) := hm1
      clear hw hm1 hp1 A1
      go_wp2_with fail
      go_ret2
      have e1 := HM1.out
      have e2 := trimL_length_le (xs.take k)
      have e3 := HLX.out
      rw [List.length_take] at e2
      refine ⟨⟨_, _, _, _, _, _, rfl, A2, B1, ?_, ?_, by omega, by omega⟩, hb1⟩
      · exact HX.out.low (by omega)
      · exact HX.out.drop (by omega)
    · have hmin : min (k : Int) (n : Int) = (n : Int) := by omega
      go_enter Try.func20, Try.ntmps20
      go_wp2_with fail
      refine (cut_row g off n c n w cap (by omega)).mono ?_
      rintro e w1 ⟨rfl, r1, hw1⟩
      have A1 : At w1 (some ⟨g, off, none⟩) n n (xs.take n) := by rw [hw1]; exact (h.take n (by omega) n (by omega) (by omega)).drewN r1
      have B1 : At w1 (some ⟨g, cutOff off n n, none⟩) 0 0 [] := At.empty _ _ _ (by omega)
      have hb1 : Below w.heap.size w w1 := by rw [hw1]; exact bDrewN (Below.refl _ _) r1
      clear hw1
      go_wp2_with fail
      refine (trim_any A1).mono ?_
      rintro e w' ⟨p1, m1, rfl, hm1, hp1, hw⟩
      obtain rfl := hw.symm
      have A2 := A1.trim hm1 hp1
      have HM1 : Hid (m1 = (trimL (xs.take n)).length) := hm1
      clear hw hm1 hp1 A1
      go_wp2_with fail
      go_ret2
      have e1 := HM1.out
      have e2 := trimL_length_le (xs.take n)
      have e3 := HLX.out
      rw [List.length_take] at e2
      refine ⟨⟨_, _, _, _, _, _, rfl, A2, B1, ?_, ?_, by omega, by omega⟩, hb1⟩
      · rw [(HDV.out (by omega)).2, List.take_of_length_le (by omega), trimL_of_Top HX.out.top]
        exact HX.out
      · rw [(HDV.out (by omega)).1]; exact Nf.nil _
end Go.Proofs.Ytdkbfffpnpjpiaa
