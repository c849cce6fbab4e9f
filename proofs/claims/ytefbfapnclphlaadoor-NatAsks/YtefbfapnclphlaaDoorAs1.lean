import Derived.Test.YtefbfapnclphlaaDoorTr1
import Derived.Test.YtefbfapnclphlaaDoorCmp32
namespace Go.Proofs.YtefbfapnclphlaaDoor
open Go.RowKit Go.Shelf

set_option maxRecDepth 20000 in
set_option maxHeartbeats 1000000 in
theorem docbits_any {p : Option Addr} {n c : Nat} {xs : List Nat} {w : World} (h : At w p n c xs) (hn : n ≤ 17592186044416) :
    Calls Tryd.prog 33 #[.slice p n c] w fun e w' => e = .returned (.int .i64 (bitsN (valB B64 xs))) ∧ Below w.heap.size w w' := by
  have HA : Hid (At w p n c xs) := h
  clear h
  obtain ⟨rr, hrr⟩ : ∃ rr, rr = bitsN (valB B64 xs) := ⟨_, rfl⟩
  rw [← hrr]
  have HRR : Hid (rr = bitsN (valB B64 xs)) := hrr
  clear hrr
  go_enter Tryd.func33, Tryd.ntmps33
  go_wp2_with fail
  refine (from_any HA.out (by omega)).mono ?_
  rintro e w1 ⟨g1, z1, rfl, hg1, hk1, hn1, hl1, hb1⟩
  have A1 : Hid (At32 w1 (some ⟨g1, 0, none⟩) z1.length z1.length z1) := hk1.at_ hn1.dig rfl (by unfold maxLen; omega)
  have N1 : Hid (Nf B32 z1 (valB B64 xs)) := hn1
  obtain ⟨l1, hl1e⟩ : ∃ l1, l1 = z1.length := ⟨_, rfl⟩
  have HLE : Hid (l1 = z1.length) := hl1e
  rw [← hl1e] at A1 hl1 ⊢
  clear hk1 hn1 hg1 hl1e HA
  go_wp2_with fail
  refine (rbits_any A1.out N1.out (by omega)).mono ?_
  rintro e w2 ⟨rfl, hw⟩
  rw [← HRR.out]
  obtain rfl := hw.symm
  clear hw
  go_wp2_with fail
  go_ret
  exact ⟨rfl, hb1⟩
set_option maxRecDepth 20000 in
theorem rzeros_nil (p : Option Addr) (c : Nat) (w : World) : Calls Tryd.prog 55 #[.slice p 0 c] w fun e w' => e = .returned (.int .i64 0) ∧ w' = w := by
  go_enter Tryd.func55, Tryd.ntmps55
  go_wp2_with fail
  go_ret
  exact ⟨rfl, rfl⟩
set_option maxRecDepth 20000 in
set_option maxHeartbeats 1000000 in
theorem doctrail_any {p : Option Addr} {n c : Nat} {xs : List Nat} {w : World} (h : At w p n c xs) (hn : n ≤ 17592186044416) {k : Nat} (hk : TzO (valB B64 xs) k) :
    Calls Tryd.prog 34 #[.slice p n c] w fun e w' => e = .returned (.int .i64 k) ∧ Below w.heap.size w w' := by
  have HA : Hid (At w p n c xs) := h
  clear h
  have HK : Hid (TzO (valB B64 xs) k) := hk
  clear hk
  go_enter Tryd.func34, Tryd.ntmps34
  go_wp2_with fail
  refine (from_any HA.out (by omega)).mono ?_
  rintro e w1 ⟨g1, z1, rfl, hg1, hk1, hn1, hl1, hb1⟩
  have A1 : Hid (At32 w1 (some ⟨g1, 0, none⟩) z1.length z1.length z1) := hk1.at_ hn1.dig rfl (by unfold maxLen; omega)
  have N1 : Hid (Nf B32 z1 (valB B64 xs)) := hn1
  obtain ⟨l1, hl1e⟩ : ∃ l1, l1 = z1.length := ⟨_, rfl⟩
  have HLE : Hid (l1 = z1.length) := hl1e
  rw [← hl1e] at A1 hl1 ⊢
  clear hk1 hn1 hg1 hl1e HA
  by_cases hv : valB B64 xs = 0
  · have hk0 : k = 0 := HK.out.inj (.inl ⟨hv, rfl⟩)
    have hz : l1 = 0 := by
      have h1 := N1.out
      rw [hv] at h1
      have h2 := h1.inj (by decide) (show Nf B32 [] 0 from ⟨Dig.nil _, by intro x hx; simp at hx, by simp [valB]⟩)
      rw [HLE.out, h2]; rfl
    subst hz
    subst hk0
    clear A1 N1 HLE HK
    go_wp2_with fail
    refine (rzeros_nil _ _ _).mono ?_
    rintro e w2 ⟨rfl, hw⟩
    obtain rfl := hw.symm
    clear hw
    go_wp2_with fail
    go_ret
    exact ⟨rfl, hb1⟩
  · have HT : Hid (TzIs (valB B64 xs) k) := by
      rcases HK.out with ⟨h1, _⟩ | ⟨_, h2⟩
      · exact absurd h1 hv
      · exact h2
    have HV : Hid (0 < valB B64 xs) := by show _ < _; omega
    clear hv HK HLE
    go_wp2_with fail
    refine (rzeros_any A1.out N1.out (by omega) HT.out HV.out).mono ?_
    rintro e w2 ⟨rfl, hw⟩
    obtain rfl := hw.symm
    clear hw
    go_wp2_with fail
    go_ret
    exact ⟨rfl, hb1⟩
set_option maxRecDepth 20000 in
theorem rbit_neg (p : Option Addr) (n c : Nat) (i : Int) (hi : i < 0) (w : World) : Calls Tryd.prog 56 #[.slice p n c, .int .i64 i] w fun e w' => e = .returned (.int .i64 0) ∧ w' = w := by
  have hb : decide (i < 0) = true := decide_eq_true hi
  go_enter Tryd.func56, Tryd.ntmps56
  go_wp2_with fail
  go_ret
  exact ⟨rfl, rfl⟩
set_option maxRecDepth 20000 in
theorem bit_neg (p : Option Addr) (n c : Nat) (i : Int) (hi : i < 0) (w : World) : Calls Tryd.prog 7 #[.slice p n c, .int .i64 i] w fun e w' => e = .returned (.bool false) ∧ w' = w := by
  have hb : decide (i < 0) = true := decide_eq_true hi
  go_enter Tryd.func7, Tryd.ntmps7
  go_wp2_with fail
  go_ret
  exact ⟨rfl, rfl⟩
/-- A number's bit; false ahead of the first. -/
def bitO (v : Nat) (i : Int) : Bool := if i < 0 then false else decide (v / 2 ^ i.toNat % 2 = 1)
theorem bit_int {p : Option Addr} {n c : Nat} {xs : List Nat} {w : World} (h : At w p n c xs) (hn : n ≤ 17592186044416) (i : Int) (hi : i ≤ 9223372036854775807) :
    Calls Tryd.prog 7 #[.slice p n c, .int .i64 i] w fun e w' => e = .returned (.bool (bitO (valB B64 xs) i)) ∧ w' = w := by
  by_cases h0 : i < 0
  · unfold bitO
    rw [if_pos h0]
    exact bit_neg p n c i h0 w
  · obtain ⟨m, rfl⟩ := Int.eq_ofNat_of_zero_le (by omega : 0 ≤ i)
    unfold bitO
    rw [if_neg h0, Int.toNat_natCast]
    exact bit_any h hn m (by omega)
theorem rbit_int {p : Option Addr} {n c : Nat} {xs : List Nat} {w : World} (h : At32 w p n c xs) (hn : n ≤ 35184372088832) (i : Int) (hi : i ≤ 9223372036854775807) :
    Calls Tryd.prog 56 #[.slice p n c, .int .i64 i] w fun e w' => ∃ r : Nat, e = .returned (.int .i64 r) ∧ ((r : Int) == 1) = bitO (valB B32 xs) i ∧ w' = w := by
  by_cases h0 : i < 0
  · refine (rbit_neg p n c i h0 w).mono ?_
    rintro e w' ⟨rfl, rfl⟩
    refine ⟨0, rfl, ?_, rfl⟩
    unfold bitO
    rw [if_pos h0]
    decide
  · obtain ⟨m, rfl⟩ := Int.eq_ofNat_of_zero_le (by omega : 0 ≤ i)
    refine (rbit_any h hn m (by omega)).mono ?_
    rintro e w' ⟨rfl, rfl⟩
    refine ⟨_, rfl, ?_, rfl⟩
    unfold bitO
    rw [if_neg h0, Int.toNat_natCast]
    rcases Nat.mod_two_eq_zero_or_one (valB B32 xs / 2 ^ m) with e | e <;> rw [e] <;> decide
set_option maxRecDepth 20000 in
set_option maxHeartbeats 1000000 in
theorem docbit_any {p : Option Addr} {n c : Nat} {xs : List Nat} {w : World} (h : At w p n c xs) (hn : n ≤ 17592186044416) (i : Int) (hi : i ≤ 9223372036854775807) :
    Calls Tryd.prog 35 #[.slice p n c, .int .i64 i] w fun e w' => e = .returned (.bool (bitO (valB B64 xs) i)) ∧ Below w.heap.size w w' := by
  have HA : Hid (At w p n c xs) := h
  clear h
  have HI : Hid (i ≤ 9223372036854775807) := hi
  clear hi
  obtain ⟨rr, hrr⟩ : ∃ rr, rr = bitO (valB B64 xs) i := ⟨_, rfl⟩
  rw [← hrr]
  have HRR : Hid (rr = bitO (valB B64 xs) i) := hrr
  clear hrr
  go_enter Tryd.func35, Tryd.ntmps35
  go_wp2_with fail
  refine (from_any HA.out (by omega)).mono ?_
  rintro e w1 ⟨g1, z1, rfl, hg1, hk1, hn1, hl1, hb1⟩
  have A1 : Hid (At32 w1 (some ⟨g1, 0, none⟩) z1.length z1.length z1) := hk1.at_ hn1.dig rfl (by unfold maxLen; omega)
  have N1 : Hid (Nf B32 z1 (valB B64 xs)) := hn1
  obtain ⟨l1, hl1e⟩ : ∃ l1, l1 = z1.length := ⟨_, rfl⟩
  have HLE : Hid (l1 = z1.length) := hl1e
  rw [← hl1e] at A1 hl1 ⊢
  clear hk1 hn1 hg1 hl1e HA
  go_wp2_with fail
  refine (rbit_int A1.out (by omega) i HI.out).mono ?_
  rintro e w2 ⟨r, rfl, hr, hw⟩
  rw [N1.out.val, ← HRR.out] at hr
  obtain rfl := hw.symm
  clear hw
  go_wp2_with fail
  go_ret
  exact ⟨rfl, hb1⟩
set_option maxRecDepth 20000 in
set_option maxHeartbeats 1000000 in
theorem doccmp_any {p q : Option Addr} {n c m d : Nat} {xs ys : List Nat} {w : World} (h : At w p n c xs) (hn : n ≤ 17592186044416) (k : At w q m d ys) (hm : m ≤ 17592186044416) :
    Calls Tryd.prog 36 #[.slice p n c, .slice q m d] w fun e w' => e = .returned (.int .i64 (cmpN (valB B64 xs) (valB B64 ys))) ∧ Below w.heap.size w w' := by
  have HA : Hid (At w p n c xs) := h
  have HB : Hid (At w q m d ys) := k
  clear h k
  obtain ⟨rr, hrr⟩ : ∃ rr, rr = cmpN (valB B64 xs) (valB B64 ys) := ⟨_, rfl⟩
  rw [← hrr]
  have HRR : Hid (rr = cmpN (valB B64 xs) (valB B64 ys)) := hrr
  clear hrr
  go_enter Tryd.func36, Tryd.ntmps36
  go_wp2_with fail
  refine (from_any HA.out (by omega)).mono ?_
  rintro e w1 ⟨g1, z1, rfl, hg1, hk1, hn1, hl1, hb1⟩
  have A1 : Hid (At32 w1 (some ⟨g1, 0, none⟩) z1.length z1.length z1) := hk1.at_ hn1.dig rfl (by unfold maxLen; omega)
  have N1 : Hid (Nf B32 z1 (valB B64 xs)) := hn1
  obtain ⟨l1, hl1e⟩ : ∃ l1, l1 = z1.length := ⟨_, rfl⟩
  have HLE : Hid (l1 = z1.length) := hl1e
  rw [← hl1e] at A1 hl1 ⊢
  clear hk1 hn1 hg1 hl1e HA
  have B1 : Hid (At w1 q m d ys) := HB.out.below hb1
  clear HB HLE
  go_wp2_with fail
  refine (from_any B1.out (by omega)).mono ?_
  rintro e w2 ⟨g2, z2, rfl, hg2, hk2, hn2, hl2, hb2⟩
  have A2 : Hid (At32 w2 (some ⟨g2, 0, none⟩) z2.length z2.length z2) := hk2.at_ hn2.dig rfl (by unfold maxLen; omega)
  have N2 : Hid (Nf B32 z2 (valB B64 ys)) := hn2
  have A1' : Hid (At32 w2 (some ⟨g1, 0, none⟩) l1 l1 z1) := A1.out.below hb2
  have hbw := Below.on hb1 hb2
  obtain ⟨l2, hl2e⟩ : ∃ l2, l2 = z2.length := ⟨_, rfl⟩
  rw [← hl2e] at A2 hl2 ⊢
  clear hk2 hn2 hg2 hl2e A1 hb1 hb2 B1
  go_wp2_with fail
  refine (rcmp_any A1'.out A2.out N1.out N2.out).mono ?_
  rintro e w3 ⟨rfl, r, hw⟩
  have HW : Hid (Below w.heap.size w w3) := by rw [hw]; exact bDrewN hbw r
  rw [← HRR.out]
  clear hw hbw
  go_wp2_with fail
  go_ret
  exact ⟨rfl, HW.out⟩
end Go.Proofs.YtefbfapnclphlaaDoor
